/- Walks of the specification's looks at records: items and weights. -/
import Derived.Test.YtbjkjcfodljamaaGreatZPitemsae
import Derived.Deep.Cut
import Derived.Test.YtbjkjcfodljamaaGreatZPitemsaa
import Derived.Test.YtbjkjcfodljamaaGreatZPitemsab
import Derived.Deep.RegionLaw
import Derived.Deep.DeepCutAuto
import Derived.Laws.Tables
import Derived.Laws.Rows
import Derived.Shelf.SlIter.Nil
import Derived.Shelf.SortM.Plain
import Derived.Shelf.SortM.SortNone
import Derived.Ground.GgzProg
import Derived.Ground.SlgmProg
import Derived.Test.YtbjkjcfodljamaaGreatProg
import Derived.Maps.OwnSet
import Derived.WideKeyEntry
import Derived.DeepKeys4
import Derived.Test.YtbjkjcfodljamaaGreatZPitemsac
set_option linter.unusedVariables false
set_option linter.unusedSimpArgs false
namespace Go.Proofs.YtbjkjcfodljamaaGreat
open Go.RowKit F256
theorem l5All_any (s:Nat → Int) (h:OkShape s) (w:World) :
    Calls Tryz.prog 59 #[shapeV s] w fun e w' => e = .returned (.int .i64 (s 0 + s 1)) ∧ Below w.heap.size w w':=by
  obtain ⟨h1,h2,_⟩:=h;unfold Shp3 at h1;have B0:=(one_new w #[.int .i64 (s 0),.int .i64 (s 1),.int .i64 (s 2),.int .i64 (s 3),.int .i64 (s 4),.int .i64 (s 5),.int .i64 (s 6),.int .i64 (s 7),.int .i64 (s 8)] 34).bel;unfold shapeV
  have hw:-9223372036854775808 ≤ s 0 + s 1 ∧ s 0 + s 1 ≤ 9223372036854775807:=by omega
  go_enter Tryz.func59,Tryz.ntmps59
  go_wp2;go_ret;exact ⟨rfl,B0⟩
theorem l5Drives_any (s:Nat → Int) (h:OkShape s) (w:World) :
    Calls Tryz.prog 97 #[shapeV s] w fun e w' => e = .returned (.int .i64 (s 2 + s 3)) ∧ Below w.heap.size w w':=by
  obtain ⟨h1,h2,_⟩:=h;unfold Shp at h2;have B0:=(one_new w #[.int .i64 (s 0),.int .i64 (s 1),.int .i64 (s 2),.int .i64 (s 3),.int .i64 (s 4),.int .i64 (s 5),.int .i64 (s 6),.int .i64 (s 7),.int .i64 (s 8)] 34).bel;unfold shapeV
  have hw:-9223372036854775808 ≤ s 2 + s 3 ∧ s 2 + s 3 ≤ 9223372036854775807:=by omega
  go_enter Tryz.func97,Tryz.ntmps97
  go_wp2;go_ret;exact ⟨rfl,B0⟩
set_option maxHeartbeats 8000000 in
theorem l5Weights_any (s:Nat → Int) (hs:OkShape s) (r:RecD) (cs:List Value) (hi:Nat) (w:World) (h:layRec.rd w hi r cs) (hhi:hi ≤ w.heap.size) (hg:InP r.group 0 (s 0 + s 1 - 1)) (hr:RiseP r.rows.1 r.rows.2 (s 0 + s 1 - 1)) :
    Calls Tryz.prog 102 #[shapeV s,.agg cs.toArray] w (BoolP (WeightsP s r) w):=by
  obtain ⟨ao6,cap6,ao7,cap7,ao8,cap8,rfl,g6,g7,g8,-⟩:=Rec_rd h;clear h;have HS:Hid (OkShape s):=hs
  have hall:0 ≤ s 0 + s 1 ∧ s 0 + s 1 ≤ 100:=by
    obtain ⟨h1,_⟩:=hs;unfold Shp3 at h1;omega
  clear hs;obtain ⟨v6,e6,⟨⟨_,_,e6',hm6,hc6⟩,_⟩,_⟩:=g6
  cases e6
  cases e6'
  obtain ⟨v8,e8,⟨_,_,e8',hm8,hc8⟩,hk8⟩:=g8
  cases e8
  cases e8'
  have HC6:Hid (r.rows.1 ≠ 0 → ∃ b off,ao6 = some ⟨b,off,none⟩ ∧ b < hi ∧ ∀ i,i < r.rows.1 → w.cell? ⟨b,off + i,none⟩ = some (.int .i64 (r.rows.2 i))):=hc6;have HC8:Hid (r.delta.1 ≠ 0 → ∃ b off,ao8 = some ⟨b,off,none⟩ ∧ b < hi ∧ ∀ i,i < r.delta.1 → w.cell? ⟨b,off + i,none⟩ = some (.int .u8 (r.delta.2 i))):=hc8;unfold maxLen at hm6 hm8;unfold InP at hg;have HR:Hid (RiseP r.rows.1 r.rows.2 (s 0 + s 1 - 1)):=hr;clear g7 hc6 hc8 hr hk8;unfold shapeV
  go_enter Tryz.func102,Tryz.ntmps102
  go_wp2_with fail
  have T0:=two_newb w #[.int .i64 (s 0),.int .i64 (s 1),.int .i64 (s 2),.int .i64 (s 3),.int .i64 (s 4),.int .i64 (s 5),.int .i64 (s 6),.int .i64 (s 7),.int .i64 (s 8)] #[.int .i64 r.kind,.int .i64 r.seq,.string r.name,.int .i64 r.length,.int .i64 r.group,.int .i64 r.row,.slice ao6 r.rows.1 cap6,.slice ao7 r.data.1 cap7,.slice ao8 r.delta.1 cap8] 34 81;obtain ⟨W,hW⟩:∃ W,W = (w.alloc (.cells #[.int .i64 (s 0),.int .i64 (s 1),.int .i64 (s 2),.int .i64 (s 3),.int .i64 (s 4),.int .i64 (s 5),.int .i64 (s 6),.int .i64 (s 7),.int .i64 (s 8)] 34)).alloc (.cells #[.int .i64 r.kind,.int .i64 r.seq,.string r.name,.int .i64 r.length,.int .i64 r.group,.int .i64 r.row,.slice ao6 r.rows.1 cap6,.slice ao7 r.data.1 cap7,.slice ao8 r.delta.1 cap8] 81):=⟨_,rfl⟩;rw [← hW] at T0 ⊢;clear hW;have cA:=q_below (W:=W) (fun w' _ => l5All_any s HS.out w');unfold shapeV at cA;have zW:=T0.b2.lt;have x0_0:W.cell? ⟨w.heap.size,0,none⟩ = some (.int .i64 (s 0)):=T0.b1.cell 0;have kx0_0:=cell_regrown x0_0;have x0_1:W.cell? ⟨w.heap.size,1,none⟩ = some (.int .i64 (s 1)):=T0.b1.cell 1;have kx0_1:=cell_regrown x0_1;have x0_2:W.cell? ⟨w.heap.size,2,none⟩ = some (.int .i64 (s 2)):=T0.b1.cell 2;have kx0_2:=cell_regrown x0_2;have x0_3:W.cell? ⟨w.heap.size,3,none⟩ = some (.int .i64 (s 3)):=T0.b1.cell 3;have kx0_3:=cell_regrown x0_3;have x0_4:W.cell? ⟨w.heap.size,4,none⟩ = some (.int .i64 (s 4)):=T0.b1.cell 4;have kx0_4:=cell_regrown x0_4;have x0_5:W.cell? ⟨w.heap.size,5,none⟩ = some (.int .i64 (s 5)):=T0.b1.cell 5;have kx0_5:=cell_regrown x0_5;have x0_6:W.cell? ⟨w.heap.size,6,none⟩ = some (.int .i64 (s 6)):=T0.b1.cell 6;have kx0_6:=cell_regrown x0_6;have x0_7:W.cell? ⟨w.heap.size,7,none⟩ = some (.int .i64 (s 7)):=T0.b1.cell 7;have kx0_7:=cell_regrown x0_7;have x0_8:W.cell? ⟨w.heap.size,8,none⟩ = some (.int .i64 (s 8)):=T0.b1.cell 8;have kx0_8:=cell_regrown x0_8;have y0_0:W.cell? ⟨w.heap.size + 1,0,none⟩ = some (.int .i64 r.kind):=T0.b2.cell 0;have ky0_0:=cell_regrown y0_0;have y0_1:W.cell? ⟨w.heap.size + 1,1,none⟩ = some (.int .i64 r.seq):=T0.b2.cell 1;have ky0_1:=cell_regrown y0_1;have y0_2:W.cell? ⟨w.heap.size + 1,2,none⟩ = some (.string r.name):=T0.b2.cell 2;have ky0_2:=cell_regrown y0_2;have y0_3:W.cell? ⟨w.heap.size + 1,3,none⟩ = some (.int .i64 r.length):=T0.b2.cell 3;have ky0_3:=cell_regrown y0_3;have y0_4:W.cell? ⟨w.heap.size + 1,4,none⟩ = some (.int .i64 r.group):=T0.b2.cell 4;have ky0_4:=cell_regrown y0_4;have y0_5:W.cell? ⟨w.heap.size + 1,5,none⟩ = some (.int .i64 r.row):=T0.b2.cell 5;have ky0_5:=cell_regrown y0_5;have y0_6:W.cell? ⟨w.heap.size + 1,6,none⟩ = some (.slice ao6 r.rows.1 cap6):=T0.b2.cell 6;have ky0_6:=cell_regrown y0_6;have y0_7:W.cell? ⟨w.heap.size + 1,7,none⟩ = some (.slice ao7 r.data.1 cap7):=T0.b2.cell 7;have ky0_7:=cell_regrown y0_7;have y0_8:W.cell? ⟨w.heap.size + 1,8,none⟩ = some (.slice ao8 r.delta.1 cap8):=T0.b2.cell 8
  have ky0_8:=cell_regrown y0_8;have HT:Hid (Two w W #[.int .i64 (s 0),.int .i64 (s 1),.int .i64 (s 2),.int .i64 (s 3),.int .i64 (s 4),.int .i64 (s 5),.int .i64 (s 6),.int .i64 (s 7),.int .i64 (s 8)] #[.int .i64 r.kind,.int .i64 r.seq,.string r.name,.int .i64 r.length,.int .i64 r.group,.int .i64 r.row,.slice ao6 r.rows.1 cap6,.slice ao7 r.data.1 cap7,.slice ao8 r.delta.1 cap8] 34 81):=T0;clear T0
  by_cases hlen:(r.delta.1:Int) = s 0 + s 1
  · obtain ⟨b8,off8,he8,hb8,hcell8⟩:=HC8.out (by omega)
    subst he8;obtain ⟨G,hG⟩:∃ G:Nat,r.group = (G:Int):=⟨r.group.toNat,by omega⟩
    have hGl:G < r.delta.1:=by omega
    have d0:W.cell? ⟨b8,off8 + G,none⟩ = some (.int .u8 (r.delta.2 G)):=(HT.out.bel.cell (p:=⟨b8,off8 + G,none⟩) (by show b8 < w.heap.size;omega)).trans (hcell8 G hGl);have kd0:=cell_regrown d0
    have hne:((r.delta.1:Int) != s 0 + s 1) = false:=by simpa using hlen
    rw [hG] at y0_4 ky0_4;have HCE:Hid (∀ i,i < r.delta.1 → w.cell? ⟨b8,off8 + i,none⟩ = some (.int .u8 (r.delta.2 i))):=hcell8;have HLEN:Hid ((r.delta.1:Int) = s 0 + s 1):=hlen;have HG:Hid (r.group = (G:Int)):=hG;clear hcell8 hlen hG;obtain ⟨x0,hx0⟩:∃ x,x = r.delta.2 G:=⟨_,rfl⟩;have HX0:Hid (x0 = r.delta.2 G):=hx0;rw [← hx0] at d0 kd0;clear hx0
    by_cases hz:x0 = 0
    · subst hz
      refine WQ.region (by kernel_rfl) (by kernel_rfl) ?_
      repeat (first | (apply WQ.skip;(case hw => rfl);intro K hK;go_simp;apply hK;clear hK K) | (apply WQ.want;(case hw => rfl);intro K hK;go_simp;first | (apply hK;clear hK K) | (apply Exists.intro;apply And.intro;(case left => intro p;(first | (go_at_call 59;exact cA _ _)));apply hK;clear hK K)))
      refine WQ.nil ?_;intro w1 hw1;have T1:=HT.out.call (below_rg hw1);have H1:Hid (Two w w1 #[.int .i64 (s 0),.int .i64 (s 1),.int .i64 (s 2),.int .i64 (s 3),.int .i64 (s 4),.int .i64 (s 5),.int .i64 (s 6),.int .i64 (s 7),.int .i64 (s 8)] #[.int .i64 r.kind,.int .i64 r.seq,.string r.name,.int .i64 r.length,.int .i64 r.group,.int .i64 r.row,.slice ao6 r.rows.1 cap6,.slice ao7 r.data.1 cap7,.slice (some ⟨b8,off8,none⟩) r.delta.1 cap8] 34 81):=T1;clear hw1 T1 d0 kd0;go_wp2
      go_loopw [5] (fun i wr => ∃ k:Nat,k ≤ r.rows.1 ∧ i = .int .i64 k ∧ (∀ i,i < k → r.delta.2 (r.rows.2 i).toNat ≠ 0) ∧ Two w wr #[.int .i64 (s 0),.int .i64 (s 1),.int .i64 (s 2),.int .i64 (s 3),.int .i64 (s 4),.int .i64 (s 5),.int .i64 (s 6),.int .i64 (s 7),.int .i64 (s 8)] #[.int .i64 r.kind,.int .i64 r.seq,.string r.name,.int .i64 r.length,.int .i64 r.group,.int .i64 r.row,.slice ao6 r.rows.1 cap6,.slice ao7 r.data.1 cap7,.slice (some ⟨b8,off8,none⟩) r.delta.1 cap8] 34 81) (fun i _ => r.rows.1 - (intOf i).toNat)
      case atStart => exact ⟨0,Nat.zero_le _,rfl,fun i hi => by omega,H1.out⟩
      case round =>
        obtain ⟨k,hk,rfl,hal,T2⟩:=hrel;have HAL:Hid (∀ i,i < k → r.delta.2 (r.rows.2 i).toNat ≠ 0):=hal;have H2:Hid (Two w wr #[.int .i64 (s 0),.int .i64 (s 1),.int .i64 (s 2),.int .i64 (s 3),.int .i64 (s 4),.int .i64 (s 5),.int .i64 (s 6),.int .i64 (s 7),.int .i64 (s 8)] #[.int .i64 r.kind,.int .i64 r.seq,.string r.name,.int .i64 r.length,.int .i64 r.group,.int .i64 r.row,.slice ao6 r.rows.1 cap6,.slice ao7 r.data.1 cap7,.slice (some ⟨b8,off8,none⟩) r.delta.1 cap8] 34 81):=T2;clear hal;have y2_6:wr.cell? ⟨w.heap.size + 1,6,none⟩ = some (.slice ao6 r.rows.1 cap6):=T2.b2.cell 6;have y2_8:wr.cell? ⟨w.heap.size + 1,8,none⟩ = some (.slice (some ⟨b8,off8,none⟩) r.delta.1 cap8):=T2.b2.cell 8
        by_cases hlt:k < r.rows.1
        · obtain ⟨b6,off6,he6,hb6,hcell6⟩:=HC6.out (by omega)
          subst he6;have hrk:=HR.out k hlt;obtain ⟨Y,hY⟩:∃ Y:Nat,r.rows.2 k = (Y:Int):=⟨(r.rows.2 k).toNat,by omega⟩
          have hYl:Y < r.delta.1:=by have:=HLEN.out;omega
          have c6:wr.cell? ⟨b6,off6 + k,none⟩ = some (.int .i64 (Y:Int)):=by
            rw [← hY];exact (T2.bel.cell (p:=⟨b6,off6 + k,none⟩) (by show b6 < w.heap.size;omega)).trans (hcell6 k hlt)
          have c8:wr.cell? ⟨b8,off8 + Y,none⟩ = some (.int .u8 (r.delta.2 Y)):=(T2.bel.cell (p:=⟨b8,off8 + Y,none⟩) (by show b8 < w.heap.size;omega)).trans (HCE.out Y hYl);have q6:=cell_regrown c6;have q8:=cell_regrown c8;have p6:=cell_regrown y2_6;have p8:=cell_regrown y2_8;have HY:Hid (r.rows.2 k = (Y:Int)):=hY;clear hcell6 hrk hY T2;obtain ⟨z0,hz0⟩:∃ x,x = r.delta.2 Y:=⟨_,rfl⟩;have HZ0:Hid (z0 = r.delta.2 Y):=hz0;rw [← hz0] at c8 q8;clear hz0
          by_cases hz:z0 = 0
          · subst hz
            go_wp2;refine WQ.region (by kernel_rfl) (by kernel_rfl) ?_
            repeat (first | (apply WQ.skip;(case hw => rfl);intro K hK;go_simp;apply hK;clear hK K) | (apply WQ.want;(case hw => rfl);intro K hK;go_simp;first | (apply hK;clear hK K) | (apply Exists.intro;apply And.intro;(case left => intro p;(first | fail));apply hK;clear hK K)))
            refine WQ.nil ?_;intro w3 hw3;have HB3:Hid (Below w.heap.size w w3):=(H2.out.call (below_rg hw3)).bel;clear hw3;go_wp2;go_ret;exact boolNo rfl (fun h => h.2.2 k hlt (by rw [HY.out];exact HZ0.out.symm)) HB3.out
          · have hz':((z0:Int) == 0) = false:=by simp;omega
            go_wp2;refine WQ.region (by kernel_rfl) (by kernel_rfl) ?_
            repeat (first | (apply WQ.skip;(case hw => rfl);intro K hK;go_simp;apply hK;clear hK K) | (apply WQ.want;(case hw => rfl);intro K hK;go_simp;first | (apply hK;clear hK K) | (apply Exists.intro;apply And.intro;(case left => intro p;(first | fail));apply hK;clear hK K)))
            refine WQ.nil ?_;intro w3 hw3;have HT3:Hid (Two w w3 #[.int .i64 (s 0),.int .i64 (s 1),.int .i64 (s 2),.int .i64 (s 3),.int .i64 (s 4),.int .i64 (s 5),.int .i64 (s 6),.int .i64 (s 7),.int .i64 (s 8)] #[.int .i64 r.kind,.int .i64 r.seq,.string r.name,.int .i64 r.length,.int .i64 r.group,.int .i64 r.row,.slice (some ⟨b6,off6,none⟩) r.rows.1 cap6,.slice ao7 r.data.1 cap7,.slice (some ⟨b8,off8,none⟩) r.delta.1 cap8] 34 81):=H2.out.call (below_rg hw3);clear hw3;go_wp2
            go_roundw
            case rel => exact ⟨k + 1,by omega,by go_num,fun i hi => by
                          by_cases c:i = k
                          · subst c
                            rw [HY.out,Int.toNat_natCast,← HZ0.out];exact hz
                          · exact HAL.out i (by omega),HT3.out⟩
            case measure => simp [intOf];omega
        · obtain rfl:k = r.rows.1:=by omega
          go_wp2;go_ret;exact boolYes rfl ⟨HLEN.out,by rw [HG.out,Int.toNat_natCast];exact HX0.out.symm,HAL.out⟩ H2.out.bel
    · have hz':((x0:Int) != 0) = true:=by simp;omega
      refine WQ.region (by kernel_rfl) (by kernel_rfl) ?_
      repeat (first | (apply WQ.skip;(case hw => rfl);intro K hK;go_simp;apply hK;clear hK K) | (apply WQ.want;(case hw => rfl);intro K hK;go_simp;first | (apply hK;clear hK K) | (apply Exists.intro;apply And.intro;(case left => intro p;(first | (go_at_call 59;exact cA _ _)));apply hK;clear hK K)))
      refine WQ.nil ?_;intro w1 hw1;have HB1:Hid (Below w.heap.size w w1):=(HT.out.call (below_rg hw1)).bel;clear hw1 d0 kd0;go_wp2;go_ret;exact boolNo rfl (fun h => hz (by rw [HX0.out,← h.2.1,HG.out,Int.toNat_natCast])) HB1.out
  · have hne:((r.delta.1:Int) != s 0 + s 1) = true:=by simpa using hlen
    have HN:Hid (¬ (r.delta.1:Int) = s 0 + s 1):=hlen;clear hlen;refine WQ.region (by kernel_rfl) (by kernel_rfl) ?_
    repeat (first | (apply WQ.skip;(case hw => rfl);intro K hK;go_simp;apply hK;clear hK K) | (apply WQ.want;(case hw => rfl);intro K hK;go_simp;first | (apply hK;clear hK K) | (apply Exists.intro;apply And.intro;(case left => intro p;(first | (go_at_call 59;exact cA _ _)));apply hK;clear hK K)))
    refine WQ.nil ?_;intro w1 hw1;have HB1:Hid (Below w.heap.size w w1):=(HT.out.call (below_rg hw1)).bel;clear hw1;go_wp2;go_ret;exact boolNo rfl (fun h => HN.out h.1) HB1.out
end Go.Proofs.YtbjkjcfodljamaaGreat
namespace Go.Proofs.YtbjkjcfodljamaaGreat
open Go.RowKit F256
set_option maxHeartbeats 8000000 in
theorem l5Item_any (s:Nat → Int) (hs:OkShape s) (r:RecD) (cs:List Value) (hi:Nat) (w:World) (h:layRec.rd w hi r cs) (hhi:hi ≤ w.heap.size) :
    Calls Tryz.prog 99 #[shapeV s,.agg cs.toArray] w (BoolP (ItemP s r) w):=by
  obtain ⟨ao6,cap6,ao7,cap7,ao8,cap8,rfl,g6,g7,g8,-,-,-,hl,-⟩:=Rec_rd h;clear h g7 g8
  have hs2:1 ≤ s 2 ∧ s 2 ≤ 3 ∧ 1 ≤ s 4 ∧ s 4 ≤ 6:=by
    obtain ⟨_,h2,h3,_⟩:=hs;unfold Shp at h2;omega
  obtain ⟨v6,e6,⟨h6,hcp6⟩,_⟩:=g6
  cases e6
  have H6:Hid (RdI w hi (.slice ao6 r.rows.1 cap6) r.rows.1 r.rows.2):=h6;have HCP:Hid (CapP (.slice ao6 r.rows.1 cap6) r.rows.1):=hcp6;have hm6:=h6.mx;unfold maxLen at hm6;clear h6 hcp6;have T0:=two_newb w #[.int .i64 (s 0),.int .i64 (s 1),.int .i64 (s 2),.int .i64 (s 3),.int .i64 (s 4),.int .i64 (s 5),.int .i64 (s 6),.int .i64 (s 7),.int .i64 (s 8)] #[.int .i64 r.kind,.int .i64 r.seq,.string r.name,.int .i64 r.length,.int .i64 r.group,.int .i64 r.row,.slice ao6 r.rows.1 cap6,.slice ao7 r.data.1 cap7,.slice ao8 r.delta.1 cap8] 34 81;have CLong:=fun w' => l4Long_any s (by omega) (by omega) r.length w';have HIT:Hid (ItemP s r ↔ ItemP s r):=Iff.rfl;unfold shapeV;unfold shapeV at CLong
  go_enter Tryz.func99,Tryz.ntmps99
  by_cases hl1:r.length = -1
  · have HL:Hid (r.length = -1):=hl1
    have e1:(r.length == -1) = true:=by simp [hl1]
    have HB:Hid (Below w.heap.size w ((w.alloc (.cells #[.int .i64 (s 0),.int .i64 (s 1),.int .i64 (s 2),.int .i64 (s 3),.int .i64 (s 4),.int .i64 (s 5),.int .i64 (s 6),.int .i64 (s 7),.int .i64 (s 8)] 34)).alloc (.cells #[.int .i64 r.kind,.int .i64 r.seq,.string r.name,.int .i64 r.length,.int .i64 r.group,.int .i64 r.row,.slice ao6 r.rows.1 cap6,.slice ao7 r.data.1 cap7,.slice ao8 r.delta.1 cap8] 81))):=T0.bel;clear T0 CLong hl1;obtain ⟨b0,h0⟩:∃ b,((r.data.1:Int) == 0) = b:=⟨_,rfl⟩;obtain ⟨b1,h1⟩:∃ b,((r.rows.1:Int) == 0) = b:=⟨_,rfl⟩
    have HE:Hid (ItemP s r ↔ (b0 = true ∧ b1 = true)):=by
      show ItemP s r ↔ _
      rw [← h0,← h1];unfold ItemP
      simp [HL.out]
    have hst:b0 = false ∨ (b0 = true ∧ b1 = false) ∨ (b0 = true ∧ b1 = true):=by
      clear HE h0 h1
      cases b0 <;> simp
    rcases hst with rfl | ⟨rfl,rfl⟩ | ⟨rfl,rfl⟩
    all_goals
      go_wp2;go_ret
      first
        | exact boolNo rfl (fun h => by have:=HE.out.1 h;simp at this) HB.out
        | exact boolYes rfl (HE.out.2 (by simp)) HB.out
  · have e1:(r.length == -1) = false:=by simp [hl1]
    have HL:Hid (r.length ≠ -1):=hl1;clear hl1
    go_wp2_with fail
    refine (CLong _).mono ?_;rintro e w1 ⟨c,rfl,hc,b1⟩;have T1:Two w w1 #[.int .i64 (s 0),.int .i64 (s 1),.int .i64 (s 2),.int .i64 (s 3),.int .i64 (s 4),.int .i64 (s 5),.int .i64 (s 6),.int .i64 (s 7),.int .i64 (s 8)] #[.int .i64 r.kind,.int .i64 r.seq,.string r.name,.int .i64 r.length,.int .i64 r.group,.int .i64 r.row,.slice ao6 r.rows.1 cap6,.slice ao7 r.data.1 cap7,.slice ao8 r.delta.1 cap8] 34 81:=T0.call b1;clear b1 T0 CLong;have HT1:Hid (Two w w1 #[.int .i64 (s 0),.int .i64 (s 1),.int .i64 (s 2),.int .i64 (s 3),.int .i64 (s 4),.int .i64 (s 5),.int .i64 (s 6),.int .i64 (s 7),.int .i64 (s 8)] #[.int .i64 r.kind,.int .i64 r.seq,.string r.name,.int .i64 r.length,.int .i64 r.group,.int .i64 r.row,.slice ao6 r.rows.1 cap6,.slice ao7 r.data.1 cap7,.slice ao8 r.delta.1 cap8] 34 81):=T1;have x1_0:w1.cell? ⟨w.heap.size,0,none⟩ = some (.int .i64 (s 0)):=T1.b1.cell 0;have kx1_0:=cell_regrown x1_0;have x1_1:w1.cell? ⟨w.heap.size,1,none⟩ = some (.int .i64 (s 1)):=T1.b1.cell 1;have kx1_1:=cell_regrown x1_1;have x1_2:w1.cell? ⟨w.heap.size,2,none⟩ = some (.int .i64 (s 2)):=T1.b1.cell 2;have kx1_2:=cell_regrown x1_2;have x1_3:w1.cell? ⟨w.heap.size,3,none⟩ = some (.int .i64 (s 3)):=T1.b1.cell 3;have kx1_3:=cell_regrown x1_3;have x1_4:w1.cell? ⟨w.heap.size,4,none⟩ = some (.int .i64 (s 4)):=T1.b1.cell 4;have kx1_4:=cell_regrown x1_4;have x1_5:w1.cell? ⟨w.heap.size,5,none⟩ = some (.int .i64 (s 5)):=T1.b1.cell 5;have kx1_5:=cell_regrown x1_5;have x1_6:w1.cell? ⟨w.heap.size,6,none⟩ = some (.int .i64 (s 6)):=T1.b1.cell 6;have kx1_6:=cell_regrown x1_6;have x1_7:w1.cell? ⟨w.heap.size,7,none⟩ = some (.int .i64 (s 7)):=T1.b1.cell 7;have kx1_7:=cell_regrown x1_7;have x1_8:w1.cell? ⟨w.heap.size,8,none⟩ = some (.int .i64 (s 8)):=T1.b1.cell 8;have kx1_8:=cell_regrown x1_8;have y1_0:w1.cell? ⟨w.heap.size + 1,0,none⟩ = some (.int .i64 r.kind):=T1.b2.cell 0;have ky1_0:=cell_regrown y1_0;have y1_1:w1.cell? ⟨w.heap.size + 1,1,none⟩ = some (.int .i64 r.seq):=T1.b2.cell 1;have ky1_1:=cell_regrown y1_1;have y1_2:w1.cell? ⟨w.heap.size + 1,2,none⟩ = some (.string r.name):=T1.b2.cell 2;have ky1_2:=cell_regrown y1_2;have y1_3:w1.cell? ⟨w.heap.size + 1,3,none⟩ = some (.int .i64 r.length):=T1.b2.cell 3;have ky1_3:=cell_regrown y1_3;have y1_4:w1.cell? ⟨w.heap.size + 1,4,none⟩ = some (.int .i64 r.group):=T1.b2.cell 4;have ky1_4:=cell_regrown y1_4;have y1_5:w1.cell? ⟨w.heap.size + 1,5,none⟩ = some (.int .i64 r.row):=T1.b2.cell 5;have ky1_5:=cell_regrown y1_5;have y1_6:w1.cell? ⟨w.heap.size + 1,6,none⟩ = some (.slice ao6 r.rows.1 cap6):=T1.b2.cell 6;have ky1_6:=cell_regrown y1_6;have y1_7:w1.cell? ⟨w.heap.size + 1,7,none⟩ = some (.slice ao7 r.data.1 cap7):=T1.b2.cell 7;have ky1_7:=cell_regrown y1_7;have y1_8:w1.cell? ⟨w.heap.size + 1,8,none⟩ = some (.slice ao8 r.delta.1 cap8):=T1.b2.cell 8;have ky1_8:=cell_regrown y1_8
    clear T1
    by_cases hok:1 ≤ r.length ∧ r.length ≤ 3 * (s 2 * 4)
    · obtain rfl:c = 0:=by omega
      have HOK:Hid (1 ≤ r.length ∧ r.length ≤ 3 * (s 2 * 4)):=hok;clear hc
      by_cases hd:0 < r.data.1
      · have d1:decide (0 < (r.data.1:Int)) = true:=by simp;omega
        obtain ⟨b0,h0⟩:∃ b,((r.data.1:Int) == r.length) = b:=⟨_,rfl⟩;obtain ⟨b1,h1⟩:∃ b,((r.rows.1:Int) == 0) = b:=⟨_,rfl⟩
        have HE:Hid (ItemP s r ↔ (b0 = true ∧ b1 = true)):=by
          show ItemP s r ↔ _
          rw [← h0,← h1];unfold ItemP;have:=HL.out;have:=HOK.out
          constructor
          · rintro (h | ⟨_,_,_,h | h⟩)
            · omega
            · simp;omega
            · omega
          · intro h
            simp at h
            exact .inr ⟨by omega,by omega,by omega,.inl ⟨hd,h.1,h.2⟩⟩
        have HD:Hid (0 < r.data.1):=hd
        have hst:b0 = false ∨ (b0 = true ∧ b1 = false) ∨ (b0 = true ∧ b1 = true):=by
          clear HE h0 h1
          cases b0 <;> simp
        clear hd hok
        rcases hst with rfl | ⟨rfl,rfl⟩ | ⟨rfl,rfl⟩
        all_goals
          go_wp2;go_ret
          first
            | exact boolNo rfl (fun h => by have:=HE.out.1 h;simp at this) HT1.out.bel
            | exact boolYes rfl (HE.out.2 (by simp)) HT1.out.bel
      · have d1:decide (0 < (r.data.1:Int)) = false:=by simp;omega
        have hd0:r.data.1 = 0:=by omega
        obtain ⟨S,hS⟩:∃ S,S = (r.length + s 2 * 4 - 1) / (s 2 * 4):=⟨_,rfl⟩;have HSV:Hid (S = (r.length + s 2 * 4 - 1) / (s 2 * 4)):=hS
        have hlb:r.length ≤ 1000000000:=by omega
        have cP:=q_below (W:=w1) (fun w' _ => l4Parts_any s (by omega) (by omega) r.length (by omega) (by omega) w');unfold shapeV at cP;rw [← hS] at cP;obtain ⟨t2,h2⟩:=exB (ApartP r.rows.1 r.rows.2 (s 4 - 1));have cQ:=q_below (W:=w1) (fun w' hw' => det_b (l5Apart_any _ r.rows.1 r.rows.2 hi (s 4 - 1) w' ((H6.out.below HT1.out.bel hhi).below hw' (Nat.le_trans hhi HT1.out.bel.size)) HCP.out (Nat.le_trans hhi (Nat.le_trans HT1.out.bel.size hw'.size))) h2);obtain ⟨b0,h0⟩:∃ b,((r.rows.1:Int) == S) = b:=⟨_,rfl⟩
        have HE:Hid (ItemP s r ↔ (b0 = true ∧ t2 = true)):=by
          show ItemP s r ↔ _
          rw [← h0,h2,hS];unfold ItemP;have:=HL.out;have:=HOK.out
          constructor
          · rintro (h | ⟨_,_,_,h | h⟩)
            · omega
            · omega
            · exact ⟨by simpa using h.2.1,h.2.2⟩
          · intro h
            exact .inr ⟨by omega,by omega,by omega,.inr ⟨hd0,by simpa using h.1,h.2⟩⟩
        have HD:Hid (¬ 0 < r.data.1):=hd
        have hst:b0 = false ∨ (b0 = true ∧ t2 = false) ∨ (b0 = true ∧ t2 = true):=by
          clear HE h0 h2 cQ
          cases b0 <;> simp
        have hw4:IntKind.i64.wrap (s 4 - 1) = s 4 - 1:=by rw [IntKind.wrap_i64];omega
        clear hd hok hS h2 hd0;go_wp2
        rcases hst with rfl | ⟨rfl,rfl⟩ | ⟨rfl,rfl⟩
        all_goals
          refine WQ.region (by kernel_rfl) (by kernel_rfl) ?_
          repeat (first | (apply WQ.skip;(case hw => rfl);intro K hK;go_simp;apply hK;clear hK K) | (apply WQ.want;(case hw => rfl);intro K hK;go_simp;first | (apply hK;clear hK K) | (apply Exists.intro;apply And.intro;(case left => intro p;(first | (go_at_call 130;exact cP _ _) | (go_at_call 58;exact cQ _ _)));apply hK;clear hK K)))
          refine WQ.nil ?_;intro w2 hw2;have HB2:Hid (Below w.heap.size w w2):=(HT1.out.call (below_rg hw2)).bel;clear hw2;go_wp2;go_ret
          first
            | exact boolNo rfl (fun h => by have:=HE.out.1 h;simp at this) HB2.out
            | exact boolYes rfl (HE.out.2 (by simp)) HB2.out
    · have hc0:(c != 0) = true:=by
        have:c ≠ 0:=by omega
        simp [this]
      have HNO:Hid (¬ ItemP s r):=fun h => by
        have:=HL.out;unfold ItemP at h;omega
      clear hc hok;go_wp2;go_ret;exact boolNo rfl HNO.out HT1.out.bel
end Go.Proofs.YtbjkjcfodljamaaGreat
namespace Go.Proofs.YtbjkjcfodljamaaGreat
open Go.RowKit F256
def RecPost (s:Nat → Int) (r:RecD) (w:World) (e:Ending) (w':World):Prop:=∃ x,e = .returned (.int .i64 x) ∧ RecAns s r x ∧ Below w.heap.size w w'
theorem recP {s:Nat → Int} {r:RecD} {w:World} {e:Ending} {w':World} {x:Int} (he:e = .returned (.int .i64 x)) (h:RecAns s r x) (hb:Below w.heap.size w w'):RecPost s r w e w':=⟨x,he,h,hb⟩
theorem exBT {P:Prop} (h:P):true = true ↔ P:=⟨fun _ => h,fun _ => rfl⟩
theorem exBF {P:Prop} (h:¬ P):false = true ↔ P:=⟨fun h => (by cases h),fun hh => absurd hh h⟩
set_option maxHeartbeats 16000000 in
set_option maxRecDepth 20000 in
theorem specRec_any (s:Nat → Int) (r:RecD) (cs:List Value) (hi:Nat) (w:World) (h:layRec.rd w hi r cs) (hhi:hi ≤ w.heap.size) (hnm:r.name.size ≤ 1048576) :
    Calls Tryz.prog 60 #[shapeV s,.agg cs.toArray] w (RecPost s r w):=by
  obtain ⟨kind,seq,name,length,group,row,rows,data,delta⟩:=r;obtain ⟨ao6,cap6,ao7,cap7,ao8,cap8,rfl,g6,g7,g8,k0,k1,k2,k3,k4,k5⟩:=Rec_rd h;have HRD:Hid (layRec.rd w hi ⟨kind,seq,name,length,group,row,rows,data,delta⟩ [.int .i64 kind,.int .i64 seq,.string name,.int .i64 length,.int .i64 group,.int .i64 row,.slice ao6 rows.1 cap6,.slice ao7 data.1 cap7,.slice ao8 delta.1 cap8]):=h;obtain ⟨v6,e6,⟨h6,hcp6⟩,_⟩:=g6
  cases e6
  have H6:Hid (RdI w hi (.slice ao6 rows.1 cap6) rows.1 rows.2):=h6;have hm6:rows.1 ≤ maxLen:=h6.mx;obtain ⟨v7,e7,⟨_,_,e7',hm7,_⟩,_⟩:=g7
  cases e7
  cases e7'
  obtain ⟨v8,e8,⟨_,_,e8',hm8,_⟩,_⟩:=g8
  cases e8
  cases e8'
  unfold maxLen at hm6 hm7 hm8
  simp only at k0 k1 k2 k3 k4 k5 hm6 hm7 hm8 hnm
  clear h h6 hcp6;have T0:=two_newb w #[.int .i64 (s 0),.int .i64 (s 1),.int .i64 (s 2),.int .i64 (s 3),.int .i64 (s 4),.int .i64 (s 5),.int .i64 (s 6),.int .i64 (s 7),.int .i64 (s 8)] #[.int .i64 kind,.int .i64 seq,.string name,.int .i64 length,.int .i64 group,.int .i64 row,.slice ao6 rows.1 cap6,.slice ao7 data.1 cap7,.slice ao8 delta.1 cap8] 34 81;have CSh:=fun w' => specShape_any s w';unfold shapeV at CSh ⊢
  go_enter Tryz.func60,Tryz.ntmps60
  go_wp2_with fail
  refine (CSh _).mono ?_;rintro e w1 ⟨x,rfl,hx,b1⟩;have T1:Two w w1 #[.int .i64 (s 0),.int .i64 (s 1),.int .i64 (s 2),.int .i64 (s 3),.int .i64 (s 4),.int .i64 (s 5),.int .i64 (s 6),.int .i64 (s 7),.int .i64 (s 8)] #[.int .i64 kind,.int .i64 seq,.string name,.int .i64 length,.int .i64 group,.int .i64 row,.slice ao6 rows.1 cap6,.slice ao7 data.1 cap7,.slice ao8 delta.1 cap8] 34 81:=T0.call b1;have HT1:Hid (Two w w1 #[.int .i64 (s 0),.int .i64 (s 1),.int .i64 (s 2),.int .i64 (s 3),.int .i64 (s 4),.int .i64 (s 5),.int .i64 (s 6),.int .i64 (s 7),.int .i64 (s 8)] #[.int .i64 kind,.int .i64 seq,.string name,.int .i64 length,.int .i64 group,.int .i64 row,.slice ao6 rows.1 cap6,.slice ao7 data.1 cap7,.slice ao8 delta.1 cap8] 34 81):=T1;have z1:w.heap.size + 1 < w1.heap.size:=T1.b2.lt;clear b1 T0 CSh;have x1_0:w1.cell? ⟨w.heap.size,0,none⟩ = some (.int .i64 (s 0)):=T1.b1.cell 0;have x1_1:w1.cell? ⟨w.heap.size,1,none⟩ = some (.int .i64 (s 1)):=T1.b1.cell 1;have x1_2:w1.cell? ⟨w.heap.size,2,none⟩ = some (.int .i64 (s 2)):=T1.b1.cell 2;have x1_3:w1.cell? ⟨w.heap.size,3,none⟩ = some (.int .i64 (s 3)):=T1.b1.cell 3;have x1_4:w1.cell? ⟨w.heap.size,4,none⟩ = some (.int .i64 (s 4)):=T1.b1.cell 4;have x1_5:w1.cell? ⟨w.heap.size,5,none⟩ = some (.int .i64 (s 5)):=T1.b1.cell 5;have x1_6:w1.cell? ⟨w.heap.size,6,none⟩ = some (.int .i64 (s 6)):=T1.b1.cell 6;have x1_7:w1.cell? ⟨w.heap.size,7,none⟩ = some (.int .i64 (s 7)):=T1.b1.cell 7;have x1_8:w1.cell? ⟨w.heap.size,8,none⟩ = some (.int .i64 (s 8)):=T1.b1.cell 8;have y1_0:w1.cell? ⟨w.heap.size + 1,0,none⟩ = some (.int .i64 kind):=T1.b2.cell 0;have y1_1:w1.cell? ⟨w.heap.size + 1,1,none⟩ = some (.int .i64 seq):=T1.b2.cell 1;have y1_2:w1.cell? ⟨w.heap.size + 1,2,none⟩ = some (.string name):=T1.b2.cell 2;have y1_3:w1.cell? ⟨w.heap.size + 1,3,none⟩ = some (.int .i64 length):=T1.b2.cell 3;have y1_4:w1.cell? ⟨w.heap.size + 1,4,none⟩ = some (.int .i64 group):=T1.b2.cell 4;have y1_5:w1.cell? ⟨w.heap.size + 1,5,none⟩ = some (.int .i64 row):=T1.b2.cell 5;have y1_6:w1.cell? ⟨w.heap.size + 1,6,none⟩ = some (.slice ao6 rows.1 cap6):=T1.b2.cell 6;have y1_7:w1.cell? ⟨w.heap.size + 1,7,none⟩ = some (.slice ao7 data.1 cap7):=T1.b2.cell 7;have y1_8:w1.cell? ⟨w.heap.size + 1,8,none⟩ = some (.slice ao8 delta.1 cap8):=T1.b2.cell 8;clear T1
  rcases hx with ⟨rfl,hno⟩ | ⟨rfl,hok⟩
  · go_wp2
    go_ret;exact recP rfl (Stair.fall hno) HT1.out.bel
  have HOK:Hid (OkShape s):=hok
  have hsb:1 ≤ s 0 ∧ s 0 ≤ 4 ∧ 0 ≤ s 1 ∧ s 1 ≤ 2 ∧ 1 ≤ s 2 ∧ s 2 ≤ 3 ∧ 1 ≤ s 4 ∧ s 4 ≤ 6:=by
    obtain ⟨h1,h2,h3,_⟩:=hok;unfold Shp3 at h1;unfold Shp at h2;omega
  clear hok
  by_cases hk:InP kind 1 4
  · go_wp2_with fail
    refine (l1In_b (t:=true) (exBT hk) _).mono ?_;rintro e w' ⟨rfl,hw'⟩;obtain rfl:=hw'.symm
    by_cases hq:InP seq 1 1000000000
    · go_wp2_with fail
      refine (l1In_b (t:=true) (exBT hq) _).mono ?_;rintro e w' ⟨rfl,hw'⟩;obtain rfl:=hw'.symm;have HK:Hid (InP kind 1 4):=hk;have HQ:Hid (InP seq 1 1000000000):=hq
      go_upto_region 9 with fail
      have bA:Below w1.heap.size w1 (w1.alloc (.cells #[.int .i64 kind,.int .i64 seq,.string name,.int .i64 length,.int .i64 group,.int .i64 row,.slice ao6 rows.1 cap6,.slice ao7 data.1 cap7,.slice ao8 delta.1 cap8] 81)):=(Below.refl _ _).alloc (Nat.le_refl _) _;have T2:Two w (w1.alloc (.cells #[.int .i64 kind,.int .i64 seq,.string name,.int .i64 length,.int .i64 group,.int .i64 row,.slice ao6 rows.1 cap6,.slice ao7 data.1 cap7,.slice ao8 delta.1 cap8] 81)) #[.int .i64 (s 0),.int .i64 (s 1),.int .i64 (s 2),.int .i64 (s 3),.int .i64 (s 4),.int .i64 (s 5),.int .i64 (s 6),.int .i64 (s 7),.int .i64 (s 8)] #[.int .i64 kind,.int .i64 seq,.string name,.int .i64 length,.int .i64 group,.int .i64 row,.slice ao6 rows.1 cap6,.slice ao7 data.1 cap7,.slice ao8 delta.1 cap8] 34 81:=HT1.out.call bA;have X2:Box (w1.alloc (.cells #[.int .i64 kind,.int .i64 seq,.string name,.int .i64 length,.int .i64 group,.int .i64 row,.slice ao6 rows.1 cap6,.slice ao7 data.1 cap7,.slice ao8 delta.1 cap8] 81)) w1.heap.size #[.int .i64 kind,.int .i64 seq,.string name,.int .i64 length,.int .i64 group,.int .i64 row,.slice ao6 rows.1 cap6,.slice ao7 data.1 cap7,.slice ao8 delta.1 cap8] 81:=box_new _ _ _;obtain ⟨W2,hW2⟩:∃ W2,W2 = w1.alloc (.cells #[.int .i64 kind,.int .i64 seq,.string name,.int .i64 length,.int .i64 group,.int .i64 row,.slice ao6 rows.1 cap6,.slice ao7 data.1 cap7,.slice ao8 delta.1 cap8] 81):=⟨_,rfl⟩;rw [← hW2] at T2 X2 ⊢;have HT2:Hid (Two w W2 #[.int .i64 (s 0),.int .i64 (s 1),.int .i64 (s 2),.int .i64 (s 3),.int .i64 (s 4),.int .i64 (s 5),.int .i64 (s 6),.int .i64 (s 7),.int .i64 (s 8)] #[.int .i64 kind,.int .i64 seq,.string name,.int .i64 length,.int .i64 group,.int .i64 row,.slice ao6 rows.1 cap6,.slice ao7 data.1 cap7,.slice ao8 delta.1 cap8] 34 81):=T2;have HX2:Hid (Box W2 w1.heap.size #[.int .i64 kind,.int .i64 seq,.string name,.int .i64 length,.int .i64 group,.int .i64 row,.slice ao6 rows.1 cap6,.slice ao7 data.1 cap7,.slice ao8 delta.1 cap8] 81):=X2;clear bA hW2 x1_0 y1_0 x1_1 y1_1 x1_2 y1_2 x1_3 y1_3 x1_4 y1_4 x1_5 y1_5 x1_6 y1_6 x1_7 y1_7 x1_8 y1_8;have x2_0:W2.cell? ⟨w.heap.size,0,none⟩ = some (.int .i64 (s 0)):=T2.b1.cell 0;have kx2_0:=cell_regrown x2_0;have x2_1:W2.cell? ⟨w.heap.size,1,none⟩ = some (.int .i64 (s 1)):=T2.b1.cell 1;have kx2_1:=cell_regrown x2_1;have x2_2:W2.cell? ⟨w.heap.size,2,none⟩ = some (.int .i64 (s 2)):=T2.b1.cell 2;have kx2_2:=cell_regrown x2_2;have x2_3:W2.cell? ⟨w.heap.size,3,none⟩ = some (.int .i64 (s 3)):=T2.b1.cell 3;have kx2_3:=cell_regrown x2_3;have x2_4:W2.cell? ⟨w.heap.size,4,none⟩ = some (.int .i64 (s 4)):=T2.b1.cell 4;have kx2_4:=cell_regrown x2_4;have x2_5:W2.cell? ⟨w.heap.size,5,none⟩ = some (.int .i64 (s 5)):=T2.b1.cell 5;have kx2_5:=cell_regrown x2_5;have x2_6:W2.cell? ⟨w.heap.size,6,none⟩ = some (.int .i64 (s 6)):=T2.b1.cell 6;have kx2_6:=cell_regrown x2_6;have x2_7:W2.cell? ⟨w.heap.size,7,none⟩ = some (.int .i64 (s 7)):=T2.b1.cell 7
      have kx2_7:=cell_regrown x2_7;have x2_8:W2.cell? ⟨w.heap.size,8,none⟩ = some (.int .i64 (s 8)):=T2.b1.cell 8;have kx2_8:=cell_regrown x2_8;have y2_0:W2.cell? ⟨w.heap.size + 1,0,none⟩ = some (.int .i64 kind):=T2.b2.cell 0;have ky2_0:=cell_regrown y2_0;have y2_1:W2.cell? ⟨w.heap.size + 1,1,none⟩ = some (.int .i64 seq):=T2.b2.cell 1;have ky2_1:=cell_regrown y2_1;have y2_2:W2.cell? ⟨w.heap.size + 1,2,none⟩ = some (.string name):=T2.b2.cell 2;have ky2_2:=cell_regrown y2_2;have y2_3:W2.cell? ⟨w.heap.size + 1,3,none⟩ = some (.int .i64 length):=T2.b2.cell 3;have ky2_3:=cell_regrown y2_3;have y2_4:W2.cell? ⟨w.heap.size + 1,4,none⟩ = some (.int .i64 group):=T2.b2.cell 4;have ky2_4:=cell_regrown y2_4;have y2_5:W2.cell? ⟨w.heap.size + 1,5,none⟩ = some (.int .i64 row):=T2.b2.cell 5;have ky2_5:=cell_regrown y2_5;have y2_6:W2.cell? ⟨w.heap.size + 1,6,none⟩ = some (.slice ao6 rows.1 cap6):=T2.b2.cell 6;have ky2_6:=cell_regrown y2_6;have y2_7:W2.cell? ⟨w.heap.size + 1,7,none⟩ = some (.slice ao7 data.1 cap7):=T2.b2.cell 7;have ky2_7:=cell_regrown y2_7;have y2_8:W2.cell? ⟨w.heap.size + 1,8,none⟩ = some (.slice ao8 delta.1 cap8):=T2.b2.cell 8;have ky2_8:=cell_regrown y2_8;have z2_0:W2.cell? ⟨w1.heap.size,0,none⟩ = some (.int .i64 kind):=X2.cell 0;have f2_0:W2.frozen? ⟨w1.heap.size,0,none⟩ = false:=X2.frozen 0;have z2_1:W2.cell? ⟨w1.heap.size,1,none⟩ = some (.int .i64 seq):=X2.cell 1;have f2_1:W2.frozen? ⟨w1.heap.size,1,none⟩ = false:=X2.frozen 1;have z2_2:W2.cell? ⟨w1.heap.size,2,none⟩ = some (.string name):=X2.cell 2;have f2_2:W2.frozen? ⟨w1.heap.size,2,none⟩ = false:=X2.frozen 2;have z2_3:W2.cell? ⟨w1.heap.size,3,none⟩ = some (.int .i64 length):=X2.cell 3;have f2_3:W2.frozen? ⟨w1.heap.size,3,none⟩ = false:=X2.frozen 3;have z2_4:W2.cell? ⟨w1.heap.size,4,none⟩ = some (.int .i64 group):=X2.cell 4;have f2_4:W2.frozen? ⟨w1.heap.size,4,none⟩ = false:=X2.frozen 4;have z2_5:W2.cell? ⟨w1.heap.size,5,none⟩ = some (.int .i64 row):=X2.cell 5;have f2_5:W2.frozen? ⟨w1.heap.size,5,none⟩ = false:=X2.frozen 5;have z2_6:W2.cell? ⟨w1.heap.size,6,none⟩ = some (.slice ao6 rows.1 cap6):=X2.cell 6;have f2_6:W2.frozen? ⟨w1.heap.size,6,none⟩ = false:=X2.frozen 6;have z2_7:W2.cell? ⟨w1.heap.size,7,none⟩ = some (.slice ao7 data.1 cap7):=X2.cell 7;have f2_7:W2.frozen? ⟨w1.heap.size,7,none⟩ = false:=X2.frozen 7;have z2_8:W2.cell? ⟨w1.heap.size,8,none⟩ = some (.slice ao8 delta.1 cap8):=X2.cell 8;have f2_8:W2.frozen? ⟨w1.heap.size,8,none⟩ = false:=X2.frozen 8;clear T2 X2
      have hk4:kind = 1 ∨ kind = 2 ∨ kind = 3 ∨ kind = 4:=by unfold InP at hk;omega
      have ws0:IntKind.i64.wrap (s 0 - 1) = s 0 - 1:=by rw [IntKind.wrap_i64];omega
      have ws4:IntKind.i64.wrap (s 4 - 1) = s 4 - 1:=by rw [IntKind.wrap_i64];omega
      have wsA:IntKind.i64.wrap (s 0 + s 1 - 1) = s 0 + s 1 - 1:=by rw [IntKind.wrap_i64];omega
      clear hk hq
      rcases hk4 with rfl | rfl | rfl | rfl
      · go_wp2_with fail
        refine (specName_any name hnm _).mono ?_;rintro e w' ⟨x,rfl,hx,hw'⟩;obtain rfl:=hw'.symm
        rcases hx with ⟨rfl,hno⟩ | ⟨rfl,hyes⟩
        · go_wp2
          go_ret;exact recP rfl (Stair.pass HOK.out (Stair.pass HK.out (Stair.pass HQ.out (Stair.fall (fun h => hno (h rfl)))))) HT2.out.bel
        · have HN:Hid (NamedP ⟨1,seq,name,length,group,row,rows,data,delta⟩):=fun _ => hyes
          clear hyes;obtain ⟨t3,h3⟩:=exB (ItemP s ⟨1,seq,name,length,group,row,rows,data,delta⟩);have CI:=det_b (l5Item_any s HOK.out ⟨1,seq,name,length,group,row,rows,data,delta⟩ _ hi W2 (layRec.rd_below HRD.out HT2.out.bel hhi) (Nat.le_trans hhi HT2.out.bel.size)) h3;unfold shapeV at CI
          go_wp2_with fail
          refine CI.mono ?_;rintro e w3 ⟨rfl,b3⟩;have X3:Box w3 w1.heap.size #[.int .i64 1,.int .i64 seq,.string name,.int .i64 length,.int .i64 group,.int .i64 row,.slice ao6 rows.1 cap6,.slice ao7 data.1 cap7,.slice ao8 delta.1 cap8] 81:=HX2.out.call b3;have HB3:Hid (Below w.heap.size w w3):=(HT2.out.call b3).bel;have z3_0:w3.cell? ⟨w1.heap.size,0,none⟩ = some (.int .i64 1):=X3.cell 0;have f3_0:w3.frozen? ⟨w1.heap.size,0,none⟩ = false:=X3.frozen 0;have z3_1:w3.cell? ⟨w1.heap.size,1,none⟩ = some (.int .i64 seq):=X3.cell 1;have f3_1:w3.frozen? ⟨w1.heap.size,1,none⟩ = false:=X3.frozen 1;have z3_2:w3.cell? ⟨w1.heap.size,2,none⟩ = some (.string name):=X3.cell 2;have f3_2:w3.frozen? ⟨w1.heap.size,2,none⟩ = false:=X3.frozen 2;have z3_3:w3.cell? ⟨w1.heap.size,3,none⟩ = some (.int .i64 length):=X3.cell 3;have f3_3:w3.frozen? ⟨w1.heap.size,3,none⟩ = false:=X3.frozen 3;have z3_4:w3.cell? ⟨w1.heap.size,4,none⟩ = some (.int .i64 group):=X3.cell 4;have f3_4:w3.frozen? ⟨w1.heap.size,4,none⟩ = false:=X3.frozen 4;have z3_5:w3.cell? ⟨w1.heap.size,5,none⟩ = some (.int .i64 row):=X3.cell 5;have f3_5:w3.frozen? ⟨w1.heap.size,5,none⟩ = false:=X3.frozen 5;have z3_6:w3.cell? ⟨w1.heap.size,6,none⟩ = some (.slice ao6 rows.1 cap6):=X3.cell 6;have f3_6:w3.frozen? ⟨w1.heap.size,6,none⟩ = false:=X3.frozen 6;have z3_7:w3.cell? ⟨w1.heap.size,7,none⟩ = some (.slice ao7 data.1 cap7):=X3.cell 7;have f3_7:w3.frozen? ⟨w1.heap.size,7,none⟩ = false:=X3.frozen 7;have z3_8:w3.cell? ⟨w1.heap.size,8,none⟩ = some (.slice ao8 delta.1 cap8):=X3.cell 8;have f3_8:w3.frozen? ⟨w1.heap.size,8,none⟩ = false:=X3.frozen 8;clear X3 b3;clear x2_0 kx2_0 y2_0 ky2_0 z2_0 f2_0 x2_1 kx2_1 y2_1 ky2_1 z2_1 f2_1 x2_2 kx2_2 y2_2 ky2_2 z2_2 f2_2 x2_3 kx2_3 y2_3 ky2_3 z2_3 f2_3 x2_4 kx2_4 y2_4 ky2_4 z2_4 f2_4 x2_5 kx2_5 y2_5 ky2_5 z2_5 f2_5 x2_6 kx2_6 y2_6 ky2_6 z2_6 f2_6 x2_7 kx2_7 y2_7 ky2_7 z2_7 f2_7 x2_8 kx2_8 y2_8 ky2_8 z2_8 f2_8 CI;have H3:Hid (t3 = true ↔ ItemP s ⟨1,seq,name,length,group,row,rows,data,delta⟩):=h3;clear h3
          cases t3 with
          | false =>
            go_wp2;go_ret
            exact recP rfl (Stair.pass HOK.out (Stair.pass HK.out (Stair.pass HQ.out (Stair.pass HN.out (Stair.fall (fun h => by
              have:ItemP s ⟨1,seq,name,length,group,row,rows,data,delta⟩:=by
                unfold KindP at h
                simpa using h
              have:=H3.out.2 this
              simp at this)))))) HB3.out
          | true =>
            have HKP:Hid (KindP s ⟨1,seq,name,length,group,row,rows,data,delta⟩):=.inl ⟨rfl,H3.out.1 (by simp)⟩
            go_wp2_with fail
            refine (l5Empty_any _ _ _ _ _ _ _ _ _ _ _ _ _ _ _ _).mono ?_;rintro e w9 ⟨t9,rfl,ht9,b9⟩
            have HB9:Hid (Below w.heap.size w w9):=by
              show Below w.heap.size w w9
              refine Below.trans ?_ (b9.mono ?_)
              · repeat (refine below_set ?_ (by omega))
                exact HB3.out
              · simp
                exact HB3.out.size
            clear b9
            have HT9:Hid (t9 = true ↔ BlankP ⟨1,seq,name,length,group,row,rows,data,delta⟩):=by
              show t9 = true ↔ BlankP ⟨1,seq,name,length,group,row,rows,data,delta⟩
              rw [ht9];unfold EmptyQ BlankP noName
              simp [and_assoc]
              try (intros;rfl)
            clear ht9
            cases t9 with
            | false =>
              go_wp2;go_ret;exact recP rfl (Stair.pass HOK.out (Stair.pass HK.out (Stair.pass HQ.out (Stair.pass HN.out (Stair.pass HKP.out (Stair.fall (fun h => by have:=HT9.out.2 h;simp at this))))))) HB9.out
            | true =>
              go_wp2;go_ret;exact recP rfl (Stair.pass HOK.out (Stair.pass HK.out (Stair.pass HQ.out (Stair.pass HN.out (Stair.pass HKP.out (Stair.pass (HT9.out.1 (by simp)) (Stair.last rfl))))))) HB9.out
      · have HN:Hid (NamedP ⟨2,seq,name,length,group,row,rows,data,delta⟩):=fun h => by simp at h
        obtain ⟨t1,h1⟩:=exB (InP group 0 (s 0 - 1));obtain ⟨t2,h2⟩:=exB (InP row 0 (s 4 - 1));obtain ⟨b3',h3⟩:∃ b,((data.1:Int) != s 2 * 4) = b:=⟨_,rfl⟩;obtain ⟨b4',h4⟩:∃ b,((delta.1:Int) != s 2 * 4) = b:=⟨_,rfl⟩;have cG:=q_same (W:=W2) (fun w' => l1In_b h1 w');have cR:=q_same (W:=W2) (fun w' => l1In_b h2 w');have cW:=q_below (W:=W2) (fun w' _ => l4Wide_any s (by omega) (by omega) w');unfold shapeV at cW
        have HE:Hid (KindP s ⟨2,seq,name,length,group,row,rows,data,delta⟩ ↔ (t1 = true ∧ t2 = true ∧ b3' = false ∧ b4' = false)):=by
          show KindP s ⟨2,seq,name,length,group,row,rows,data,delta⟩ ↔ _
          rw [h1,h2,← h3,← h4];unfold KindP MoveP
          simp
        have hst:(t1 = false) ∨ (t1 = true ∧ t2 = false) ∨ (t1 = true ∧ t2 = true ∧ b3' = true) ∨ (t1 = true ∧ t2 = true ∧ b3' = false ∧ b4' = true) ∨ (t1 = true ∧ t2 = true ∧ b3' = false ∧ b4' = false):=by
          clear HE h1 h2 h3 h4 cG cR
          cases t1 <;> simp
          cases t2 <;> simp
          cases b3' <;> simp
        clear h1 h2;go_wp2
        rcases hst with rfl | ⟨rfl,rfl⟩ | ⟨rfl,rfl,rfl⟩ | ⟨rfl,rfl,rfl,rfl⟩ | ⟨rfl,rfl,rfl,rfl⟩
        all_goals
          refine WQ.region (by kernel_rfl) (by kernel_rfl) ?_
          repeat (first | (apply WQ.skip;(case hw => rfl);intro K hK;go_simp;apply hK;clear hK K) | (apply WQ.want;(case hw => rfl);intro K hK;go_simp;first | (apply hK;clear hK K) | (apply Exists.intro;apply And.intro;(case left => intro p;(first | (go_at_call_of 49 (Value.int .i64 group);exact cG _ _) | (go_at_call_of 49 (Value.int .i64 row);exact cR _ _) | (go_at_call 100;exact cW _ _)));apply hK;clear hK K)))
          refine WQ.nil ?_;intro w3 hw3;have b3:=below_rg hw3;have X3:Box w3 w1.heap.size #[.int .i64 2,.int .i64 seq,.string name,.int .i64 length,.int .i64 group,.int .i64 row,.slice ao6 rows.1 cap6,.slice ao7 data.1 cap7,.slice ao8 delta.1 cap8] 81:=HX2.out.call b3;have HB3:Hid (Below w.heap.size w w3):=(HT2.out.call b3).bel;have z3_0:w3.cell? ⟨w1.heap.size,0,none⟩ = some (.int .i64 2):=X3.cell 0;have f3_0:w3.frozen? ⟨w1.heap.size,0,none⟩ = false:=X3.frozen 0;have z3_1:w3.cell? ⟨w1.heap.size,1,none⟩ = some (.int .i64 seq):=X3.cell 1;have f3_1:w3.frozen? ⟨w1.heap.size,1,none⟩ = false:=X3.frozen 1;have z3_2:w3.cell? ⟨w1.heap.size,2,none⟩ = some (.string name):=X3.cell 2;have f3_2:w3.frozen? ⟨w1.heap.size,2,none⟩ = false:=X3.frozen 2;have z3_3:w3.cell? ⟨w1.heap.size,3,none⟩ = some (.int .i64 length):=X3.cell 3;have f3_3:w3.frozen? ⟨w1.heap.size,3,none⟩ = false:=X3.frozen 3;have z3_4:w3.cell? ⟨w1.heap.size,4,none⟩ = some (.int .i64 group):=X3.cell 4;have f3_4:w3.frozen? ⟨w1.heap.size,4,none⟩ = false:=X3.frozen 4;have z3_5:w3.cell? ⟨w1.heap.size,5,none⟩ = some (.int .i64 row):=X3.cell 5;have f3_5:w3.frozen? ⟨w1.heap.size,5,none⟩ = false:=X3.frozen 5;have z3_6:w3.cell? ⟨w1.heap.size,6,none⟩ = some (.slice ao6 rows.1 cap6):=X3.cell 6;have f3_6:w3.frozen? ⟨w1.heap.size,6,none⟩ = false:=X3.frozen 6;have z3_7:w3.cell? ⟨w1.heap.size,7,none⟩ = some (.slice ao7 data.1 cap7):=X3.cell 7;have f3_7:w3.frozen? ⟨w1.heap.size,7,none⟩ = false:=X3.frozen 7;have z3_8:w3.cell? ⟨w1.heap.size,8,none⟩ = some (.slice ao8 delta.1 cap8):=X3.cell 8;have f3_8:w3.frozen? ⟨w1.heap.size,8,none⟩ = false:=X3.frozen 8;clear X3 b3;clear hw3 x2_0 kx2_0 y2_0 ky2_0 z2_0 f2_0 x2_1 kx2_1 y2_1 ky2_1 z2_1 f2_1 x2_2 kx2_2 y2_2 ky2_2 z2_2 f2_2 x2_3 kx2_3 y2_3 ky2_3 z2_3 f2_3 x2_4 kx2_4 y2_4 ky2_4 z2_4 f2_4 x2_5 kx2_5 y2_5 ky2_5 z2_5 f2_5 x2_6 kx2_6 y2_6 ky2_6 z2_6 f2_6 x2_7 kx2_7 y2_7 ky2_7 z2_7 f2_7 x2_8 kx2_8 y2_8 ky2_8 z2_8 f2_8
        · go_wp2
          go_ret;exact recP rfl (Stair.pass HOK.out (Stair.pass HK.out (Stair.pass HQ.out (Stair.pass HN.out (Stair.fall (fun h => by have:=HE.out.1 h;simp at this)))))) HB3.out
        · go_wp2
          go_ret;exact recP rfl (Stair.pass HOK.out (Stair.pass HK.out (Stair.pass HQ.out (Stair.pass HN.out (Stair.fall (fun h => by have:=HE.out.1 h;simp at this)))))) HB3.out
        · go_wp2
          go_ret;exact recP rfl (Stair.pass HOK.out (Stair.pass HK.out (Stair.pass HQ.out (Stair.pass HN.out (Stair.fall (fun h => by have:=HE.out.1 h;simp at this)))))) HB3.out
        · go_wp2
          go_ret;exact recP rfl (Stair.pass HOK.out (Stair.pass HK.out (Stair.pass HQ.out (Stair.pass HN.out (Stair.fall (fun h => by have:=HE.out.1 h;simp at this)))))) HB3.out
        · have HKP:Hid (KindP s ⟨2,seq,name,length,group,row,rows,data,delta⟩):=HE.out.2 (by simp)
          go_wp2_with fail
          refine (l5Empty_any _ _ _ _ _ _ _ _ _ _ _ _ _ _ _ _).mono ?_;rintro e w9 ⟨t9,rfl,ht9,b9⟩
          have HB9:Hid (Below w.heap.size w w9):=by
            show Below w.heap.size w w9
            refine Below.trans ?_ (b9.mono ?_)
            · repeat (refine below_set ?_ (by omega))
              exact HB3.out
            · simp
              exact HB3.out.size
          clear b9
          have HT9:Hid (t9 = true ↔ BlankP ⟨2,seq,name,length,group,row,rows,data,delta⟩):=by
            show t9 = true ↔ BlankP ⟨2,seq,name,length,group,row,rows,data,delta⟩
            rw [ht9];unfold EmptyQ BlankP noName
            simp [and_assoc]
            try (intros;rfl)
          clear ht9
          cases t9 with
          | false =>
            go_wp2;go_ret;exact recP rfl (Stair.pass HOK.out (Stair.pass HK.out (Stair.pass HQ.out (Stair.pass HN.out (Stair.pass HKP.out (Stair.fall (fun h => by have:=HT9.out.2 h;simp at this))))))) HB9.out
          | true =>
            go_wp2;go_ret;exact recP rfl (Stair.pass HOK.out (Stair.pass HK.out (Stair.pass HQ.out (Stair.pass HN.out (Stair.pass HKP.out (Stair.pass (HT9.out.1 (by simp)) (Stair.last rfl))))))) HB9.out
      · have HN:Hid (NamedP ⟨3,seq,name,length,group,row,rows,data,delta⟩):=fun h => by simp at h
        obtain ⟨t1,h1⟩:=exB (InP group 0 (s 0 + s 1 - 1));have cG:=q_same (W:=W2) (fun w' => l1In_b h1 w');have cA:=q_below (W:=W2) (fun w' _ => l5All_any s HOK.out w');unfold shapeV at cA
        have HE:Hid (KindP s ⟨3,seq,name,length,group,row,rows,data,delta⟩ ↔ (t1 = true)):=by
          show KindP s ⟨3,seq,name,length,group,row,rows,data,delta⟩ ↔ _
          rw [h1];unfold KindP DoneP
          simp
        have hst:(t1 = false) ∨ (t1 = true):=by
          clear HE h1 cG
          cases t1 <;> simp
        clear h1;go_wp2
        rcases hst with rfl | rfl
        all_goals
          refine WQ.region (by kernel_rfl) (by kernel_rfl) ?_
          repeat (first | (apply WQ.skip;(case hw => rfl);intro K hK;go_simp;apply hK;clear hK K) | (apply WQ.want;(case hw => rfl);intro K hK;go_simp;first | (apply hK;clear hK K) | (apply Exists.intro;apply And.intro;(case left => intro p;(first | (go_at_call 49;exact cG _ _) | (go_at_call 59;exact cA _ _)));apply hK;clear hK K)))
          refine WQ.nil ?_;intro w3 hw3;have b3:=below_rg hw3;have X3:Box w3 w1.heap.size #[.int .i64 3,.int .i64 seq,.string name,.int .i64 length,.int .i64 group,.int .i64 row,.slice ao6 rows.1 cap6,.slice ao7 data.1 cap7,.slice ao8 delta.1 cap8] 81:=HX2.out.call b3;have HB3:Hid (Below w.heap.size w w3):=(HT2.out.call b3).bel;have z3_0:w3.cell? ⟨w1.heap.size,0,none⟩ = some (.int .i64 3):=X3.cell 0;have f3_0:w3.frozen? ⟨w1.heap.size,0,none⟩ = false:=X3.frozen 0;have z3_1:w3.cell? ⟨w1.heap.size,1,none⟩ = some (.int .i64 seq):=X3.cell 1;have f3_1:w3.frozen? ⟨w1.heap.size,1,none⟩ = false:=X3.frozen 1;have z3_2:w3.cell? ⟨w1.heap.size,2,none⟩ = some (.string name):=X3.cell 2;have f3_2:w3.frozen? ⟨w1.heap.size,2,none⟩ = false:=X3.frozen 2;have z3_3:w3.cell? ⟨w1.heap.size,3,none⟩ = some (.int .i64 length):=X3.cell 3;have f3_3:w3.frozen? ⟨w1.heap.size,3,none⟩ = false:=X3.frozen 3;have z3_4:w3.cell? ⟨w1.heap.size,4,none⟩ = some (.int .i64 group):=X3.cell 4;have f3_4:w3.frozen? ⟨w1.heap.size,4,none⟩ = false:=X3.frozen 4;have z3_5:w3.cell? ⟨w1.heap.size,5,none⟩ = some (.int .i64 row):=X3.cell 5;have f3_5:w3.frozen? ⟨w1.heap.size,5,none⟩ = false:=X3.frozen 5;have z3_6:w3.cell? ⟨w1.heap.size,6,none⟩ = some (.slice ao6 rows.1 cap6):=X3.cell 6;have f3_6:w3.frozen? ⟨w1.heap.size,6,none⟩ = false:=X3.frozen 6;have z3_7:w3.cell? ⟨w1.heap.size,7,none⟩ = some (.slice ao7 data.1 cap7):=X3.cell 7;have f3_7:w3.frozen? ⟨w1.heap.size,7,none⟩ = false:=X3.frozen 7;have z3_8:w3.cell? ⟨w1.heap.size,8,none⟩ = some (.slice ao8 delta.1 cap8):=X3.cell 8;have f3_8:w3.frozen? ⟨w1.heap.size,8,none⟩ = false:=X3.frozen 8;clear X3 b3;clear hw3 x2_0 kx2_0 y2_0 ky2_0 z2_0 f2_0 x2_1 kx2_1 y2_1 ky2_1 z2_1 f2_1 x2_2 kx2_2 y2_2 ky2_2 z2_2 f2_2 x2_3 kx2_3 y2_3 ky2_3 z2_3 f2_3 x2_4 kx2_4 y2_4 ky2_4 z2_4 f2_4 x2_5 kx2_5 y2_5 ky2_5 z2_5 f2_5 x2_6 kx2_6 y2_6 ky2_6 z2_6 f2_6 x2_7 kx2_7 y2_7 ky2_7 z2_7 f2_7 x2_8 kx2_8 y2_8 ky2_8 z2_8 f2_8
        · go_wp2
          go_ret;exact recP rfl (Stair.pass HOK.out (Stair.pass HK.out (Stair.pass HQ.out (Stair.pass HN.out (Stair.fall (fun h => by have:=HE.out.1 h;simp at this)))))) HB3.out
        · have HKP:Hid (KindP s ⟨3,seq,name,length,group,row,rows,data,delta⟩):=HE.out.2 (by simp)
          go_wp2_with fail
          refine (l5Empty_any _ _ _ _ _ _ _ _ _ _ _ _ _ _ _ _).mono ?_;rintro e w9 ⟨t9,rfl,ht9,b9⟩
          have HB9:Hid (Below w.heap.size w w9):=by
            show Below w.heap.size w w9
            refine Below.trans ?_ (b9.mono ?_)
            · repeat (refine below_set ?_ (by omega))
              exact HB3.out
            · simp
              exact HB3.out.size
          clear b9
          have HT9:Hid (t9 = true ↔ BlankP ⟨3,seq,name,length,group,row,rows,data,delta⟩):=by
            show t9 = true ↔ BlankP ⟨3,seq,name,length,group,row,rows,data,delta⟩
            rw [ht9];unfold EmptyQ BlankP noName
            simp [and_assoc]
            try (intros;rfl)
          clear ht9
          cases t9 with
          | false =>
            go_wp2;go_ret;exact recP rfl (Stair.pass HOK.out (Stair.pass HK.out (Stair.pass HQ.out (Stair.pass HN.out (Stair.pass HKP.out (Stair.fall (fun h => by have:=HT9.out.2 h;simp at this))))))) HB9.out
          | true =>
            go_wp2;go_ret;exact recP rfl (Stair.pass HOK.out (Stair.pass HK.out (Stair.pass HQ.out (Stair.pass HN.out (Stair.pass HKP.out (Stair.pass (HT9.out.1 (by simp)) (Stair.last rfl))))))) HB9.out
      · have HN:Hid (NamedP ⟨4,seq,name,length,group,row,rows,data,delta⟩):=fun h => by simp at h
        obtain ⟨t1,h1⟩:=exB (InP group 0 (s 0 + s 1 - 1));obtain ⟨t2,h2⟩:=exB (InP row 0 (s 4 - 1));obtain ⟨t3,h3⟩:=exB (RiseP rows.1 rows.2 (s 0 + s 1 - 1));obtain ⟨b4',h4⟩:∃ b,((data.1:Int) != s 2 * 4) = b:=⟨_,rfl⟩;obtain ⟨t5,h5⟩:=exB (WeightsP s ⟨4,seq,name,length,group,row,rows,data,delta⟩);have cG:=q_same (W:=W2) (fun w' => l1In_b h1 w');have cR:=q_same (W:=W2) (fun w' => l1In_b h2 w');have cA:=q_below (W:=W2) (fun w' _ => l5All_any s HOK.out w');have cW:=q_below (W:=W2) (fun w' _ => l4Wide_any s (by omega) (by omega) w');have cS:=q_below (W:=W2) (fun w' hw' => det_b (l2Rise_any _ rows.1 rows.2 hi (s 0 + s 1 - 1) w' ((H6.out.below HT2.out.bel hhi).below hw' (Nat.le_trans hhi HT2.out.bel.size))) h3);have cX:t1 = true → t3 = true → ∀ d os,Calls Tryz.prog 102 #[shapeV s,.agg #[.int .i64 4,.int .i64 seq,.string name,.int .i64 length,.int .i64 group,.int .i64 row,.slice ao6 rows.1 cap6,.slice ao7 data.1 cap7,.slice ao8 delta.1 cap8]] (Go.Sort.grow (redrawn W2 d) os) fun e w'' => e = .returned (.bool t5) ∧ ∃ p:Regrown,w'' = Go.Sort.grow (redrawn W2 p.d) p.os:=fun e1 e3 => q_below (W:=W2) (fun w' hw' => det_b (l5Weights_any s HOK.out ⟨4,seq,name,length,group,row,rows,data,delta⟩ _ hi w' (layRec.rd_below (layRec.rd_below HRD.out HT2.out.bel hhi) hw' (Nat.le_trans hhi HT2.out.bel.size)) (Nat.le_trans hhi (Nat.le_trans HT2.out.bel.size hw'.size)) (h1.1 e1) (h3.1 e3)) h5);unfold shapeV at cW cA cX
        have HE:Hid (KindP s ⟨4,seq,name,length,group,row,rows,data,delta⟩ ↔ (t1 = true ∧ t2 = true ∧ t3 = true ∧ b4' = false ∧ t5 = true)):=by
          show KindP s ⟨4,seq,name,length,group,row,rows,data,delta⟩ ↔ _
          rw [h1,h2,h3,← h4,h5];unfold KindP ShareP
          simp
        have hst:(t1 = false) ∨ (t1 = true ∧ t2 = false) ∨ (t1 = true ∧ t2 = true ∧ t3 = false) ∨ (t1 = true ∧ t2 = true ∧ t3 = true ∧ b4' = true) ∨ (t1 = true ∧ t2 = true ∧ t3 = true ∧ b4' = false ∧ t5 = false) ∨ (t1 = true ∧ t2 = true ∧ t3 = true ∧ b4' = false ∧ t5 = true):=by
          clear HE h1 h2 h3 h4 h5 cG cR cS cX
          cases t1 <;> simp
          cases t2 <;> simp
          cases t3 <;> simp
          cases b4' <;> simp
        clear h1 h2 h3 h5;go_wp2
        rcases hst with rfl | ⟨rfl,rfl⟩ | ⟨rfl,rfl,rfl⟩ | ⟨rfl,rfl,rfl,rfl⟩ | ⟨rfl,rfl,rfl,rfl,rfl⟩ | ⟨rfl,rfl,rfl,rfl,rfl⟩
        all_goals
          refine WQ.region (by kernel_rfl) (by kernel_rfl) ?_
          repeat (first | (apply WQ.skip;(case hw => rfl);intro K hK;go_simp;apply hK;clear hK K) | (apply WQ.want;(case hw => rfl);intro K hK;go_simp;first | (apply hK;clear hK K) | (apply Exists.intro;apply And.intro;(case left => intro p;(first | (go_at_call_of 49 (Value.int .i64 group);exact cG _ _) | (go_at_call_of 49 (Value.int .i64 row);exact cR _ _) | (go_at_call 100;exact cW _ _) | (go_at_call 59;exact cA _ _) | (go_at_call 101;exact cS _ _) | (go_at_call 102;exact cX rfl rfl _ _)));apply hK;clear hK K)))
          refine WQ.nil ?_;intro w3 hw3;have b3:=below_rg hw3;have X3:Box w3 w1.heap.size #[.int .i64 4,.int .i64 seq,.string name,.int .i64 length,.int .i64 group,.int .i64 row,.slice ao6 rows.1 cap6,.slice ao7 data.1 cap7,.slice ao8 delta.1 cap8] 81:=HX2.out.call b3;have HB3:Hid (Below w.heap.size w w3):=(HT2.out.call b3).bel;have z3_0:w3.cell? ⟨w1.heap.size,0,none⟩ = some (.int .i64 4):=X3.cell 0;have f3_0:w3.frozen? ⟨w1.heap.size,0,none⟩ = false:=X3.frozen 0;have z3_1:w3.cell? ⟨w1.heap.size,1,none⟩ = some (.int .i64 seq):=X3.cell 1;have f3_1:w3.frozen? ⟨w1.heap.size,1,none⟩ = false:=X3.frozen 1;have z3_2:w3.cell? ⟨w1.heap.size,2,none⟩ = some (.string name):=X3.cell 2;have f3_2:w3.frozen? ⟨w1.heap.size,2,none⟩ = false:=X3.frozen 2;have z3_3:w3.cell? ⟨w1.heap.size,3,none⟩ = some (.int .i64 length):=X3.cell 3;have f3_3:w3.frozen? ⟨w1.heap.size,3,none⟩ = false:=X3.frozen 3;have z3_4:w3.cell? ⟨w1.heap.size,4,none⟩ = some (.int .i64 group):=X3.cell 4;have f3_4:w3.frozen? ⟨w1.heap.size,4,none⟩ = false:=X3.frozen 4;have z3_5:w3.cell? ⟨w1.heap.size,5,none⟩ = some (.int .i64 row):=X3.cell 5;have f3_5:w3.frozen? ⟨w1.heap.size,5,none⟩ = false:=X3.frozen 5;have z3_6:w3.cell? ⟨w1.heap.size,6,none⟩ = some (.slice ao6 rows.1 cap6):=X3.cell 6;have f3_6:w3.frozen? ⟨w1.heap.size,6,none⟩ = false:=X3.frozen 6;have z3_7:w3.cell? ⟨w1.heap.size,7,none⟩ = some (.slice ao7 data.1 cap7):=X3.cell 7;have f3_7:w3.frozen? ⟨w1.heap.size,7,none⟩ = false:=X3.frozen 7;have z3_8:w3.cell? ⟨w1.heap.size,8,none⟩ = some (.slice ao8 delta.1 cap8):=X3.cell 8;have f3_8:w3.frozen? ⟨w1.heap.size,8,none⟩ = false:=X3.frozen 8;clear X3 b3;clear hw3 x2_0 kx2_0 y2_0 ky2_0 z2_0 f2_0 x2_1 kx2_1 y2_1 ky2_1 z2_1 f2_1 x2_2 kx2_2 y2_2 ky2_2 z2_2 f2_2 x2_3 kx2_3 y2_3 ky2_3 z2_3 f2_3 x2_4 kx2_4 y2_4 ky2_4 z2_4 f2_4 x2_5 kx2_5 y2_5 ky2_5 z2_5 f2_5 x2_6 kx2_6 y2_6 ky2_6 z2_6 f2_6 x2_7 kx2_7 y2_7 ky2_7 z2_7 f2_7 x2_8 kx2_8 y2_8 ky2_8 z2_8 f2_8
        · go_wp2
          go_ret;exact recP rfl (Stair.pass HOK.out (Stair.pass HK.out (Stair.pass HQ.out (Stair.pass HN.out (Stair.fall (fun h => by have:=HE.out.1 h;simp at this)))))) HB3.out
        · go_wp2
          go_ret;exact recP rfl (Stair.pass HOK.out (Stair.pass HK.out (Stair.pass HQ.out (Stair.pass HN.out (Stair.fall (fun h => by have:=HE.out.1 h;simp at this)))))) HB3.out
        · go_wp2
          go_ret;exact recP rfl (Stair.pass HOK.out (Stair.pass HK.out (Stair.pass HQ.out (Stair.pass HN.out (Stair.fall (fun h => by have:=HE.out.1 h;simp at this)))))) HB3.out
        · go_wp2
          go_ret;exact recP rfl (Stair.pass HOK.out (Stair.pass HK.out (Stair.pass HQ.out (Stair.pass HN.out (Stair.fall (fun h => by have:=HE.out.1 h;simp at this)))))) HB3.out
        · go_wp2
          go_ret;exact recP rfl (Stair.pass HOK.out (Stair.pass HK.out (Stair.pass HQ.out (Stair.pass HN.out (Stair.fall (fun h => by have:=HE.out.1 h;simp at this)))))) HB3.out
        · have HKP:Hid (KindP s ⟨4,seq,name,length,group,row,rows,data,delta⟩):=HE.out.2 (by simp)
          go_wp2_with fail
          refine (l5Empty_any _ _ _ _ _ _ _ _ _ _ _ _ _ _ _ _).mono ?_;rintro e w9 ⟨t9,rfl,ht9,b9⟩
          have HB9:Hid (Below w.heap.size w w9):=by
            show Below w.heap.size w w9
            refine Below.trans ?_ (b9.mono ?_)
            · repeat (refine below_set ?_ (by omega))
              exact HB3.out
            · simp
              exact HB3.out.size
          clear b9
          have HT9:Hid (t9 = true ↔ BlankP ⟨4,seq,name,length,group,row,rows,data,delta⟩):=by
            show t9 = true ↔ BlankP ⟨4,seq,name,length,group,row,rows,data,delta⟩
            rw [ht9];unfold EmptyQ BlankP noName
            simp [and_assoc]
            try (intros;rfl)
          clear ht9
          cases t9 with
          | false =>
            go_wp2;go_ret;exact recP rfl (Stair.pass HOK.out (Stair.pass HK.out (Stair.pass HQ.out (Stair.pass HN.out (Stair.pass HKP.out (Stair.fall (fun h => by have:=HT9.out.2 h;simp at this))))))) HB9.out
          | true =>
            go_wp2;go_ret;exact recP rfl (Stair.pass HOK.out (Stair.pass HK.out (Stair.pass HQ.out (Stair.pass HN.out (Stair.pass HKP.out (Stair.pass (HT9.out.1 (by simp)) (Stair.last rfl))))))) HB9.out
    · go_wp2_with fail
      refine (l1In_b (t:=false) (exBF hq) _).mono ?_;rintro e w' ⟨rfl,hw'⟩;obtain rfl:=hw'.symm;go_wp2;go_ret;exact recP rfl (Stair.pass HOK.out (Stair.pass hk (Stair.fall hq))) HT1.out.bel
  · go_wp2_with fail
    refine (l1In_b (t:=false) (exBF hk) _).mono ?_;rintro e w' ⟨rfl,hw'⟩;obtain rfl:=hw'.symm;go_wp2;go_ret;exact recP rfl (Stair.pass HOK.out (Stair.fall hk)) HT1.out.bel
end Go.Proofs.YtbjkjcfodljamaaGreat
namespace Go.Proofs.YtbjkjcfodljamaaGreat
open Go.RowKit F256
theorem stair_ex {K:Int → Prop} (hK:∃ x,K x):∀ l:List (Prop × Int),∃ x,Stair l K x
  | [] => hK
  | (p,c) :: l => by
    by_cases h:p
    · obtain ⟨x,hx⟩:=stair_ex hK l
      exact ⟨x,.inr ⟨h,hx⟩⟩
    · exact ⟨c,.inl ⟨h,rfl⟩⟩
theorem rec_det {s:Nat → Int} {d:RecD} {X:Int} {w:World} {f:Nat} {args:Array Value} (hX:RecAns s d X) (h:Calls Tryz.prog f args w (RecPost s d w)):Calls Tryz.prog f args w fun e w' => e = .returned (.int .i64 X) ∧ Below w.heap.size w w' :=
  h.mono fun e w' ⟨x,h1,h2,h3⟩ => ⟨by rw [h1,h2.one hX],h3⟩
def WldPost (d:WorldD) (w:World) (e:Ending) (w':World):Prop:=∃ x,e = .returned (.int .i64 x) ∧ WldAns d x ∧ Below w.heap.size w w'
theorem wldP {d:WorldD} {w:World} {e:Ending} {w':World} {x:Int} (he:e = .returned (.int .i64 x)) (h:WldAns d x) (hb:Below w.heap.size w w'):WldPost d w e w':=⟨x,he,h,hb⟩
def RcsPost (s:Nat → Int) (p:Nat × (Nat → TapeD)) (w:World) (e:Ending) (w':World):Prop:=∃ x,e = .returned (.int .i64 x) ∧ RecsAns s p.1 p.2 x ∧ Below w.heap.size w w'
theorem WQ.free {P:Program} {ops:Array Oper} {C:World → Prop} {Q:Act → Prop} {a:Act} {o:Oper} {rest:List Oper} (hw:o.guard = none)
    (h:∀ K:Act → Prop,(∀ a,WQ P ops C Q rest a → K a) → o.quiet P a C K):WQ P ops C Q (o :: rest) a:=WQ.want (by simp [Region.wanted,hw]) h
end Go.Proofs.YtbjkjcfodljamaaGreat
namespace Go.Proofs.YtbjkjcfodljamaaGreat
open Go.RowKit F256
theorem recs_row (s:Nat → Int) (y:Nat → RecD):∀ k,(∀ i,i < k → RecAns s (y i) 0) ∨ ∃ i c,i < k ∧ c ≠ 0 ∧ RecAns s (y i) c ∧ ∀ j,j < i → RecAns s (y j) 0
  | 0 => .inl (fun i hi => by omega)
  | k + 1 => by
    rcases recs_row s y k with h | ⟨i,c,h1,h2,h3,h4⟩
    · obtain ⟨X,hX⟩:∃ X,RecAns s (y k) X:=stair_ex (K:=isZ) ⟨0,rfl⟩ _
      by_cases hx:X = 0
      · subst hx
        exact .inl (fun i hi => by
          by_cases c:i = k
          · subst c;exact hX
          · exact h i (by omega))
      · exact .inr ⟨k,X,by omega,hx,hX,h⟩
    · exact .inr ⟨i,c,by omega,h2,h3,h4⟩
theorem recs_ex (s:Nat → Int) (x:Nat → TapeD):∀ n,∃ c,RecsAns s n x c
  | 0 => ⟨0,.inl ⟨rfl,fun t ht => by omega⟩⟩
  | n + 1 => by
    obtain ⟨c,hc⟩:=recs_ex s x n
    rcases hc with ⟨rfl,h⟩ | ⟨hc,t,i,ht,hi,hr,hb,hu⟩
    · rcases recs_row s (x n).recs.2 (x n).recs.1 with k | ⟨i,c,h1,h2,h3,h4⟩
      · exact ⟨0,.inl ⟨rfl,fun t ht => by
          by_cases c:t = n
          · subst c;exact k
          · exact h t (by omega)⟩⟩
      · exact ⟨c,.inr ⟨h2,n,i,by omega,h1,h3,h4,h⟩⟩
    · exact ⟨c,.inr ⟨hc,t,i,by omega,hi,hr,hb,hu⟩⟩
theorem world_ex (d:WorldD):∃ X,WldAns d X:=by
  unfold WldAns;refine stair_ex ?_ _;obtain ⟨c,hc⟩:=recs_ex d.shape d.tapes.2 d.tapes.1
  by_cases h:c = 0
  · subst h
    obtain ⟨x,hx⟩:=stair_ex (K:=isZ) ⟨0,rfl⟩ [(CleanP d,1),(CountP d,3)];exact ⟨x,.inr ⟨hc,hx⟩⟩
  · exact ⟨c,.inl ⟨h,hc⟩⟩
end Go.Proofs.YtbjkjcfodljamaaGreat
namespace Go.Proofs.YtbjkjcfodljamaaGreat
open Go.RowKit F256
structure ElInfo {α:Type} (E:Lay α) (T e:TypeId) (by_:Nat) (zs:List Value):Prop where
  hs:0 < E.sz
  hzs:zs.length = E.sz
  hu:Tryz.prog.underlying T = some (.slice e)
  hi:(Tryz.prog.info? e).map (fun i => (i.zero.map (·.cells),i.size,i.bytes)) = some (some zs.toArray,E.sz,by_)
  few:by_ ≤ 1000
def Gat {α:Type} (E:Lay α) (t:TypeId) (w:World) (lo:Nat) (v:Value) (n:Nat) (x:Nat → α):Prop:=∃ ce Ls,SlG E t w lo v n x ce Ls
section
variable {α:Type} {E:Lay α} {t:TypeId} {w w':World} {lo n:Nat} {v:Value} {x:Nat → α}
theorem Gat.form (h:Gat E t w lo v n x):∃ ao cap,v = .slice ao n cap:=by
  obtain ⟨ce,Ls,h⟩:=h
  rcases h.row.2 with ⟨hv,hn⟩ | ⟨g,cap,cur,rfl,_⟩
  · exact ⟨none,0,by rw [hv,hn]⟩
  · exact ⟨_,_,rfl⟩
theorem Gat.own (h:Gat E t w lo v n x):OwnT (E.slice t) w lo w.heap.size (n,x) [v]:=by
  obtain ⟨ce,Ls,h⟩:=h;exact h.own
theorem Gat.congr {y:Nat → α} (h:Gat E t w lo v n x) (hy:∀ i,i < n → x i = y i):Gat E t w lo v n y:=by
  obtain ⟨ce,Ls,h⟩:=h;exact ⟨ce,Ls,h.row,fun i hi => by rw [← hy i hi];exact h.each i hi,h.nd,h.low⟩
theorem gat_lit0 (x:Nat → α) (w:World):Gat E t (w.alloc (.cells #[] t)) w.heap.size (.slice (some ⟨w.heap.size,0,none⟩) 0 0) 0 x:=by
  have h:=World.ownsRow_lit (base:=w.heap.size) (e:=t) (size:=E.sz) w #[] 0 (Nat.le_refl _) (Nat.zero_le _) (by simp);exact ⟨fun _ => [],fun _ => [],by simpa [catN_zero] using h,fun i hi => by omega,by simp [Value.ownBlock,catN_zero],fun b hb => by rw [catN_zero] at hb;cases hb⟩
end
theorem cells_new (w:World) (cs:List Value) (t:TypeId) (j:Nat):(w.alloc (.cells cs.toArray t)).cell? ⟨w.heap.size,j,none⟩ = cs[j]?:=by
  simp
theorem run_appendN {α:Type} {E:Lay α} {T e:TypeId} {by_:Nat} {zs:List Value} (I:ElInfo E T e by_ zs) (ty:TypeId) {w1 w2 W:World} {lo n:Nat} {v:Value} {x:Nat → α} (hG:Gat E e w1 lo v n x)
    (hb:Below w1.heap.size w1 w2) {d:α} {cs:List Value} (ha:OwnT E w2 w1.heap.size w2.heap.size d cs) (hW:Below w2.heap.size w2 W) (b c:Nat) (hcell:∀ j,j < E.sz → W.cell? ⟨b,j,none⟩ = cs[j]?) (hlo:lo ≤ w1.heap.size) (hn:n ≤ 10000000) :
    ∃ v' w',(Builtin.append_ #[T,T] ty #[v,.slice (some ⟨b,0,none⟩) 1 c]).run Tryz.prog W = .ok v' w' ∧ Gat E e w' lo v' (n + 1) (upd x n d) ∧ Below lo w1 w':=by
  obtain ⟨hs,hzs,hu,hi,few⟩:=I
  obtain ⟨i0,hi0⟩:∃ i0,Tryz.prog.info? e = some i0:=by
    cases h:Tryz.prog.info? e with
    | none => rw [h] at hi;cases hi
    | some i0 => exact ⟨i0,rfl⟩
  rw [hi0] at hi
  simp only [Option.map_some,Option.some.injEq,Prod.mk.injEq] at hi
  obtain ⟨h1,h2,h3⟩:=hi
  obtain ⟨z,hz,hzc⟩:∃ z,i0.zero = some z ∧ z.cells = zs.toArray:=by
    cases h:i0.zero with
    | none => rw [h] at h1;cases h1
    | some z => rw [h] at h1;exact ⟨z,rfl,by simpa using h1⟩
  obtain ⟨ce,Ls,hG1⟩:=hG;have hbW:Below w1.heap.size w1 W:=hb.trans (hW.mono hb.size);have hG2:SlG E e W lo v n x ce Ls:=hG1.below hbW;obtain ⟨K,a1,a2,a3⟩:=ha;have ha':E.own W d cs K:=E.own_kept a1 (fun k hk => hW.block k (E.own_lt a1 k hk));have hcs:=E.own_len a1
  obtain ⟨v',w',hr,r1,r2,r3,r4⟩:=run_append_own_at (P:=Tryz.prog) W lo T ty e i0 z E.sz by_ hu hi0 hz h2 h3 (by rw [hzc];simpa using hzs) hs v n (catN n ce) hG2.row ⟨b,0,none⟩ 1 c cs (by rw [hcs,Nat.one_mul])
    (fun j u hj => by
      have hlt:j < cs.length:=(List.getElem?_eq_some_iff.1 hj).1;have:=hcell j (by omega);rw [hj] at this;rw [add_o]
      exact this) (E.own_one ha') (by unfold maxLen;omega) (by
        have:(n + 1) * by_ ≤ 10000001 * 1000:=Nat.mul_le_mul (by omega) few
        omega) (Nat.le_trans hlo hbW.size)
  refine ⟨v',w',hr,⟨_,_,hG2.grown ha' a2 (fun k hk => ?_) r1 r2 r4⟩,?_⟩
  · have h5:=(a3 k hk).1
    exact ⟨by omega,fun hh => by have:=hG1.mem_lt k hh;omega⟩
  · exact (hbW.mono hlo).grown r2 (Nat.le_trans hlo hbW.size) (fun k hk => (hG2.row.lt k hk).1)
theorem wp_appendN {α:Type} {E:Lay α} {T e:TypeId} {by_:Nat} {zs:List Value} (I:ElInfo E T e by_ zs) {w1 w2 W:World} {ops:Array Oper} {rest:List Oper} {o:Oper} {a:Act} {Q:Exit → Act → World → Prop}
    (hg:o.guard = none) (s y:Operand) (hop:o.op = Op.call { callee:=Callee.builtin Builtin.append,args:=#[s,y],argTypes:=#[T,T] })
    {lo n:Nat} {v:Value} {x:Nat → α} (hev:a.eval s = v) (hG:Gat E e w1 lo v n x)
    (hb:Below w1.heap.size w1 w2) {d:α} {cs:List Value} (ha:OwnT E w2 w1.heap.size w2.heap.size d cs) (hW:Below w2.heap.size w2 W) (b c:Nat) (hx:a.eval y = .slice (some ⟨b,0,none⟩) 1 c) (hcell:∀ j,j < E.sz → W.cell? ⟨b,j,none⟩ = cs[j]?) (hlo:lo ≤ w1.heap.size) (hn:n ≤ 10000000)
    (hK:∀ v' w',Gat E e w' lo v' (n + 1) (upd x n d) → Below lo w1 w' → wpList Tryz.prog ops Q rest (a.put o.dst v') w'):wpList Tryz.prog ops Q (o :: rest) a W:=by
  refine wpList_plain hg fun K hK' => ?_;obtain ⟨v',w',hrun,r1,r2⟩:=run_appendN I o.type hG hb ha hW b c hcell hlo hn;unfold Oper.wp
  simp [execOp,hop,resolve,invoke,builtin,hev,hx,hrun,Result.andThen]
  exact hK' _ _ (hK v' w' r1 r2)
end Go.Proofs.YtbjkjcfodljamaaGreat
namespace Go.Proofs.YtbjkjcfodljamaaGreat
open Go.RowKit F256
theorem ownB_T {w:World} {lo hi n:Nat} {v:Value} {f:Nat → Nat} (h:Own w lo hi v n f) (hh:hi ≤ w.heap.size) (kf:∀ i,f i < 256):OwnT layBytes w lo hi (n,f) [v]:=by
  refine ⟨v.ownBlock.toList,⟨v,rfl,rfl,h.weaken (Nat.zero_le _) hh,kf⟩,?_,fun b hb => ?_⟩
  · cases v.ownBlock <;> simp
  · have hb':v.ownBlock = some b:=by simpa using hb
    exact ⟨(h.1.lt b hb').1,h.2 b hb'⟩
end Go.Proofs.YtbjkjcfodljamaaGreat
namespace Go.Proofs.YtbjkjcfodljamaaGreat
open Go.RowKit F256
section
variable {α:Type} {E:Lay α} {t:TypeId} {w w1:World} {lo g cap n k:Nat} {x:Nat → α} {ce:Nat → List Value} {Ls:Nat → List Nat}
end
end Go.Proofs.YtbjkjcfodljamaaGreat
namespace Go.Proofs.YtbjkjcfodljamaaGreat
open Go.RowKit F256
def noRec:RecD:=⟨0,0,ByteArray.empty,0,0,0,(0,fun _ => 0),(0,fun _ => 0),(0,fun _ => 0)⟩
def zeroT:TapeD:=⟨false,(0,fun _ => noRec)⟩
theorem own_noSl {α:Type} {E:Lay α} {t:TypeId} (w:World) (x:Nat → α):(E.slice t).own w (0,x) [.slice none 0 0] []:=⟨_,fun _ => [],fun _ => [],rfl,rfl,World.ownsRow_nil w 0 t E.sz,fun i hi => by omega⟩
theorem ChgL.bel {K:List Nat} {w w':World} {B:Nat} (hc:ChgL K w w') (hK:∀ b,b ∈ K → B ≤ b) (hB:B ≤ w.heap.size):Below B w w':=⟨hc.os,hc.tape,hc.output,hc.size,fun k hk => hc.block k (by omega) (fun h => by have:=hK k h;omega)⟩
theorem OwnT.finb {α:Type} {A:Lay α} {w:World} {lo b:Nat} {a:α} {cs:List Value} (h:OwnT A w lo w.heap.size a cs) (hb:b < lo) {lo':Nat} (hl:lo' ≤ lo) (o:Nat) (l:List Value) (w':World) (e:w' = Go.Proofs.YtbjkjcfodljamaaGreat.stN w b o l):OwnT A w' lo' w'.heap.size a cs:=by
  subst e;exact (h.stN b o l hb).weaken hl (by rw [stN_size];exact Nat.le_refl _)
structure NewBx (cs:Array Value) (w1 wx:World) (P t:Nat):Prop where
  box:Box wx P cs 38
  tp:(layTape.slice 96).own wx (2,fun _ => zeroT) [.slice (some ⟨t,0,none⟩) 2 2] [t]
  p1:w1.heap.size ≤ P
  t1:w1.heap.size ≤ t
  ne:t ≠ P
  bel:Below w1.heap.size w1 wx
end Go.Proofs.YtbjkjcfodljamaaGreat
namespace Go.Proofs.YtbjkjcfodljamaaGreat
open Go.RowKit F256
theorem mark_T {α:Type} {A:Lay α} {c:α → Nat} {mk:Nat → α → α} {fn:Nat} (hm:MkV A c mk fn) {w:World} {lo hi:Nat} {d:α} {cs:List Value} (h:OwnT A w lo hi d cs) (j:Nat) (hj:j + c d ≤ 100000000) :
    Calls Tryz.prog fn #[.agg cs.toArray,.int .i64 j] w fun e w' => e = .returned (.int .i64 ((j + c d:Nat):Int)) ∧ OwnT A w' lo hi (mk j d) cs ∧ Chg lo hi w w':=by
  obtain ⟨L,h1,h2,h3⟩:=h;exact (hm cs d L j w h1 h2 hj).mono fun e w' ⟨he,ho,hc⟩ => ⟨he,⟨L,ho,h2,h3⟩,hc.chg h3⟩
theorem Chg.bel {lo hi B:Nat} {w w':World} (h:Chg lo hi w w') (hl:B ≤ lo) (hB:B ≤ w.heap.size):Below B w w':=⟨h.os,h.tape,h.output,h.size,fun k hk => h.block k (by omega) (.inl (by omega))⟩
theorem sumN_mono2 {f g:Nat → Nat}:∀ {n:Nat},(∀ i,i < n → f i ≤ g i) → sumN f n ≤ sumN g n
  | 0,_ => Nat.le_refl _
  | n + 1,h => by
    rw [sumN_succ,sumN_succ];exact Nat.add_le_add (sumN_mono2 (fun i hi => h i (by omega))) (h n (by omega))
theorem sumN_const (c:Nat):∀ n:Nat,sumN (fun _ => c) n = n * c
  | 0 => by simp [sumN]
  | n + 1 => by rw [sumN_succ,sumN_const c n,Nat.succ_mul]
theorem sumN_plus (f:Nat → Nat) (c k:Nat):∀ n:Nat,sumN (fun i => c + k * f i) n = n * c + k * sumN f n
  | 0 => by simp [sumN]
  | n + 1 => by rw [sumN_succ,sumN_plus f c k n,sumN_succ,Nat.succ_mul,Nat.mul_add];omega
theorem cSl_le {α:Type} {c s:α → Nat} {k:Nat} (h:∀ a,c a ≤ k + k * s a) (p:Nat × (Nat → α)):cSl c p ≤ k * szSl s p:=by
  unfold cSl szSl;have h1:sumN (fun i => c (p.2 i)) p.1 ≤ sumN (fun i => k + k * s (p.2 i)) p.1:=sumN_mono2 (fun i _ => h (p.2 i));rw [sumN_plus (fun i => s (p.2 i)) k k p.1] at h1;rw [Nat.mul_add];have:p.1 * k = k * p.1:=Nat.mul_comm _ _;omega
theorem cBlock_le (d:BlockD):cBlockD d ≤ 6 + 6 * szBlockD d:=by unfold cBlockD szBlockD;omega
theorem cDrive_le (d:DriveD):cDriveD d ≤ 6 + 6 * szDriveD d:=by
  have:=cSl_le (k:=6) cBlock_le d.blocks;unfold cDriveD szDriveD;omega
theorem cRec_le (d:RecD):cRecD d ≤ 6 + 6 * szRecD d:=by unfold cRecD szRecD;omega
theorem cTape_le (d:TapeD):cTapeD d ≤ 6 + 6 * szTapeD d:=by
  have:=cSl_le (k:=6) cRec_le d.recs;unfold cTapeD szTapeD;omega
theorem cvWorld_le (d:WorldD):cvWorldD d ≤ 6 * szWorldD d:=by
  have h1:=cSl_le (c:=cSl cDriveD) (s:=szSl szDriveD) (k:=6) (fun p => Nat.le_trans (cSl_le (k:=6) cDrive_le p) (by omega)) d.groups;have h3:=cSl_le (k:=6) cTape_le d.tapes;unfold cvWorldD szWorldD;omega
end Go.Proofs.YtbjkjcfodljamaaGreat
namespace Go.Proofs.YtbjkjcfodljamaaGreat
open Go.RowKit F256
theorem OwnT.one {α:Type} {A:Lay α} {w:World} {lo hi:Nat} {a:α} {cs:List Value} (h:OwnT A w lo hi a cs):∀ v,v ∈ cs → v.oneCell' = true:=by
  obtain ⟨L,h1,_⟩:=h;exact fun v hv => A.own_one h1 v hv
theorem wp_allocStore {ops:Array Oper} {rest:List Oper} {o1 o2:Oper} {a:Act} {w:World} {Q:Exit → Act → World → Prop} (T:TypeId) (k:Nat) (x:Operand) (cs:List Value) (zs:Array Value) (n:Nat)
    (hop1:o1.op = Op.alloc T) (hop2:o2.op = Op.store T (.tmp k) x) (hg1:o1.guard = none) (hg2:o2.guard = none) (hd1:o1.dst = some k) (hd2:o2.dst = none)
    (hp:(a.put (some k) (.pointer (some ⟨w.heap.size,0,none⟩))).eval (.tmp k) = .pointer (some ⟨w.heap.size,0,none⟩)) (hx:(a.put (some k) (.pointer (some ⟨w.heap.size,0,none⟩))).eval x = .agg cs.toArray)
    (hi:(Tryz.prog.info? T).map (fun i => (i.zero.map (·.cells),i.size)) = some (some zs,n)) (hz:zs.size = n) (hl:cs.length = n) (h1:∀ v,v ∈ cs → v.oneCell' = true)
    (h:wpList Tryz.prog ops Q rest (a.put (some k) (.pointer (some ⟨w.heap.size,0,none⟩))) (w.alloc (.cells cs.toArray T))):wpList Tryz.prog ops Q (o1 :: o2 :: rest) a w:=by
  obtain ⟨i0,hi0⟩:∃ i0,Tryz.prog.info? T = some i0:=by
    cases h:Tryz.prog.info? T with
    | none => rw [h] at hi;cases hi
    | some i0 => exact ⟨i0,rfl⟩
  rw [hi0] at hi
  simp only [Option.map_some,Option.some.injEq,Prod.mk.injEq] at hi
  obtain ⟨h2,h3⟩:=hi
  obtain ⟨z,hzz,hzc⟩:∃ z,i0.zero = some z ∧ z.cells = zs:=by
    cases h:i0.zero with
    | none => rw [h] at h2;cases h2
    | some z => rw [h] at h2;exact ⟨z,rfl,by simpa using h2⟩
  have hr:(Instr.alloc T true (.tuple #[])).run Tryz.prog w = .ok (.pointer (some ⟨w.heap.size,0,none⟩)) (w.alloc (.cells zs T)):=by
    simp [Instr.alloc,zeroValue,typeInfo,hi0,hzz,hzc,newVar,newRow]
  have hw:(w.alloc (.cells zs T)).setRow w.heap.size cs.toArray = w.alloc (.cells cs.toArray T):=by
    have hh:((w.alloc (.cells zs T)).setRow w.heap.size cs.toArray).heap = w.heap.push (.cells cs.toArray T):=by
      apply Array.ext_getElem?
      intro i
      by_cases c:i = w.heap.size
      · subst c
        rw [setRow_heap (w.alloc (.cells zs T)) w.heap.size zs cs.toArray T (0,0) (box_new w zs T),Array.getElem?_push,if_pos rfl]
      · rw [setRow_other _ _ _ _ c,Array.getElem?_push,if_neg c]
        show (w.heap.push _)[i]? = _
        rw [Array.getElem?_push,if_neg c]
    show ({ w with heap:=((w.alloc (.cells zs T)).setRow w.heap.size cs.toArray).heap }:World) = _
    rw [hh];rfl
  refine wpList_plain hg1 fun K hK => ?_;unfold Oper.wp execOp
  simp only [hop1,Sem.run_bind,hr,Result.andThen_ok]
  refine hK _ _ ?_;rw [hd1];refine wpList_store_row hg2 T (.tmp k) x hop2 w.heap.size cs.toArray hp hx T zs (box_new w zs T) (by rw [hi0];simp [h3,hl]) (by simp [hz,hl]) (by simp;exact h1) ?_;rw [hw,hd2];exact h
theorem wp_loadBox {ops:Array Oper} {rest:List Oper} {o:Oper} {a:Act} {w:World} {Q:Exit → Act → World → Prop} (T:TypeId) (x:Operand) (ho:o.op = .load T x) (hgd:o.guard = none) (b:Nat) (hx:a.eval x = .pointer (some ⟨b,0,none⟩)) {cs:List Value} (hB:Box w b cs.toArray T) {fs:Array Field} (hu:Tryz.prog.underlying T = some (.struct fs)) {n:Nat} (hi:(Tryz.prog.info? T).map (·.size) = some n) (hl:cs.length = n)
    (h:wpList Tryz.prog ops Q rest (a.put o.dst (.agg cs.toArray)) w):wpList Tryz.prog ops Q (o :: rest) a w :=
  wpList_load_row hgd T x ho b hx T cs.toArray (0,0) (.struct fs) hB hu rfl (by rw [hi];simp [hl]) h
theorem size_W:(Tryz.prog.info? 38).map (·.size) = some 15:=by kernel_rfl
theorem size_LW:(Tryz.prog.info? 28).map (·.size) = some 15:=by kernel_rfl
theorem info_W:(Tryz.prog.info? 38).map (fun i => (i.zero.map (·.cells),i.size)) = some (some #[.int .i64 0,.int .i64 0,.int .i64 0,.int .i64 0,.int .i64 0,.int .i64 0,.int .i64 0,.int .i64 0,.int .i64 0,.slice none 0 0,.slice none 0 0,.slice none 0 0,.int .i64 0,.int .i64 0,.bool false],15):=by kernel_rfl
end Go.Proofs.YtbjkjcfodljamaaGreat
namespace Go.Proofs.YtbjkjcfodljamaaGreat
open Go.RowKit Go.Maps Go.Sort Go.Shelf
def itKeys_ren:Go.Shelf.Ren:=⟨fun | 7 => 81 | 10 => 121 | n => n,fun | 23 => 109 | 26 => 9 | 3 => 129 | 28 => 124 | 0 => 0 | 27 => 123 | 33 => 167 | 4 => 4 | n => n,fun | n => n⟩
theorem itKeys:Go.Proofs.SlLaysZ.n7 Tryz.prog itKeys_ren:={
  mixed:=by kernel_rfl
  f7:=⟨Tryz.f81.name,by decide,Tryz.func81.trans (congrArg some (by kernel_rfl))⟩
  f10:=⟨Tryz.f121.name,by decide,Tryz.func121.trans (congrArg some (by kernel_rfl))⟩
  t0:=Tryz.underlying0
  a0:=Tryz.isAgg0
  z0:=Tryz.sizeOf0
  v0:=Tryz.zeroValue0
  t4:=Tryz.underlying4
  a4:=Tryz.isAgg4
  z4:=Tryz.sizeOf4
  v4:=Tryz.zeroValue4
  t23:=Tryz.underlying109
  a23:=Tryz.isAgg109
  z23:=Tryz.sizeOf109
  v23:=Tryz.zeroValue109
  t26:=Tryz.underlying9
  a26:=Tryz.isAgg9
  z26:=Tryz.sizeOf9
  v26:=Tryz.zeroValue9
  t27:=Tryz.underlying123
  a27:=Tryz.isAgg123
  z27:=Tryz.sizeOf123
  v27:=Tryz.zeroValue123
  t28:=Tryz.underlying124
  a28:=Tryz.isAgg124
  z28:=Tryz.sizeOf124
  v28:=Tryz.zeroValue124
  t33:=Tryz.underlying167
  a33:=Tryz.isAgg167
  z33:=Tryz.sizeOf167
  v33:=Tryz.zeroValue167 }
def itSorted_ren:Go.Shelf.Ren:=⟨fun | 6 => 80 | 8 => 119 | 9 => 120 | 11 => 147 | 13 => 149 | 12 => 148 | 23 => 177 | 24 => 178 | 14 => 168 | 15 => 169 | 16 => 170 | 17 => 171 | 18 => 172 | 19 => 173 | 20 => 174 | 21 => 175 | 22 => 176 | 25 => 184 | 26 => 185 | 27 => 186 | 28 => 187 | 29 => 188 | 30 => 189 | 31 => 191 | n => n,fun | 26 => 9 | 28 => 124 | 24 => 121 | 0 => 0 | 3 => 3 | 37 => 188 | 48 => 210 | 50 => 212 | 4 => 4 | 40 => 202 | 39 => 201 | 45 => 207 | 5 => 5 | 9 => 9 | 51 => 215 | 55 => 219 | 57 => 221 | 58 => 222 | 33 => 167 | n => n,fun | n => n⟩
theorem itSorted:Go.Proofs.SlLaysZ.n6 Tryz.prog itSorted_ren:={
  mixed:=by kernel_rfl
  f6:=⟨Tryz.f80.name,by decide,Tryz.func80.trans (congrArg some (by kernel_rfl))⟩
  f8:=⟨Tryz.f119.name,by decide,Tryz.func119.trans (congrArg some (by kernel_rfl))⟩
  f11:=⟨Tryz.f147.name,by decide,Tryz.func147.trans (congrArg some (by kernel_rfl))⟩
  t0:=Tryz.underlying0
  a0:=Tryz.isAgg0
  z0:=Tryz.sizeOf0
  v0:=Tryz.zeroValue0
  t24:=Tryz.underlying121
  a24:=Tryz.isAgg121
  z24:=Tryz.sizeOf121
  v24:=Tryz.zeroValue121
  t26:=Tryz.underlying9
  a26:=Tryz.isAgg9
  z26:=Tryz.sizeOf9
  v26:=Tryz.zeroValue9
  t28:=Tryz.underlying124
  a28:=Tryz.isAgg124
  z28:=Tryz.sizeOf124
  v28:=Tryz.zeroValue124
  i26:=by kernel_rfl }
def itSort_ren:Go.Shelf.Ren:=⟨fun | 6 => 120 | 8 => 149 | 9 => 148 | 19 => 177 | 20 => 178 | 21 => 168 | 22 => 169 | 23 => 170 | 24 => 171 | 25 => 172 | 26 => 173 | 27 => 174 | 28 => 175 | 29 => 176 | 36 => 184 | 31 => 185 | 32 => 186 | 37 => 187 | 38 => 188 | 39 => 189 | 41 => 191 | n => n,fun | 27 => 121 | 29 => 9 | 3 => 3 | 32 => 188 | 26 => 121 | 0 => 0 | 44 => 210 | 46 => 212 | 4 => 4 | 36 => 202 | 35 => 201 | 41 => 207 | 5 => 5 | 9 => 9 | 53 => 215 | 57 => 219 | 63 => 221 | 64 => 222 | n => n,fun | n => n⟩
theorem itSort:Go.Proofs.SlLaysM.n6 Tryz.prog itSort_ren:={
  mixed:=by kernel_rfl
  f6:=⟨Tryz.f120.name,by decide,Tryz.func120.trans (congrArg some (by kernel_rfl))⟩
  f8:=Tryz.func149.trans (congrArg some (by kernel_rfl))
  f9:=⟨Tryz.f148.name,by decide,Tryz.func148.trans (congrArg some (by kernel_rfl))⟩
  f19:=Tryz.func177.trans (congrArg some (by kernel_rfl))
  f20:=Tryz.func178.trans (congrArg some (by kernel_rfl))
  f21:=⟨Tryz.f168.name,by decide,Tryz.func168.trans (congrArg some (by kernel_rfl))⟩
  f22:=⟨Tryz.f169.name,by decide,Tryz.func169.trans (congrArg some (by kernel_rfl))⟩
  f23:=⟨Tryz.f170.name,by decide,Tryz.func170.trans (congrArg some (by kernel_rfl))⟩
  f24:=⟨Tryz.f171.name,by decide,Tryz.func171.trans (congrArg some (by kernel_rfl))⟩
  f25:=⟨Tryz.f172.name,by decide,Tryz.func172.trans (congrArg some (by kernel_rfl))⟩
  f26:=⟨Tryz.f173.name,by decide,Tryz.func173.trans (congrArg some (by kernel_rfl))⟩
  f27:=⟨Tryz.f174.name,by decide,Tryz.func174.trans (congrArg some (by kernel_rfl))⟩
  f28:=⟨Tryz.f175.name,by decide,Tryz.func175.trans (congrArg some (by kernel_rfl))⟩
  f29:=⟨Tryz.f176.name,by decide,Tryz.func176.trans (congrArg some (by kernel_rfl))⟩
  f31:=Tryz.func185.trans (congrArg some (by kernel_rfl))
  f32:=Tryz.func186.trans (congrArg some (by kernel_rfl))
  f36:=⟨Tryz.f184.name,by decide,Tryz.func184.trans (congrArg some (by kernel_rfl))⟩
  f37:=⟨Tryz.f187.name,by decide,Tryz.func187.trans (congrArg some (by kernel_rfl))⟩
  f38:=⟨Tryz.f188.name,by decide,Tryz.func188.trans (congrArg some (by kernel_rfl))⟩
  f39:=⟨Tryz.f189.name,by decide,Tryz.func189.trans (congrArg some (by kernel_rfl))⟩
  f41:=⟨Tryz.f191.name,by decide,Tryz.func191.trans (congrArg some (by kernel_rfl))⟩
  t0:=Tryz.underlying0
  a0:=Tryz.isAgg0
  z0:=Tryz.sizeOf0
  v0:=Tryz.zeroValue0
  t3:=Tryz.underlying3
  a3:=Tryz.isAgg3
  z3:=Tryz.sizeOf3
  v3:=Tryz.zeroValue3
  t4:=Tryz.underlying4
  a4:=Tryz.isAgg4
  z4:=Tryz.sizeOf4
  v4:=Tryz.zeroValue4
  t5:=Tryz.underlying5
  a5:=Tryz.isAgg5
  z5:=Tryz.sizeOf5
  v5:=Tryz.zeroValue5
  t9:=Tryz.underlying9
  a9:=Tryz.isAgg9
  z9:=Tryz.sizeOf9
  v9:=Tryz.zeroValue9
  t26:=Tryz.underlying121
  a26:=Tryz.isAgg121
  z26:=Tryz.sizeOf121
  v26:=Tryz.zeroValue121
  t27:=Tryz.underlying121
  a27:=Tryz.isAgg121
  z27:=Tryz.sizeOf121
  v27:=Tryz.zeroValue121
  t29:=Tryz.underlying9
  a29:=Tryz.isAgg9
  z29:=Tryz.sizeOf9
  v29:=Tryz.zeroValue9
  t32:=Tryz.underlying188
  a32:=Tryz.isAgg188
  z32:=Tryz.sizeOf188
  v32:=Tryz.zeroValue188
  t35:=Tryz.underlying201
  a35:=Tryz.isAgg201
  z35:=Tryz.sizeOf201
  v35:=Tryz.zeroValue201
  t36:=Tryz.underlying202
  a36:=Tryz.isAgg202
  z36:=Tryz.sizeOf202
  v36:=Tryz.zeroValue202
  t41:=Tryz.underlying207
  a41:=Tryz.isAgg207
  z41:=Tryz.sizeOf207
  v41:=Tryz.zeroValue207
  t44:=Tryz.underlying210
  a44:=Tryz.isAgg210
  z44:=Tryz.sizeOf210
  v44:=Tryz.zeroValue210
  t46:=Tryz.underlying212
  a46:=Tryz.isAgg212
  z46:=Tryz.sizeOf212
  v46:=Tryz.zeroValue212
  t53:=Tryz.underlying215
  a53:=Tryz.isAgg215
  z53:=Tryz.sizeOf215
  v53:=Tryz.zeroValue215
  t57:=Tryz.underlying219
  a57:=Tryz.isAgg219
  z57:=Tryz.sizeOf219
  v57:=Tryz.zeroValue219
  t63:=Tryz.underlying221
  a63:=Tryz.isAgg221
  z63:=Tryz.sizeOf221
  v63:=Tryz.zeroValue221
  t64:=Tryz.underlying222
  a64:=Tryz.isAgg222
  z64:=Tryz.sizeOf222
  v64:=Tryz.zeroValue222 }
theorem itSorts (m:Nat):AnyZ.SortsIn Tryz.prog itSorted_ren Fence.wide m :=
  ⟨fun blk off cap ss W hH hblk hsz => callsIn_wide.2 (AnyM.slices_Sort_string itSort blk off cap ss W hH hblk hsz),
   fun p cap W => callsIn_wide.2 (AnyM.slices_Sort_string_none itSort p cap W)⟩
theorem itMapsKeys (mb:Option Nat) (W:World):CallsIn Fence.wide 5 Tryz.prog 81 #[.map mb] W fun e w' => e = .returned (.func (.func 121) #[] #[.pointer (some ⟨W.heap.size,0,none⟩)]) ∧ w' = W.alloc (.cells #[.map mb] 109) :=
  AnyZ.keys_in itKeys Fence.wide 5 trivial rfl mb W
set_option maxHeartbeats 1000000 in
theorem itSortedKeys {H:Type} (b nn:Nat) (D0:DataW H) (R:Value → Option (DataW H × List MemPlace)) (w:World) (hown:w.ownsMap Tryz.prog 9 R b nn D0) (hmax:Maps.size D0 ≤ maxLen) (hbytes:Maps.size D0 * 16 ≤ 140737488355328) :
    CallsIn Fence.wide 5 Tryz.prog 80 #[.func (.func 121) #[] #[.pointer (some ⟨w.heap.size,0,none⟩)]] (w.alloc (.cells #[.map (some b)] 109)) fun e w' => ∃ (v:Value) (ss:List (List UInt8)),e = .returned v ∧ ss.Perm (strKeys D0) ∧
      w'.ownsRow (w.alloc (.cells #[.map (some b)] 109)).heap.size 9 1 v ss.length ((ss.mergeSort (fun x y => decide (x ≤ y))).map encStr) ∧ (v = .slice none 0 0 ↔ ss = []) ∧ Below (w.alloc (.cells #[.map (some b)] 109)).heap.size (w.alloc (.cells #[.map (some b)] 109)) w':=by
  have hbl:=hown.lt
  have hseq:SeqGives Fence.wide 2 Tryz.prog 121 #[.pointer (some ⟨w.heap.size,0,none⟩)] encStr (fun ss => ss.Perm (strKeys D0)) (Maps.size D0) (w.alloc (.cells #[.map (some b)] 109)) :=
    AnyZ.keys_gives (ρ:=itKeys_ren) { itKeys with } Fence.wide _ trivial rfl (by omega) w.heap.size b nn D0 _ (by simp) (by simp) (by
      obtain ⟨es,clock,hb,Ft,hs,hD⟩:=hown
      exact ⟨es,clock,(Below.heap_alloc _ _ b hbl).trans hb,Ft,hs,hD⟩)
  exact AnyZ.sorted_in itSorted Fence.wide 5 trivial trivial trivial trivial rfl (by omega) (itSorts _) (enters_of Tryz.func120 (by kernel_rfl) rfl) 121 #[.pointer (some ⟨w.heap.size,0,none⟩)] trivial (enters_of Tryz.func121 (by kernel_rfl) rfl) _ _ hmax hbytes _ hseq
end Go.Proofs.YtbjkjcfodljamaaGreat
namespace Go.Proofs.YtbjkjcfodljamaaGreat
open Go.RowKit F256
open Go.Maps (Keyed)
def heldR (v:Value):Option (DataW Value × List MemPlace):=some (.held v,[])
def MapV (w:World) (k:TypeId) (b n:Nat) (f:Value → Option Value):Prop :=
  ∃ D,w.ownsMap Tryz.prog k heldR b n D ∧ ∀ x l,keyOf Tryz.prog k x = some l → Maps.has D l = (f x).isSome ∧ ∀ z,D.atKey l (.held z) = .held ((f x).getD z)
open Classical in
noncomputable def putF (f:Value → Option Value) (x v:Value):Value → Option Value:=fun y => if y = x then some v else f y
theorem putF_same (f:Value → Option Value) (x v:Value):putF f x v x = some v:=by unfold putF;rw [if_pos rfl]
theorem putF_other (f:Value → Option Value) {x y:Value} (v:Value) (h:y ≠ x):putF f x v y = f y:=by unfold putF;rw [if_neg h]
section
variable {w w':World} {k t e:TypeId} {b n:Nat} {f:Value → Option Value}
theorem mapV_made (w:World) (k:TypeId):MapV (w.alloc (.map #[] 0)) k w.heap.size 0 (fun _ => none) :=
  ⟨.map [],World.ownsMap_made w Tryz.prog k heldR,fun x l hx => ⟨by simp [Maps.has],fun z => by simp [DataW.atKey]⟩⟩
theorem MapV.lt (h:MapV w k b n f):b < w.heap.size:=by
  obtain ⟨D,h1,_⟩:=h;exact h1.lt
theorem MapV.mono (h:MapV w k b n f) {m:Nat} (hm:n ≤ m):MapV w k b m f:=by
  obtain ⟨D,h1,h2⟩:=h;exact ⟨D,h1.mono hm,h2⟩
theorem MapV.block (h:MapV w k b n f) (hb:w'.heap[b]? = w.heap[b]?):MapV w' k b n f:=by
  obtain ⟨D,⟨es,clock,h1,h3⟩,h2⟩:=h;exact ⟨D,⟨es,clock,hb.trans h1,h3⟩,h2⟩
theorem MapV.look (h:MapV w k b n f) (K:Keyed Tryz.prog k) (ht:Tryz.prog.underlying t = some (.map k e)) {z:Value} (hz:(zeroValue e).run Tryz.prog w = .ok z w) {x:Value} {l:Lit} (hx:keyOf Tryz.prog k x = some l) :
    (Instr.lookup t (.map (some b)) x false).run Tryz.prog w = .ok ((f x).getD z) w:=by
  obtain ⟨D,h1,h2⟩:=h;obtain ⟨v,ps,h3,h4⟩:=h1.lookup K ht hz (zd:=.held z) (zp:=[]) rfl hx;rw [(h2 x l hx).2 z] at h4;unfold heldR at h4
  simp only [Option.some.injEq,Prod.mk.injEq,DataW.held.injEq] at h4
  rw [h3,h4.1]
theorem mapV_put {D:DataW Value} (K:Keyed Tryz.prog k) (hD:Maps.IsMap D) {x v:Value} {l:Lit} (hx:keyOf Tryz.prog k x = some l) (h2:∀ x l,keyOf Tryz.prog k x = some l → Maps.has D l = (f x).isSome ∧ ∀ z,D.atKey l (.held z) = .held ((f x).getD z)) :
    ∀ y m,keyOf Tryz.prog k y = some m → Maps.has (D.put l (.held v)) m = (putF f x v y).isSome ∧ ∀ z,(D.put l (.held v)).atKey m (.held z) = .held ((putF f x v y).getD z):=by
  intro y m hy
  by_cases c:y = x
  · subst c
    rw [hx] at hy
    cases hy
    rw [putF_same];exact ⟨Maps.has_put_same hD (K.key hx) _,fun z => Maps.atKey_put_same hD (K.key hx) _ _⟩
  · have hne:m ≠ l:=fun e => c (K.inj hy (by rw [e];exact hx))
    rw [putF_other f v c];exact ⟨(Maps.has_put_other hne _).trans (h2 y m hy).1,fun z => (Maps.atKey_put_other hne _ _).trans ((h2 y m hy).2 z)⟩
theorem MapV.put (h:MapV w k b n f) (K:Keyed Tryz.prog k) (ht:Tryz.prog.underlying t = some (.map k e)) (hn:n < maxLen) {x:Value} {l:Lit} (hx:keyOf Tryz.prog k x = some l) (v:Value) :
    ∃ w',(Instr.mapUpdate t (.map (some b)) x v).run Tryz.prog w = .ok () w' ∧ MapV w' k b (n + 1) (putF f x v) ∧ w.grownBy w' (some b) ∧ w'.heap.size = w.heap.size:=by
  obtain ⟨D,h1,h2⟩:=h;obtain ⟨w',h3,h4,h5⟩:=h1.store K ht hn hx (val:=v) (d:=.held v) (ps:=[]) rfl;refine ⟨w',h3,⟨_,h4,mapV_put K h1.isMap hx h2⟩,h5.grown,?_⟩;obtain ⟨es,clock,es',clock',_,rfl⟩:=h5
  simp [ChangeMaps.setBlock]
theorem entry_all {es:Array MapEntry} {clock:Nat} (K:WideMaps.KeyLaw Tryz.prog k) (ht:Tryz.prog.underlying t = some (.map k e)) {z:Value} (hz:∀ u:World,(zeroValue e).run Tryz.prog u = .ok z u) (hb:w.heap[b]? = some (.map es clock)) (F:WideElems.Fit Tryz.prog k heldR es clock)
    {x:Value} {l:Lit} (hx:keyOf Tryz.prog k x = some l) :
    ∃ (v0:Value) (st:Nat) (es1:Array MapEntry) (clock1:Nat),(Instr.mapEntry t (.map (some b)) x).run Tryz.prog w = .ok (.tuple #[v0,goInt st]) (ChangeMaps.setBlock w b (.map es1 clock1)) ∧
      (Instr.lookup t (.map (some b)) x false).run Tryz.prog w = .ok v0 w ∧ (Instr.mapUpdate t (.map (some b)) x v0).run Tryz.prog w = .ok () (ChangeMaps.setBlock w b (.map es1 clock1)):=by
  rcases K.find w hx es.toList F.keys with ⟨h1,h2⟩ | ⟨j,e0,h1,h2,h3⟩
  · refine ⟨z,clock,es.push ⟨x,z,clock⟩,clock + 1,?_,?_,?_⟩
    · simp [Instr.mapEntry,run_underlying ht,MapKept.run_getObj_map hb,K.check w false hx,h1,hz,MapKept.run_setObj_map _ hb,Result.andThen,ChangeMaps.setBlock]
    · simp [Instr.lookup,run_underlying ht,MapKept.run_getObj_map hb,K.check w _ hx,h1,hz,Result.andThen]
    · simp [Instr.mapUpdate,run_underlying ht,MapKept.run_getObj_map hb,K.check w false hx,h1,MapKept.run_setObj_map _ hb,Result.andThen,ChangeMaps.setBlock]
  · have hj:es[j]? = some e0:=by simpa using h2
    have hs1:es.modify j (fun e => { e with key:=x }) = es:=by
      apply Array.ext'
      rw [Array.toList_modify,ChangeMaps.modify_eq_set _ _ _ _ h2]
      have:({ e0 with key:=x }:MapEntry) = e0:=by rw [← h3]
      rw [this];exact WideElems.set_self _ _ _ h2
    have hs2:es.modify j (fun e => { e with key:=x,val:=e0.val }) = es:=by
      apply Array.ext'
      rw [Array.toList_modify,ChangeMaps.modify_eq_set _ _ _ _ h2]
      have:({ e0 with key:=x,val:=e0.val }:MapEntry) = e0:=by rw [← h3]
      rw [this];exact WideElems.set_self _ _ _ h2
    refine ⟨e0.val,e0.born,es,clock,?_,?_,?_⟩
    · simp [Instr.mapEntry,run_underlying ht,MapKept.run_getObj_map hb,K.check w false hx,h1,hj,h3,K.stays w hx,hs1,MapKept.run_setObj_map _ hb,Result.andThen,ChangeMaps.setBlock]
    · simp [Instr.lookup,run_underlying ht,MapKept.run_getObj_map hb,K.check w _ hx,h1,Result.andThen]
    · simp [Instr.mapUpdate,run_underlying ht,MapKept.run_getObj_map hb,K.check w false hx,h1,hj,h3,K.stays w hx,hs2,MapKept.run_setObj_map _ hb,Result.andThen,ChangeMaps.setBlock]
theorem MapV.entry (h:MapV w k b n f) (K:WideMaps.KeyLaw Tryz.prog k) (ht:Tryz.prog.underlying t = some (.map k e)) (hn:n < maxLen) {z:Value} (hz:∀ u:World,(zeroValue e).run Tryz.prog u = .ok z u) {x:Value} {l:Lit} (hx:keyOf Tryz.prog k x = some l) :
    ∃ st w1,(Instr.mapEntry t (.map (some b)) x).run Tryz.prog w = .ok (.tuple #[(f x).getD z,.int .i64 st]) w1 ∧ w1.heap.size = w.heap.size ∧ w.grownBy w1 (some b) ∧ (Instr.lookup t (.map (some b)) x false).run Tryz.prog w1 = .ok ((f x).getD z) w1 ∧
      ∀ v,∃ w',(Instr.entryStore t (.map (some b)) (.int .i64 st) v).run Tryz.prog w1 = .ok () w' ∧ MapV w' k b (n + 1) (putF f x v) ∧ w.grownBy w' (some b) ∧ w'.heap.size = w.heap.size:=by
  have KK:=Keyed.of_law K;have hM:=h;obtain ⟨D,h1,h2⟩:=h;have h1':=h1;obtain ⟨es,clock,hb,F,hs,hD⟩:=h1';obtain ⟨v0,st,es1,clock1,r1,r2,r3⟩:=WideElems.entry_then_store K ht hz hb F hx;obtain ⟨v0',st',es1',clock1',a1,a2,a3⟩:=entry_all K ht hz hb F hx
  have ea:v0' = v0 ∧ ChangeMaps.setBlock w b (.map es1' clock1') = ChangeMaps.setBlock w b (.map es1 clock1):=by
    rw [r1] at a1
    simp only [Result.ok.injEq,Value.tuple.injEq,Array.mk.injEq,List.cons.injEq] at a1
    exact ⟨a1.1.1.symm,a1.2.symm⟩
  have ev:v0 = (f x).getD z:=by
    have:=hM.look KK ht (hz w) hx;rw [a2,ea.1] at this
    simpa using this
  obtain ⟨w2,q1,q2,q3,q4⟩:=hM.put KK ht hn hx v0
  have ew:w2 = ChangeMaps.setBlock w b (.map es1 clock1):=by
    rw [ea.1,ea.2] at a3;rw [a3] at q1
    simpa using q1.symm
  have hl:(Instr.lookup t (.map (some b)) x false).run Tryz.prog (ChangeMaps.setBlock w b (.map es1 clock1)) = .ok ((f x).getD z) (ChangeMaps.setBlock w b (.map es1 clock1)):=by
    rw [← ew];have:=q2.look KK ht (hz w2) hx;rw [putF_same] at this;rw [this,ev];rfl
  rw [ev] at r1;refine ⟨(st:Int),_,r1,by simp [ChangeMaps.setBlock],⟨rfl,rfl,rfl,by simp [ChangeMaps.setBlock],fun i _ hi => ChangeMaps.heap_setBlock_other hb _ (fun e => hi (by rw [e]))⟩,hl,fun v => ?_⟩;obtain ⟨es',clock',r4,r5⟩:=r3 _ v (ChangeMaps.heap_setBlock_same hb _);obtain ⟨w',h3,h4,h5⟩:=h1.store KK ht hn hx (val:=v) (d:=.held v) (ps:=[]) rfl
  have ew:w' = ChangeMaps.setBlock w b (.map es' clock'):=by
    rw [r5] at h3
    cases h3
    rfl
  have e2:ChangeMaps.setBlock (ChangeMaps.setBlock w b (.map es1 clock1)) b (.map es' clock') = ChangeMaps.setBlock w b (.map es' clock'):=by simp [ChangeMaps.setBlock]
  refine ⟨w',?_,⟨_,h4,mapV_put KK h1.isMap hx h2⟩,h5.grown,?_⟩
  · rw [ew,← e2]
    exact r4
  · rw [ew]
    simp [ChangeMaps.setBlock]
end
end Go.Proofs.YtbjkjcfodljamaaGreat
namespace Go.Proofs.YtbjkjcfodljamaaGreat
open Go.RowKit F256
open Go.Maps (Keyed)
theorem laidOutP:laidOutB Tryz.prog = true:=by kernel_rfl
theorem keyS:Keyed Tryz.prog 9:=Maps.string_keyed Tryz.underlying9
theorem keyI:Keyed Tryz.prog 2:=Maps.int_keyed Tryz.underlying2
theorem lawStep:WideMaps.KeyLaw Tryz.prog 162:=deep_law_laid laidOutP (m:=2) (by omega) (of_decide_eq_true (by kernel_rfl)) (by kernel_rfl) (by kernel_rfl)
theorem lawPlace:WideMaps.KeyLaw Tryz.prog 165:=deep_law_laid laidOutP (m:=2) (by omega) (of_decide_eq_true (by kernel_rfl)) (by kernel_rfl) (by kernel_rfl)
theorem keyStep:Keyed Tryz.prog 162:=Keyed.of_law lawStep
theorem keyPlace:Keyed Tryz.prog 165:=Keyed.of_law lawPlace
theorem wf64 {a:Int} (h:-9223372036854775808 ≤ a ∧ a ≤ 9223372036854775807):(Lit.int .i64 a).wf = true:=by
  have e1:IntKind.i64.min = -9223372036854775808:=by decide
  have e2:IntKind.i64.max = 9223372036854775807:=by decide
  simp [Lit.wf,e1,e2,h]
theorem keyOf_S {s:ByteArray} (h:s.size ≤ maxLen):∃ l,keyOf Tryz.prog 9 (.string s) = some l:=⟨_,WideMaps.keyOf_string_mk Tryz.underlying9 h⟩
theorem keyOf_I {a:Int} (h:-9223372036854775808 ≤ a ∧ a ≤ 9223372036854775807):∃ l,keyOf Tryz.prog 2 (.int .i64 a) = some l:=⟨_,Maps.keyOf_int_mk Tryz.underlying2 (wf64 h)⟩
theorem keyOf_step {a b:Int} (ha:-9223372036854775808 ≤ a ∧ a ≤ 9223372036854775807) (hb:-9223372036854775808 ≤ b ∧ b ≤ 9223372036854775807):∃ l,keyOf Tryz.prog 162 (.agg #[.int .i64 a,.int .i64 b]) = some l:=by
  have h1:Tryz.prog.keyType 162 = true:=by kernel_rfl
  have h2:Tryz.prog.cellsOf 162 = 2:=by kernel_rfl
  have h3:Tryz.prog.cellsOf 2 = 1:=by kernel_rfl
  obtain ⟨m,hm⟩:∃ m,Tryz.prog.types.size = m + 1:=⟨Tryz.prog.types.size - 1,by have:0 < Tryz.prog.types.size:=of_decide_eq_true (by kernel_rfl);omega⟩
  have k1:∀ x:Int,(-9223372036854775808 ≤ x ∧ x ≤ 9223372036854775807) → Tryz.prog.keyLits (m + 1) 2 [.int .i64 x] = some [.int .i64 x]:=fun x hx => by
    unfold Program.keyLits;rw [Tryz.underlying2]
    simp [wf64 hx]
  have k2:∃ ls,Tryz.prog.keyLits (m + 1 + 1) 162 [.int .i64 a,.int .i64 b] = some ls:=by
    unfold Program.keyLits;rw [Tryz.underlying162]
    simp [h2,h3,k1 a ha,k1 b hb]
  obtain ⟨ls,k3⟩:=k2;refine ⟨.string (keyBytes ls),?_⟩;unfold keyOf;rw [Tryz.underlying162]
  have h4:(Value.agg #[.int .i64 a,.int .i64 b]).formed Tryz.prog 162 = true:=by simp [Value.formed,Tryz.underlying162,h2]
  have h5:(Value.agg #[.int .i64 a,.int .i64 b]).cells.toList = [.int .i64 a,.int .i64 b]:=rfl
  simp only [h1,h4,h5,hm,k3,Bool.and_self,if_true,Option.map_some]
theorem keyOf_place {a b:Int} (ha:-9223372036854775808 ≤ a ∧ a ≤ 9223372036854775807) (hb:-9223372036854775808 ≤ b ∧ b ≤ 9223372036854775807):∃ l,keyOf Tryz.prog 165 (.agg #[.int .i64 a,.int .i64 b]) = some l:=by
  have h1:Tryz.prog.keyType 165 = true:=by kernel_rfl
  have h2:Tryz.prog.cellsOf 165 = 2:=by kernel_rfl
  have h3:Tryz.prog.cellsOf 2 = 1:=by kernel_rfl
  obtain ⟨m,hm⟩:∃ m,Tryz.prog.types.size = m + 1:=⟨Tryz.prog.types.size - 1,by have:0 < Tryz.prog.types.size:=of_decide_eq_true (by kernel_rfl);omega⟩
  have k1:∀ x:Int,(-9223372036854775808 ≤ x ∧ x ≤ 9223372036854775807) → Tryz.prog.keyLits (m + 1) 2 [.int .i64 x] = some [.int .i64 x]:=fun x hx => by
    unfold Program.keyLits;rw [Tryz.underlying2]
    simp [wf64 hx]
  have k2:∃ ls,Tryz.prog.keyLits (m + 1 + 1) 165 [.int .i64 a,.int .i64 b] = some ls:=by
    unfold Program.keyLits;rw [Tryz.underlying165]
    simp [h2,h3,k1 a ha,k1 b hb]
  obtain ⟨ls,k3⟩:=k2;refine ⟨.string (keyBytes ls),?_⟩;unfold keyOf;rw [Tryz.underlying165]
  have h4:(Value.agg #[.int .i64 a,.int .i64 b]).formed Tryz.prog 165 = true:=by simp [Value.formed,Tryz.underlying165,h2]
  have h5:(Value.agg #[.int .i64 a,.int .i64 b]).cells.toList = [.int .i64 a,.int .i64 b]:=rfl
  simp only [h1,h4,h5,hm,k3,Bool.and_self,if_true,Option.map_some]
end Go.Proofs.YtbjkjcfodljamaaGreat
namespace Go.Proofs.YtbjkjcfodljamaaGreat
open Go.RowKit
theorem Box.allocd {w:World} {b:Nat} {cs:Array Value} {t:TypeId} (h:Box w b cs t) (o:Obj):Box (w.alloc o) b cs t:=(Below.heap_alloc w o b h.lt).trans h
end Go.Proofs.YtbjkjcfodljamaaGreat
namespace Go.Proofs.YtbjkjcfodljamaaGreat
open Go.RowKit F256
open Go.Maps (Keyed)
def entT (k:Int):TypeId:=if k = 1 then 129 else if k = 2 then 159 else if k = 3 then 160 else 163
def entV (k:Int) (cs:List Value):Value:=.iface (entT k) (.agg cs.toArray)
open Classical in
noncomputable def cN (p:Nat → Prop) (key:Nat → Value) (y:Value):Nat → Nat
  | 0 => 0
  | k + 1 => cN p key y k + (if p k ∧ key k = y then 1 else 0)
noncomputable def cntF (p:Nat → Prop) (key:Nat → Value) (k:Nat):Value → Option Value:=fun y => if cN p key y k = 0 then none else some (.int .i64 (cN p key y k:Int))
theorem cN_le (p:Nat → Prop) (key:Nat → Value) (y:Value):∀ k,cN p key y k ≤ k
  | 0 => Nat.le_refl _
  | k + 1 => by
    have:=cN_le p key y k;unfold cN
    split <;> omega
theorem cntF_skip {p:Nat → Prop} {key:Nat → Value} {k:Nat} (h:¬ p k):cntF p key (k + 1) = cntF p key k:=by
  funext y
  have e:cN p key y (k + 1) = cN p key y k:=by
    show cN p key y k + _ = _
    rw [if_neg (fun q => h q.1)];rfl
  unfold cntF;rw [e]
theorem cntF_put {p:Nat → Prop} {key:Nat → Value} {k:Nat} (h:p k):cntF p key (k + 1) = putF (cntF p key k) (key k) (.int .i64 ((cN p key (key k) k:Int) + 1)):=by
  funext y
  by_cases c:y = key k
  · subst c
    rw [putF_same]
    have e:cN p key (key k) (k + 1) = cN p key (key k) k + 1:=by
      show cN p key (key k) k + _ = _
      rw [if_pos ⟨h,rfl⟩]
    unfold cntF;rw [e,if_neg (by omega)]
    simp
  · rw [putF_other _ _ c]
    have e:cN p key y (k + 1) = cN p key y k:=by
      show cN p key y k + _ = _
      rw [if_neg (fun q => c q.2.symm)];rfl
    unfold cntF;rw [e]
theorem cntF_get (p:Nat → Prop) (key:Nat → Value) (k:Nat) (y:Value):(cntF p key k y).getD (.int .i64 0) = .int .i64 (cN p key y k:Int):=by
  unfold cntF
  split
  · rename_i h
    rw [h];rfl
  · rfl
noncomputable def lastF (p:Nat → Prop) (key val:Nat → Value):Nat → Value → Option Value
  | 0 => fun _ => none
  | k + 1 => @ite _ (p k) (Classical.propDecidable _) (putF (lastF p key val k) (key k) (val k)) (lastF p key val k)
theorem lastF_skip {p:Nat → Prop} {key val:Nat → Value} {k:Nat} (h:¬ p k):lastF p key val (k + 1) = lastF p key val k:=if_neg h
theorem lastF_put {p:Nat → Prop} {key val:Nat → Value} {k:Nat} (h:p k):lastF p key val (k + 1) = putF (lastF p key val k) (key k) (val k):=if_pos h
section
variable (x:Nat → RecD) (ce:Nat → List Value) (k:Nat)
noncomputable def newF:Value → Option Value:=lastF (fun i => (x i).kind = 1) (fun i => .string (x i).name) (fun i => .agg (ce i).toArray) k
noncomputable def movF:Value → Option Value:=cntF (fun i => (x i).kind = 2) (fun i => .int .i64 (x i).seq) k
noncomputable def donF:Value → Option Value:=cntF (fun i => (x i).kind = 3) (fun i => .agg #[.int .i64 (x i).seq,.int .i64 (x i).group]) k
noncomputable def endF:Value → Option Value:=cntF (fun i => (x i).kind = 3) (fun i => .int .i64 (x i).seq) k
noncomputable def shaF:Value → Option Value:=lastF (fun i => (x i).kind = 4) (fun i => .agg #[.int .i64 (x i).group,.int .i64 (x i).row]) (fun i => .int .i64 (x i).seq) k
def entL:List Value:=(List.range k).map (fun i => entV (x i).kind (ce i))
end
theorem entL_succ (x:Nat → RecD) (ce:Nat → List Value) (k:Nat):entL x ce (k + 1) = entL x ce k ++ [entV (x k).kind (ce k)]:=by
  unfold entL;rw [List.range_succ,List.map_append];rfl
structure Ldg (w:World) (lo B:Nat) (s:Nat → Int) (m k:Nat) (x:Nat → RecD) (ce:Nat → List Value) (v:Value) (b1 b2 b3 b4 b5:Nat):Prop where
  box:Box w B #[.int .i64 (s 0),.int .i64 (s 1),.int .i64 (s 2),.int .i64 (s 3),.int .i64 (s 4),.int .i64 (s 5),.int .i64 (s 6),.int .i64 (s 7),.int .i64 (s 8),v,.map (some b1),.map (some b2),.map (some b3),.map (some b4),.map (some b5)] 115
  row:w.ownsRow lo 119 1 v m (entL x ce m)
  m1:MapV w 9 b1 k (newF x ce k)
  m2:MapV w 2 b2 k (movF x k)
  m3:MapV w 162 b3 k (donF x k)
  m4:MapV w 2 b4 k (endF x k)
  m5:MapV w 165 b5 k (shaF x k)
  nd:[B,b1,b2,b3,b4,b5].Nodup
  low:lo ≤ B ∧ lo ≤ b1 ∧ lo ≤ b2 ∧ lo ≤ b3 ∧ lo ≤ b4 ∧ lo ≤ b5
  apart:∀ g,v.ownBlock = some g → g ∉ [B,b1,b2,b3,b4,b5]
theorem rowE_slice {w:World} {lo:Nat} {e:TypeId} {v:Value} {n:Nat} {xs:List Value} (h:w.ownsRow lo e 1 v n xs):∃ ao cap,v = .slice ao n cap:=by
  rcases h.2 with ⟨rfl,rfl⟩ | ⟨g,cap,cur,rfl,_⟩
  · exact ⟨none,0,rfl⟩
  · exact ⟨_,_,rfl⟩
theorem grown2 {w w1 w2:World} {q:Option Nat} {b:Nat} (h1:w.grownBy w1 none) (h2:w1.grownBy w2 q) (hb:b < w.heap.size) (hq:some b ≠ q):w2.heap[b]? = w.heap[b]? :=
  (h2.block b (Nat.lt_of_lt_of_le hb h1.size) hq).trans (h1.block b hb (by simp))
section
variable {w w1 w2:World} {lo B:Nat} {s:Nat → Int} {m k:Nat} {x:Nat → RecD} {ce:Nat → List Value} {v v':Value} {b1 b2 b3 b4 b5:Nat}
theorem Ldg.grown (h:Ldg w lo B s m k x ce v b1 b2 b3 b4 b5) (h1:w.grownBy w1 none) (h2:w1.grownBy w2 v.ownBlock):Box w2 B #[.int .i64 (s 0),.int .i64 (s 1),.int .i64 (s 2),.int .i64 (s 3),.int .i64 (s 4),.int .i64 (s 5),.int .i64 (s 6),.int .i64 (s 7),.int .i64 (s 8),v,.map (some b1),.map (some b2),.map (some b3),.map (some b4),.map (some b5)] 115 :=
  (grown2 h1 h2 h.box.lt (fun e => h.apart B e.symm (by simp))).trans h.box
theorem Ldg.laid {o1 o2:Obj} (h:Ldg w lo B s k k x ce v b1 b2 b3 b4 b5) (g1:(w.alloc o1).grownBy w1 v.ownBlock) (O1:w1.ownsRow lo 119 1 v' (k + 1) (entL x ce k ++ [entV (x k).kind (ce k)])) (hloc:v'.ownBlock = v.ownBlock ∨ v'.ownBlock = some (w.alloc o1).heap.size) :
    Ldg ((w1.setCell ⟨B,9,none⟩ v').alloc o2) lo B s (k + 1) k x ce v' b1 b2 b3 b4 b5:=by
  have g0:w.grownBy (w.alloc o1) none:=World.grownBy_alloc _ _ _
  have sz:w.heap.size + 1 ≤ w1.heap.size:=by have:=g1.size;simp at this;omega
  have keep:∀ b,b ∈ [B,b1,b2,b3,b4,b5] → b < w.heap.size → w1.heap[b]? = w.heap[b]?:=fun b hb hl => grown2 g0 g1 hl (fun e => h.apart b e.symm hb)
  have ne:∀ b,b ∈ [b1,b2,b3,b4,b5] → b ≠ B:=fun b hb e => by
    have:=h.nd;rw [List.nodup_cons] at this;exact this.1 (by rw [← e];exact hb)
  have keep2:∀ b,b ∈ [b1,b2,b3,b4,b5] → b < w.heap.size → ((w1.setCell ⟨B,9,none⟩ v').alloc o2).heap[b]? = w.heap[b]?:=fun b hb hl => by
    rw [Below.heap_alloc _ _ b (by simp;omega),heap_setCell_other w1 ⟨B,9,none⟩ b v' (ne b hb)];exact keep b (List.mem_cons_of_mem _ hb) hl
  have ap:∀ g,v'.ownBlock = some g → g ∉ [B,b1,b2,b3,b4,b5]:=fun g hg => by
    rcases hloc with e | e
    · exact h.apart g (by rw [← e];exact hg)
    · rw [e] at hg
      cases hg
      have l0:=h.box.lt;have l1:=h.m1.lt;have l2:=h.m2.lt;have l3:=h.m3.lt;have l4:=h.m4.lt;have l5:=h.m5.lt
      simp
      omega
  refine ⟨?_,?_,h.m1.block (keep2 b1 (by simp) h.m1.lt),h.m2.block (keep2 b2 (by simp) h.m2.lt),h.m3.block (keep2 b3 (by simp) h.m3.lt),h.m4.block (keep2 b4 (by simp) h.m4.lt),h.m5.block (keep2 b5 (by simp) h.m5.lt),h.nd,h.low,ap⟩
  · have X1:Box w1 B #[.int .i64 (s 0),.int .i64 (s 1),.int .i64 (s 2),.int .i64 (s 3),.int .i64 (s 4),.int .i64 (s 5),.int .i64 (s 6),.int .i64 (s 7),.int .i64 (s 8),v,.map (some b1),.map (some b2),.map (some b3),.map (some b4),.map (some b5)] 115:=(keep B (by simp) h.box.lt).trans h.box
    exact (X1.setc 9 v').allocd o2
  · rw [entL_succ]
    have O2:(w1.setCell ⟨B,9,none⟩ v').ownsRow lo 119 1 v' (k + 1) (entL x ce k ++ [entV (x k).kind (ce k)]):=by
      refine ⟨O1.1,?_⟩
      rcases O1.2 with hn | ⟨g,cap,cur,rfl,q1,q2,q3⟩
      · exact .inl hn
      · exact .inr ⟨g,cap,cur,rfl,q1,(heap_setCell_other w1 ⟨B,9,none⟩ g _ (fun e => ap g rfl (by rw [show g = B from e];simp))).trans q2,q3⟩
    exact O2.alloc o2
theorem Ldg.drawn (h:Ldg w lo B s m k x ce v b1 b2 b3 b4 b5) (q:Nat):Ldg { w with drawn:=q } lo B s m k x ce v b1 b2 b3 b4 b5:=⟨h.box,h.row,h.m1,h.m2,h.m3,h.m4,h.m5,h.nd,h.low,h.apart⟩
theorem Ldg.next {T:List Nat} (h:Ldg w lo B s (k + 1) k x ce v b1 b2 b3 b4 b5) (hb:∀ b,b < w.heap.size → b ∉ T → w2.heap[b]? = w.heap[b]?) (hT:∀ b,b ∈ T → b ∈ [b1,b2,b3,b4,b5])
    (m1:MapV w2 9 b1 (k + 1) (newF x ce (k + 1))) (m2:MapV w2 2 b2 (k + 1) (movF x (k + 1))) (m3:MapV w2 162 b3 (k + 1) (donF x (k + 1))) (m4:MapV w2 2 b4 (k + 1) (endF x (k + 1))) (m5:MapV w2 165 b5 (k + 1) (shaF x (k + 1))) :
    Ldg w2 lo B s (k + 1) (k + 1) x ce v b1 b2 b3 b4 b5:=by
  have nB:B ∉ T:=fun q => by
    have:=h.nd;rw [List.nodup_cons] at this;exact this.1 (hT B q)
  refine ⟨(hb B h.box.lt nB).trans h.box,⟨h.row.1,?_⟩,m1,m2,m3,m4,m5,h.nd,h.low,h.apart⟩
  rcases h.row.2 with hn | ⟨g,cap,cur,rfl,q1,q2,q3⟩
  · exact .inl hn
  · exact .inr ⟨g,cap,cur,rfl,q1,(hb g (Array.getElem?_eq_some_iff.1 q2).1 (fun q => h.apart g rfl (List.mem_cons_of_mem _ (hT g q)))).trans q2,q3⟩
end
theorem below_grown {w w1:World} {lo B:Nat} {s:Nat → Int} {m k:Nat} {x:Nat → RecD} {ce:Nat → List Value} {v:Value} {b1 b2 b3 b4 b5:Nat} {o1:Obj} (h:Ldg w lo B s m k x ce v b1 b2 b3 b4 b5) (g1:(w.alloc o1).grownBy w1 v.ownBlock) (hlo:lo ≤ w.heap.size):Below lo w w1:=by
  have g0:w.grownBy (w.alloc o1) none:=World.grownBy_alloc _ _ _;refine ⟨g1.os.trans g0.os,g1.tape.trans g0.tape,g1.output.trans g0.output,Nat.le_trans g0.size g1.size,fun b hb => grown2 g0 g1 (by omega) (fun e => ?_)⟩
  rcases h.row.2 with ⟨rfl,_⟩ | ⟨g,cap,cur,rfl,q1,_⟩
  · cases e
  · have:b = g:=by simpa [Value.ownBlock] using e
    omega
theorem zero64 (u:World):(zeroValue 2).run Tryz.prog u = .ok (.int .i64 0) u:=by kernel_rfl
theorem step_entry {ops:Array Oper} {o:Oper} {a:Act} {W w':World} {K:Act → World → Prop} {Q:Exit → Act → World → Prop} {F:Prop} (hg:o.guard = none) (t:TypeId) (m x:Operand) (hop:o.op = Op.mapEntry t m x) (b:Nat) (key v:Value) (hm:a.eval m = .map (some b)) (hx:a.eval x = key)
    (hrun:(Instr.mapEntry t (.map (some b)) key).run Tryz.prog W = .ok v w') (hK:K (a.put o.dst v) w'):if Region.wanted o (yielded ops a.tmps) = true then Oper.wp Tryz.prog o a W K Q else F:=by
  have hw:Region.wanted o (yielded ops a.tmps) = true:=by simp [Region.wanted,hg]
  rw [if_pos hw];unfold Oper.wp
  simp [execOp,hop,hm,hx,hrun,Result.andThen]
  exact hK
theorem step_estore {ops:Array Oper} {o:Oper} {a:Act} {W w':World} {K:Act → World → Prop} {Q:Exit → Act → World → Prop} {F:Prop} (hg:o.guard = none) (t:TypeId) (m x y:Operand) (hop:o.op = Op.entryStore t m x y) (b:Nat) (st v:Value) (hm:a.eval m = .map (some b)) (hx:a.eval x = st) (hy:a.eval y = v)
    (hrun:(Instr.entryStore t (.map (some b)) st v).run Tryz.prog W = .ok () w') (hK:K (a.put o.dst undef) w'):if Region.wanted o (yielded ops a.tmps) = true then Oper.wp Tryz.prog o a W K Q else F:=by
  have hw:Region.wanted o (yielded ops a.tmps) = true:=by simp [Region.wanted,hg]
  rw [if_pos hw];unfold Oper.wp
  simp [execOp,hop,hm,hx,hy,hrun,Result.andThen]
  exact hK
theorem mixedL:Tryz.prog.follows Departure.mixedOrders = true:=by kernel_rfl
def EntQ (w w':World) (v v':Value) (T:List Nat):Prop:=(v'.ownBlock = v.ownBlock ∨ ∃ g,w.heap.size ≤ g ∧ v'.ownBlock = some g) ∧ ∀ b,b < w.heap.size → b ∉ T → v.ownBlock ≠ some b → w'.heap[b]? = w.heap[b]?
theorem info_entry:(Tryz.prog.info? 119).map (fun i => (i.zero,i.size,i.bytes)) = some (some .nilIface,1,16):=by kernel_rfl
theorem ta00 (u:Value) (w:World):(Instr.typeAssert (.iface 129 u) 119 129 true).run Tryz.prog w = .ok (.tuple #[u,.bool true]) w:=by kernel_rfl
theorem ta10 (u:Value) (w:World):(Instr.typeAssert (.iface 159 u) 119 129 true).run Tryz.prog w = .ok (.tuple #[.agg #[.int .i64 0,.int .i64 0,.string ByteArray.empty,.int .i64 0,.int .i64 0,.int .i64 0,.slice none 0 0,.slice none 0 0,.slice none 0 0],.bool false]) w:=by kernel_rfl
theorem ta11 (u:Value) (w:World):(Instr.typeAssert (.iface 159 u) 119 159 true).run Tryz.prog w = .ok (.tuple #[u,.bool true]) w:=by kernel_rfl
theorem ta20 (u:Value) (w:World):(Instr.typeAssert (.iface 160 u) 119 129 true).run Tryz.prog w = .ok (.tuple #[.agg #[.int .i64 0,.int .i64 0,.string ByteArray.empty,.int .i64 0,.int .i64 0,.int .i64 0,.slice none 0 0,.slice none 0 0,.slice none 0 0],.bool false]) w:=by kernel_rfl
theorem ta21 (u:Value) (w:World):(Instr.typeAssert (.iface 160 u) 119 159 true).run Tryz.prog w = .ok (.tuple #[.agg #[.int .i64 0,.int .i64 0,.string ByteArray.empty,.int .i64 0,.int .i64 0,.int .i64 0,.slice none 0 0,.slice none 0 0,.slice none 0 0],.bool false]) w:=by kernel_rfl
theorem ta22 (u:Value) (w:World):(Instr.typeAssert (.iface 160 u) 119 160 true).run Tryz.prog w = .ok (.tuple #[u,.bool true]) w:=by kernel_rfl
theorem ta30 (u:Value) (w:World):(Instr.typeAssert (.iface 163 u) 119 129 true).run Tryz.prog w = .ok (.tuple #[.agg #[.int .i64 0,.int .i64 0,.string ByteArray.empty,.int .i64 0,.int .i64 0,.int .i64 0,.slice none 0 0,.slice none 0 0,.slice none 0 0],.bool false]) w:=by kernel_rfl
theorem ta31 (u:Value) (w:World):(Instr.typeAssert (.iface 163 u) 119 159 true).run Tryz.prog w = .ok (.tuple #[.agg #[.int .i64 0,.int .i64 0,.string ByteArray.empty,.int .i64 0,.int .i64 0,.int .i64 0,.slice none 0 0,.slice none 0 0,.slice none 0 0],.bool false]) w:=by kernel_rfl
theorem ta32 (u:Value) (w:World):(Instr.typeAssert (.iface 163 u) 119 160 true).run Tryz.prog w = .ok (.tuple #[.agg #[.int .i64 0,.int .i64 0,.string ByteArray.empty,.int .i64 0,.int .i64 0,.int .i64 0,.slice none 0 0,.slice none 0 0,.slice none 0 0],.bool false]) w:=by kernel_rfl
theorem ta33 (u:Value) (w:World):(Instr.typeAssert (.iface 163 u) 119 163 true).run Tryz.prog w = .ok (.tuple #[u,.bool true]) w:=by kernel_rfl
end Go.Proofs.YtbjkjcfodljamaaGreat