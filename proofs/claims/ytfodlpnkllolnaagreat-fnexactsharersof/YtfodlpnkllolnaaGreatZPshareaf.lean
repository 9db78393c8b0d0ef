/- Walks of the specification's looks at records: items and weights. -/
import Derived.Test.YtfodlpnkllolnaaGreatZPshareae
import Derived.Deep.Cut
import Derived.Test.YtfodlpnkllolnaaGreatZPshareaa
import Derived.Test.YtfodlpnkllolnaaGreatZPshareab
import Derived.Deep.RegionLaw
import Derived.Deep.DeepCutAuto
import Derived.Laws.Tables
import Derived.Laws.Rows
import Derived.Test.YtfodlpnkllolnaaGreatZPshareac
import Derived.BigQuiet
import Derived.Deep.QuietTactic
import Derived.StillTailTactics
import Derived.Lib.MinMax
import Derived.Laws.StructEq
set_option linter.unusedVariables false
set_option linter.unusedSimpArgs false
namespace Go.Proofs.YtfodlpnkllolnaaGreat
open Go.RowKit F256
theorem l5All_any (s:Nat → Int) (h:OkShape s) (w:World) :
    Calls Tryz.prog 41 #[shapeV s] w fun e w' => e = .returned (.int .i64 (s 0 + s 1)) ∧ Below w.heap.size w w':=by
  obtain ⟨h1,h2,_⟩:=h;unfold Shp3 at h1;have B0:=(one_new w #[.int .i64 (s 0),.int .i64 (s 1),.int .i64 (s 2),.int .i64 (s 3),.int .i64 (s 4),.int .i64 (s 5),.int .i64 (s 6),.int .i64 (s 7),.int .i64 (s 8)] 34).bel;unfold shapeV
  have hw:-9223372036854775808 ≤ s 0 + s 1 ∧ s 0 + s 1 ≤ 9223372036854775807:=by omega
  go_enter Tryz.func41,Tryz.ntmps41
  go_wp2;go_ret;exact ⟨rfl,B0⟩
theorem l5Drives_any (s:Nat → Int) (h:OkShape s) (w:World) :
    Calls Tryz.prog 87 #[shapeV s] w fun e w' => e = .returned (.int .i64 (s 2 + s 3)) ∧ Below w.heap.size w w':=by
  obtain ⟨h1,h2,_⟩:=h;unfold Shp at h2;have B0:=(one_new w #[.int .i64 (s 0),.int .i64 (s 1),.int .i64 (s 2),.int .i64 (s 3),.int .i64 (s 4),.int .i64 (s 5),.int .i64 (s 6),.int .i64 (s 7),.int .i64 (s 8)] 34).bel;unfold shapeV
  have hw:-9223372036854775808 ≤ s 2 + s 3 ∧ s 2 + s 3 ≤ 9223372036854775807:=by omega
  go_enter Tryz.func87,Tryz.ntmps87
  go_wp2;go_ret;exact ⟨rfl,B0⟩
set_option maxHeartbeats 8000000 in
theorem l5Weights_any (s:Nat → Int) (hs:OkShape s) (r:RecD) (cs:List Value) (hi:Nat) (w:World) (h:layRec.rd w hi r cs) (hhi:hi ≤ w.heap.size) (hg:InP r.group 0 (s 0 + s 1 - 1)) (hr:RiseP r.rows.1 r.rows.2 (s 0 + s 1 - 1)) :
    Calls Tryz.prog 118 #[shapeV s,.agg cs.toArray] w (BoolP (WeightsP s r) w):=by
  obtain ⟨ao6,cap6,ao7,cap7,ao8,cap8,rfl,g6,g7,g8,-⟩:=Rec_rd h;clear h;have HS:Hid (OkShape s):=hs
  have hall:0 ≤ s 0 + s 1 ∧ s 0 + s 1 ≤ 100:=by
    obtain ⟨h1,_⟩:=hs;unfold Shp3 at h1;omega
  clear hs;obtain ⟨v6,e6,⟨⟨_,_,e6',hm6,hc6⟩,_⟩,_⟩:=g6
  cases e6
  cases e6'
  obtain ⟨v8,e8,⟨_,_,e8',hm8,hc8⟩,hk8⟩:=g8
  cases e8
  cases e8'
  have HC6:Hid (r.rows.1 ≠ 0 → ∃ b off,ao6 = some ⟨b,off,none⟩ ∧ b < hi ∧ ∀ i,i < r.rows.1 → w.cell? ⟨b,off + i,none⟩ = some (.int .i64 (r.rows.2 i))):=hc6;have HC8:Hid (r.delta.1 ≠ 0 → ∃ b off,ao8 = some ⟨b,off,none⟩ ∧ b < hi ∧ ∀ i,i < r.delta.1 → w.cell? ⟨b,off + i,none⟩ = some (.int .u8 (r.delta.2 i))):=hc8;unfold maxLen at hm6 hm8;unfold InP at hg;have HR:Hid (RiseP r.rows.1 r.rows.2 (s 0 + s 1 - 1)):=hr;clear g7 hc6 hc8 hr hk8;unfold shapeV
  go_enter Tryz.func118,Tryz.ntmps118
  go_wp2_with fail
  have T0:=two_newb w #[.int .i64 (s 0),.int .i64 (s 1),.int .i64 (s 2),.int .i64 (s 3),.int .i64 (s 4),.int .i64 (s 5),.int .i64 (s 6),.int .i64 (s 7),.int .i64 (s 8)] #[.int .i64 r.kind,.int .i64 r.seq,.string r.name,.int .i64 r.length,.int .i64 r.group,.int .i64 r.row,.slice ao6 r.rows.1 cap6,.slice ao7 r.data.1 cap7,.slice ao8 r.delta.1 cap8] 34 121;obtain ⟨W,hW⟩:∃ W,W = (w.alloc (.cells #[.int .i64 (s 0),.int .i64 (s 1),.int .i64 (s 2),.int .i64 (s 3),.int .i64 (s 4),.int .i64 (s 5),.int .i64 (s 6),.int .i64 (s 7),.int .i64 (s 8)] 34)).alloc (.cells #[.int .i64 r.kind,.int .i64 r.seq,.string r.name,.int .i64 r.length,.int .i64 r.group,.int .i64 r.row,.slice ao6 r.rows.1 cap6,.slice ao7 r.data.1 cap7,.slice ao8 r.delta.1 cap8] 121):=⟨_,rfl⟩;rw [← hW] at T0 ⊢;clear hW;have cA:=q_below (W:=W) (fun w' _ => l5All_any s HS.out w');unfold shapeV at cA;have zW:=T0.b2.lt;have x0_0:W.cell? ⟨w.heap.size,0,none⟩ = some (.int .i64 (s 0)):=T0.b1.cell 0;have kx0_0:=cell_regrown x0_0;have x0_1:W.cell? ⟨w.heap.size,1,none⟩ = some (.int .i64 (s 1)):=T0.b1.cell 1;have kx0_1:=cell_regrown x0_1;have x0_2:W.cell? ⟨w.heap.size,2,none⟩ = some (.int .i64 (s 2)):=T0.b1.cell 2;have kx0_2:=cell_regrown x0_2;have x0_3:W.cell? ⟨w.heap.size,3,none⟩ = some (.int .i64 (s 3)):=T0.b1.cell 3;have kx0_3:=cell_regrown x0_3;have x0_4:W.cell? ⟨w.heap.size,4,none⟩ = some (.int .i64 (s 4)):=T0.b1.cell 4;have kx0_4:=cell_regrown x0_4;have x0_5:W.cell? ⟨w.heap.size,5,none⟩ = some (.int .i64 (s 5)):=T0.b1.cell 5;have kx0_5:=cell_regrown x0_5;have x0_6:W.cell? ⟨w.heap.size,6,none⟩ = some (.int .i64 (s 6)):=T0.b1.cell 6;have kx0_6:=cell_regrown x0_6;have x0_7:W.cell? ⟨w.heap.size,7,none⟩ = some (.int .i64 (s 7)):=T0.b1.cell 7;have kx0_7:=cell_regrown x0_7;have x0_8:W.cell? ⟨w.heap.size,8,none⟩ = some (.int .i64 (s 8)):=T0.b1.cell 8;have kx0_8:=cell_regrown x0_8;have y0_0:W.cell? ⟨w.heap.size + 1,0,none⟩ = some (.int .i64 r.kind):=T0.b2.cell 0;have ky0_0:=cell_regrown y0_0;have y0_1:W.cell? ⟨w.heap.size + 1,1,none⟩ = some (.int .i64 r.seq):=T0.b2.cell 1;have ky0_1:=cell_regrown y0_1;have y0_2:W.cell? ⟨w.heap.size + 1,2,none⟩ = some (.string r.name):=T0.b2.cell 2;have ky0_2:=cell_regrown y0_2;have y0_3:W.cell? ⟨w.heap.size + 1,3,none⟩ = some (.int .i64 r.length):=T0.b2.cell 3;have ky0_3:=cell_regrown y0_3;have y0_4:W.cell? ⟨w.heap.size + 1,4,none⟩ = some (.int .i64 r.group):=T0.b2.cell 4;have ky0_4:=cell_regrown y0_4;have y0_5:W.cell? ⟨w.heap.size + 1,5,none⟩ = some (.int .i64 r.row):=T0.b2.cell 5;have ky0_5:=cell_regrown y0_5;have y0_6:W.cell? ⟨w.heap.size + 1,6,none⟩ = some (.slice ao6 r.rows.1 cap6):=T0.b2.cell 6;have ky0_6:=cell_regrown y0_6;have y0_7:W.cell? ⟨w.heap.size + 1,7,none⟩ = some (.slice ao7 r.data.1 cap7):=T0.b2.cell 7;have ky0_7:=cell_regrown y0_7;have y0_8:W.cell? ⟨w.heap.size + 1,8,none⟩ = some (.slice ao8 r.delta.1 cap8):=T0.b2.cell 8
  have ky0_8:=cell_regrown y0_8;have HT:Hid (Two w W #[.int .i64 (s 0),.int .i64 (s 1),.int .i64 (s 2),.int .i64 (s 3),.int .i64 (s 4),.int .i64 (s 5),.int .i64 (s 6),.int .i64 (s 7),.int .i64 (s 8)] #[.int .i64 r.kind,.int .i64 r.seq,.string r.name,.int .i64 r.length,.int .i64 r.group,.int .i64 r.row,.slice ao6 r.rows.1 cap6,.slice ao7 r.data.1 cap7,.slice ao8 r.delta.1 cap8] 34 121):=T0;clear T0
  by_cases hlen:(r.delta.1:Int) = s 0 + s 1
  · obtain ⟨b8,off8,he8,hb8,hcell8⟩:=HC8.out (by omega)
    subst he8;obtain ⟨G,hG⟩:∃ G:Nat,r.group = (G:Int):=⟨r.group.toNat,by omega⟩
    have hGl:G < r.delta.1:=by omega
    have d0:W.cell? ⟨b8,off8 + G,none⟩ = some (.int .u8 (r.delta.2 G)):=(HT.out.bel.cell (p:=⟨b8,off8 + G,none⟩) (by show b8 < w.heap.size;omega)).trans (hcell8 G hGl);have kd0:=cell_regrown d0
    have hne:((r.delta.1:Int) != s 0 + s 1) = false:=by simpa using hlen
    rw [hG] at y0_4 ky0_4;have HCE:Hid (∀ i,i < r.delta.1 → w.cell? ⟨b8,off8 + i,none⟩ = some (.int .u8 (r.delta.2 i))):=hcell8;have HLEN:Hid ((r.delta.1:Int) = s 0 + s 1):=hlen;have HG:Hid (r.group = (G:Int)):=hG;clear hcell8 hlen hG;obtain ⟨x0,hx0⟩:∃ x,x = r.delta.2 G:=⟨_,rfl⟩;have HX0:Hid (x0 = r.delta.2 G):=hx0;rw [← hx0] at d0 kd0;clear hx0
    by_cases hz:x0 = 0
    · subst hz
      refine WQ.region (by kernel_rfl) (by kernel_rfl) ?_
      repeat (first | (apply WQ.skip;(case hw => rfl);intro K hK;go_simp;apply hK;clear hK K) | (apply WQ.want;(case hw => rfl);intro K hK;go_simp;first | (apply hK;clear hK K) | (apply Exists.intro;apply And.intro;(case left => intro p;(first | (go_at_call 41;exact cA _ _)));apply hK;clear hK K)))
      refine WQ.nil ?_;intro w1 hw1;have T1:=HT.out.call (below_rg hw1);have H1:Hid (Two w w1 #[.int .i64 (s 0),.int .i64 (s 1),.int .i64 (s 2),.int .i64 (s 3),.int .i64 (s 4),.int .i64 (s 5),.int .i64 (s 6),.int .i64 (s 7),.int .i64 (s 8)] #[.int .i64 r.kind,.int .i64 r.seq,.string r.name,.int .i64 r.length,.int .i64 r.group,.int .i64 r.row,.slice ao6 r.rows.1 cap6,.slice ao7 r.data.1 cap7,.slice (some ⟨b8,off8,none⟩) r.delta.1 cap8] 34 121):=T1;clear hw1 T1 d0 kd0;go_wp2
      go_loopw [5] (fun i wr => ∃ k:Nat,k ≤ r.rows.1 ∧ i = .int .i64 k ∧ (∀ i,i < k → r.delta.2 (r.rows.2 i).toNat ≠ 0) ∧ Two w wr #[.int .i64 (s 0),.int .i64 (s 1),.int .i64 (s 2),.int .i64 (s 3),.int .i64 (s 4),.int .i64 (s 5),.int .i64 (s 6),.int .i64 (s 7),.int .i64 (s 8)] #[.int .i64 r.kind,.int .i64 r.seq,.string r.name,.int .i64 r.length,.int .i64 r.group,.int .i64 r.row,.slice ao6 r.rows.1 cap6,.slice ao7 r.data.1 cap7,.slice (some ⟨b8,off8,none⟩) r.delta.1 cap8] 34 121) (fun i _ => r.rows.1 - (intOf i).toNat)
      case atStart => exact ⟨0,Nat.zero_le _,rfl,fun i hi => by omega,H1.out⟩
      case round =>
        obtain ⟨k,hk,rfl,hal,T2⟩:=hrel;have HAL:Hid (∀ i,i < k → r.delta.2 (r.rows.2 i).toNat ≠ 0):=hal;have H2:Hid (Two w wr #[.int .i64 (s 0),.int .i64 (s 1),.int .i64 (s 2),.int .i64 (s 3),.int .i64 (s 4),.int .i64 (s 5),.int .i64 (s 6),.int .i64 (s 7),.int .i64 (s 8)] #[.int .i64 r.kind,.int .i64 r.seq,.string r.name,.int .i64 r.length,.int .i64 r.group,.int .i64 r.row,.slice ao6 r.rows.1 cap6,.slice ao7 r.data.1 cap7,.slice (some ⟨b8,off8,none⟩) r.delta.1 cap8] 34 121):=T2;clear hal;have y2_6:wr.cell? ⟨w.heap.size + 1,6,none⟩ = some (.slice ao6 r.rows.1 cap6):=T2.b2.cell 6;have y2_8:wr.cell? ⟨w.heap.size + 1,8,none⟩ = some (.slice (some ⟨b8,off8,none⟩) r.delta.1 cap8):=T2.b2.cell 8
        by_cases hlt:k < r.rows.1
        · obtain ⟨b6,off6,he6,hb6,hcell6⟩:=HC6.out (by omega)
          subst he6;have hrk:=HR.out k hlt;obtain ⟨Y,hY⟩:∃ Y:Nat,r.rows.2 k = (Y:Int):=⟨(r.rows.2 k).toNat,by omega⟩
          have hYl:Y < r.delta.1:=by have:=HLEN.out;omega
          have c6:wr.cell? ⟨b6,off6 + k,none⟩ = some (.int .i64 (Y:Int)):=by
            rw [← hY];exact (T2.bel.cell (p:=⟨b6,off6 + k,none⟩) (by show b6 < w.heap.size;omega)).trans (hcell6 k hlt)
          have c8:wr.cell? ⟨b8,off8 + Y,none⟩ = some (.int .u8 (r.delta.2 Y)):=(T2.bel.cell (p:=⟨b8,off8 + Y,none⟩) (by show b8 < w.heap.size;omega)).trans (HCE.out Y hYl);have q6:=cell_regrown c6;have q8:=cell_regrown c8;have p6:=cell_regrown y2_6;have p8:=cell_regrown y2_8;have HY:Hid (r.rows.2 k = (Y:Int)):=hY;clear hcell6 hrk hY T2;obtain ⟨z0,hz0⟩:∃ x,x = r.delta.2 Y:=⟨_,rfl⟩;have HZ0:Hid (z0 = r.delta.2 Y):=hz0;rw [← hz0] at c8 q8;clear hz0
          by_cases hz:z0 = 0
          · subst hz
            go_wp2;refine WQ.region (by kernel_rfl) (by kernel_rfl) ?_
            repeat (first | (apply WQ.skip;(case hw => rfl);intro K hK;go_simp;apply hK;clear hK K) | (apply WQ.want;(case hw => rfl);intro K hK;go_simp;first | (apply hK;clear hK K) | (apply Exists.intro;apply And.intro;(case left => intro p;(first | fail));apply hK;clear hK K)))
            refine WQ.nil ?_;intro w3 hw3;have HB3:Hid (Below w.heap.size w w3):=(H2.out.call (below_rg hw3)).bel;clear hw3;go_wp2;go_ret;exact boolNo rfl (fun h => h.2.2 k hlt (by rw [HY.out];exact HZ0.out.symm)) HB3.out
          · have hz':((z0:Int) == 0) = false:=by simp;omega
            go_wp2;refine WQ.region (by kernel_rfl) (by kernel_rfl) ?_
            repeat (first | (apply WQ.skip;(case hw => rfl);intro K hK;go_simp;apply hK;clear hK K) | (apply WQ.want;(case hw => rfl);intro K hK;go_simp;first | (apply hK;clear hK K) | (apply Exists.intro;apply And.intro;(case left => intro p;(first | fail));apply hK;clear hK K)))
            refine WQ.nil ?_;intro w3 hw3;have HT3:Hid (Two w w3 #[.int .i64 (s 0),.int .i64 (s 1),.int .i64 (s 2),.int .i64 (s 3),.int .i64 (s 4),.int .i64 (s 5),.int .i64 (s 6),.int .i64 (s 7),.int .i64 (s 8)] #[.int .i64 r.kind,.int .i64 r.seq,.string r.name,.int .i64 r.length,.int .i64 r.group,.int .i64 r.row,.slice (some ⟨b6,off6,none⟩) r.rows.1 cap6,.slice ao7 r.data.1 cap7,.slice (some ⟨b8,off8,none⟩) r.delta.1 cap8] 34 121):=H2.out.call (below_rg hw3);clear hw3;go_wp2
            go_roundw
            case rel => exact ⟨k + 1,by omega,by go_num,fun i hi => by
                          by_cases c:i = k
                          · subst c
                            rw [HY.out,Int.toNat_natCast,← HZ0.out];exact hz
                          · exact HAL.out i (by omega),HT3.out⟩
            case measure => simp [intOf];omega
        · obtain rfl:k = r.rows.1:=by omega
          go_wp2;go_ret;exact boolYes rfl ⟨HLEN.out,by rw [HG.out,Int.toNat_natCast];exact HX0.out.symm,HAL.out⟩ H2.out.bel
    · have hz':((x0:Int) != 0) = true:=by simp;omega
      refine WQ.region (by kernel_rfl) (by kernel_rfl) ?_
      repeat (first | (apply WQ.skip;(case hw => rfl);intro K hK;go_simp;apply hK;clear hK K) | (apply WQ.want;(case hw => rfl);intro K hK;go_simp;first | (apply hK;clear hK K) | (apply Exists.intro;apply And.intro;(case left => intro p;(first | (go_at_call 41;exact cA _ _)));apply hK;clear hK K)))
      refine WQ.nil ?_;intro w1 hw1;have HB1:Hid (Below w.heap.size w w1):=(HT.out.call (below_rg hw1)).bel;clear hw1 d0 kd0;go_wp2;go_ret;exact boolNo rfl (fun h => hz (by rw [HX0.out,← h.2.1,HG.out,Int.toNat_natCast])) HB1.out
  · have hne:((r.delta.1:Int) != s 0 + s 1) = true:=by simpa using hlen
    have HN:Hid (¬ (r.delta.1:Int) = s 0 + s 1):=hlen;clear hlen;refine WQ.region (by kernel_rfl) (by kernel_rfl) ?_
    repeat (first | (apply WQ.skip;(case hw => rfl);intro K hK;go_simp;apply hK;clear hK K) | (apply WQ.want;(case hw => rfl);intro K hK;go_simp;first | (apply hK;clear hK K) | (apply Exists.intro;apply And.intro;(case left => intro p;(first | (go_at_call 41;exact cA _ _)));apply hK;clear hK K)))
    refine WQ.nil ?_;intro w1 hw1;have HB1:Hid (Below w.heap.size w w1):=(HT.out.call (below_rg hw1)).bel;clear hw1;go_wp2;go_ret;exact boolNo rfl (fun h => HN.out h.1) HB1.out
end Go.Proofs.YtfodlpnkllolnaaGreat
namespace Go.Proofs.YtfodlpnkllolnaaGreat
open Go.RowKit F256
set_option maxHeartbeats 8000000 in
theorem l5Item_any (s:Nat → Int) (hs:OkShape s) (r:RecD) (cs:List Value) (hi:Nat) (w:World) (h:layRec.rd w hi r cs) (hhi:hi ≤ w.heap.size) :
    Calls Tryz.prog 116 #[shapeV s,.agg cs.toArray] w (BoolP (ItemP s r) w):=by
  obtain ⟨ao6,cap6,ao7,cap7,ao8,cap8,rfl,g6,g7,g8,-,-,-,hl,-⟩:=Rec_rd h;clear h g7 g8
  have hs2:1 ≤ s 2 ∧ s 2 ≤ 3 ∧ 1 ≤ s 4 ∧ s 4 ≤ 6:=by
    obtain ⟨_,h2,h3,_⟩:=hs;unfold Shp at h2;omega
  obtain ⟨v6,e6,⟨h6,hcp6⟩,_⟩:=g6
  cases e6
  have H6:Hid (RdI w hi (.slice ao6 r.rows.1 cap6) r.rows.1 r.rows.2):=h6;have HCP:Hid (CapP (.slice ao6 r.rows.1 cap6) r.rows.1):=hcp6;have hm6:=h6.mx;unfold maxLen at hm6;clear h6 hcp6;have T0:=two_newb w #[.int .i64 (s 0),.int .i64 (s 1),.int .i64 (s 2),.int .i64 (s 3),.int .i64 (s 4),.int .i64 (s 5),.int .i64 (s 6),.int .i64 (s 7),.int .i64 (s 8)] #[.int .i64 r.kind,.int .i64 r.seq,.string r.name,.int .i64 r.length,.int .i64 r.group,.int .i64 r.row,.slice ao6 r.rows.1 cap6,.slice ao7 r.data.1 cap7,.slice ao8 r.delta.1 cap8] 34 121;have CLong:=fun w' => l4Long_any s (by omega) (by omega) r.length w';have HIT:Hid (ItemP s r ↔ ItemP s r):=Iff.rfl;unfold shapeV;unfold shapeV at CLong
  go_enter Tryz.func116,Tryz.ntmps116
  by_cases hl1:r.length = -1
  · have HL:Hid (r.length = -1):=hl1
    have e1:(r.length == -1) = true:=by simp [hl1]
    have HB:Hid (Below w.heap.size w ((w.alloc (.cells #[.int .i64 (s 0),.int .i64 (s 1),.int .i64 (s 2),.int .i64 (s 3),.int .i64 (s 4),.int .i64 (s 5),.int .i64 (s 6),.int .i64 (s 7),.int .i64 (s 8)] 34)).alloc (.cells #[.int .i64 r.kind,.int .i64 r.seq,.string r.name,.int .i64 r.length,.int .i64 r.group,.int .i64 r.row,.slice ao6 r.rows.1 cap6,.slice ao7 r.data.1 cap7,.slice ao8 r.delta.1 cap8] 121))):=T0.bel;clear T0 CLong hl1;obtain ⟨b0,h0⟩:∃ b,((r.data.1:Int) == 0) = b:=⟨_,rfl⟩;obtain ⟨b1,h1⟩:∃ b,((r.rows.1:Int) == 0) = b:=⟨_,rfl⟩
    have HE:Hid (ItemP s r ↔ (b0 = true ∧ b1 = true)):=by
      show ItemP s r ↔ _
      rw [← h0,← h1];unfold ItemP
      simp [HL.out]
    have hst:b0 = false ∨ (b0 = true ∧ b1 = false) ∨ (b0 = true ∧ b1 = true):=by
      clear HE h0 h1
      cases b0 <;> simp
    rcases hst with rfl | ⟨rfl,rfl⟩ | ⟨rfl,rfl⟩
    all_goals
      go_wp2;go_ret
      first
        | exact boolNo rfl (fun h => by have:=HE.out.1 h;simp at this) HB.out
        | exact boolYes rfl (HE.out.2 (by simp)) HB.out
  · have e1:(r.length == -1) = false:=by simp [hl1]
    have HL:Hid (r.length ≠ -1):=hl1;clear hl1
    go_wp2_with fail
    refine (CLong _).mono ?_;rintro e w1 ⟨c,rfl,hc,b1⟩;have T1:Two w w1 #[.int .i64 (s 0),.int .i64 (s 1),.int .i64 (s 2),.int .i64 (s 3),.int .i64 (s 4),.int .i64 (s 5),.int .i64 (s 6),.int .i64 (s 7),.int .i64 (s 8)] #[.int .i64 r.kind,.int .i64 r.seq,.string r.name,.int .i64 r.length,.int .i64 r.group,.int .i64 r.row,.slice ao6 r.rows.1 cap6,.slice ao7 r.data.1 cap7,.slice ao8 r.delta.1 cap8] 34 121:=T0.call b1;clear b1 T0 CLong;have HT1:Hid (Two w w1 #[.int .i64 (s 0),.int .i64 (s 1),.int .i64 (s 2),.int .i64 (s 3),.int .i64 (s 4),.int .i64 (s 5),.int .i64 (s 6),.int .i64 (s 7),.int .i64 (s 8)] #[.int .i64 r.kind,.int .i64 r.seq,.string r.name,.int .i64 r.length,.int .i64 r.group,.int .i64 r.row,.slice ao6 r.rows.1 cap6,.slice ao7 r.data.1 cap7,.slice ao8 r.delta.1 cap8] 34 121):=T1;have x1_0:w1.cell? ⟨w.heap.size,0,none⟩ = some (.int .i64 (s 0)):=T1.b1.cell 0;have kx1_0:=cell_regrown x1_0;have x1_1:w1.cell? ⟨w.heap.size,1,none⟩ = some (.int .i64 (s 1)):=T1.b1.cell 1;have kx1_1:=cell_regrown x1_1;have x1_2:w1.cell? ⟨w.heap.size,2,none⟩ = some (.int .i64 (s 2)):=T1.b1.cell 2;have kx1_2:=cell_regrown x1_2;have x1_3:w1.cell? ⟨w.heap.size,3,none⟩ = some (.int .i64 (s 3)):=T1.b1.cell 3;have kx1_3:=cell_regrown x1_3;have x1_4:w1.cell? ⟨w.heap.size,4,none⟩ = some (.int .i64 (s 4)):=T1.b1.cell 4;have kx1_4:=cell_regrown x1_4;have x1_5:w1.cell? ⟨w.heap.size,5,none⟩ = some (.int .i64 (s 5)):=T1.b1.cell 5;have kx1_5:=cell_regrown x1_5;have x1_6:w1.cell? ⟨w.heap.size,6,none⟩ = some (.int .i64 (s 6)):=T1.b1.cell 6;have kx1_6:=cell_regrown x1_6;have x1_7:w1.cell? ⟨w.heap.size,7,none⟩ = some (.int .i64 (s 7)):=T1.b1.cell 7;have kx1_7:=cell_regrown x1_7;have x1_8:w1.cell? ⟨w.heap.size,8,none⟩ = some (.int .i64 (s 8)):=T1.b1.cell 8;have kx1_8:=cell_regrown x1_8;have y1_0:w1.cell? ⟨w.heap.size + 1,0,none⟩ = some (.int .i64 r.kind):=T1.b2.cell 0;have ky1_0:=cell_regrown y1_0;have y1_1:w1.cell? ⟨w.heap.size + 1,1,none⟩ = some (.int .i64 r.seq):=T1.b2.cell 1;have ky1_1:=cell_regrown y1_1;have y1_2:w1.cell? ⟨w.heap.size + 1,2,none⟩ = some (.string r.name):=T1.b2.cell 2;have ky1_2:=cell_regrown y1_2;have y1_3:w1.cell? ⟨w.heap.size + 1,3,none⟩ = some (.int .i64 r.length):=T1.b2.cell 3;have ky1_3:=cell_regrown y1_3;have y1_4:w1.cell? ⟨w.heap.size + 1,4,none⟩ = some (.int .i64 r.group):=T1.b2.cell 4;have ky1_4:=cell_regrown y1_4;have y1_5:w1.cell? ⟨w.heap.size + 1,5,none⟩ = some (.int .i64 r.row):=T1.b2.cell 5;have ky1_5:=cell_regrown y1_5;have y1_6:w1.cell? ⟨w.heap.size + 1,6,none⟩ = some (.slice ao6 r.rows.1 cap6):=T1.b2.cell 6;have ky1_6:=cell_regrown y1_6;have y1_7:w1.cell? ⟨w.heap.size + 1,7,none⟩ = some (.slice ao7 r.data.1 cap7):=T1.b2.cell 7;have ky1_7:=cell_regrown y1_7;have y1_8:w1.cell? ⟨w.heap.size + 1,8,none⟩ = some (.slice ao8 r.delta.1 cap8):=T1.b2.cell 8;have ky1_8:=cell_regrown y1_8
    clear T1
    by_cases hok:1 ≤ r.length ∧ r.length ≤ 3 * (s 2 * 4)
    · obtain rfl:c = 0:=by omega
      have HOK:Hid (1 ≤ r.length ∧ r.length ≤ 3 * (s 2 * 4)):=hok;clear hc
      by_cases hd:0 < r.data.1
      · have d1:decide (0 < (r.data.1:Int)) = true:=by simp;omega
        obtain ⟨b0,h0⟩:∃ b,((r.data.1:Int) == r.length) = b:=⟨_,rfl⟩;obtain ⟨b1,h1⟩:∃ b,((r.rows.1:Int) == 0) = b:=⟨_,rfl⟩
        have HE:Hid (ItemP s r ↔ (b0 = true ∧ b1 = true)):=by
          show ItemP s r ↔ _
          rw [← h0,← h1];unfold ItemP;have:=HL.out;have:=HOK.out
          constructor
          · rintro (h | ⟨_,_,_,h | h⟩)
            · omega
            · simp;omega
            · omega
          · intro h
            simp at h
            exact .inr ⟨by omega,by omega,by omega,.inl ⟨hd,h.1,h.2⟩⟩
        have HD:Hid (0 < r.data.1):=hd
        have hst:b0 = false ∨ (b0 = true ∧ b1 = false) ∨ (b0 = true ∧ b1 = true):=by
          clear HE h0 h1
          cases b0 <;> simp
        clear hd hok
        rcases hst with rfl | ⟨rfl,rfl⟩ | ⟨rfl,rfl⟩
        all_goals
          go_wp2;go_ret
          first
            | exact boolNo rfl (fun h => by have:=HE.out.1 h;simp at this) HT1.out.bel
            | exact boolYes rfl (HE.out.2 (by simp)) HT1.out.bel
      · have d1:decide (0 < (r.data.1:Int)) = false:=by simp;omega
        have hd0:r.data.1 = 0:=by omega
        obtain ⟨S,hS⟩:∃ S,S = (r.length + s 2 * 4 - 1) / (s 2 * 4):=⟨_,rfl⟩;have HSV:Hid (S = (r.length + s 2 * 4 - 1) / (s 2 * 4)):=hS
        have hlb:r.length ≤ 1000000000:=by omega
        have cP:=q_below (W:=w1) (fun w' _ => l4Parts_any s (by omega) (by omega) r.length (by omega) (by omega) w');unfold shapeV at cP;rw [← hS] at cP;obtain ⟨t2,h2⟩:=exB (ApartP r.rows.1 r.rows.2 (s 4 - 1));have cQ:=q_below (W:=w1) (fun w' hw' => det_b (l5Apart_any _ r.rows.1 r.rows.2 hi (s 4 - 1) w' ((H6.out.below HT1.out.bel hhi).below hw' (Nat.le_trans hhi HT1.out.bel.size)) HCP.out (Nat.le_trans hhi (Nat.le_trans HT1.out.bel.size hw'.size))) h2);obtain ⟨b0,h0⟩:∃ b,((r.rows.1:Int) == S) = b:=⟨_,rfl⟩
        have HE:Hid (ItemP s r ↔ (b0 = true ∧ t2 = true)):=by
          show ItemP s r ↔ _
          rw [← h0,h2,hS];unfold ItemP;have:=HL.out;have:=HOK.out
          constructor
          · rintro (h | ⟨_,_,_,h | h⟩)
            · omega
            · omega
            · exact ⟨by simpa using h.2.1,h.2.2⟩
          · intro h
            exact .inr ⟨by omega,by omega,by omega,.inr ⟨hd0,by simpa using h.1,h.2⟩⟩
        have HD:Hid (¬ 0 < r.data.1):=hd
        have hst:b0 = false ∨ (b0 = true ∧ t2 = false) ∨ (b0 = true ∧ t2 = true):=by
          clear HE h0 h2 cQ
          cases b0 <;> simp
        have hw4:IntKind.i64.wrap (s 4 - 1) = s 4 - 1:=by rw [IntKind.wrap_i64];omega
        clear hd hok hS h2 hd0;go_wp2
        rcases hst with rfl | ⟨rfl,rfl⟩ | ⟨rfl,rfl⟩
        all_goals
          refine WQ.region (by kernel_rfl) (by kernel_rfl) ?_
          repeat (first | (apply WQ.skip;(case hw => rfl);intro K hK;go_simp;apply hK;clear hK K) | (apply WQ.want;(case hw => rfl);intro K hK;go_simp;first | (apply hK;clear hK K) | (apply Exists.intro;apply And.intro;(case left => intro p;(first | (go_at_call 140;exact cP _ _) | (go_at_call 85;exact cQ _ _)));apply hK;clear hK K)))
          refine WQ.nil ?_;intro w2 hw2;have HB2:Hid (Below w.heap.size w w2):=(HT1.out.call (below_rg hw2)).bel;clear hw2;go_wp2;go_ret
          first
            | exact boolNo rfl (fun h => by have:=HE.out.1 h;simp at this) HB2.out
            | exact boolYes rfl (HE.out.2 (by simp)) HB2.out
    · have hc0:(c != 0) = true:=by
        have:c ≠ 0:=by omega
        simp [this]
      have HNO:Hid (¬ ItemP s r):=fun h => by
        have:=HL.out;unfold ItemP at h;omega
      clear hc hok;go_wp2;go_ret;exact boolNo rfl HNO.out HT1.out.bel
end Go.Proofs.YtfodlpnkllolnaaGreat
namespace Go.Proofs.YtfodlpnkllolnaaGreat
open Go.RowKit F256
def RecPost (s:Nat → Int) (r:RecD) (w:World) (e:Ending) (w':World):Prop:=∃ x,e = .returned (.int .i64 x) ∧ RecAns s r x ∧ Below w.heap.size w w'
theorem recP {s:Nat → Int} {r:RecD} {w:World} {e:Ending} {w':World} {x:Int} (he:e = .returned (.int .i64 x)) (h:RecAns s r x) (hb:Below w.heap.size w w'):RecPost s r w e w':=⟨x,he,h,hb⟩
theorem exBT {P:Prop} (h:P):true = true ↔ P:=⟨fun _ => h,fun _ => rfl⟩
theorem exBF {P:Prop} (h:¬ P):false = true ↔ P:=⟨fun h => (by cases h),fun hh => absurd hh h⟩
set_option maxHeartbeats 16000000 in
set_option maxRecDepth 20000 in
theorem specRec_any (s:Nat → Int) (r:RecD) (cs:List Value) (hi:Nat) (w:World) (h:layRec.rd w hi r cs) (hhi:hi ≤ w.heap.size) (hnm:r.name.size ≤ 1048576) :
    Calls Tryz.prog 86 #[shapeV s,.agg cs.toArray] w (RecPost s r w):=by
  obtain ⟨kind,seq,name,length,group,row,rows,data,delta⟩:=r;obtain ⟨ao6,cap6,ao7,cap7,ao8,cap8,rfl,g6,g7,g8,k0,k1,k2,k3,k4,k5⟩:=Rec_rd h;have HRD:Hid (layRec.rd w hi ⟨kind,seq,name,length,group,row,rows,data,delta⟩ [.int .i64 kind,.int .i64 seq,.string name,.int .i64 length,.int .i64 group,.int .i64 row,.slice ao6 rows.1 cap6,.slice ao7 data.1 cap7,.slice ao8 delta.1 cap8]):=h;obtain ⟨v6,e6,⟨h6,hcp6⟩,_⟩:=g6
  cases e6
  have H6:Hid (RdI w hi (.slice ao6 rows.1 cap6) rows.1 rows.2):=h6;have hm6:rows.1 ≤ maxLen:=h6.mx;obtain ⟨v7,e7,⟨_,_,e7',hm7,_⟩,_⟩:=g7
  cases e7
  cases e7'
  obtain ⟨v8,e8,⟨_,_,e8',hm8,_⟩,_⟩:=g8
  cases e8
  cases e8'
  unfold maxLen at hm6 hm7 hm8
  simp only at k0 k1 k2 k3 k4 k5 hm6 hm7 hm8 hnm
  clear h h6 hcp6;have T0:=two_newb w #[.int .i64 (s 0),.int .i64 (s 1),.int .i64 (s 2),.int .i64 (s 3),.int .i64 (s 4),.int .i64 (s 5),.int .i64 (s 6),.int .i64 (s 7),.int .i64 (s 8)] #[.int .i64 kind,.int .i64 seq,.string name,.int .i64 length,.int .i64 group,.int .i64 row,.slice ao6 rows.1 cap6,.slice ao7 data.1 cap7,.slice ao8 delta.1 cap8] 34 121;have CSh:=fun w' => specShape_any s w';unfold shapeV at CSh ⊢
  go_enter Tryz.func86,Tryz.ntmps86
  go_wp2_with fail
  refine (CSh _).mono ?_;rintro e w1 ⟨x,rfl,hx,b1⟩;have T1:Two w w1 #[.int .i64 (s 0),.int .i64 (s 1),.int .i64 (s 2),.int .i64 (s 3),.int .i64 (s 4),.int .i64 (s 5),.int .i64 (s 6),.int .i64 (s 7),.int .i64 (s 8)] #[.int .i64 kind,.int .i64 seq,.string name,.int .i64 length,.int .i64 group,.int .i64 row,.slice ao6 rows.1 cap6,.slice ao7 data.1 cap7,.slice ao8 delta.1 cap8] 34 121:=T0.call b1;have HT1:Hid (Two w w1 #[.int .i64 (s 0),.int .i64 (s 1),.int .i64 (s 2),.int .i64 (s 3),.int .i64 (s 4),.int .i64 (s 5),.int .i64 (s 6),.int .i64 (s 7),.int .i64 (s 8)] #[.int .i64 kind,.int .i64 seq,.string name,.int .i64 length,.int .i64 group,.int .i64 row,.slice ao6 rows.1 cap6,.slice ao7 data.1 cap7,.slice ao8 delta.1 cap8] 34 121):=T1;have z1:w.heap.size + 1 < w1.heap.size:=T1.b2.lt;clear b1 T0 CSh;have x1_0:w1.cell? ⟨w.heap.size,0,none⟩ = some (.int .i64 (s 0)):=T1.b1.cell 0;have x1_1:w1.cell? ⟨w.heap.size,1,none⟩ = some (.int .i64 (s 1)):=T1.b1.cell 1;have x1_2:w1.cell? ⟨w.heap.size,2,none⟩ = some (.int .i64 (s 2)):=T1.b1.cell 2;have x1_3:w1.cell? ⟨w.heap.size,3,none⟩ = some (.int .i64 (s 3)):=T1.b1.cell 3;have x1_4:w1.cell? ⟨w.heap.size,4,none⟩ = some (.int .i64 (s 4)):=T1.b1.cell 4;have x1_5:w1.cell? ⟨w.heap.size,5,none⟩ = some (.int .i64 (s 5)):=T1.b1.cell 5;have x1_6:w1.cell? ⟨w.heap.size,6,none⟩ = some (.int .i64 (s 6)):=T1.b1.cell 6;have x1_7:w1.cell? ⟨w.heap.size,7,none⟩ = some (.int .i64 (s 7)):=T1.b1.cell 7;have x1_8:w1.cell? ⟨w.heap.size,8,none⟩ = some (.int .i64 (s 8)):=T1.b1.cell 8;have y1_0:w1.cell? ⟨w.heap.size + 1,0,none⟩ = some (.int .i64 kind):=T1.b2.cell 0;have y1_1:w1.cell? ⟨w.heap.size + 1,1,none⟩ = some (.int .i64 seq):=T1.b2.cell 1;have y1_2:w1.cell? ⟨w.heap.size + 1,2,none⟩ = some (.string name):=T1.b2.cell 2;have y1_3:w1.cell? ⟨w.heap.size + 1,3,none⟩ = some (.int .i64 length):=T1.b2.cell 3;have y1_4:w1.cell? ⟨w.heap.size + 1,4,none⟩ = some (.int .i64 group):=T1.b2.cell 4;have y1_5:w1.cell? ⟨w.heap.size + 1,5,none⟩ = some (.int .i64 row):=T1.b2.cell 5;have y1_6:w1.cell? ⟨w.heap.size + 1,6,none⟩ = some (.slice ao6 rows.1 cap6):=T1.b2.cell 6;have y1_7:w1.cell? ⟨w.heap.size + 1,7,none⟩ = some (.slice ao7 data.1 cap7):=T1.b2.cell 7;have y1_8:w1.cell? ⟨w.heap.size + 1,8,none⟩ = some (.slice ao8 delta.1 cap8):=T1.b2.cell 8;clear T1
  rcases hx with ⟨rfl,hno⟩ | ⟨rfl,hok⟩
  · go_wp2
    go_ret;exact recP rfl (Stair.fall hno) HT1.out.bel
  have HOK:Hid (OkShape s):=hok
  have hsb:1 ≤ s 0 ∧ s 0 ≤ 4 ∧ 0 ≤ s 1 ∧ s 1 ≤ 2 ∧ 1 ≤ s 2 ∧ s 2 ≤ 3 ∧ 1 ≤ s 4 ∧ s 4 ≤ 6:=by
    obtain ⟨h1,h2,h3,_⟩:=hok;unfold Shp3 at h1;unfold Shp at h2;omega
  clear hok
  by_cases hk:InP kind 1 4
  · go_wp2_with fail
    refine (l1In_b (t:=true) (exBT hk) _).mono ?_;rintro e w' ⟨rfl,hw'⟩;obtain rfl:=hw'.symm
    by_cases hq:InP seq 1 1000000000
    · go_wp2_with fail
      refine (l1In_b (t:=true) (exBT hq) _).mono ?_;rintro e w' ⟨rfl,hw'⟩;obtain rfl:=hw'.symm;have HK:Hid (InP kind 1 4):=hk;have HQ:Hid (InP seq 1 1000000000):=hq
      go_upto_region 9 with fail
      have bA:Below w1.heap.size w1 (w1.alloc (.cells #[.int .i64 kind,.int .i64 seq,.string name,.int .i64 length,.int .i64 group,.int .i64 row,.slice ao6 rows.1 cap6,.slice ao7 data.1 cap7,.slice ao8 delta.1 cap8] 121)):=(Below.refl _ _).alloc (Nat.le_refl _) _;have T2:Two w (w1.alloc (.cells #[.int .i64 kind,.int .i64 seq,.string name,.int .i64 length,.int .i64 group,.int .i64 row,.slice ao6 rows.1 cap6,.slice ao7 data.1 cap7,.slice ao8 delta.1 cap8] 121)) #[.int .i64 (s 0),.int .i64 (s 1),.int .i64 (s 2),.int .i64 (s 3),.int .i64 (s 4),.int .i64 (s 5),.int .i64 (s 6),.int .i64 (s 7),.int .i64 (s 8)] #[.int .i64 kind,.int .i64 seq,.string name,.int .i64 length,.int .i64 group,.int .i64 row,.slice ao6 rows.1 cap6,.slice ao7 data.1 cap7,.slice ao8 delta.1 cap8] 34 121:=HT1.out.call bA;have X2:Box (w1.alloc (.cells #[.int .i64 kind,.int .i64 seq,.string name,.int .i64 length,.int .i64 group,.int .i64 row,.slice ao6 rows.1 cap6,.slice ao7 data.1 cap7,.slice ao8 delta.1 cap8] 121)) w1.heap.size #[.int .i64 kind,.int .i64 seq,.string name,.int .i64 length,.int .i64 group,.int .i64 row,.slice ao6 rows.1 cap6,.slice ao7 data.1 cap7,.slice ao8 delta.1 cap8] 121:=box_new _ _ _;obtain ⟨W2,hW2⟩:∃ W2,W2 = w1.alloc (.cells #[.int .i64 kind,.int .i64 seq,.string name,.int .i64 length,.int .i64 group,.int .i64 row,.slice ao6 rows.1 cap6,.slice ao7 data.1 cap7,.slice ao8 delta.1 cap8] 121):=⟨_,rfl⟩;rw [← hW2] at T2 X2 ⊢;have HT2:Hid (Two w W2 #[.int .i64 (s 0),.int .i64 (s 1),.int .i64 (s 2),.int .i64 (s 3),.int .i64 (s 4),.int .i64 (s 5),.int .i64 (s 6),.int .i64 (s 7),.int .i64 (s 8)] #[.int .i64 kind,.int .i64 seq,.string name,.int .i64 length,.int .i64 group,.int .i64 row,.slice ao6 rows.1 cap6,.slice ao7 data.1 cap7,.slice ao8 delta.1 cap8] 34 121):=T2;have HX2:Hid (Box W2 w1.heap.size #[.int .i64 kind,.int .i64 seq,.string name,.int .i64 length,.int .i64 group,.int .i64 row,.slice ao6 rows.1 cap6,.slice ao7 data.1 cap7,.slice ao8 delta.1 cap8] 121):=X2;clear bA hW2 x1_0 y1_0 x1_1 y1_1 x1_2 y1_2 x1_3 y1_3 x1_4 y1_4 x1_5 y1_5 x1_6 y1_6 x1_7 y1_7 x1_8 y1_8;have x2_0:W2.cell? ⟨w.heap.size,0,none⟩ = some (.int .i64 (s 0)):=T2.b1.cell 0;have kx2_0:=cell_regrown x2_0;have x2_1:W2.cell? ⟨w.heap.size,1,none⟩ = some (.int .i64 (s 1)):=T2.b1.cell 1;have kx2_1:=cell_regrown x2_1;have x2_2:W2.cell? ⟨w.heap.size,2,none⟩ = some (.int .i64 (s 2)):=T2.b1.cell 2;have kx2_2:=cell_regrown x2_2;have x2_3:W2.cell? ⟨w.heap.size,3,none⟩ = some (.int .i64 (s 3)):=T2.b1.cell 3;have kx2_3:=cell_regrown x2_3;have x2_4:W2.cell? ⟨w.heap.size,4,none⟩ = some (.int .i64 (s 4)):=T2.b1.cell 4;have kx2_4:=cell_regrown x2_4;have x2_5:W2.cell? ⟨w.heap.size,5,none⟩ = some (.int .i64 (s 5)):=T2.b1.cell 5;have kx2_5:=cell_regrown x2_5;have x2_6:W2.cell? ⟨w.heap.size,6,none⟩ = some (.int .i64 (s 6)):=T2.b1.cell 6;have kx2_6:=cell_regrown x2_6
      have x2_7:W2.cell? ⟨w.heap.size,7,none⟩ = some (.int .i64 (s 7)):=T2.b1.cell 7;have kx2_7:=cell_regrown x2_7;have x2_8:W2.cell? ⟨w.heap.size,8,none⟩ = some (.int .i64 (s 8)):=T2.b1.cell 8;have kx2_8:=cell_regrown x2_8;have y2_0:W2.cell? ⟨w.heap.size + 1,0,none⟩ = some (.int .i64 kind):=T2.b2.cell 0;have ky2_0:=cell_regrown y2_0;have y2_1:W2.cell? ⟨w.heap.size + 1,1,none⟩ = some (.int .i64 seq):=T2.b2.cell 1;have ky2_1:=cell_regrown y2_1;have y2_2:W2.cell? ⟨w.heap.size + 1,2,none⟩ = some (.string name):=T2.b2.cell 2;have ky2_2:=cell_regrown y2_2;have y2_3:W2.cell? ⟨w.heap.size + 1,3,none⟩ = some (.int .i64 length):=T2.b2.cell 3;have ky2_3:=cell_regrown y2_3;have y2_4:W2.cell? ⟨w.heap.size + 1,4,none⟩ = some (.int .i64 group):=T2.b2.cell 4;have ky2_4:=cell_regrown y2_4;have y2_5:W2.cell? ⟨w.heap.size + 1,5,none⟩ = some (.int .i64 row):=T2.b2.cell 5;have ky2_5:=cell_regrown y2_5;have y2_6:W2.cell? ⟨w.heap.size + 1,6,none⟩ = some (.slice ao6 rows.1 cap6):=T2.b2.cell 6;have ky2_6:=cell_regrown y2_6;have y2_7:W2.cell? ⟨w.heap.size + 1,7,none⟩ = some (.slice ao7 data.1 cap7):=T2.b2.cell 7;have ky2_7:=cell_regrown y2_7;have y2_8:W2.cell? ⟨w.heap.size + 1,8,none⟩ = some (.slice ao8 delta.1 cap8):=T2.b2.cell 8;have ky2_8:=cell_regrown y2_8;have z2_0:W2.cell? ⟨w1.heap.size,0,none⟩ = some (.int .i64 kind):=X2.cell 0;have f2_0:W2.frozen? ⟨w1.heap.size,0,none⟩ = false:=X2.frozen 0;have z2_1:W2.cell? ⟨w1.heap.size,1,none⟩ = some (.int .i64 seq):=X2.cell 1;have f2_1:W2.frozen? ⟨w1.heap.size,1,none⟩ = false:=X2.frozen 1;have z2_2:W2.cell? ⟨w1.heap.size,2,none⟩ = some (.string name):=X2.cell 2;have f2_2:W2.frozen? ⟨w1.heap.size,2,none⟩ = false:=X2.frozen 2;have z2_3:W2.cell? ⟨w1.heap.size,3,none⟩ = some (.int .i64 length):=X2.cell 3;have f2_3:W2.frozen? ⟨w1.heap.size,3,none⟩ = false:=X2.frozen 3;have z2_4:W2.cell? ⟨w1.heap.size,4,none⟩ = some (.int .i64 group):=X2.cell 4;have f2_4:W2.frozen? ⟨w1.heap.size,4,none⟩ = false:=X2.frozen 4;have z2_5:W2.cell? ⟨w1.heap.size,5,none⟩ = some (.int .i64 row):=X2.cell 5;have f2_5:W2.frozen? ⟨w1.heap.size,5,none⟩ = false:=X2.frozen 5;have z2_6:W2.cell? ⟨w1.heap.size,6,none⟩ = some (.slice ao6 rows.1 cap6):=X2.cell 6;have f2_6:W2.frozen? ⟨w1.heap.size,6,none⟩ = false:=X2.frozen 6;have z2_7:W2.cell? ⟨w1.heap.size,7,none⟩ = some (.slice ao7 data.1 cap7):=X2.cell 7;have f2_7:W2.frozen? ⟨w1.heap.size,7,none⟩ = false:=X2.frozen 7;have z2_8:W2.cell? ⟨w1.heap.size,8,none⟩ = some (.slice ao8 delta.1 cap8):=X2.cell 8;have f2_8:W2.frozen? ⟨w1.heap.size,8,none⟩ = false:=X2.frozen 8;clear T2 X2
      have hk4:kind = 1 ∨ kind = 2 ∨ kind = 3 ∨ kind = 4:=by unfold InP at hk;omega
      have ws0:IntKind.i64.wrap (s 0 - 1) = s 0 - 1:=by rw [IntKind.wrap_i64];omega
      have ws4:IntKind.i64.wrap (s 4 - 1) = s 4 - 1:=by rw [IntKind.wrap_i64];omega
      have wsA:IntKind.i64.wrap (s 0 + s 1 - 1) = s 0 + s 1 - 1:=by rw [IntKind.wrap_i64];omega
      clear hk hq
      rcases hk4 with rfl | rfl | rfl | rfl
      · go_wp2_with fail
        refine (specName_any name hnm _).mono ?_;rintro e w' ⟨x,rfl,hx,hw'⟩;obtain rfl:=hw'.symm
        rcases hx with ⟨rfl,hno⟩ | ⟨rfl,hyes⟩
        · go_wp2
          go_ret;exact recP rfl (Stair.pass HOK.out (Stair.pass HK.out (Stair.pass HQ.out (Stair.fall (fun h => hno (h rfl)))))) HT2.out.bel
        · have HN:Hid (NamedP ⟨1,seq,name,length,group,row,rows,data,delta⟩):=fun _ => hyes
          clear hyes;obtain ⟨t3,h3⟩:=exB (ItemP s ⟨1,seq,name,length,group,row,rows,data,delta⟩);have CI:=det_b (l5Item_any s HOK.out ⟨1,seq,name,length,group,row,rows,data,delta⟩ _ hi W2 (layRec.rd_below HRD.out HT2.out.bel hhi) (Nat.le_trans hhi HT2.out.bel.size)) h3;unfold shapeV at CI
          go_wp2_with fail
          refine CI.mono ?_;rintro e w3 ⟨rfl,b3⟩;have X3:Box w3 w1.heap.size #[.int .i64 1,.int .i64 seq,.string name,.int .i64 length,.int .i64 group,.int .i64 row,.slice ao6 rows.1 cap6,.slice ao7 data.1 cap7,.slice ao8 delta.1 cap8] 121:=HX2.out.call b3;have HB3:Hid (Below w.heap.size w w3):=(HT2.out.call b3).bel;have z3_0:w3.cell? ⟨w1.heap.size,0,none⟩ = some (.int .i64 1):=X3.cell 0;have f3_0:w3.frozen? ⟨w1.heap.size,0,none⟩ = false:=X3.frozen 0;have z3_1:w3.cell? ⟨w1.heap.size,1,none⟩ = some (.int .i64 seq):=X3.cell 1;have f3_1:w3.frozen? ⟨w1.heap.size,1,none⟩ = false:=X3.frozen 1;have z3_2:w3.cell? ⟨w1.heap.size,2,none⟩ = some (.string name):=X3.cell 2;have f3_2:w3.frozen? ⟨w1.heap.size,2,none⟩ = false:=X3.frozen 2;have z3_3:w3.cell? ⟨w1.heap.size,3,none⟩ = some (.int .i64 length):=X3.cell 3;have f3_3:w3.frozen? ⟨w1.heap.size,3,none⟩ = false:=X3.frozen 3;have z3_4:w3.cell? ⟨w1.heap.size,4,none⟩ = some (.int .i64 group):=X3.cell 4;have f3_4:w3.frozen? ⟨w1.heap.size,4,none⟩ = false:=X3.frozen 4;have z3_5:w3.cell? ⟨w1.heap.size,5,none⟩ = some (.int .i64 row):=X3.cell 5;have f3_5:w3.frozen? ⟨w1.heap.size,5,none⟩ = false:=X3.frozen 5;have z3_6:w3.cell? ⟨w1.heap.size,6,none⟩ = some (.slice ao6 rows.1 cap6):=X3.cell 6;have f3_6:w3.frozen? ⟨w1.heap.size,6,none⟩ = false:=X3.frozen 6;have z3_7:w3.cell? ⟨w1.heap.size,7,none⟩ = some (.slice ao7 data.1 cap7):=X3.cell 7;have f3_7:w3.frozen? ⟨w1.heap.size,7,none⟩ = false:=X3.frozen 7;have z3_8:w3.cell? ⟨w1.heap.size,8,none⟩ = some (.slice ao8 delta.1 cap8):=X3.cell 8;have f3_8:w3.frozen? ⟨w1.heap.size,8,none⟩ = false:=X3.frozen 8;clear X3 b3;clear x2_0 kx2_0 y2_0 ky2_0 z2_0 f2_0 x2_1 kx2_1 y2_1 ky2_1 z2_1 f2_1 x2_2 kx2_2 y2_2 ky2_2 z2_2 f2_2 x2_3 kx2_3 y2_3 ky2_3 z2_3 f2_3 x2_4 kx2_4 y2_4 ky2_4 z2_4 f2_4 x2_5 kx2_5 y2_5 ky2_5 z2_5 f2_5 x2_6 kx2_6 y2_6 ky2_6 z2_6 f2_6 x2_7 kx2_7 y2_7 ky2_7 z2_7 f2_7 x2_8 kx2_8 y2_8 ky2_8 z2_8 f2_8 CI;have H3:Hid (t3 = true ↔ ItemP s ⟨1,seq,name,length,group,row,rows,data,delta⟩):=h3;clear h3
          cases t3 with
          | false =>
            go_wp2;go_ret
            exact recP rfl (Stair.pass HOK.out (Stair.pass HK.out (Stair.pass HQ.out (Stair.pass HN.out (Stair.fall (fun h => by
              have:ItemP s ⟨1,seq,name,length,group,row,rows,data,delta⟩:=by
                unfold KindP at h
                simpa using h
              have:=H3.out.2 this
              simp at this)))))) HB3.out
          | true =>
            have HKP:Hid (KindP s ⟨1,seq,name,length,group,row,rows,data,delta⟩):=.inl ⟨rfl,H3.out.1 (by simp)⟩
            go_wp2_with fail
            refine (l5Empty_any _ _ _ _ _ _ _ _ _ _ _ _ _ _ _ _).mono ?_;rintro e w9 ⟨t9,rfl,ht9,b9⟩
            have HB9:Hid (Below w.heap.size w w9):=by
              show Below w.heap.size w w9
              refine Below.trans ?_ (b9.mono ?_)
              · repeat (refine below_set ?_ (by omega))
                exact HB3.out
              · simp
                exact HB3.out.size
            clear b9
            have HT9:Hid (t9 = true ↔ BlankP ⟨1,seq,name,length,group,row,rows,data,delta⟩):=by
              show t9 = true ↔ BlankP ⟨1,seq,name,length,group,row,rows,data,delta⟩
              rw [ht9];unfold EmptyQ BlankP noName
              simp [and_assoc]
              try (intros;rfl)
            clear ht9
            cases t9 with
            | false =>
              go_wp2;go_ret;exact recP rfl (Stair.pass HOK.out (Stair.pass HK.out (Stair.pass HQ.out (Stair.pass HN.out (Stair.pass HKP.out (Stair.fall (fun h => by have:=HT9.out.2 h;simp at this))))))) HB9.out
            | true =>
              go_wp2;go_ret;exact recP rfl (Stair.pass HOK.out (Stair.pass HK.out (Stair.pass HQ.out (Stair.pass HN.out (Stair.pass HKP.out (Stair.pass (HT9.out.1 (by simp)) (Stair.last rfl))))))) HB9.out
      · have HN:Hid (NamedP ⟨2,seq,name,length,group,row,rows,data,delta⟩):=fun h => by simp at h
        obtain ⟨t1,h1⟩:=exB (InP group 0 (s 0 - 1));obtain ⟨t2,h2⟩:=exB (InP row 0 (s 4 - 1));obtain ⟨b3',h3⟩:∃ b,((data.1:Int) != s 2 * 4) = b:=⟨_,rfl⟩;obtain ⟨b4',h4⟩:∃ b,((delta.1:Int) != s 2 * 4) = b:=⟨_,rfl⟩;have cG:=q_same (W:=W2) (fun w' => l1In_b h1 w');have cR:=q_same (W:=W2) (fun w' => l1In_b h2 w');have cW:=q_below (W:=W2) (fun w' _ => l4Wide_any s (by omega) (by omega) w');unfold shapeV at cW
        have HE:Hid (KindP s ⟨2,seq,name,length,group,row,rows,data,delta⟩ ↔ (t1 = true ∧ t2 = true ∧ b3' = false ∧ b4' = false)):=by
          show KindP s ⟨2,seq,name,length,group,row,rows,data,delta⟩ ↔ _
          rw [h1,h2,← h3,← h4];unfold KindP MoveP
          simp
        have hst:(t1 = false) ∨ (t1 = true ∧ t2 = false) ∨ (t1 = true ∧ t2 = true ∧ b3' = true) ∨ (t1 = true ∧ t2 = true ∧ b3' = false ∧ b4' = true) ∨ (t1 = true ∧ t2 = true ∧ b3' = false ∧ b4' = false):=by
          clear HE h1 h2 h3 h4 cG cR
          cases t1 <;> simp
          cases t2 <;> simp
          cases b3' <;> simp
        clear h1 h2;go_wp2
        rcases hst with rfl | ⟨rfl,rfl⟩ | ⟨rfl,rfl,rfl⟩ | ⟨rfl,rfl,rfl,rfl⟩ | ⟨rfl,rfl,rfl,rfl⟩
        all_goals
          refine WQ.region (by kernel_rfl) (by kernel_rfl) ?_
          repeat (first | (apply WQ.skip;(case hw => rfl);intro K hK;go_simp;apply hK;clear hK K) | (apply WQ.want;(case hw => rfl);intro K hK;go_simp;first | (apply hK;clear hK K) | (apply Exists.intro;apply And.intro;(case left => intro p;(first | (go_at_call_of 71 (Value.int .i64 group);exact cG _ _) | (go_at_call_of 71 (Value.int .i64 row);exact cR _ _) | (go_at_call 72;exact cW _ _)));apply hK;clear hK K)))
          refine WQ.nil ?_;intro w3 hw3;have b3:=below_rg hw3;have X3:Box w3 w1.heap.size #[.int .i64 2,.int .i64 seq,.string name,.int .i64 length,.int .i64 group,.int .i64 row,.slice ao6 rows.1 cap6,.slice ao7 data.1 cap7,.slice ao8 delta.1 cap8] 121:=HX2.out.call b3;have HB3:Hid (Below w.heap.size w w3):=(HT2.out.call b3).bel;have z3_0:w3.cell? ⟨w1.heap.size,0,none⟩ = some (.int .i64 2):=X3.cell 0;have f3_0:w3.frozen? ⟨w1.heap.size,0,none⟩ = false:=X3.frozen 0;have z3_1:w3.cell? ⟨w1.heap.size,1,none⟩ = some (.int .i64 seq):=X3.cell 1;have f3_1:w3.frozen? ⟨w1.heap.size,1,none⟩ = false:=X3.frozen 1;have z3_2:w3.cell? ⟨w1.heap.size,2,none⟩ = some (.string name):=X3.cell 2;have f3_2:w3.frozen? ⟨w1.heap.size,2,none⟩ = false:=X3.frozen 2;have z3_3:w3.cell? ⟨w1.heap.size,3,none⟩ = some (.int .i64 length):=X3.cell 3;have f3_3:w3.frozen? ⟨w1.heap.size,3,none⟩ = false:=X3.frozen 3;have z3_4:w3.cell? ⟨w1.heap.size,4,none⟩ = some (.int .i64 group):=X3.cell 4;have f3_4:w3.frozen? ⟨w1.heap.size,4,none⟩ = false:=X3.frozen 4;have z3_5:w3.cell? ⟨w1.heap.size,5,none⟩ = some (.int .i64 row):=X3.cell 5;have f3_5:w3.frozen? ⟨w1.heap.size,5,none⟩ = false:=X3.frozen 5;have z3_6:w3.cell? ⟨w1.heap.size,6,none⟩ = some (.slice ao6 rows.1 cap6):=X3.cell 6;have f3_6:w3.frozen? ⟨w1.heap.size,6,none⟩ = false:=X3.frozen 6;have z3_7:w3.cell? ⟨w1.heap.size,7,none⟩ = some (.slice ao7 data.1 cap7):=X3.cell 7;have f3_7:w3.frozen? ⟨w1.heap.size,7,none⟩ = false:=X3.frozen 7;have z3_8:w3.cell? ⟨w1.heap.size,8,none⟩ = some (.slice ao8 delta.1 cap8):=X3.cell 8;have f3_8:w3.frozen? ⟨w1.heap.size,8,none⟩ = false:=X3.frozen 8;clear X3 b3;clear hw3 x2_0 kx2_0 y2_0 ky2_0 z2_0 f2_0 x2_1 kx2_1 y2_1 ky2_1 z2_1 f2_1 x2_2 kx2_2 y2_2 ky2_2 z2_2 f2_2 x2_3 kx2_3 y2_3 ky2_3 z2_3 f2_3 x2_4 kx2_4 y2_4 ky2_4 z2_4 f2_4 x2_5 kx2_5 y2_5 ky2_5 z2_5 f2_5 x2_6 kx2_6 y2_6 ky2_6 z2_6 f2_6 x2_7 kx2_7 y2_7 ky2_7 z2_7 f2_7 x2_8 kx2_8 y2_8 ky2_8 z2_8 f2_8
        · go_wp2
          go_ret;exact recP rfl (Stair.pass HOK.out (Stair.pass HK.out (Stair.pass HQ.out (Stair.pass HN.out (Stair.fall (fun h => by have:=HE.out.1 h;simp at this)))))) HB3.out
        · go_wp2
          go_ret;exact recP rfl (Stair.pass HOK.out (Stair.pass HK.out (Stair.pass HQ.out (Stair.pass HN.out (Stair.fall (fun h => by have:=HE.out.1 h;simp at this)))))) HB3.out
        · go_wp2
          go_ret;exact recP rfl (Stair.pass HOK.out (Stair.pass HK.out (Stair.pass HQ.out (Stair.pass HN.out (Stair.fall (fun h => by have:=HE.out.1 h;simp at this)))))) HB3.out
        · go_wp2
          go_ret;exact recP rfl (Stair.pass HOK.out (Stair.pass HK.out (Stair.pass HQ.out (Stair.pass HN.out (Stair.fall (fun h => by have:=HE.out.1 h;simp at this)))))) HB3.out
        · have HKP:Hid (KindP s ⟨2,seq,name,length,group,row,rows,data,delta⟩):=HE.out.2 (by simp)
          go_wp2_with fail
          refine (l5Empty_any _ _ _ _ _ _ _ _ _ _ _ _ _ _ _ _).mono ?_;rintro e w9 ⟨t9,rfl,ht9,b9⟩
          have HB9:Hid (Below w.heap.size w w9):=by
            show Below w.heap.size w w9
            refine Below.trans ?_ (b9.mono ?_)
            · repeat (refine below_set ?_ (by omega))
              exact HB3.out
            · simp
              exact HB3.out.size
          clear b9
          have HT9:Hid (t9 = true ↔ BlankP ⟨2,seq,name,length,group,row,rows,data,delta⟩):=by
            show t9 = true ↔ BlankP ⟨2,seq,name,length,group,row,rows,data,delta⟩
            rw [ht9];unfold EmptyQ BlankP noName
            simp [and_assoc]
            try (intros;rfl)
          clear ht9
          cases t9 with
          | false =>
            go_wp2;go_ret;exact recP rfl (Stair.pass HOK.out (Stair.pass HK.out (Stair.pass HQ.out (Stair.pass HN.out (Stair.pass HKP.out (Stair.fall (fun h => by have:=HT9.out.2 h;simp at this))))))) HB9.out
          | true =>
            go_wp2;go_ret;exact recP rfl (Stair.pass HOK.out (Stair.pass HK.out (Stair.pass HQ.out (Stair.pass HN.out (Stair.pass HKP.out (Stair.pass (HT9.out.1 (by simp)) (Stair.last rfl))))))) HB9.out
      · have HN:Hid (NamedP ⟨3,seq,name,length,group,row,rows,data,delta⟩):=fun h => by simp at h
        obtain ⟨t1,h1⟩:=exB (InP group 0 (s 0 + s 1 - 1));have cG:=q_same (W:=W2) (fun w' => l1In_b h1 w');have cA:=q_below (W:=W2) (fun w' _ => l5All_any s HOK.out w');unfold shapeV at cA
        have HE:Hid (KindP s ⟨3,seq,name,length,group,row,rows,data,delta⟩ ↔ (t1 = true)):=by
          show KindP s ⟨3,seq,name,length,group,row,rows,data,delta⟩ ↔ _
          rw [h1];unfold KindP DoneP
          simp
        have hst:(t1 = false) ∨ (t1 = true):=by
          clear HE h1 cG
          cases t1 <;> simp
        clear h1;go_wp2
        rcases hst with rfl | rfl
        all_goals
          refine WQ.region (by kernel_rfl) (by kernel_rfl) ?_
          repeat (first | (apply WQ.skip;(case hw => rfl);intro K hK;go_simp;apply hK;clear hK K) | (apply WQ.want;(case hw => rfl);intro K hK;go_simp;first | (apply hK;clear hK K) | (apply Exists.intro;apply And.intro;(case left => intro p;(first | (go_at_call 71;exact cG _ _) | (go_at_call 41;exact cA _ _)));apply hK;clear hK K)))
          refine WQ.nil ?_;intro w3 hw3;have b3:=below_rg hw3;have X3:Box w3 w1.heap.size #[.int .i64 3,.int .i64 seq,.string name,.int .i64 length,.int .i64 group,.int .i64 row,.slice ao6 rows.1 cap6,.slice ao7 data.1 cap7,.slice ao8 delta.1 cap8] 121:=HX2.out.call b3;have HB3:Hid (Below w.heap.size w w3):=(HT2.out.call b3).bel;have z3_0:w3.cell? ⟨w1.heap.size,0,none⟩ = some (.int .i64 3):=X3.cell 0;have f3_0:w3.frozen? ⟨w1.heap.size,0,none⟩ = false:=X3.frozen 0;have z3_1:w3.cell? ⟨w1.heap.size,1,none⟩ = some (.int .i64 seq):=X3.cell 1;have f3_1:w3.frozen? ⟨w1.heap.size,1,none⟩ = false:=X3.frozen 1;have z3_2:w3.cell? ⟨w1.heap.size,2,none⟩ = some (.string name):=X3.cell 2;have f3_2:w3.frozen? ⟨w1.heap.size,2,none⟩ = false:=X3.frozen 2;have z3_3:w3.cell? ⟨w1.heap.size,3,none⟩ = some (.int .i64 length):=X3.cell 3;have f3_3:w3.frozen? ⟨w1.heap.size,3,none⟩ = false:=X3.frozen 3;have z3_4:w3.cell? ⟨w1.heap.size,4,none⟩ = some (.int .i64 group):=X3.cell 4;have f3_4:w3.frozen? ⟨w1.heap.size,4,none⟩ = false:=X3.frozen 4;have z3_5:w3.cell? ⟨w1.heap.size,5,none⟩ = some (.int .i64 row):=X3.cell 5;have f3_5:w3.frozen? ⟨w1.heap.size,5,none⟩ = false:=X3.frozen 5;have z3_6:w3.cell? ⟨w1.heap.size,6,none⟩ = some (.slice ao6 rows.1 cap6):=X3.cell 6;have f3_6:w3.frozen? ⟨w1.heap.size,6,none⟩ = false:=X3.frozen 6;have z3_7:w3.cell? ⟨w1.heap.size,7,none⟩ = some (.slice ao7 data.1 cap7):=X3.cell 7;have f3_7:w3.frozen? ⟨w1.heap.size,7,none⟩ = false:=X3.frozen 7;have z3_8:w3.cell? ⟨w1.heap.size,8,none⟩ = some (.slice ao8 delta.1 cap8):=X3.cell 8;have f3_8:w3.frozen? ⟨w1.heap.size,8,none⟩ = false:=X3.frozen 8;clear X3 b3;clear hw3 x2_0 kx2_0 y2_0 ky2_0 z2_0 f2_0 x2_1 kx2_1 y2_1 ky2_1 z2_1 f2_1 x2_2 kx2_2 y2_2 ky2_2 z2_2 f2_2 x2_3 kx2_3 y2_3 ky2_3 z2_3 f2_3 x2_4 kx2_4 y2_4 ky2_4 z2_4 f2_4 x2_5 kx2_5 y2_5 ky2_5 z2_5 f2_5 x2_6 kx2_6 y2_6 ky2_6 z2_6 f2_6 x2_7 kx2_7 y2_7 ky2_7 z2_7 f2_7 x2_8 kx2_8 y2_8 ky2_8 z2_8 f2_8
        · go_wp2
          go_ret;exact recP rfl (Stair.pass HOK.out (Stair.pass HK.out (Stair.pass HQ.out (Stair.pass HN.out (Stair.fall (fun h => by have:=HE.out.1 h;simp at this)))))) HB3.out
        · have HKP:Hid (KindP s ⟨3,seq,name,length,group,row,rows,data,delta⟩):=HE.out.2 (by simp)
          go_wp2_with fail
          refine (l5Empty_any _ _ _ _ _ _ _ _ _ _ _ _ _ _ _ _).mono ?_;rintro e w9 ⟨t9,rfl,ht9,b9⟩
          have HB9:Hid (Below w.heap.size w w9):=by
            show Below w.heap.size w w9
            refine Below.trans ?_ (b9.mono ?_)
            · repeat (refine below_set ?_ (by omega))
              exact HB3.out
            · simp
              exact HB3.out.size
          clear b9
          have HT9:Hid (t9 = true ↔ BlankP ⟨3,seq,name,length,group,row,rows,data,delta⟩):=by
            show t9 = true ↔ BlankP ⟨3,seq,name,length,group,row,rows,data,delta⟩
            rw [ht9];unfold EmptyQ BlankP noName
            simp [and_assoc]
            try (intros;rfl)
          clear ht9
          cases t9 with
          | false =>
            go_wp2;go_ret;exact recP rfl (Stair.pass HOK.out (Stair.pass HK.out (Stair.pass HQ.out (Stair.pass HN.out (Stair.pass HKP.out (Stair.fall (fun h => by have:=HT9.out.2 h;simp at this))))))) HB9.out
          | true =>
            go_wp2;go_ret;exact recP rfl (Stair.pass HOK.out (Stair.pass HK.out (Stair.pass HQ.out (Stair.pass HN.out (Stair.pass HKP.out (Stair.pass (HT9.out.1 (by simp)) (Stair.last rfl))))))) HB9.out
      · have HN:Hid (NamedP ⟨4,seq,name,length,group,row,rows,data,delta⟩):=fun h => by simp at h
        obtain ⟨t1,h1⟩:=exB (InP group 0 (s 0 + s 1 - 1));obtain ⟨t2,h2⟩:=exB (InP row 0 (s 4 - 1));obtain ⟨t3,h3⟩:=exB (RiseP rows.1 rows.2 (s 0 + s 1 - 1));obtain ⟨b4',h4⟩:∃ b,((data.1:Int) != s 2 * 4) = b:=⟨_,rfl⟩;obtain ⟨t5,h5⟩:=exB (WeightsP s ⟨4,seq,name,length,group,row,rows,data,delta⟩);have cG:=q_same (W:=W2) (fun w' => l1In_b h1 w');have cR:=q_same (W:=W2) (fun w' => l1In_b h2 w');have cA:=q_below (W:=W2) (fun w' _ => l5All_any s HOK.out w');have cW:=q_below (W:=W2) (fun w' _ => l4Wide_any s (by omega) (by omega) w');have cS:=q_below (W:=W2) (fun w' hw' => det_b (l2Rise_any _ rows.1 rows.2 hi (s 0 + s 1 - 1) w' ((H6.out.below HT2.out.bel hhi).below hw' (Nat.le_trans hhi HT2.out.bel.size))) h3);have cX:t1 = true → t3 = true → ∀ d os,Calls Tryz.prog 118 #[shapeV s,.agg #[.int .i64 4,.int .i64 seq,.string name,.int .i64 length,.int .i64 group,.int .i64 row,.slice ao6 rows.1 cap6,.slice ao7 data.1 cap7,.slice ao8 delta.1 cap8]] (Go.Sort.grow (redrawn W2 d) os) fun e w'' => e = .returned (.bool t5) ∧ ∃ p:Regrown,w'' = Go.Sort.grow (redrawn W2 p.d) p.os:=fun e1 e3 => q_below (W:=W2) (fun w' hw' => det_b (l5Weights_any s HOK.out ⟨4,seq,name,length,group,row,rows,data,delta⟩ _ hi w' (layRec.rd_below (layRec.rd_below HRD.out HT2.out.bel hhi) hw' (Nat.le_trans hhi HT2.out.bel.size)) (Nat.le_trans hhi (Nat.le_trans HT2.out.bel.size hw'.size)) (h1.1 e1) (h3.1 e3)) h5);unfold shapeV at cW cA cX
        have HE:Hid (KindP s ⟨4,seq,name,length,group,row,rows,data,delta⟩ ↔ (t1 = true ∧ t2 = true ∧ t3 = true ∧ b4' = false ∧ t5 = true)):=by
          show KindP s ⟨4,seq,name,length,group,row,rows,data,delta⟩ ↔ _
          rw [h1,h2,h3,← h4,h5];unfold KindP ShareP
          simp
        have hst:(t1 = false) ∨ (t1 = true ∧ t2 = false) ∨ (t1 = true ∧ t2 = true ∧ t3 = false) ∨ (t1 = true ∧ t2 = true ∧ t3 = true ∧ b4' = true) ∨ (t1 = true ∧ t2 = true ∧ t3 = true ∧ b4' = false ∧ t5 = false) ∨ (t1 = true ∧ t2 = true ∧ t3 = true ∧ b4' = false ∧ t5 = true):=by
          clear HE h1 h2 h3 h4 h5 cG cR cS cX
          cases t1 <;> simp
          cases t2 <;> simp
          cases t3 <;> simp
          cases b4' <;> simp
        clear h1 h2 h3 h5;go_wp2
        rcases hst with rfl | ⟨rfl,rfl⟩ | ⟨rfl,rfl,rfl⟩ | ⟨rfl,rfl,rfl,rfl⟩ | ⟨rfl,rfl,rfl,rfl,rfl⟩ | ⟨rfl,rfl,rfl,rfl,rfl⟩
        all_goals
          refine WQ.region (by kernel_rfl) (by kernel_rfl) ?_
          repeat (first | (apply WQ.skip;(case hw => rfl);intro K hK;go_simp;apply hK;clear hK K) | (apply WQ.want;(case hw => rfl);intro K hK;go_simp;first | (apply hK;clear hK K) | (apply Exists.intro;apply And.intro;(case left => intro p;(first | (go_at_call_of 71 (Value.int .i64 group);exact cG _ _) | (go_at_call_of 71 (Value.int .i64 row);exact cR _ _) | (go_at_call 72;exact cW _ _) | (go_at_call 41;exact cA _ _) | (go_at_call 117;exact cS _ _) | (go_at_call 118;exact cX rfl rfl _ _)));apply hK;clear hK K)))
          refine WQ.nil ?_;intro w3 hw3;have b3:=below_rg hw3;have X3:Box w3 w1.heap.size #[.int .i64 4,.int .i64 seq,.string name,.int .i64 length,.int .i64 group,.int .i64 row,.slice ao6 rows.1 cap6,.slice ao7 data.1 cap7,.slice ao8 delta.1 cap8] 121:=HX2.out.call b3;have HB3:Hid (Below w.heap.size w w3):=(HT2.out.call b3).bel;have z3_0:w3.cell? ⟨w1.heap.size,0,none⟩ = some (.int .i64 4):=X3.cell 0;have f3_0:w3.frozen? ⟨w1.heap.size,0,none⟩ = false:=X3.frozen 0;have z3_1:w3.cell? ⟨w1.heap.size,1,none⟩ = some (.int .i64 seq):=X3.cell 1;have f3_1:w3.frozen? ⟨w1.heap.size,1,none⟩ = false:=X3.frozen 1;have z3_2:w3.cell? ⟨w1.heap.size,2,none⟩ = some (.string name):=X3.cell 2;have f3_2:w3.frozen? ⟨w1.heap.size,2,none⟩ = false:=X3.frozen 2;have z3_3:w3.cell? ⟨w1.heap.size,3,none⟩ = some (.int .i64 length):=X3.cell 3;have f3_3:w3.frozen? ⟨w1.heap.size,3,none⟩ = false:=X3.frozen 3;have z3_4:w3.cell? ⟨w1.heap.size,4,none⟩ = some (.int .i64 group):=X3.cell 4;have f3_4:w3.frozen? ⟨w1.heap.size,4,none⟩ = false:=X3.frozen 4;have z3_5:w3.cell? ⟨w1.heap.size,5,none⟩ = some (.int .i64 row):=X3.cell 5;have f3_5:w3.frozen? ⟨w1.heap.size,5,none⟩ = false:=X3.frozen 5;have z3_6:w3.cell? ⟨w1.heap.size,6,none⟩ = some (.slice ao6 rows.1 cap6):=X3.cell 6;have f3_6:w3.frozen? ⟨w1.heap.size,6,none⟩ = false:=X3.frozen 6;have z3_7:w3.cell? ⟨w1.heap.size,7,none⟩ = some (.slice ao7 data.1 cap7):=X3.cell 7;have f3_7:w3.frozen? ⟨w1.heap.size,7,none⟩ = false:=X3.frozen 7;have z3_8:w3.cell? ⟨w1.heap.size,8,none⟩ = some (.slice ao8 delta.1 cap8):=X3.cell 8;have f3_8:w3.frozen? ⟨w1.heap.size,8,none⟩ = false:=X3.frozen 8;clear X3 b3;clear hw3 x2_0 kx2_0 y2_0 ky2_0 z2_0 f2_0 x2_1 kx2_1 y2_1 ky2_1 z2_1 f2_1 x2_2 kx2_2 y2_2 ky2_2 z2_2 f2_2 x2_3 kx2_3 y2_3 ky2_3 z2_3 f2_3 x2_4 kx2_4 y2_4 ky2_4 z2_4 f2_4 x2_5 kx2_5 y2_5 ky2_5 z2_5 f2_5 x2_6 kx2_6 y2_6 ky2_6 z2_6 f2_6 x2_7 kx2_7 y2_7 ky2_7 z2_7 f2_7 x2_8 kx2_8 y2_8 ky2_8 z2_8 f2_8
        · go_wp2
          go_ret;exact recP rfl (Stair.pass HOK.out (Stair.pass HK.out (Stair.pass HQ.out (Stair.pass HN.out (Stair.fall (fun h => by have:=HE.out.1 h;simp at this)))))) HB3.out
        · go_wp2
          go_ret;exact recP rfl (Stair.pass HOK.out (Stair.pass HK.out (Stair.pass HQ.out (Stair.pass HN.out (Stair.fall (fun h => by have:=HE.out.1 h;simp at this)))))) HB3.out
        · go_wp2
          go_ret;exact recP rfl (Stair.pass HOK.out (Stair.pass HK.out (Stair.pass HQ.out (Stair.pass HN.out (Stair.fall (fun h => by have:=HE.out.1 h;simp at this)))))) HB3.out
        · go_wp2
          go_ret;exact recP rfl (Stair.pass HOK.out (Stair.pass HK.out (Stair.pass HQ.out (Stair.pass HN.out (Stair.fall (fun h => by have:=HE.out.1 h;simp at this)))))) HB3.out
        · go_wp2
          go_ret;exact recP rfl (Stair.pass HOK.out (Stair.pass HK.out (Stair.pass HQ.out (Stair.pass HN.out (Stair.fall (fun h => by have:=HE.out.1 h;simp at this)))))) HB3.out
        · have HKP:Hid (KindP s ⟨4,seq,name,length,group,row,rows,data,delta⟩):=HE.out.2 (by simp)
          go_wp2_with fail
          refine (l5Empty_any _ _ _ _ _ _ _ _ _ _ _ _ _ _ _ _).mono ?_;rintro e w9 ⟨t9,rfl,ht9,b9⟩
          have HB9:Hid (Below w.heap.size w w9):=by
            show Below w.heap.size w w9
            refine Below.trans ?_ (b9.mono ?_)
            · repeat (refine below_set ?_ (by omega))
              exact HB3.out
            · simp
              exact HB3.out.size
          clear b9
          have HT9:Hid (t9 = true ↔ BlankP ⟨4,seq,name,length,group,row,rows,data,delta⟩):=by
            show t9 = true ↔ BlankP ⟨4,seq,name,length,group,row,rows,data,delta⟩
            rw [ht9];unfold EmptyQ BlankP noName
            simp [and_assoc]
            try (intros;rfl)
          clear ht9
          cases t9 with
          | false =>
            go_wp2;go_ret;exact recP rfl (Stair.pass HOK.out (Stair.pass HK.out (Stair.pass HQ.out (Stair.pass HN.out (Stair.pass HKP.out (Stair.fall (fun h => by have:=HT9.out.2 h;simp at this))))))) HB9.out
          | true =>
            go_wp2;go_ret;exact recP rfl (Stair.pass HOK.out (Stair.pass HK.out (Stair.pass HQ.out (Stair.pass HN.out (Stair.pass HKP.out (Stair.pass (HT9.out.1 (by simp)) (Stair.last rfl))))))) HB9.out
    · go_wp2_with fail
      refine (l1In_b (t:=false) (exBF hq) _).mono ?_;rintro e w' ⟨rfl,hw'⟩;obtain rfl:=hw'.symm;go_wp2;go_ret;exact recP rfl (Stair.pass HOK.out (Stair.pass hk (Stair.fall hq))) HT1.out.bel
  · go_wp2_with fail
    refine (l1In_b (t:=false) (exBF hk) _).mono ?_;rintro e w' ⟨rfl,hw'⟩;obtain rfl:=hw'.symm;go_wp2;go_ret;exact recP rfl (Stair.pass HOK.out (Stair.fall hk)) HT1.out.bel
end Go.Proofs.YtfodlpnkllolnaaGreat
namespace Go.Proofs.YtfodlpnkllolnaaGreat
open Go.RowKit F256
theorem stair_ex {K:Int → Prop} (hK:∃ x,K x):∀ l:List (Prop × Int),∃ x,Stair l K x
  | [] => hK
  | (p,c) :: l => by
    by_cases h:p
    · obtain ⟨x,hx⟩:=stair_ex hK l
      exact ⟨x,.inr ⟨h,hx⟩⟩
    · exact ⟨c,.inl ⟨h,rfl⟩⟩
theorem rec_det {s:Nat → Int} {d:RecD} {X:Int} {w:World} {f:Nat} {args:Array Value} (hX:RecAns s d X) (h:Calls Tryz.prog f args w (RecPost s d w)):Calls Tryz.prog f args w fun e w' => e = .returned (.int .i64 X) ∧ Below w.heap.size w w' :=
  h.mono fun e w' ⟨x,h1,h2,h3⟩ => ⟨by rw [h1,h2.one hX],h3⟩
def WldPost (d:WorldD) (w:World) (e:Ending) (w':World):Prop:=∃ x,e = .returned (.int .i64 x) ∧ WldAns d x ∧ Below w.heap.size w w'
theorem wldP {d:WorldD} {w:World} {e:Ending} {w':World} {x:Int} (he:e = .returned (.int .i64 x)) (h:WldAns d x) (hb:Below w.heap.size w w'):WldPost d w e w':=⟨x,he,h,hb⟩
def RcsPost (s:Nat → Int) (p:Nat × (Nat → TapeD)) (w:World) (e:Ending) (w':World):Prop:=∃ x,e = .returned (.int .i64 x) ∧ RecsAns s p.1 p.2 x ∧ Below w.heap.size w w'
theorem WQ.free {P:Program} {ops:Array Oper} {C:World → Prop} {Q:Act → Prop} {a:Act} {o:Oper} {rest:List Oper} (hw:o.guard = none)
    (h:∀ K:Act → Prop,(∀ a,WQ P ops C Q rest a → K a) → o.quiet P a C K):WQ P ops C Q (o :: rest) a:=WQ.want (by simp [Region.wanted,hw]) h
end Go.Proofs.YtfodlpnkllolnaaGreat
namespace Go.Proofs.YtfodlpnkllolnaaGreat
open Go.RowKit F256
theorem recs_row (s:Nat → Int) (y:Nat → RecD):∀ k,(∀ i,i < k → RecAns s (y i) 0) ∨ ∃ i c,i < k ∧ c ≠ 0 ∧ RecAns s (y i) c ∧ ∀ j,j < i → RecAns s (y j) 0
  | 0 => .inl (fun i hi => by omega)
  | k + 1 => by
    rcases recs_row s y k with h | ⟨i,c,h1,h2,h3,h4⟩
    · obtain ⟨X,hX⟩:∃ X,RecAns s (y k) X:=stair_ex (K:=isZ) ⟨0,rfl⟩ _
      by_cases hx:X = 0
      · subst hx
        exact .inl (fun i hi => by
          by_cases c:i = k
          · subst c;exact hX
          · exact h i (by omega))
      · exact .inr ⟨k,X,by omega,hx,hX,h⟩
    · exact .inr ⟨i,c,by omega,h2,h3,h4⟩
theorem recs_ex (s:Nat → Int) (x:Nat → TapeD):∀ n,∃ c,RecsAns s n x c
  | 0 => ⟨0,.inl ⟨rfl,fun t ht => by omega⟩⟩
  | n + 1 => by
    obtain ⟨c,hc⟩:=recs_ex s x n
    rcases hc with ⟨rfl,h⟩ | ⟨hc,t,i,ht,hi,hr,hb,hu⟩
    · rcases recs_row s (x n).recs.2 (x n).recs.1 with k | ⟨i,c,h1,h2,h3,h4⟩
      · exact ⟨0,.inl ⟨rfl,fun t ht => by
          by_cases c:t = n
          · subst c;exact k
          · exact h t (by omega)⟩⟩
      · exact ⟨c,.inr ⟨h2,n,i,by omega,h1,h3,h4,h⟩⟩
    · exact ⟨c,.inr ⟨hc,t,i,by omega,hi,hr,hb,hu⟩⟩
theorem world_ex (d:WorldD):∃ X,WldAns d X:=by
  unfold WldAns;refine stair_ex ?_ _;obtain ⟨c,hc⟩:=recs_ex d.shape d.tapes.2 d.tapes.1
  by_cases h:c = 0
  · subst h
    obtain ⟨x,hx⟩:=stair_ex (K:=isZ) ⟨0,rfl⟩ [(CleanP d,1),(CountP d,3)];exact ⟨x,.inr ⟨hc,hx⟩⟩
  · exact ⟨c,.inl ⟨h,hc⟩⟩
end Go.Proofs.YtfodlpnkllolnaaGreat
namespace Go.Proofs.YtfodlpnkllolnaaGreat
open Go.RowKit F256
structure ElInfo {α:Type} (E:Lay α) (T e:TypeId) (by_:Nat) (zs:List Value):Prop where
  hs:0 < E.sz
  hzs:zs.length = E.sz
  hu:Tryz.prog.underlying T = some (.slice e)
  hi:(Tryz.prog.info? e).map (fun i => (i.zero.map (·.cells),i.size,i.bytes)) = some (some zs.toArray,E.sz,by_)
  few:by_ ≤ 1000
section
variable {α:Type} {E:Lay α} {t:TypeId} {w w':World} {lo n:Nat} {v:Value} {x:Nat → α}
end
end Go.Proofs.YtfodlpnkllolnaaGreat
namespace Go.Proofs.YtfodlpnkllolnaaGreat
open Go.RowKit F256
end Go.Proofs.YtfodlpnkllolnaaGreat
namespace Go.Proofs.YtfodlpnkllolnaaGreat
open Go.RowKit F256
section
variable {α:Type} {E:Lay α} {t:TypeId} {w w1:World} {lo g cap n k:Nat} {x:Nat → α} {ce:Nat → List Value} {Ls:Nat → List Nat}
end
end Go.Proofs.YtfodlpnkllolnaaGreat
namespace Go.Proofs.YtfodlpnkllolnaaGreat
open Go.RowKit F256
def noRec:RecD:=⟨0,0,ByteArray.empty,0,0,0,(0,fun _ => 0),(0,fun _ => 0),(0,fun _ => 0)⟩
def zeroT:TapeD:=⟨false,(0,fun _ => noRec)⟩
theorem ChgL.bel {K:List Nat} {w w':World} {B:Nat} (hc:ChgL K w w') (hK:∀ b,b ∈ K → B ≤ b) (hB:B ≤ w.heap.size):Below B w w':=⟨hc.os,hc.tape,hc.output,hc.size,fun k hk => hc.block k (by omega) (fun h => by have:=hK k h;omega)⟩
structure NewBx (cs:Array Value) (w1 wx:World) (P t:Nat):Prop where
  box:Box wx P cs 38
  tp:(layTape.slice 89).own wx (2,fun _ => zeroT) [.slice (some ⟨t,0,none⟩) 2 2] [t]
  p1:w1.heap.size ≤ P
  t1:w1.heap.size ≤ t
  ne:t ≠ P
  bel:Below w1.heap.size w1 wx
end Go.Proofs.YtfodlpnkllolnaaGreat
namespace Go.Proofs.YtfodlpnkllolnaaGreat
open Go.RowKit F256
theorem mark_T {α:Type} {A:Lay α} {c:α → Nat} {mk:Nat → α → α} {fn:Nat} (hm:MkV A c mk fn) {w:World} {lo hi:Nat} {d:α} {cs:List Value} (h:OwnT A w lo hi d cs) (j:Nat) (hj:j + c d ≤ 100000000) :
    Calls Tryz.prog fn #[.agg cs.toArray,.int .i64 j] w fun e w' => e = .returned (.int .i64 ((j + c d:Nat):Int)) ∧ OwnT A w' lo hi (mk j d) cs ∧ Chg lo hi w w':=by
  obtain ⟨L,h1,h2,h3⟩:=h;exact (hm cs d L j w h1 h2 hj).mono fun e w' ⟨he,ho,hc⟩ => ⟨he,⟨L,ho,h2,h3⟩,hc.chg h3⟩
theorem Chg.bel {lo hi B:Nat} {w w':World} (h:Chg lo hi w w') (hl:B ≤ lo) (hB:B ≤ w.heap.size):Below B w w':=⟨h.os,h.tape,h.output,h.size,fun k hk => h.block k (by omega) (.inl (by omega))⟩
theorem sumN_mono2 {f g:Nat → Nat}:∀ {n:Nat},(∀ i,i < n → f i ≤ g i) → sumN f n ≤ sumN g n
  | 0,_ => Nat.le_refl _
  | n + 1,h => by
    rw [sumN_succ,sumN_succ];exact Nat.add_le_add (sumN_mono2 (fun i hi => h i (by omega))) (h n (by omega))
theorem sumN_const (c:Nat):∀ n:Nat,sumN (fun _ => c) n = n * c
  | 0 => by simp [sumN]
  | n + 1 => by rw [sumN_succ,sumN_const c n,Nat.succ_mul]
theorem sumN_plus (f:Nat → Nat) (c k:Nat):∀ n:Nat,sumN (fun i => c + k * f i) n = n * c + k * sumN f n
  | 0 => by simp [sumN]
  | n + 1 => by rw [sumN_succ,sumN_plus f c k n,sumN_succ,Nat.succ_mul,Nat.mul_add];omega
theorem cSl_le {α:Type} {c s:α → Nat} {k:Nat} (h:∀ a,c a ≤ k + k * s a) (p:Nat × (Nat → α)):cSl c p ≤ k * szSl s p:=by
  unfold cSl szSl;have h1:sumN (fun i => c (p.2 i)) p.1 ≤ sumN (fun i => k + k * s (p.2 i)) p.1:=sumN_mono2 (fun i _ => h (p.2 i));rw [sumN_plus (fun i => s (p.2 i)) k k p.1] at h1;rw [Nat.mul_add];have:p.1 * k = k * p.1:=Nat.mul_comm _ _;omega
theorem cBlock_le (d:BlockD):cBlockD d ≤ 6 + 6 * szBlockD d:=by unfold cBlockD szBlockD;omega
theorem cDrive_le (d:DriveD):cDriveD d ≤ 6 + 6 * szDriveD d:=by
  have:=cSl_le (k:=6) cBlock_le d.blocks;unfold cDriveD szDriveD;omega
theorem cRec_le (d:RecD):cRecD d ≤ 6 + 6 * szRecD d:=by unfold cRecD szRecD;omega
theorem cTape_le (d:TapeD):cTapeD d ≤ 6 + 6 * szTapeD d:=by
  have:=cSl_le (k:=6) cRec_le d.recs;unfold cTapeD szTapeD;omega
theorem cvWorld_le (d:WorldD):cvWorldD d ≤ 6 * szWorldD d:=by
  have h1:=cSl_le (c:=cSl cDriveD) (s:=szSl szDriveD) (k:=6) (fun p => Nat.le_trans (cSl_le (k:=6) cDrive_le p) (by omega)) d.groups;have h3:=cSl_le (k:=6) cTape_le d.tapes;unfold cvWorldD szWorldD;omega
end Go.Proofs.YtfodlpnkllolnaaGreat
namespace Go.Proofs.YtfodlpnkllolnaaGreat
open Go.RowKit F256
theorem OwnT.one {α:Type} {A:Lay α} {w:World} {lo hi:Nat} {a:α} {cs:List Value} (h:OwnT A w lo hi a cs):∀ v,v ∈ cs → v.oneCell' = true:=by
  obtain ⟨L,h1,_⟩:=h;exact fun v hv => A.own_one h1 v hv
theorem wp_allocStore {ops:Array Oper} {rest:List Oper} {o1 o2:Oper} {a:Act} {w:World} {Q:Exit → Act → World → Prop} (T:TypeId) (k:Nat) (x:Operand) (cs:List Value) (zs:Array Value) (n:Nat)
    (hop1:o1.op = Op.alloc T) (hop2:o2.op = Op.store T (.tmp k) x) (hg1:o1.guard = none) (hg2:o2.guard = none) (hd1:o1.dst = some k) (hd2:o2.dst = none)
    (hp:(a.put (some k) (.pointer (some ⟨w.heap.size,0,none⟩))).eval (.tmp k) = .pointer (some ⟨w.heap.size,0,none⟩)) (hx:(a.put (some k) (.pointer (some ⟨w.heap.size,0,none⟩))).eval x = .agg cs.toArray)
    (hi:(Tryz.prog.info? T).map (fun i => (i.zero.map (·.cells),i.size)) = some (some zs,n)) (hz:zs.size = n) (hl:cs.length = n) (h1:∀ v,v ∈ cs → v.oneCell' = true)
    (h:wpList Tryz.prog ops Q rest (a.put (some k) (.pointer (some ⟨w.heap.size,0,none⟩))) (w.alloc (.cells cs.toArray T))):wpList Tryz.prog ops Q (o1 :: o2 :: rest) a w:=by
  obtain ⟨i0,hi0⟩:∃ i0,Tryz.prog.info? T = some i0:=by
    cases h:Tryz.prog.info? T with
    | none => rw [h] at hi;cases hi
    | some i0 => exact ⟨i0,rfl⟩
  rw [hi0] at hi
  simp only [Option.map_some,Option.some.injEq,Prod.mk.injEq] at hi
  obtain ⟨h2,h3⟩:=hi
  obtain ⟨z,hzz,hzc⟩:∃ z,i0.zero = some z ∧ z.cells = zs:=by
    cases h:i0.zero with
    | none => rw [h] at h2;cases h2
    | some z => rw [h] at h2;exact ⟨z,rfl,by simpa using h2⟩
  have hr:(Instr.alloc T true (.tuple #[])).run Tryz.prog w = .ok (.pointer (some ⟨w.heap.size,0,none⟩)) (w.alloc (.cells zs T)):=by
    simp [Instr.alloc,zeroValue,typeInfo,hi0,hzz,hzc,newVar,newRow]
  have hw:(w.alloc (.cells zs T)).setRow w.heap.size cs.toArray = w.alloc (.cells cs.toArray T):=by
    have hh:((w.alloc (.cells zs T)).setRow w.heap.size cs.toArray).heap = w.heap.push (.cells cs.toArray T):=by
      apply Array.ext_getElem?
      intro i
      by_cases c:i = w.heap.size
      · subst c
        rw [setRow_heap (w.alloc (.cells zs T)) w.heap.size zs cs.toArray T (0,0) (box_new w zs T),Array.getElem?_push,if_pos rfl]
      · rw [setRow_other _ _ _ _ c,Array.getElem?_push,if_neg c]
        show (w.heap.push _)[i]? = _
        rw [Array.getElem?_push,if_neg c]
    show ({ w with heap:=((w.alloc (.cells zs T)).setRow w.heap.size cs.toArray).heap }:World) = _
    rw [hh];rfl
  refine wpList_plain hg1 fun K hK => ?_;unfold Oper.wp execOp
  simp only [hop1,Sem.run_bind,hr,Result.andThen_ok]
  refine hK _ _ ?_;rw [hd1];refine wpList_store_row hg2 T (.tmp k) x hop2 w.heap.size cs.toArray hp hx T zs (box_new w zs T) (by rw [hi0];simp [h3,hl]) (by simp [hz,hl]) (by simp;exact h1) ?_;rw [hw,hd2];exact h
theorem wp_loadBox {ops:Array Oper} {rest:List Oper} {o:Oper} {a:Act} {w:World} {Q:Exit → Act → World → Prop} (T:TypeId) (x:Operand) (ho:o.op = .load T x) (hgd:o.guard = none) (b:Nat) (hx:a.eval x = .pointer (some ⟨b,0,none⟩)) {cs:List Value} (hB:Box w b cs.toArray T) {fs:Array Field} (hu:Tryz.prog.underlying T = some (.struct fs)) {n:Nat} (hi:(Tryz.prog.info? T).map (·.size) = some n) (hl:cs.length = n)
    (h:wpList Tryz.prog ops Q rest (a.put o.dst (.agg cs.toArray)) w):wpList Tryz.prog ops Q (o :: rest) a w :=
  wpList_load_row hgd T x ho b hx T cs.toArray (0,0) (.struct fs) hB hu rfl (by rw [hi];simp [hl]) h
theorem size_W:(Tryz.prog.info? 38).map (·.size) = some 15:=by kernel_rfl
theorem size_LW:(Tryz.prog.info? 28).map (·.size) = some 15:=by kernel_rfl
theorem info_W:(Tryz.prog.info? 38).map (fun i => (i.zero.map (·.cells),i.size)) = some (some #[.int .i64 0,.int .i64 0,.int .i64 0,.int .i64 0,.int .i64 0,.int .i64 0,.int .i64 0,.int .i64 0,.int .i64 0,.slice none 0 0,.slice none 0 0,.slice none 0 0,.int .i64 0,.int .i64 0,.bool false],15):=by kernel_rfl
end Go.Proofs.YtfodlpnkllolnaaGreat
namespace Go.Proofs.YtfodlpnkllolnaaGreat
open Go.RowKit F256
def wipedN (x:Nat → DriveD):Nat → Nat
  | 0 => 0
  | n + 1 => wipedN x n + (if (x n).wiped = true then 1 else 0)
theorem wipedN_le (x:Nat → DriveD):∀ n,wipedN x n ≤ n
  | 0 => Nat.le_refl _
  | n + 1 => by
    have:=wipedN_le x n;unfold wipedN
    split <;> omega
def DeadP (d:WorldD) (G:Nat):Prop:=d.shape 3 < (wipedN (d.groups.2 G).2 (d.groups.2 G).1:Int)
set_option maxHeartbeats 8000000 in
set_option maxRecDepth 20000 in
theorem isDead_any (d:WorldD) (cs:List Value) (hi:Nat) (G:Nat) (w:World) (h:layWorld.rd w hi d cs) (hhi:hi ≤ w.heap.size) (hG:G < d.groups.1) :
    Calls Tryz.prog 65 #[.agg cs.toArray,.int .i64 (G:Int)] w (BoolP (DeadP d G) w):=by
  obtain ⟨ao1,cap1,ao2,cap2,ao3,cap3,rfl,g1,g2,g3,k0,k4,k5⟩:=World_rd h;obtain ⟨_,_,e1,hm1,hc1⟩:=g1
  cases e1
  obtain ⟨b1,off1,he1,hb1,hel1⟩:=hc1 (by omega);subst he1;obtain ⟨cg,hrg,hcg⟩:=hel1 G hG;obtain ⟨ao9,cap9,rfl⟩:=sl_form hrg
  have c0:w.cell? ⟨b1,off1 + G,none⟩ = some (.slice ao9 (d.groups.2 G).1 cap9):=by
    have:=hcg 0 (by decide)
    have e:off1 + (G * (layDrive.slice 110).sz + 0) = off1 + G:=by show off1 + (G * 1 + 0) = off1 + G;omega
    rw [e] at this;exact this
  obtain ⟨_,_,e9,hm9,hc9⟩:=hrg
  cases e9
  unfold maxLen at hm9
  have i1:(0:Int) ≤ (G:Int):=by omega
  have i2:(G:Int) < (d.groups.1:Int):=by omega
  clear g2 g3 k0 k4 k5 hcg hel1 hc1 hm1;have T0:=one_new w #[.int .i64 (d.shape 0),.int .i64 (d.shape 1),.int .i64 (d.shape 2),.int .i64 (d.shape 3),.int .i64 (d.shape 4),.int .i64 (d.shape 5),.int .i64 (d.shape 6),.int .i64 (d.shape 7),.int .i64 (d.shape 8),.slice (some ⟨b1,off1,none⟩) d.groups.1 cap1,.slice ao2 d.on.1 cap2,.slice ao3 d.tapes.1 cap3,.int .i64 d.writes,.int .i64 d.stop,.bool d.down] 38;have x9:=T0.b1.cell 9;have c0':=(T0.bel.cell (p:=⟨b1,off1 + G,none⟩) (by show b1 < w.heap.size;omega)).trans c0
  go_enter Tryz.func65,Tryz.ntmps65
  go_wp2
  go_loopw [5,14] (fun v i wr => ∃ k:Nat,k ≤ (d.groups.2 G).1 ∧ i = .int .i64 k ∧ v = .int .i64 (wipedN (d.groups.2 G).2 k:Int) ∧ One w wr #[.int .i64 (d.shape 0),.int .i64 (d.shape 1),.int .i64 (d.shape 2),.int .i64 (d.shape 3),.int .i64 (d.shape 4),.int .i64 (d.shape 5),.int .i64 (d.shape 6),.int .i64 (d.shape 7),.int .i64 (d.shape 8),.slice (some ⟨b1,off1,none⟩) d.groups.1 cap1,.slice ao2 d.on.1 cap2,.slice ao3 d.tapes.1 cap3,.int .i64 d.writes,.int .i64 d.stop,.bool d.down] 38) (fun _ i _ => (d.groups.2 G).1 - (intOf i).toNat)
  case atStart => exact ⟨0,Nat.zero_le _,rfl,rfl,T0⟩
  case round =>
    clear T0 x9 c0';obtain ⟨k,hk,rfl,rfl,T⟩:=hrel;have HT:Hid (One w wr #[.int .i64 (d.shape 0),.int .i64 (d.shape 1),.int .i64 (d.shape 2),.int .i64 (d.shape 3),.int .i64 (d.shape 4),.int .i64 (d.shape 5),.int .i64 (d.shape 6),.int .i64 (d.shape 7),.int .i64 (d.shape 8),.slice (some ⟨b1,off1,none⟩) d.groups.1 cap1,.slice ao2 d.on.1 cap2,.slice ao3 d.tapes.1 cap3,.int .i64 d.writes,.int .i64 d.stop,.bool d.down] 38):=T;have x3:wr.cell? ⟨w.heap.size,3,none⟩ = some (.int .i64 (d.shape 3)):=T.b1.cell 3;have hwk:=wipedN_le (d.groups.2 G).2 k
    by_cases hlt:k < (d.groups.2 G).1
    · have t1:(k:Int) < ((d.groups.2 G).1:Int):=by omega
      obtain ⟨b,off,rfl,hblt,hcell⟩:=hc9 (by omega);obtain ⟨cd,hrd,hcd⟩:=hcell k hlt;obtain ⟨ao5,cap5,rfl,g5⟩:=Drive_rd hrd;have c2:wr.cell? ⟨b,off + k * 2,none⟩ = some (.bool ((d.groups.2 G).2 k).wiped):=(T.bel.cell (p:=⟨b,off + k * 2,none⟩) (by show b < w.heap.size;omega)).trans (hcd 0 (by decide));have c3:wr.cell? ⟨b,off + k * 2 + 1,none⟩ = some (.slice ao5 ((d.groups.2 G).2 k).blocks.1 cap5):=(T.bel.cell (p:=⟨b,off + k * 2 + 1,none⟩) (by show b < w.heap.size;omega)).trans (hcd 1 (by decide));obtain ⟨D,hD⟩:∃ D,D = (d.groups.2 G).2 k:=⟨_,rfl⟩;have HD:Hid (D = (d.groups.2 G).2 k):=hD;rw [← hD] at c2 c3;obtain ⟨m,hm⟩:∃ m,m = wipedN (d.groups.2 G).2 k:=⟨_,rfl⟩;have HM:Hid (m = wipedN (d.groups.2 G).2 k):=hm;rw [← hm] at hwk ⊢;have HT9:Hid (One w (wr.alloc (.cells #[.bool D.wiped,.slice ao5 D.blocks.1 cap5] 110)) #[.int .i64 (d.shape 0),.int .i64 (d.shape 1),.int .i64 (d.shape 2),.int .i64 (d.shape 3),.int .i64 (d.shape 4),.int .i64 (d.shape 5),.int .i64 (d.shape 6),.int .i64 (d.shape 7),.int .i64 (d.shape 8),.slice (some ⟨b1,off1,none⟩) d.groups.1 cap1,.slice ao2 d.on.1 cap2,.slice ao3 d.tapes.1 cap3,.int .i64 d.writes,.int .i64 d.stop,.bool d.down] 38):=HT.out.call ((Below.refl _ _).alloc (Nat.le_refl _) _);clear hc9 hcell hcd hrd g5 T hD hm x3
      cases hw:D.wiped with
      | true =>
        rw [hw] at c2 HT9;have HW:Hid (D.wiped = true):=hw
        have zz:IntKind.i64.wrap ((m:Int) + 1) = (m:Int) + 1:=by rw [IntKind.wrap_i64];omega
        clear hw;go_wp2
        go_roundw
        case rel => exact ⟨k + 1,by omega,by go_num,by
          have e:wipedN (d.groups.2 G).2 (k + 1) = m + 1:=by
            show wipedN (d.groups.2 G).2 k + (if ((d.groups.2 G).2 k).wiped = true then 1 else 0) = m + 1
            rw [← HD.out,if_pos HW.out,← HM.out]
          rw [e];go_num,HT9.out⟩
        case measure => simp [intOf];omega
      | false =>
        rw [hw] at c2 HT9;have HW:Hid (D.wiped = false):=hw;clear hw;go_wp2
        go_roundw
        case rel => exact ⟨k + 1,by omega,by go_num,by
          have e:wipedN (d.groups.2 G).2 (k + 1) = m:=by
            show wipedN (d.groups.2 G).2 k + (if ((d.groups.2 G).2 k).wiped = true then 1 else 0) = m
            rw [← HD.out,if_neg (by rw [HW.out];decide),← HM.out];rfl
          rw [e],HT9.out⟩
        case measure => simp [intOf];omega
    · obtain rfl:k = (d.groups.2 G).1:=by omega
      clear hlt T hc9
      by_cases hd:d.shape 3 < (wipedN (d.groups.2 G).2 (d.groups.2 G).1:Int)
      · have HD:Hid (DeadP d G):=hd
        have dd:decide (d.shape 3 < (wipedN (d.groups.2 G).2 (d.groups.2 G).1:Int)) = true:=decide_eq_true hd;clear hd;go_wp2;go_ret;exact boolYes rfl HD.out HT.out.bel
      · have HD:Hid (¬ DeadP d G):=hd
        have dd:decide (d.shape 3 < (wipedN (d.groups.2 G).2 (d.groups.2 G).1:Int)) = false:=decide_eq_false hd;clear hd;go_wp2;go_ret;exact boolNo rfl HD.out HT.out.bel
set_option maxHeartbeats 8000000 in
set_option maxRecDepth 20000 in
theorem l7Dead_any (d:WorldD) (cs:List Value) (hi B:Nat) (G:Nat) (w:World) (h:layWorld.rd w hi d cs) (hhi:hi ≤ w.heap.size) (hB:Box w B cs.toArray 38) (hG:G < d.groups.1) :
    Calls Tryz.prog 52 #[.pointer (some ⟨B,0,none⟩),.int .i64 (G:Int)] w (BoolP (DeadP d G) w):=by
  obtain ⟨ao1,cap1,ao2,cap2,ao3,cap3,rfl,g1,g2,g3,k0,k4,k5⟩:=World_rd h;obtain ⟨_,_,e1,hm1,hc1⟩:=g1
  cases e1
  obtain ⟨b1,off1,he1,hb1,hel1⟩:=hc1 (by omega);subst he1;obtain ⟨cg,hrg,hcg⟩:=hel1 G hG;obtain ⟨ao9,cap9,rfl⟩:=sl_form hrg
  have c0:w.cell? ⟨b1,off1 + G,none⟩ = some (.slice ao9 (d.groups.2 G).1 cap9):=by
    have:=hcg 0 (by decide)
    have e:off1 + (G * (layDrive.slice 110).sz + 0) = off1 + G:=by show off1 + (G * 1 + 0) = off1 + G;omega
    rw [e] at this;exact this
  obtain ⟨_,_,e9,hm9,hc9⟩:=hrg
  cases e9
  unfold maxLen at hm9
  have i1:(0:Int) ≤ (G:Int):=by omega
  have i2:(G:Int) < (d.groups.1:Int):=by omega
  clear g2 g3 k0 k4 k5 hcg hel1 hc1 hm1;have x9:w.cell? ⟨B,9,none⟩ = some (.slice (some ⟨b1,off1,none⟩) d.groups.1 cap1):=hB.cell 9;have x3:w.cell? ⟨B,3,none⟩ = some (.int .i64 (d.shape 3)):=hB.cell 3;clear hB
  go_enter Tryz.func52,Tryz.ntmps52
  go_wp2
  go_loopw [5,6] (fun v i wr => ∃ k:Nat,k ≤ (d.groups.2 G).1 ∧ i = .int .i64 k ∧ v = .int .i64 (wipedN (d.groups.2 G).2 k:Int) ∧ wr = w) (fun _ i _ => (d.groups.2 G).1 - (intOf i).toNat)
  case atStart => exact ⟨0,Nat.zero_le _,rfl,rfl,rfl⟩
  case round =>
    obtain ⟨k,hk,rfl,rfl,e⟩:=hrel;obtain rfl:=e.symm;have hwk:=wipedN_le (d.groups.2 G).2 k
    by_cases hlt:k < (d.groups.2 G).1
    · have t1:(k:Int) < ((d.groups.2 G).1:Int):=by omega
      obtain ⟨b,off,rfl,hblt,hcell⟩:=hc9 (by omega);obtain ⟨cd,hrd,hcd⟩:=hcell k hlt;obtain ⟨ao5,cap5,rfl,g5⟩:=Drive_rd hrd;have c2:w.cell? ⟨b,off + k * 2,none⟩ = some (.bool ((d.groups.2 G).2 k).wiped):=hcd 0 (by decide);obtain ⟨D,hD⟩:∃ D,D = (d.groups.2 G).2 k:=⟨_,rfl⟩;have HD:Hid (D = (d.groups.2 G).2 k):=hD;rw [← hD] at c2;obtain ⟨m,hm⟩:∃ m,m = wipedN (d.groups.2 G).2 k:=⟨_,rfl⟩;have HM:Hid (m = wipedN (d.groups.2 G).2 k):=hm;rw [← hm] at hwk ⊢;clear hc9 hcell hcd hrd g5 hD hm
      cases hw:D.wiped with
      | true =>
        rw [hw] at c2;have HW:Hid (D.wiped = true):=hw
        have zz:IntKind.i64.wrap ((m:Int) + 1) = (m:Int) + 1:=by rw [IntKind.wrap_i64];omega
        clear hw;go_wp2
        go_roundw
        case rel => exact ⟨k + 1,by omega,by go_num,by
          have e:wipedN (d.groups.2 G).2 (k + 1) = m + 1:=by
            show wipedN (d.groups.2 G).2 k + (if ((d.groups.2 G).2 k).wiped = true then 1 else 0) = m + 1
            rw [← HD.out,if_pos HW.out,← HM.out]
          rw [e];go_num,trivial⟩
        case measure => simp [intOf];omega
      | false =>
        rw [hw] at c2;have HW:Hid (D.wiped = false):=hw;clear hw;go_wp2
        go_roundw
        case rel => exact ⟨k + 1,by omega,by go_num,by
          have e:wipedN (d.groups.2 G).2 (k + 1) = m:=by
            show wipedN (d.groups.2 G).2 k + (if ((d.groups.2 G).2 k).wiped = true then 1 else 0) = m
            rw [← HD.out,if_neg (by rw [HW.out];decide),← HM.out];rfl
          rw [e],trivial⟩
        case measure => simp [intOf];omega
    · obtain rfl:k = (d.groups.2 G).1:=by omega
      clear hlt hc9
      by_cases hd:d.shape 3 < (wipedN (d.groups.2 G).2 (d.groups.2 G).1:Int)
      · have HD:Hid (DeadP d G):=hd
        have dd:decide (d.shape 3 < (wipedN (d.groups.2 G).2 (d.groups.2 G).1:Int)) = true:=decide_eq_true hd;clear hd;go_wp2;go_ret;exact boolYes rfl HD.out (Below.refl _ _)
      · have HD:Hid (¬ DeadP d G):=hd
        have dd:decide (d.shape 3 < (wipedN (d.groups.2 G).2 (d.groups.2 G).1:Int)) = false:=decide_eq_false hd;clear hd;go_wp2;go_ret;exact boolNo rfl HD.out (Below.refl _ _)
end Go.Proofs.YtfodlpnkllolnaaGreat
namespace Go.Proofs.YtfodlpnkllolnaaGreat
def pickI (p:Nat → Bool) (n:Nat):List Nat:=(List.range n).filter p
theorem pick_succ (p:Nat → Bool) (n:Nat):pickI p (n + 1) = pickI p n ++ (if p n then [n] else []):=by
  unfold pickI;rw [List.range_succ,List.filter_append]
  cases h:p n <;> simp [h]
theorem pick_lt {p:Nat → Bool} {n i:Nat} (h:i ∈ pickI p n):i < n:=by
  unfold pickI at h;exact List.mem_range.1 (List.mem_filter.1 h).1
theorem pick_le (p:Nat → Bool) (n:Nat):(pickI p n).length ≤ n:=by
  have:=List.length_filter_le p (List.range n);unfold pickI
  simpa using this
theorem pick_nodup (p:Nat → Bool) (n:Nat):(pickI p n).Nodup:=List.Pairwise.filter _ List.nodup_range
def pickF (p:Nat → Bool) (n:Nat):Nat → Nat:=fun m => (pickI p n).getD m 0
theorem pickF_mem {p:Nat → Bool} {n m:Nat} (h:m < (pickI p n).length):pickF p n m ∈ pickI p n:=by
  unfold pickF;rw [List.getD_eq_getElem?_getD,List.getElem?_eq_getElem h];exact List.getElem_mem h
theorem pickF_lt {p:Nat → Bool} {n m:Nat} (h:m < (pickI p n).length):pickF p n m < n:=pick_lt (pickF_mem h)
theorem pickF_inj {p:Nat → Bool} {n a b:Nat} (ha:a < (pickI p n).length) (hb:b < (pickI p n).length) (h:pickF p n a = pickF p n b):a = b:=by
  unfold pickF at h;rw [List.getD_eq_getElem?_getD,List.getD_eq_getElem?_getD,List.getElem?_eq_getElem ha,List.getElem?_eq_getElem hb] at h;have hp:=List.pairwise_iff_getElem.1 (pick_nodup p n)
  rcases Nat.lt_trichotomy a b with c | c | c
  · exact absurd h (hp a b ha hb c)
  · exact c
  · exact absurd h.symm (hp b a hb ha c)
theorem pickF_more {p:Nat → Bool} {n m:Nat} (h:m < (pickI p n).length):pickF p (n + 1) m = pickF p n m:=by
  unfold pickF;rw [pick_succ,List.getD_eq_getElem?_getD,List.getD_eq_getElem?_getD,List.getElem?_append_left h]
theorem pickF_last {p:Nat → Bool} {n:Nat} (h:p n = true):pickF p (n + 1) (pickI p n).length = n:=by
  unfold pickF;rw [pick_succ,List.getD_eq_getElem?_getD,List.getElem?_append_right (Nat.le_refl _),Nat.sub_self,if_pos h];rfl
theorem pick_skip {p:Nat → Bool} {n:Nat} (h:p n = false):pickI p (n + 1) = pickI p n:=by rw [pick_succ,if_neg (by simp [h])];simp
theorem pickF_is {p:Nat → Bool} {n m:Nat} (h:m < (pickI p n).length):p (pickF p n m) = true:=by
  have:=pickF_mem h;unfold pickI at this;exact (List.mem_filter.1 this).2
theorem pickF_rise {p:Nat → Bool} {n m:Nat} (h:m + 1 < (pickI p n).length):pickF p n m < pickF p n (m + 1):=by
  have hp:(pickI p n).Pairwise (· < ·):=List.Pairwise.filter _ List.pairwise_lt_range;have:=List.pairwise_iff_getElem.1 hp m (m + 1) (by omega) h (by omega);unfold pickF;rw [List.getD_eq_getElem?_getD,List.getD_eq_getElem?_getD,List.getElem?_eq_getElem (by omega),List.getElem?_eq_getElem h];exact this
end Go.Proofs.YtfodlpnkllolnaaGreat
namespace Go.Proofs.YtfodlpnkllolnaaGreat
open Go.RowKit F256
structure RecsResultD where
  code:Int
  recs:Nat × (Nat → RecD)
structure BytesResultD where
  code:Int
  bytes:Nat × (Nat → Nat)
def layBytesResult:Lay BytesResultD:=(layI.two layBytes).as fun d => (d.code,d.bytes)
theorem BytesResult_rd {w:World} {hi:Nat} {d:BytesResultD} {cs:List Value} (h:layBytesResult.rd w hi d cs):∃ ao1 cap1,cs = [.int .i64 d.code,.slice ao1 d.bytes.1 cap1] ∧ layBytes.rd w hi d.bytes [.slice ao1 d.bytes.1 cap1] ∧ (-9223372036854775808 ≤ d.code ∧ d.code ≤ 9223372036854775807):=by
  obtain ⟨c0,r0,rfl,h0,h1⟩:=h;obtain ⟨rfl,k0⟩:=h0;obtain ⟨ao1,cap1,rfl⟩:=bytes_form h1;exact ⟨ao1,cap1,rfl,h1,k0⟩
theorem BytesResult_own {w:World} {d:BytesResultD} {cs:List Value} {L:List Nat} (h:layBytesResult.own w d cs L):∃ ao1 cap1 K1,cs = [.int .i64 d.code,.slice ao1 d.bytes.1 cap1] ∧ L = K1 ∧ layBytes.own w d.bytes [.slice ao1 d.bytes.1 cap1] K1 ∧ (-9223372036854775808 ≤ d.code ∧ d.code ≤ 9223372036854775807):=by
  obtain ⟨c0,r0,L0,M0,rfl,rfl,h0,h1⟩:=h;obtain ⟨rfl,k0,rfl⟩:=h0;obtain ⟨ao1,cap1,rfl⟩:=bytes_formO h1;exact ⟨ao1,cap1,_,rfl,rfl,h1,k0⟩
theorem BytesResult_mk {w:World} (d:BytesResultD) {ao1:Option Addr} {cap1:Nat} {K1:List Nat} (h1:layBytes.own w d.bytes [.slice ao1 d.bytes.1 cap1] K1) (k0:(-9223372036854775808 ≤ d.code ∧ d.code ≤ 9223372036854775807)):layBytesResult.own w d [.int .i64 d.code,.slice ao1 d.bytes.1 cap1] (K1):=⟨_,_,[],K1,rfl,rfl,⟨rfl,k0,rfl⟩,h1⟩
def cvBytesResultD (d:BytesResultD):Nat:=lenD d.bytes
def mkvBytesResultD (j:Nat) (d:BytesResultD):BytesResultD:=⟨d.code,mkBytes (j) d.bytes⟩
structure IntsResultD where
  code:Int
  list:Nat × (Nat → Int)
structure GroupsResultD where
  code:Int
  groups:Nat × (Nat → Int)
end Go.Proofs.YtfodlpnkllolnaaGreat
namespace Go.Proofs.YtfodlpnkllolnaaGreat
open Go.RowKit F256
set_option maxHeartbeats 1000000 in
theorem index_any (v:Value) (n:Nat) (g:Nat → Int) (hi:Nat) (x:Int) (w:World) (r:RdI w hi v n g) :
    Calls Tryz.prog 130 #[v,.int .i64 x] w fun e w' => ∃ z:Int,e = .returned (.int .i64 z) ∧ (0 ≤ z ↔ ∃ t,t < n ∧ g t = x) ∧ w' = w:=by
  obtain ⟨ao,cap,rfl,hm,hc⟩:=r;unfold maxLen at hm
  go_enter Tryz.func130,Tryz.ntmps130
  go_wp2
  go_loop [8] (fun i => ∃ k:Nat,k ≤ n ∧ i = .int .i64 k ∧ ∀ i,i < k → g i ≠ x) (fun i => n - (intOf i).toNat)
  case atStart => exact ⟨0,Nat.zero_le _,rfl,fun i hi => by omega⟩
  case round =>
    obtain ⟨k,hk,rfl,hall⟩:=hrel;have HALL:Hid (∀ i,i < k → g i ≠ x):=hall;clear hall
    by_cases hlt:k < n
    · obtain ⟨b,off,rfl,hblt,hcell⟩:=hc (by omega)
      have hck:w.cell? ⟨b,off + k,none⟩ = some (.int .i64 (g k)):=hcell k hlt;obtain ⟨y,hy⟩:∃ y,y = g k:=⟨_,rfl⟩;have HY:Hid (y = g k):=hy;rw [← hy] at hck;clear hc hcell hy
      by_cases heq:x = y
      · have HP:Hid (0 ≤ (k:Int) ↔ ∃ t,t < n ∧ g t = x):=⟨fun _ => ⟨k,hlt,by rw [← HY.out,heq]⟩,fun _ => by omega⟩
        have te:(x == y) = true:=by simp [heq]
        clear heq;go_wp2;go_ret;exact ⟨_,rfl,HP.out,rfl⟩
      · have te:(x == y) = false:=by simp [heq]
        have HN:Hid (g k ≠ x):=by show g k ≠ x;rw [← HY.out];exact fun h => heq h.symm
        clear heq;go_wp2
        go_round
        case rel => exact ⟨k + 1,by omega,by go_num,fun i hi => by
                      by_cases c:i = k
                      · rw [c];exact HN.out
                      · exact HALL.out i (by omega)⟩
        case measure => simp [intOf];omega
    · obtain rfl:k = n:=by omega
      have HP:Hid (0 ≤ (-1:Int) ↔ ∃ t,t < k ∧ g t = x):=⟨fun h => by omega,fun ⟨t,ht,he⟩ => absurd he (HALL.out t ht)⟩;clear hc;go_wp2;go_ret;exact ⟨-1,rfl,HP.out,rfl⟩
theorem contains_any (v:Value) (n:Nat) (g:Nat → Int) (hi:Nat) (x:Int) (w:World) (r:RdI w hi v n g) :
    Calls Tryz.prog 98 #[v,.int .i64 x] w (BoolP (∃ t,t < n ∧ g t = x) w):=by
  have C:=index_any v n g hi x w r;obtain ⟨ao,cap,rfl,hm,hc⟩:=r;clear hc hm;have HI:Hid (Calls Tryz.prog 130 #[.slice ao n cap,.int .i64 x] w fun e w' => ∃ z:Int,e = .returned (.int .i64 z) ∧ (0 ≤ z ↔ ∃ t,t < n ∧ g t = x) ∧ w' = w):=C;clear C;obtain ⟨P,hP⟩:∃ P:Prop,P = ∃ t,t < n ∧ g t = x:=⟨_,rfl⟩;rw [← hP] at HI ⊢;clear hP
  go_enter Tryz.func98,Tryz.ntmps98
  go_wp2_with fail
  refine HI.out.mono ?_;rintro e w1 ⟨z,rfl,hz,hw1⟩;obtain rfl:=hw1.symm;have HZ:Hid (0 ≤ z ↔ P):=hz;clear hz HI
  by_cases h0:0 ≤ z
  · have HP:Hid P:=HZ.out.mp h0
    go_wp2;go_ret;exact boolYes rfl HP.out (Below.refl _ _)
  · have HP:Hid (¬ P):=fun h => h0 (HZ.out.mpr h)
    have td:decide (0 ≤ z) = false:=by simp;omega
    clear h0;go_wp2;go_ret;exact boolNo rfl HP.out (Below.refl _ _)
end Go.Proofs.YtfodlpnkllolnaaGreat
namespace Go.Proofs.YtfodlpnkllolnaaGreat
open Go.RowKit
theorem Box.allocd {w:World} {b:Nat} {cs:Array Value} {t:TypeId} (h:Box w b cs t) (o:Obj):Box (w.alloc o) b cs t:=(Below.heap_alloc w o b h.lt).trans h
end Go.Proofs.YtfodlpnkllolnaaGreat
namespace Go.Proofs.YtfodlpnkllolnaaGreat
open Go.RowKit F256
theorem nearest_any (x a b:Int) (w:World) :
    Calls Tryz.prog 124 #[.int .i64 x,.int .i64 a,.int .i64 b] w fun e w' => e = .returned (.int .i64 (max a (min x b))) ∧ w' = w:=by
  go_enter Tryz.func124,Tryz.ntmps124
  go_wp2;go_ret;exact ⟨rfl,rfl⟩
def nearZ (x a b:Int):Int:=max a (min x b)
theorem nearZ_iff (x a b:Int) (h:a ≤ b):x = nearZ x a b ↔ a ≤ x ∧ x ≤ b:=by
  unfold nearZ;omega
theorem nearest_z (x a b:Int) (w:World) :
    Calls Tryz.prog 124 #[.int .i64 x,.int .i64 a,.int .i64 b] w fun e w' => e = .returned (.int .i64 (nearZ x a b)) ∧ w' = w:=nearest_any x a b w
set_option maxRecDepth 20000 in
set_option maxHeartbeats 8000000 in
theorem nearestShape_any (a0 a1 a2 a3 a4 a5 a6 a7 a8:Int) (w:World) :
    Calls Tryz.prog 91 #[.agg #[.int .i64 a0,.int .i64 a1,.int .i64 a2,.int .i64 a3,.int .i64 a4,.int .i64 a5,.int .i64 a6,.int .i64 a7,.int .i64 a8]] w fun e w' => e = .returned (.agg #[.int .i64 (nearZ a0 1 4),.int .i64 (nearZ a1 0 2),.int .i64 (nearZ a2 1 3),.int .i64 (nearZ a3 0 2),.int .i64 (nearZ a4 1 6),.int .i64 (nearZ a5 1 6),.int .i64 (nearZ a6 1 4),.int .i64 (nearZ a7 1 6),.int .i64 (nearZ a8 0 400)]) ∧ Below w.heap.size w w':=by
  go_enter Tryz.func91,Tryz.ntmps91
  go_wp2_with fail
  have XA:=(box_new w #[.int .i64 a0,.int .i64 a1,.int .i64 a2,.int .i64 a3,.int .i64 a4,.int .i64 a5,.int .i64 a6,.int .i64 a7,.int .i64 a8] 34).allocd (.cells #[.int .i64 0,.int .i64 0,.int .i64 0,.int .i64 0,.int .i64 0,.int .i64 0,.int .i64 0,.int .i64 0,.int .i64 0] 34);have XZ:=box_new (w.alloc (.cells #[.int .i64 a0,.int .i64 a1,.int .i64 a2,.int .i64 a3,.int .i64 a4,.int .i64 a5,.int .i64 a6,.int .i64 a7,.int .i64 a8] 34)) #[.int .i64 0,.int .i64 0,.int .i64 0,.int .i64 0,.int .i64 0,.int .i64 0,.int .i64 0,.int .i64 0,.int .i64 0] 34
  have hz:(w.alloc (.cells #[.int .i64 a0,.int .i64 a1,.int .i64 a2,.int .i64 a3,.int .i64 a4,.int .i64 a5,.int .i64 a6,.int .i64 a7,.int .i64 a8] 34)).heap.size = w.heap.size + 1:=by simp
  rw [hz] at XZ;have BA:Below w.heap.size w ((w.alloc (.cells #[.int .i64 a0,.int .i64 a1,.int .i64 a2,.int .i64 a3,.int .i64 a4,.int .i64 a5,.int .i64 a6,.int .i64 a7,.int .i64 a8] 34)).alloc (.cells #[.int .i64 0,.int .i64 0,.int .i64 0,.int .i64 0,.int .i64 0,.int .i64 0,.int .i64 0,.int .i64 0,.int .i64 0] 34)):=((Below.refl _ _).alloc (Nat.le_refl _) _).alloc (by simp) _;obtain ⟨wA,hwA⟩:∃ x,x = (w.alloc (.cells #[.int .i64 a0,.int .i64 a1,.int .i64 a2,.int .i64 a3,.int .i64 a4,.int .i64 a5,.int .i64 a6,.int .i64 a7,.int .i64 a8] 34)).alloc (.cells #[.int .i64 0,.int .i64 0,.int .i64 0,.int .i64 0,.int .i64 0,.int .i64 0,.int .i64 0,.int .i64 0,.int .i64 0] 34):=⟨_,rfl⟩;rw [← hwA] at XA XZ BA ⊢;clear hwA hz;refine wp_region_still_tail 28 (by kernel_rfl) (by kernel_rfl) ?_;have XA':Box { wA with drawn:=wA.drawn + 1 } w.heap.size #[.int .i64 a0,.int .i64 a1,.int .i64 a2,.int .i64 a3,.int .i64 a4,.int .i64 a5,.int .i64 a6,.int .i64 a7,.int .i64 a8] 34:=XA;have XZ':Box { wA with drawn:=wA.drawn + 1 } (w.heap.size + 1) #[.int .i64 0,.int .i64 0,.int .i64 0,.int .i64 0,.int .i64 0,.int .i64 0,.int .i64 0,.int .i64 0,.int .i64 0] 34:=XZ;have BA':Below w.heap.size w { wA with drawn:=wA.drawn + 1 }:=⟨BA.os,BA.tape,BA.output,BA.size,BA.block⟩;obtain ⟨wB,hwB⟩:∃ x:World,x = { wA with drawn:=wA.drawn + 1 }:=⟨_,rfl⟩;rw [← hwB] at XA' XZ' BA' ⊢;clear XA XZ BA hwB;obtain ⟨x0,x1,x2,x3,x4,x5,x6,x7,x8⟩:=box9 XA';obtain ⟨y0,y1,y2,y3,y4,y5,y6,y7,y8⟩:=box9 XZ'
  simp only [List.take_succ_cons,List.take_zero,List.drop_succ_cons,List.drop_zero]
  still_step
  still_step
  still_call (nearest_z _ _ _ _)
  still_step
  still_step
  still_call (nearest_z _ _ _ _)
  still_step
  still_step
  still_call (nearest_z _ _ _ _)
  still_step
  still_step
  still_call (nearest_z _ _ _ _)
  still_step
  still_step
  still_call (nearest_z _ _ _ _)
  still_step
  still_step
  still_call (nearest_z _ _ _ _)
  still_step
  still_step
  still_call (nearest_z _ _ _ _)
  still_step
  still_step
  still_call (nearest_z _ _ _ _)
  still_step
  still_step
  still_call (nearest_z _ _ _ _)
  still_step
  refine wpStill_nil ?_;have z0:wB.frozen? ⟨w.heap.size + 1,0,none⟩ = false:=XZ'.frozen 0;have z1:wB.frozen? ⟨w.heap.size + 1,1,none⟩ = false:=XZ'.frozen 1;have z2:wB.frozen? ⟨w.heap.size + 1,2,none⟩ = false:=XZ'.frozen 2;have z3:wB.frozen? ⟨w.heap.size + 1,3,none⟩ = false:=XZ'.frozen 3;have z4:wB.frozen? ⟨w.heap.size + 1,4,none⟩ = false:=XZ'.frozen 4;have z5:wB.frozen? ⟨w.heap.size + 1,5,none⟩ = false:=XZ'.frozen 5;have z6:wB.frozen? ⟨w.heap.size + 1,6,none⟩ = false:=XZ'.frozen 6;have z7:wB.frozen? ⟨w.heap.size + 1,7,none⟩ = false:=XZ'.frozen 7;have z8:wB.frozen? ⟨w.heap.size + 1,8,none⟩ = false:=XZ'.frozen 8;go_wp2;refine bodyPost_ret (v:=.agg #[.int .i64 (nearZ a0 1 4),.int .i64 (nearZ a1 0 2),.int .i64 (nearZ a2 1 3),.int .i64 (nearZ a3 0 2),.int .i64 (nearZ a4 1 6),.int .i64 (nearZ a5 1 6),.int .i64 (nearZ a6 1 4),.int .i64 (nearZ a7 1 6),.int .i64 (nearZ a8 0 400)]) (by simp [results,Tryz.results91,go_sem,y0,y1,y2,y3,y4,y5,y6,y7,y8]) rfl ⟨rfl,?_⟩;exact (((((((((BA'.setCell (Nat.le_succ _) _).setCell (Nat.le_succ _) _).setCell (Nat.le_succ _) _).setCell (Nat.le_succ _) _).setCell (Nat.le_succ _) _).setCell (Nat.le_succ _) _).setCell (Nat.le_succ _) _).setCell (Nat.le_succ _) _).setCell (Nat.le_succ _) _)
end Go.Proofs.YtfodlpnkllolnaaGreat
namespace Go.Proofs.YtfodlpnkllolnaaGreat
open Go.RowKit F256
theorem shape_eq_yes (a0 a1 a2 a3 a4 a5 a6 a7 a8:Int) (w:World):(Op.equalIn 10000 34 (.agg #[.int .i64 a0,.int .i64 a1,.int .i64 a2,.int .i64 a3,.int .i64 a4,.int .i64 a5,.int .i64 a6,.int .i64 a7,.int .i64 a8]) (.agg #[.int .i64 a0,.int .i64 a1,.int .i64 a2,.int .i64 a3,.int .i64 a4,.int .i64 a5,.int .i64 a6,.int .i64 a7,.int .i64 a8])).run Tryz.prog w = .ok true w:=by
  have u3:=Tryz.underlying2;rw [show (10000:Nat) = 9999 + 1 from rfl,run_equalIn_agg w 9999 34 _ _ (by kernel_rfl) (by kernel_rfl)]
  simp only [Program.fieldsOf,Tryz.underlying34]
  go_simp
theorem shape_eq_no (a0 a1 a2 a3 a4 a5 a6 a7 a8 b0 b1 b2 b3 b4 b5 b6 b7 b8:Int) (h:¬ (a0 = b0 ∧ a1 = b1 ∧ a2 = b2 ∧ a3 = b3 ∧ a4 = b4 ∧ a5 = b5 ∧ a6 = b6 ∧ a7 = b7 ∧ a8 = b8)) (w:World):(Op.equalIn 10000 34 (.agg #[.int .i64 a0,.int .i64 a1,.int .i64 a2,.int .i64 a3,.int .i64 a4,.int .i64 a5,.int .i64 a6,.int .i64 a7,.int .i64 a8]) (.agg #[.int .i64 b0,.int .i64 b1,.int .i64 b2,.int .i64 b3,.int .i64 b4,.int .i64 b5,.int .i64 b6,.int .i64 b7,.int .i64 b8])).run Tryz.prog w = .ok false w:=by
  have u3:=Tryz.underlying2;rw [show (10000:Nat) = 9999 + 1 from rfl,run_equalIn_agg w 9999 34 _ _ (by kernel_rfl) (by kernel_rfl)]
  simp only [Program.fieldsOf,Tryz.underlying34]
  have H:Hid (¬ (a0 = b0 ∧ a1 = b1 ∧ a2 = b2 ∧ a3 = b3 ∧ a4 = b4 ∧ a5 = b5 ∧ a6 = b6 ∧ a7 = b7 ∧ a8 = b8)):=h;clear h;go_simp;exact fun h0 h1 h2 h3 h4 h5 h6 h7 h8 => H.out ⟨h0,h1,h2,h3,h4,h5,h6,h7,h8⟩
theorem ok_near (s:Nat → Int):OkShape s ↔ s 0 = nearZ (s 0) 1 4 ∧ s 1 = nearZ (s 1) 0 2 ∧ s 2 = nearZ (s 2) 1 3 ∧ s 3 = nearZ (s 3) 0 2 ∧ s 4 = nearZ (s 4) 1 6 ∧ s 5 = nearZ (s 5) 1 6 ∧ s 6 = nearZ (s 6) 1 4 ∧ s 7 = nearZ (s 7) 1 6 ∧ s 8 = nearZ (s 8) 0 400:=by
  unfold OkShape Shp3 Shp;rw [nearZ_iff (s 0) 1 4 (by omega),nearZ_iff (s 1) 0 2 (by omega),nearZ_iff (s 2) 1 3 (by omega),nearZ_iff (s 3) 0 2 (by omega),nearZ_iff (s 4) 1 6 (by omega),nearZ_iff (s 5) 1 6 (by omega),nearZ_iff (s 6) 1 4 (by omega),nearZ_iff (s 7) 1 6 (by omega),nearZ_iff (s 8) 0 400 (by omega)];omega
set_option maxHeartbeats 4000000 in
theorem implShape_any (s:Nat → Int) (w:World) :
    Calls Tryz.prog 56 #[shapeV s] w fun e w' => ∃ x,e = .returned (.int .i64 x) ∧ ShFAns s x ∧ Below w.heap.size w w':=by
  have HK:Hid (OkShape s ↔ s 0 = nearZ (s 0) 1 4 ∧ s 1 = nearZ (s 1) 0 2 ∧ s 2 = nearZ (s 2) 1 3 ∧ s 3 = nearZ (s 3) 0 2 ∧ s 4 = nearZ (s 4) 1 6 ∧ s 5 = nearZ (s 5) 1 6 ∧ s 6 = nearZ (s 6) 1 4 ∧ s 7 = nearZ (s 7) 1 6 ∧ s 8 = nearZ (s 8) 0 400):=ok_near s;unfold shapeV;obtain ⟨a0,h0⟩:∃ a,a = s 0:=⟨_,rfl⟩;obtain ⟨a1,h1⟩:∃ a,a = s 1:=⟨_,rfl⟩;obtain ⟨a2,h2⟩:∃ a,a = s 2:=⟨_,rfl⟩;obtain ⟨a3,h3⟩:∃ a,a = s 3:=⟨_,rfl⟩;obtain ⟨a4,h4⟩:∃ a,a = s 4:=⟨_,rfl⟩;obtain ⟨a5,h5⟩:∃ a,a = s 5:=⟨_,rfl⟩;obtain ⟨a6,h6⟩:∃ a,a = s 6:=⟨_,rfl⟩;obtain ⟨a7,h7⟩:∃ a,a = s 7:=⟨_,rfl⟩;obtain ⟨a8,h8⟩:∃ a,a = s 8:=⟨_,rfl⟩;rw [← h0,← h1,← h2,← h3,← h4,← h5,← h6,← h7,← h8]
  have HK2:Hid (OkShape s ↔ a0 = nearZ a0 1 4 ∧ a1 = nearZ a1 0 2 ∧ a2 = nearZ a2 1 3 ∧ a3 = nearZ a3 0 2 ∧ a4 = nearZ a4 1 6 ∧ a5 = nearZ a5 1 6 ∧ a6 = nearZ a6 1 4 ∧ a7 = nearZ a7 1 6 ∧ a8 = nearZ a8 0 400):=by
    show OkShape s ↔ _
    rw [h0,h1,h2,h3,h4,h5,h6,h7,h8];exact HK.out
  clear HK h0 h1 h2 h3 h4 h5 h6 h7 h8;have CN:=nearestShape_any a0 a1 a2 a3 a4 a5 a6 a7 a8;have XA:=box_new w #[.int .i64 a0,.int .i64 a1,.int .i64 a2,.int .i64 a3,.int .i64 a4,.int .i64 a5,.int .i64 a6,.int .i64 a7,.int .i64 a8] 34;obtain ⟨x0,x1,x2,x3,x4,x5,x6,x7,x8⟩:=box9 XA;have HX:Hid (Box (w.alloc (.cells #[.int .i64 a0,.int .i64 a1,.int .i64 a2,.int .i64 a3,.int .i64 a4,.int .i64 a5,.int .i64 a6,.int .i64 a7,.int .i64 a8] 34)) w.heap.size #[.int .i64 a0,.int .i64 a1,.int .i64 a2,.int .i64 a3,.int .i64 a4,.int .i64 a5,.int .i64 a6,.int .i64 a7,.int .i64 a8] 34):=XA;have HB:Hid (Below w.heap.size w (w.alloc (.cells #[.int .i64 a0,.int .i64 a1,.int .i64 a2,.int .i64 a3,.int .i64 a4,.int .i64 a5,.int .i64 a6,.int .i64 a7,.int .i64 a8] 34))):=bnew (Below.refl _ _);obtain ⟨wA,hwA⟩:∃ x,x = w.alloc (.cells #[.int .i64 a0,.int .i64 a1,.int .i64 a2,.int .i64 a3,.int .i64 a4,.int .i64 a5,.int .i64 a6,.int .i64 a7,.int .i64 a8] 34):=⟨_,rfl⟩;rw [← hwA] at x0 x1 x2 x3 x4 x5 x6 x7 x8 HX HB;clear XA
  by_cases ok:OkShape s
  · have HO:Hid (OkShape s):=ok
    obtain ⟨e0,e1,e2,e3,e4,e5,e6,e7,e8⟩:=HK2.out.mp ok;rw [← e0,← e1,← e2,← e3,← e4,← e5,← e6,← e7,← e8] at CN;have heq:=shape_eq_yes a0 a1 a2 a3 a4 a5 a6 a7 a8;clear e0 e1 e2 e3 e4 e5 e6 e7 e8 ok
    go_enter Tryz.func56,Tryz.ntmps56
    go_wp2_with fail
    rw [← hwA];clear hwA
    go_region_with (go_at_call 91;refine (CN _).mono ?_;rintro ee w2 ⟨rfl,hb2⟩;have hB2:Below wA.heap.size wA w2:=⟨hb2.os,hb2.tape,hb2.output,hb2.size,hb2.block⟩;obtain ⟨y0,y1,y2,y3,y4,y5,y6,y7,y8⟩:=box9 (HX.out.below hB2 HX.out.lt))
    all_goals
      go_wp2;go_ret;exact ⟨0,rfl,.inr ⟨rfl,HO.out⟩,HB.out.trans (hB2.mono HB.out.size)⟩
  · have HO:Hid (¬ OkShape s):=ok
    have hno:¬ (a0 = nearZ a0 1 4 ∧ a1 = nearZ a1 0 2 ∧ a2 = nearZ a2 1 3 ∧ a3 = nearZ a3 0 2 ∧ a4 = nearZ a4 1 6 ∧ a5 = nearZ a5 1 6 ∧ a6 = nearZ a6 1 4 ∧ a7 = nearZ a7 1 6 ∧ a8 = nearZ a8 0 400):=fun h => ok (HK2.out.mpr h);have heq:=shape_eq_no a0 a1 a2 a3 a4 a5 a6 a7 a8 (nearZ a0 1 4) (nearZ a1 0 2) (nearZ a2 1 3) (nearZ a3 0 2) (nearZ a4 1 6) (nearZ a5 1 6) (nearZ a6 1 4) (nearZ a7 1 6) (nearZ a8 0 400) hno;clear hno ok
    go_enter Tryz.func56,Tryz.ntmps56
    go_wp2_with fail
    rw [← hwA];clear hwA
    go_region_with (go_at_call 91;refine (CN _).mono ?_;rintro ee w2 ⟨rfl,hb2⟩;have hB2:Below wA.heap.size wA w2:=⟨hb2.os,hb2.tape,hb2.output,hb2.size,hb2.block⟩;obtain ⟨y0,y1,y2,y3,y4,y5,y6,y7,y8⟩:=box9 (HX.out.below hB2 HX.out.lt))
    all_goals
      go_wp2;go_ret;exact ⟨3,rfl,.inl ⟨rfl,HO.out⟩,HB.out.trans (hB2.mono HB.out.size)⟩
end Go.Proofs.YtfodlpnkllolnaaGreat