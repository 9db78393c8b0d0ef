/- Walk of the program's recsFault. -/
import Derived.Test.YtpmiljdhacmppaaGreatZPcolumaf
import Derived.Test.YtpmiljdhacmppaaGreatZPcolumac
import Derived.Test.YtpmiljdhacmppaaGreatZPcolumad
import Derived.Test.YtpmiljdhacmppaaGreatZPcolumae
import Derived.Deep.DeepCutAuto
import Derived.Deep.RegionLaw
import Derived.Test.YtpmiljdhacmppaaGreatZPcolumaa
import Derived.Test.YtpmiljdhacmppaaGreatZPcolumab
import Derived.Maps.AppendAt
import Derived.BigRegion
set_option linter.unusedVariables false
set_option linter.unusedSimpArgs false
namespace Go.Proofs.YtpmiljdhacmppaaGreat
open Go.RowKit F256
set_option maxHeartbeats 8000000 in
set_option maxRecDepth 20000 in
theorem recsFault_any (d:WorldD) (cs:List Value) (hi:Nat) (w:World) (h:layWorld.rd w hi d cs) (hhi:hi ≤ w.heap.size) (hnm:∀ t,t < d.tapes.1 → ∀ i,i < (d.tapes.2 t).recs.1 → ((d.tapes.2 t).recs.2 i).name.size ≤ 1048576) :
    Calls Tryz.prog 81 #[.agg cs.toArray] w (RcsPost d.shape d.tapes w):=by
  obtain ⟨ao1,cap1,ao2,cap2,ao3,cap3,rfl,g1,g2,g3,-⟩:=World_rd h;obtain ⟨_,_,e3,hm3,hc3⟩:=g3
  cases e3
  unfold maxLen at hm3;have HC3:Hid (d.tapes.1 ≠ 0 → ∃ b off,ao3 = some ⟨b,off,none⟩ ∧ b < hi ∧ ∀ i,i < d.tapes.1 → ∃ ce,layTape.rd w hi (d.tapes.2 i) ce ∧ ∀ j,j < layTape.sz → w.cell? ⟨b,off + (i * layTape.sz + j),none⟩ = ce[j]?):=hc3;have HNM:Hid (∀ t,t < d.tapes.1 → ∀ i,i < (d.tapes.2 t).recs.1 → ((d.tapes.2 t).recs.2 i).name.size ≤ 1048576):=hnm;have HT0:Hid (One w (w.alloc (.cells #[.int .i64 (d.shape 0),.int .i64 (d.shape 1),.int .i64 (d.shape 2),.int .i64 (d.shape 3),.int .i64 (d.shape 4),.int .i64 (d.shape 5),.int .i64 (d.shape 6),.int .i64 (d.shape 7),.int .i64 (d.shape 8),.slice ao1 d.groups.1 cap1,.slice ao2 d.on.1 cap2,.slice ao3 d.tapes.1 cap3,.int .i64 d.writes,.int .i64 d.stop,.bool d.down] 35)) #[.int .i64 (d.shape 0),.int .i64 (d.shape 1),.int .i64 (d.shape 2),.int .i64 (d.shape 3),.int .i64 (d.shape 4),.int .i64 (d.shape 5),.int .i64 (d.shape 6),.int .i64 (d.shape 7),.int .i64 (d.shape 8),.slice ao1 d.groups.1 cap1,.slice ao2 d.on.1 cap2,.slice ao3 d.tapes.1 cap3,.int .i64 d.writes,.int .i64 d.stop,.bool d.down] 35):=one_new w #[.int .i64 (d.shape 0),.int .i64 (d.shape 1),.int .i64 (d.shape 2),.int .i64 (d.shape 3),.int .i64 (d.shape 4),.int .i64 (d.shape 5),.int .i64 (d.shape 6),.int .i64 (d.shape 7),.int .i64 (d.shape 8),.slice ao1 d.groups.1 cap1,.slice ao2 d.on.1 cap2,.slice ao3 d.tapes.1 cap3,.int .i64 d.writes,.int .i64 d.stop,.bool d.down] 35;clear h g1 g2 hc3 hnm
  go_enter Tryz.func81,Tryz.ntmps81
  go_wp2
  go_loopw [11] (fun v wr => ∃ t:Nat,t ≤ d.tapes.1 ∧ v = .int .i64 t ∧ (∀ u,u < t → ∀ k,k < (d.tapes.2 u).recs.1 → RecAns d.shape ((d.tapes.2 u).recs.2 k) 0) ∧ One w wr #[.int .i64 (d.shape 0),.int .i64 (d.shape 1),.int .i64 (d.shape 2),.int .i64 (d.shape 3),.int .i64 (d.shape 4),.int .i64 (d.shape 5),.int .i64 (d.shape 6),.int .i64 (d.shape 7),.int .i64 (d.shape 8),.slice ao1 d.groups.1 cap1,.slice ao2 d.on.1 cap2,.slice ao3 d.tapes.1 cap3,.int .i64 d.writes,.int .i64 d.stop,.bool d.down] 35) (fun v _ => d.tapes.1 - (intOf v).toNat)
  case atStart => exact ⟨0,Nat.zero_le _,rfl,fun i hi => by omega,HT0.out⟩
  case round =>
    clear HT0;obtain ⟨t,ht,rfl,hal,T1⟩:=hrel;obtain ⟨wo,rfl⟩:∃ x,x = wr:=⟨_,rfl⟩;have HAL:Hid (∀ u,u < t → ∀ k,k < (d.tapes.2 u).recs.1 → RecAns d.shape ((d.tapes.2 u).recs.2 k) 0):=hal;have HT1:Hid (One w wo #[.int .i64 (d.shape 0),.int .i64 (d.shape 1),.int .i64 (d.shape 2),.int .i64 (d.shape 3),.int .i64 (d.shape 4),.int .i64 (d.shape 5),.int .i64 (d.shape 6),.int .i64 (d.shape 7),.int .i64 (d.shape 8),.slice ao1 d.groups.1 cap1,.slice ao2 d.on.1 cap2,.slice ao3 d.tapes.1 cap3,.int .i64 d.writes,.int .i64 d.stop,.bool d.down] 35):=T1;clear hal
    by_cases hlt:t < d.tapes.1
    · obtain ⟨b3,off3,he3,hb3,hel3⟩:=HC3.out (by omega)
      subst he3;obtain ⟨ct,hrt,hct⟩:=elem_rd (t:=0) hel3 T1.bel hhi hb3 hlt;obtain ⟨ap,cp,rfl,gt⟩:=Tape_rd hrt;have c0:wo.cell? ⟨b3,off3 + t * 2,none⟩ = some (.bool (d.tapes.2 t).wiped):=hct 0 (by decide);have c1:wo.cell? ⟨b3,off3 + t * 2 + 1,none⟩ = some (.slice ap (d.tapes.2 t).recs.1 cp):=hct 1 (by decide);obtain ⟨_,_,et,hmt,hct'⟩:=gt
      cases et
      unfold maxLen at hmt;have HCT:Hid ((d.tapes.2 t).recs.1 ≠ 0 → ∃ b off,ap = some ⟨b,off,none⟩ ∧ b < hi ∧ ∀ i,i < (d.tapes.2 t).recs.1 → ∃ ce,layRec.rd wo hi ((d.tapes.2 t).recs.2 i) ce ∧ ∀ j,j < layRec.sz → wo.cell? ⟨b,off + (i * layRec.sz + j),none⟩ = ce[j]?):=hct';have zo:w.heap.size < wo.heap.size:=T1.b1.lt;clear hel3 hct hrt hct' T1
      go_upto_region 4 with fail
      have bA:Below wo.heap.size wo (wo.alloc (.cells #[.bool (d.tapes.2 t).wiped,.slice ap (d.tapes.2 t).recs.1 cp] 73)):=(Below.refl _ _).alloc (Nat.le_refl _) _;have X2:Box (wo.alloc (.cells #[.bool (d.tapes.2 t).wiped,.slice ap (d.tapes.2 t).recs.1 cp] 73)) wo.heap.size #[.bool (d.tapes.2 t).wiped,.slice ap (d.tapes.2 t).recs.1 cp] 73:=box_new _ _ _;obtain ⟨W2,hW2⟩:∃ x,x = wo.alloc (.cells #[.bool (d.tapes.2 t).wiped,.slice ap (d.tapes.2 t).recs.1 cp] 73):=⟨_,rfl⟩;rw [← hW2] at bA X2 ⊢;have y2_1:W2.cell? ⟨wo.heap.size,1,none⟩ = some (.slice ap (d.tapes.2 t).recs.1 cp):=X2.cell 1;have HB2:Hid (Below wo.heap.size wo W2):=bA;clear c0 c1 X2 bA hW2;go_wp2
      go_loopw [18] (fun v wx => ∃ i:Nat,i ≤ (d.tapes.2 t).recs.1 ∧ v = .int .i64 i ∧ (∀ k,k < i → RecAns d.shape ((d.tapes.2 t).recs.2 k) 0) ∧ Below wo.heap.size wo wx) (fun v _ => (d.tapes.2 t).recs.1 - (intOf v).toNat)
      case atStart => exact ⟨0,Nat.zero_le _,rfl,fun i hi => by omega,HB2.out⟩
      case round =>
        clear HB2 y2_1;obtain ⟨i,hi',rfl,hal2,hb4⟩:=hrel;obtain ⟨wx,rfl⟩:∃ x,x = wr:=⟨_,rfl⟩;have HAL2:Hid (∀ k,k < i → RecAns d.shape ((d.tapes.2 t).recs.2 k) 0):=hal2;have HB4:Hid (Below wo.heap.size wo wx):=hb4;clear hal2
        by_cases hli:i < (d.tapes.2 t).recs.1
        · obtain ⟨b6,off6,he6,hb6,hel6⟩:=HCT.out (by omega)
          subst he6;obtain ⟨cr,hrr,hcr⟩:=elem_rd (t:=0) hel6 hb4 (by omega) hb6 hli;obtain ⟨ro6,rc6,ro7,rc7,ro8,rc8,rfl,-⟩:=Rec_rd hrr;have r0:wx.cell? ⟨b6,off6 + i * 9,none⟩ = some (.int .i64 ((d.tapes.2 t).recs.2 i).kind):=hcr 0 (by decide);have r1:wx.cell? ⟨b6,off6 + i * 9 + 1,none⟩ = some (.int .i64 ((d.tapes.2 t).recs.2 i).seq):=hcr 1 (by decide);have r2:wx.cell? ⟨b6,off6 + i * 9 + 2,none⟩ = some (.string ((d.tapes.2 t).recs.2 i).name):=hcr 2 (by decide);have r3:wx.cell? ⟨b6,off6 + i * 9 + 3,none⟩ = some (.int .i64 ((d.tapes.2 t).recs.2 i).length):=hcr 3 (by decide);have r4:wx.cell? ⟨b6,off6 + i * 9 + 4,none⟩ = some (.int .i64 ((d.tapes.2 t).recs.2 i).group):=hcr 4 (by decide);have r5:wx.cell? ⟨b6,off6 + i * 9 + 5,none⟩ = some (.int .i64 ((d.tapes.2 t).recs.2 i).row):=hcr 5 (by decide);have r6:wx.cell? ⟨b6,off6 + i * 9 + 6,none⟩ = some (.slice ro6 ((d.tapes.2 t).recs.2 i).rows.1 rc6):=hcr 6 (by decide);have r7:wx.cell? ⟨b6,off6 + i * 9 + 7,none⟩ = some (.slice ro7 ((d.tapes.2 t).recs.2 i).data.1 rc7):=hcr 7 (by decide);have r8:wx.cell? ⟨b6,off6 + i * 9 + 8,none⟩ = some (.slice ro8 ((d.tapes.2 t).recs.2 i).delta.1 rc8):=hcr 8 (by decide);have HRR:Hid (layRec.rd wx hi ((d.tapes.2 t).recs.2 i) [.int .i64 ((d.tapes.2 t).recs.2 i).kind,.int .i64 ((d.tapes.2 t).recs.2 i).seq,.string ((d.tapes.2 t).recs.2 i).name,.int .i64 ((d.tapes.2 t).recs.2 i).length,.int .i64 ((d.tapes.2 t).recs.2 i).group,.int .i64 ((d.tapes.2 t).recs.2 i).row,.slice ro6 ((d.tapes.2 t).recs.2 i).rows.1 rc6,.slice ro7 ((d.tapes.2 t).recs.2 i).data.1 rc7,.slice ro8 ((d.tapes.2 t).recs.2 i).delta.1 rc8]):=hrr;have T4:One w wx #[.int .i64 (d.shape 0),.int .i64 (d.shape 1),.int .i64 (d.shape 2),.int .i64 (d.shape 3),.int .i64 (d.shape 4),.int .i64 (d.shape 5),.int .i64 (d.shape 6),.int .i64 (d.shape 7),.int .i64 (d.shape 8),.slice ao1 d.groups.1 cap1,.slice ao2 d.on.1 cap2,.slice (some ⟨b3,off3,none⟩) d.tapes.1 cap3,.int .i64 d.writes,.int .i64 d.stop,.bool d.down] 35:=HT1.out.call hb4;have HT4:Hid (One w wx #[.int .i64 (d.shape 0),.int .i64 (d.shape 1),.int .i64 (d.shape 2),.int .i64 (d.shape 3),.int .i64 (d.shape 4),.int .i64 (d.shape 5),.int .i64 (d.shape 6),.int .i64 (d.shape 7),.int .i64 (d.shape 8),.slice ao1 d.groups.1 cap1,.slice ao2 d.on.1 cap2,.slice (some ⟨b3,off3,none⟩) d.tapes.1 cap3,.int .i64 d.writes,.int .i64 d.stop,.bool d.down] 35):=T4;have zx:wo.heap.size ≤ wx.heap.size:=hb4.size;obtain ⟨X,hX⟩:∃ X,RecAns d.shape ((d.tapes.2 t).recs.2 i) X:=stair_ex (K:=isZ) ⟨0,rfl⟩ _;have HX:Hid (RecAns d.shape ((d.tapes.2 t).recs.2 i) X):=hX;clear hel6 hcr hrr T4 hb4 hX
          go_upto_region 7 with fail
          have bA:Below wx.heap.size wx (wx.alloc (.cells #[.int .i64 ((d.tapes.2 t).recs.2 i).kind,.int .i64 ((d.tapes.2 t).recs.2 i).seq,.string ((d.tapes.2 t).recs.2 i).name,.int .i64 ((d.tapes.2 t).recs.2 i).length,.int .i64 ((d.tapes.2 t).recs.2 i).group,.int .i64 ((d.tapes.2 t).recs.2 i).row,.slice ro6 ((d.tapes.2 t).recs.2 i).rows.1 rc6,.slice ro7 ((d.tapes.2 t).recs.2 i).data.1 rc7,.slice ro8 ((d.tapes.2 t).recs.2 i).delta.1 rc8] 76)):=(Below.refl _ _).alloc (Nat.le_refl _) _;have X5:Box (wx.alloc (.cells #[.int .i64 ((d.tapes.2 t).recs.2 i).kind,.int .i64 ((d.tapes.2 t).recs.2 i).seq,.string ((d.tapes.2 t).recs.2 i).name,.int .i64 ((d.tapes.2 t).recs.2 i).length,.int .i64 ((d.tapes.2 t).recs.2 i).group,.int .i64 ((d.tapes.2 t).recs.2 i).row,.slice ro6 ((d.tapes.2 t).recs.2 i).rows.1 rc6,.slice ro7 ((d.tapes.2 t).recs.2 i).data.1 rc7,.slice ro8 ((d.tapes.2 t).recs.2 i).delta.1 rc8] 76)) wx.heap.size #[.int .i64 ((d.tapes.2 t).recs.2 i).kind,.int .i64 ((d.tapes.2 t).recs.2 i).seq,.string ((d.tapes.2 t).recs.2 i).name,.int .i64 ((d.tapes.2 t).recs.2 i).length,.int .i64 ((d.tapes.2 t).recs.2 i).group,.int .i64 ((d.tapes.2 t).recs.2 i).row,.slice ro6 ((d.tapes.2 t).recs.2 i).rows.1 rc6,.slice ro7 ((d.tapes.2 t).recs.2 i).data.1 rc7,.slice ro8 ((d.tapes.2 t).recs.2 i).delta.1 rc8] 76:=box_new _ _ _;obtain ⟨W5,hW5⟩:∃ x,x = wx.alloc (.cells #[.int .i64 ((d.tapes.2 t).recs.2 i).kind,.int .i64 ((d.tapes.2 t).recs.2 i).seq,.string ((d.tapes.2 t).recs.2 i).name,.int .i64 ((d.tapes.2 t).recs.2 i).length,.int .i64 ((d.tapes.2 t).recs.2 i).group,.int .i64 ((d.tapes.2 t).recs.2 i).row,.slice ro6 ((d.tapes.2 t).recs.2 i).rows.1 rc6,.slice ro7 ((d.tapes.2 t).recs.2 i).data.1 rc7,.slice ro8 ((d.tapes.2 t).recs.2 i).delta.1 rc8] 76):=⟨_,rfl⟩;rw [← hW5] at bA X5 ⊢;have T5:One w W5 #[.int .i64 (d.shape 0),.int .i64 (d.shape 1),.int .i64 (d.shape 2),.int .i64 (d.shape 3),.int .i64 (d.shape 4),.int .i64 (d.shape 5),.int .i64 (d.shape 6),.int .i64 (d.shape 7),.int .i64 (d.shape 8),.slice ao1 d.groups.1 cap1,.slice ao2 d.on.1 cap2,.slice (some ⟨b3,off3,none⟩) d.tapes.1 cap3,.int .i64 d.writes,.int .i64 d.stop,.bool d.down] 35:=HT4.out.call bA;have y5_0:W5.cell? ⟨wx.heap.size,0,none⟩ = some (.int .i64 ((d.tapes.2 t).recs.2 i).kind):=X5.cell 0;have y5_1:W5.cell? ⟨wx.heap.size,1,none⟩ = some (.int .i64 ((d.tapes.2 t).recs.2 i).seq):=X5.cell 1;have y5_2:W5.cell? ⟨wx.heap.size,2,none⟩ = some (.string ((d.tapes.2 t).recs.2 i).name):=X5.cell 2;have y5_3:W5.cell? ⟨wx.heap.size,3,none⟩ = some (.int .i64 ((d.tapes.2 t).recs.2 i).length):=X5.cell 3;have y5_4:W5.cell? ⟨wx.heap.size,4,none⟩ = some (.int .i64 ((d.tapes.2 t).recs.2 i).group):=X5.cell 4;have y5_5:W5.cell? ⟨wx.heap.size,5,none⟩ = some (.int .i64 ((d.tapes.2 t).recs.2 i).row):=X5.cell 5;have y5_6:W5.cell? ⟨wx.heap.size,6,none⟩ = some (.slice ro6 ((d.tapes.2 t).recs.2 i).rows.1 rc6):=X5.cell 6;have y5_7:W5.cell? ⟨wx.heap.size,7,none⟩ = some (.slice ro7 ((d.tapes.2 t).recs.2 i).data.1 rc7):=X5.cell 7
          have y5_8:W5.cell? ⟨wx.heap.size,8,none⟩ = some (.slice ro8 ((d.tapes.2 t).recs.2 i).delta.1 rc8):=X5.cell 8;have x5_0:W5.cell? ⟨w.heap.size,0,none⟩ = some (.int .i64 (d.shape 0)):=T5.b1.cell 0;have x5_1:W5.cell? ⟨w.heap.size,1,none⟩ = some (.int .i64 (d.shape 1)):=T5.b1.cell 1;have x5_2:W5.cell? ⟨w.heap.size,2,none⟩ = some (.int .i64 (d.shape 2)):=T5.b1.cell 2;have x5_3:W5.cell? ⟨w.heap.size,3,none⟩ = some (.int .i64 (d.shape 3)):=T5.b1.cell 3;have x5_4:W5.cell? ⟨w.heap.size,4,none⟩ = some (.int .i64 (d.shape 4)):=T5.b1.cell 4;have x5_5:W5.cell? ⟨w.heap.size,5,none⟩ = some (.int .i64 (d.shape 5)):=T5.b1.cell 5;have x5_6:W5.cell? ⟨w.heap.size,6,none⟩ = some (.int .i64 (d.shape 6)):=T5.b1.cell 6;have x5_7:W5.cell? ⟨w.heap.size,7,none⟩ = some (.int .i64 (d.shape 7)):=T5.b1.cell 7;have x5_8:W5.cell? ⟨w.heap.size,8,none⟩ = some (.int .i64 (d.shape 8)):=T5.b1.cell 8;have CR:=rec_det HX.out (implRec_any d.shape ((d.tapes.2 t).recs.2 i) _ hi W5 (layRec.rd_below HRR.out bA (by omega)) (by have:=bA.size;omega) (HNM.out t hlt i hli));unfold shapeV at CR;have HB5:Hid (Below wx.heap.size wx W5):=bA;clear r0 r1 r2 r3 r4 r5 r6 r7 r8 bA X5 T5 hW5
          go_wp2_with fail
          refine CR.mono ?_;rintro e w6 ⟨rfl,b6'⟩;have HB6:Hid (Below wo.heap.size wo w6):=HB4.out.trans ((HB5.out.trans (b6'.mono HB5.out.size)).mono HB4.out.size);clear b6' CR y5_0 x5_0 y5_1 x5_1 y5_2 x5_2 y5_3 x5_3 y5_4 x5_4 y5_5 x5_5 y5_6 x5_6 y5_7 x5_7 y5_8 x5_8
          by_cases hx0:X = 0
          · subst hx0
            go_wp2
            go_roundw
            case rel => exact ⟨i + 1,by omega,by go_num,fun k hk => by
                          by_cases c:k = i
                          · subst c;exact HX.out
                          · exact HAL2.out k (by omega),HB6.out⟩
            case measure => simp [intOf];omega
          · have hne:(X != 0) = true:=by simp [hx0]
            go_wp2;go_ret;exact ⟨X,rfl,.inr ⟨hx0,t,i,hlt,hli,HX.out,HAL2.out,HAL.out⟩,(HT1.out.call HB6.out).bel⟩
        · obtain rfl:i = (d.tapes.2 t).recs.1:=by omega
          clear hb4;go_wp2
          go_roundw
          case rel => exact ⟨t + 1,by omega,by go_num,fun u hu => by
                        by_cases c:u = t
                        · subst c;exact HAL2.out
                        · exact HAL.out u (by omega),HT1.out.call HB4.out⟩
          case measure => simp [intOf];omega
    · obtain rfl:t = d.tapes.1:=by omega
      go_wp2;go_ret;exact ⟨0,rfl,.inl ⟨rfl,HAL.out⟩,HT1.out.bel⟩
end Go.Proofs.YtpmiljdhacmppaaGreat
namespace Go.Proofs.YtpmiljdhacmppaaGreat
open Go.RowKit F256
set_option maxHeartbeats 16000000 in
set_option maxRecDepth 20000 in
theorem implWorld_any (d:WorldD) (cs:List Value) (hi:Nat) (w:World) (h:layWorld.rd w hi d cs) (hhi:hi ≤ w.heap.size) (hnm:∀ t,t < d.tapes.1 → ∀ i,i < (d.tapes.2 t).recs.1 → ((d.tapes.2 t).recs.2 i).name.size ≤ 1048576) :
    Calls Tryz.prog 42 #[.agg cs.toArray] w (WldPost d w):=by
  obtain ⟨ao1,cap1,ao2,cap2,ao3,cap3,rfl,g1,g2,g3,-⟩:=World_rd h;have HRD:Hid (layWorld.rd w hi d [.int .i64 (d.shape 0),.int .i64 (d.shape 1),.int .i64 (d.shape 2),.int .i64 (d.shape 3),.int .i64 (d.shape 4),.int .i64 (d.shape 5),.int .i64 (d.shape 6),.int .i64 (d.shape 7),.int .i64 (d.shape 8),.slice ao1 d.groups.1 cap1,.slice ao2 d.on.1 cap2,.slice ao3 d.tapes.1 cap3,.int .i64 d.writes,.int .i64 d.stop,.bool d.down]):=h;have HG1:Hid (((layDrive.slice 88).slice 80).rd w hi d.groups [.slice ao1 d.groups.1 cap1]):=g1;have HG3:Hid ((layTape.slice 73).rd w hi d.tapes [.slice ao3 d.tapes.1 cap3]):=g3
  have hm3:d.tapes.1 ≤ maxLen:=by obtain ⟨_,_,_,h,_⟩:=g3;exact h
  unfold maxLen at hm3;have HNM:Hid (∀ t,t < d.tapes.1 → ∀ i,i < (d.tapes.2 t).recs.1 → ((d.tapes.2 t).recs.2 i).name.size ≤ 1048576):=hnm;clear h g1 g2 g3 hnm;have T0:=one_new w #[.int .i64 (d.shape 0),.int .i64 (d.shape 1),.int .i64 (d.shape 2),.int .i64 (d.shape 3),.int .i64 (d.shape 4),.int .i64 (d.shape 5),.int .i64 (d.shape 6),.int .i64 (d.shape 7),.int .i64 (d.shape 8),.slice ao1 d.groups.1 cap1,.slice ao2 d.on.1 cap2,.slice ao3 d.tapes.1 cap3,.int .i64 d.writes,.int .i64 d.stop,.bool d.down] 35;have CSh:=fun w' => implShape_any d.shape w';unfold shapeV at CSh
  go_enter Tryz.func42,Tryz.ntmps42
  go_wp2_with fail
  refine (CSh _).mono ?_;rintro e w1 ⟨x,rfl,hx,b1⟩;have T1:One w w1 #[.int .i64 (d.shape 0),.int .i64 (d.shape 1),.int .i64 (d.shape 2),.int .i64 (d.shape 3),.int .i64 (d.shape 4),.int .i64 (d.shape 5),.int .i64 (d.shape 6),.int .i64 (d.shape 7),.int .i64 (d.shape 8),.slice ao1 d.groups.1 cap1,.slice ao2 d.on.1 cap2,.slice ao3 d.tapes.1 cap3,.int .i64 d.writes,.int .i64 d.stop,.bool d.down] 35:=T0.call b1;have HT1:Hid (One w w1 #[.int .i64 (d.shape 0),.int .i64 (d.shape 1),.int .i64 (d.shape 2),.int .i64 (d.shape 3),.int .i64 (d.shape 4),.int .i64 (d.shape 5),.int .i64 (d.shape 6),.int .i64 (d.shape 7),.int .i64 (d.shape 8),.slice ao1 d.groups.1 cap1,.slice ao2 d.on.1 cap2,.slice ao3 d.tapes.1 cap3,.int .i64 d.writes,.int .i64 d.stop,.bool d.down] 35):=T1;clear b1 T0 CSh;have x1_0:w1.cell? ⟨w.heap.size,0,none⟩ = some (.int .i64 (d.shape 0)):=T1.b1.cell 0;have x1_1:w1.cell? ⟨w.heap.size,1,none⟩ = some (.int .i64 (d.shape 1)):=T1.b1.cell 1;have x1_2:w1.cell? ⟨w.heap.size,2,none⟩ = some (.int .i64 (d.shape 2)):=T1.b1.cell 2;have x1_3:w1.cell? ⟨w.heap.size,3,none⟩ = some (.int .i64 (d.shape 3)):=T1.b1.cell 3;have x1_4:w1.cell? ⟨w.heap.size,4,none⟩ = some (.int .i64 (d.shape 4)):=T1.b1.cell 4;have x1_5:w1.cell? ⟨w.heap.size,5,none⟩ = some (.int .i64 (d.shape 5)):=T1.b1.cell 5;have x1_6:w1.cell? ⟨w.heap.size,6,none⟩ = some (.int .i64 (d.shape 6)):=T1.b1.cell 6;have x1_7:w1.cell? ⟨w.heap.size,7,none⟩ = some (.int .i64 (d.shape 7)):=T1.b1.cell 7;have x1_8:w1.cell? ⟨w.heap.size,8,none⟩ = some (.int .i64 (d.shape 8)):=T1.b1.cell 8;have x1_9:w1.cell? ⟨w.heap.size,9,none⟩ = some (.slice ao1 d.groups.1 cap1):=T1.b1.cell 9;have x1_10:w1.cell? ⟨w.heap.size,10,none⟩ = some (.slice ao2 d.on.1 cap2):=T1.b1.cell 10;have x1_11:w1.cell? ⟨w.heap.size,11,none⟩ = some (.slice ao3 d.tapes.1 cap3):=T1.b1.cell 11;have x1_12:w1.cell? ⟨w.heap.size,12,none⟩ = some (.int .i64 d.writes):=T1.b1.cell 12;have x1_13:w1.cell? ⟨w.heap.size,13,none⟩ = some (.int .i64 d.stop):=T1.b1.cell 13;have x1_14:w1.cell? ⟨w.heap.size,14,none⟩ = some (.bool d.down):=T1.b1.cell 14;clear T1
  rcases hx with ⟨rfl,hno⟩ | ⟨rfl,hok⟩
  · go_wp2
    go_ret;exact wldP rfl (Stair.fall hno) HT1.out.bel
  have HOK:Hid (OkShape d.shape):=hok;clear hok;obtain ⟨t1,h1⟩:=exB (BuiltP d);have C1:=det_b (groupsFit_any d.shape HOK.out d.groups _ hi w1 (((layDrive.slice 88).slice 80).rd_below HG1.out HT1.out.bel hhi) (Nat.le_trans hhi HT1.out.bel.size)) (show t1 = true ↔ GroupsP d.shape d.groups from h1);unfold shapeV at C1;have H1:Hid (t1 = true ↔ BuiltP d):=h1;clear h1
  go_wp2_with fail
  refine C1.mono ?_;rintro e w2 ⟨rfl,b2⟩;have T2:One w w2 #[.int .i64 (d.shape 0),.int .i64 (d.shape 1),.int .i64 (d.shape 2),.int .i64 (d.shape 3),.int .i64 (d.shape 4),.int .i64 (d.shape 5),.int .i64 (d.shape 6),.int .i64 (d.shape 7),.int .i64 (d.shape 8),.slice ao1 d.groups.1 cap1,.slice ao2 d.on.1 cap2,.slice ao3 d.tapes.1 cap3,.int .i64 d.writes,.int .i64 d.stop,.bool d.down] 35:=HT1.out.call b2;have HT2:Hid (One w w2 #[.int .i64 (d.shape 0),.int .i64 (d.shape 1),.int .i64 (d.shape 2),.int .i64 (d.shape 3),.int .i64 (d.shape 4),.int .i64 (d.shape 5),.int .i64 (d.shape 6),.int .i64 (d.shape 7),.int .i64 (d.shape 8),.slice ao1 d.groups.1 cap1,.slice ao2 d.on.1 cap2,.slice ao3 d.tapes.1 cap3,.int .i64 d.writes,.int .i64 d.stop,.bool d.down] 35):=T2;clear b2 x1_0 x1_1 x1_2 x1_3 x1_4 x1_5 x1_6 x1_7 x1_8 x1_9 x1_10 x1_11 x1_12 x1_13 x1_14;have x2_0:w2.cell? ⟨w.heap.size,0,none⟩ = some (.int .i64 (d.shape 0)):=T2.b1.cell 0;have x2_1:w2.cell? ⟨w.heap.size,1,none⟩ = some (.int .i64 (d.shape 1)):=T2.b1.cell 1;have x2_2:w2.cell? ⟨w.heap.size,2,none⟩ = some (.int .i64 (d.shape 2)):=T2.b1.cell 2;have x2_3:w2.cell? ⟨w.heap.size,3,none⟩ = some (.int .i64 (d.shape 3)):=T2.b1.cell 3;have x2_4:w2.cell? ⟨w.heap.size,4,none⟩ = some (.int .i64 (d.shape 4)):=T2.b1.cell 4;have x2_5:w2.cell? ⟨w.heap.size,5,none⟩ = some (.int .i64 (d.shape 5)):=T2.b1.cell 5;have x2_6:w2.cell? ⟨w.heap.size,6,none⟩ = some (.int .i64 (d.shape 6)):=T2.b1.cell 6;have x2_7:w2.cell? ⟨w.heap.size,7,none⟩ = some (.int .i64 (d.shape 7)):=T2.b1.cell 7;have x2_8:w2.cell? ⟨w.heap.size,8,none⟩ = some (.int .i64 (d.shape 8)):=T2.b1.cell 8;have x2_9:w2.cell? ⟨w.heap.size,9,none⟩ = some (.slice ao1 d.groups.1 cap1):=T2.b1.cell 9;have x2_10:w2.cell? ⟨w.heap.size,10,none⟩ = some (.slice ao2 d.on.1 cap2):=T2.b1.cell 10;have x2_11:w2.cell? ⟨w.heap.size,11,none⟩ = some (.slice ao3 d.tapes.1 cap3):=T2.b1.cell 11;have x2_12:w2.cell? ⟨w.heap.size,12,none⟩ = some (.int .i64 d.writes):=T2.b1.cell 12;have x2_13:w2.cell? ⟨w.heap.size,13,none⟩ = some (.int .i64 d.stop):=T2.b1.cell 13;have x2_14:w2.cell? ⟨w.heap.size,14,none⟩ = some (.bool d.down):=T2.b1.cell 14;clear T2;clear C1
  cases t1 with
  | false =>
    go_wp2;go_ret;exact wldP rfl (Stair.pass HOK.out (Stair.fall (fun h => by have:=H1.out.2 h.1;simp at this))) HT2.out.bel
  | true =>
  have HB:Hid (BuiltP d):=H1.out.1 rfl;clear H1;obtain ⟨t2,h2⟩:=exB (OnP d);have C2:=det_b (onFits_any d HOK.out _ hi w2 (layWorld.rd_below HRD.out HT2.out.bel hhi) (Nat.le_trans hhi HT2.out.bel.size)) h2;have H2:Hid (t2 = true ↔ OnP d):=h2;clear h2
  go_wp2_with fail
  refine C2.mono ?_;rintro e w3 ⟨rfl,b3⟩;have T3:One w w3 #[.int .i64 (d.shape 0),.int .i64 (d.shape 1),.int .i64 (d.shape 2),.int .i64 (d.shape 3),.int .i64 (d.shape 4),.int .i64 (d.shape 5),.int .i64 (d.shape 6),.int .i64 (d.shape 7),.int .i64 (d.shape 8),.slice ao1 d.groups.1 cap1,.slice ao2 d.on.1 cap2,.slice ao3 d.tapes.1 cap3,.int .i64 d.writes,.int .i64 d.stop,.bool d.down] 35:=HT2.out.call b3;have HT3:Hid (One w w3 #[.int .i64 (d.shape 0),.int .i64 (d.shape 1),.int .i64 (d.shape 2),.int .i64 (d.shape 3),.int .i64 (d.shape 4),.int .i64 (d.shape 5),.int .i64 (d.shape 6),.int .i64 (d.shape 7),.int .i64 (d.shape 8),.slice ao1 d.groups.1 cap1,.slice ao2 d.on.1 cap2,.slice ao3 d.tapes.1 cap3,.int .i64 d.writes,.int .i64 d.stop,.bool d.down] 35):=T3;clear b3 x2_0 x2_1 x2_2 x2_3 x2_4 x2_5 x2_6 x2_7 x2_8 x2_9 x2_10 x2_11 x2_12 x2_13 x2_14;have x3_0:w3.cell? ⟨w.heap.size,0,none⟩ = some (.int .i64 (d.shape 0)):=T3.b1.cell 0;have x3_1:w3.cell? ⟨w.heap.size,1,none⟩ = some (.int .i64 (d.shape 1)):=T3.b1.cell 1;have x3_2:w3.cell? ⟨w.heap.size,2,none⟩ = some (.int .i64 (d.shape 2)):=T3.b1.cell 2;have x3_3:w3.cell? ⟨w.heap.size,3,none⟩ = some (.int .i64 (d.shape 3)):=T3.b1.cell 3;have x3_4:w3.cell? ⟨w.heap.size,4,none⟩ = some (.int .i64 (d.shape 4)):=T3.b1.cell 4;have x3_5:w3.cell? ⟨w.heap.size,5,none⟩ = some (.int .i64 (d.shape 5)):=T3.b1.cell 5;have x3_6:w3.cell? ⟨w.heap.size,6,none⟩ = some (.int .i64 (d.shape 6)):=T3.b1.cell 6;have x3_7:w3.cell? ⟨w.heap.size,7,none⟩ = some (.int .i64 (d.shape 7)):=T3.b1.cell 7;have x3_8:w3.cell? ⟨w.heap.size,8,none⟩ = some (.int .i64 (d.shape 8)):=T3.b1.cell 8;have x3_9:w3.cell? ⟨w.heap.size,9,none⟩ = some (.slice ao1 d.groups.1 cap1):=T3.b1.cell 9;have x3_10:w3.cell? ⟨w.heap.size,10,none⟩ = some (.slice ao2 d.on.1 cap2):=T3.b1.cell 10;have x3_11:w3.cell? ⟨w.heap.size,11,none⟩ = some (.slice ao3 d.tapes.1 cap3):=T3.b1.cell 11;have x3_12:w3.cell? ⟨w.heap.size,12,none⟩ = some (.int .i64 d.writes):=T3.b1.cell 12;have x3_13:w3.cell? ⟨w.heap.size,13,none⟩ = some (.int .i64 d.stop):=T3.b1.cell 13;have x3_14:w3.cell? ⟨w.heap.size,14,none⟩ = some (.bool d.down):=T3.b1.cell 14;clear T3;clear C2
  cases t2 with
  | false =>
    go_wp2;go_ret;exact wldP rfl (Stair.pass HOK.out (Stair.fall (fun h => by have:=H2.out.2 h.2.1;simp at this))) HT3.out.bel
  | true =>
  have HO:Hid (OnP d):=H2.out.1 rfl;clear H2
  by_cases h5:d.tapes.1 = 2
  · have n5:((d.tapes.1:Int) != 2) = false:=by simp;omega
    have HFM:Hid (FormP d):=⟨HB.out,HO.out,h5⟩;clear h5;obtain ⟨t4,h4⟩:=exB (Any_overfull d.tapes);have C4:=det_b (contains_overfull d.tapes _ _ hi w3 ((layTape.slice 73).rd_below HG3.out HT3.out.bel hhi) (Nat.le_trans hhi HT3.out.bel.size)) h4;have H4:Hid (t4 = true ↔ Any_overfull d.tapes):=h4;clear h4
    go_wp2_with fail
    refine C4.mono ?_;rintro e w4 ⟨rfl,b4⟩;have T4:One w w4 #[.int .i64 (d.shape 0),.int .i64 (d.shape 1),.int .i64 (d.shape 2),.int .i64 (d.shape 3),.int .i64 (d.shape 4),.int .i64 (d.shape 5),.int .i64 (d.shape 6),.int .i64 (d.shape 7),.int .i64 (d.shape 8),.slice ao1 d.groups.1 cap1,.slice ao2 d.on.1 cap2,.slice ao3 d.tapes.1 cap3,.int .i64 d.writes,.int .i64 d.stop,.bool d.down] 35:=HT3.out.call b4;have HT4:Hid (One w w4 #[.int .i64 (d.shape 0),.int .i64 (d.shape 1),.int .i64 (d.shape 2),.int .i64 (d.shape 3),.int .i64 (d.shape 4),.int .i64 (d.shape 5),.int .i64 (d.shape 6),.int .i64 (d.shape 7),.int .i64 (d.shape 8),.slice ao1 d.groups.1 cap1,.slice ao2 d.on.1 cap2,.slice ao3 d.tapes.1 cap3,.int .i64 d.writes,.int .i64 d.stop,.bool d.down] 35):=T4;clear b4 x3_0 x3_1 x3_2 x3_3 x3_4 x3_5 x3_6 x3_7 x3_8 x3_9 x3_10 x3_11 x3_12 x3_13 x3_14;have x4_0:w4.cell? ⟨w.heap.size,0,none⟩ = some (.int .i64 (d.shape 0)):=T4.b1.cell 0;have x4_1:w4.cell? ⟨w.heap.size,1,none⟩ = some (.int .i64 (d.shape 1)):=T4.b1.cell 1;have x4_2:w4.cell? ⟨w.heap.size,2,none⟩ = some (.int .i64 (d.shape 2)):=T4.b1.cell 2;have x4_3:w4.cell? ⟨w.heap.size,3,none⟩ = some (.int .i64 (d.shape 3)):=T4.b1.cell 3;have x4_4:w4.cell? ⟨w.heap.size,4,none⟩ = some (.int .i64 (d.shape 4)):=T4.b1.cell 4;have x4_5:w4.cell? ⟨w.heap.size,5,none⟩ = some (.int .i64 (d.shape 5)):=T4.b1.cell 5;have x4_6:w4.cell? ⟨w.heap.size,6,none⟩ = some (.int .i64 (d.shape 6)):=T4.b1.cell 6;have x4_7:w4.cell? ⟨w.heap.size,7,none⟩ = some (.int .i64 (d.shape 7)):=T4.b1.cell 7;have x4_8:w4.cell? ⟨w.heap.size,8,none⟩ = some (.int .i64 (d.shape 8)):=T4.b1.cell 8;have x4_9:w4.cell? ⟨w.heap.size,9,none⟩ = some (.slice ao1 d.groups.1 cap1):=T4.b1.cell 9;have x4_10:w4.cell? ⟨w.heap.size,10,none⟩ = some (.slice ao2 d.on.1 cap2):=T4.b1.cell 10;have x4_11:w4.cell? ⟨w.heap.size,11,none⟩ = some (.slice ao3 d.tapes.1 cap3):=T4.b1.cell 11;have x4_12:w4.cell? ⟨w.heap.size,12,none⟩ = some (.int .i64 d.writes):=T4.b1.cell 12;have x4_13:w4.cell? ⟨w.heap.size,13,none⟩ = some (.int .i64 d.stop):=T4.b1.cell 13;have x4_14:w4.cell? ⟨w.heap.size,14,none⟩ = some (.bool d.down):=T4.b1.cell 14;clear T4;clear C4
    cases t4 with
    | true =>
      go_wp2;go_ret
      exact wldP rfl (Stair.pass HOK.out (Stair.pass HFM.out (Stair.fall (fun h => by
        obtain ⟨t,ht,hh⟩:=H4.out.1 (by simp);have:=h t ht
        omega)))) HT4.out.bel
    | false =>
    have HFW:Hid (FewP d):=fun t ht => by
      by_cases c:200 < (d.tapes.2 t).recs.1
      · have:=H4.out.2 ⟨t,ht,c⟩
        simp at this
      · omega
    clear H4;have C5:=recsFault_any d _ hi w4 (layWorld.rd_below HRD.out HT4.out.bel hhi) (Nat.le_trans hhi HT4.out.bel.size) HNM.out
    go_wp2_with fail
    refine C5.mono ?_;rintro e w5 ⟨X,rfl,hX,b5⟩;have T5:One w w5 #[.int .i64 (d.shape 0),.int .i64 (d.shape 1),.int .i64 (d.shape 2),.int .i64 (d.shape 3),.int .i64 (d.shape 4),.int .i64 (d.shape 5),.int .i64 (d.shape 6),.int .i64 (d.shape 7),.int .i64 (d.shape 8),.slice ao1 d.groups.1 cap1,.slice ao2 d.on.1 cap2,.slice ao3 d.tapes.1 cap3,.int .i64 d.writes,.int .i64 d.stop,.bool d.down] 35:=HT4.out.call b5;have HT5:Hid (One w w5 #[.int .i64 (d.shape 0),.int .i64 (d.shape 1),.int .i64 (d.shape 2),.int .i64 (d.shape 3),.int .i64 (d.shape 4),.int .i64 (d.shape 5),.int .i64 (d.shape 6),.int .i64 (d.shape 7),.int .i64 (d.shape 8),.slice ao1 d.groups.1 cap1,.slice ao2 d.on.1 cap2,.slice ao3 d.tapes.1 cap3,.int .i64 d.writes,.int .i64 d.stop,.bool d.down] 35):=T5;clear b5 x4_0 x4_1 x4_2 x4_3 x4_4 x4_5 x4_6 x4_7 x4_8 x4_9 x4_10 x4_11 x4_12 x4_13 x4_14;have x5_0:w5.cell? ⟨w.heap.size,0,none⟩ = some (.int .i64 (d.shape 0)):=T5.b1.cell 0;have x5_1:w5.cell? ⟨w.heap.size,1,none⟩ = some (.int .i64 (d.shape 1)):=T5.b1.cell 1;have x5_2:w5.cell? ⟨w.heap.size,2,none⟩ = some (.int .i64 (d.shape 2)):=T5.b1.cell 2;have x5_3:w5.cell? ⟨w.heap.size,3,none⟩ = some (.int .i64 (d.shape 3)):=T5.b1.cell 3;have x5_4:w5.cell? ⟨w.heap.size,4,none⟩ = some (.int .i64 (d.shape 4)):=T5.b1.cell 4;have x5_5:w5.cell? ⟨w.heap.size,5,none⟩ = some (.int .i64 (d.shape 5)):=T5.b1.cell 5;have x5_6:w5.cell? ⟨w.heap.size,6,none⟩ = some (.int .i64 (d.shape 6)):=T5.b1.cell 6;have x5_7:w5.cell? ⟨w.heap.size,7,none⟩ = some (.int .i64 (d.shape 7)):=T5.b1.cell 7;have x5_8:w5.cell? ⟨w.heap.size,8,none⟩ = some (.int .i64 (d.shape 8)):=T5.b1.cell 8;have x5_9:w5.cell? ⟨w.heap.size,9,none⟩ = some (.slice ao1 d.groups.1 cap1):=T5.b1.cell 9;have x5_10:w5.cell? ⟨w.heap.size,10,none⟩ = some (.slice ao2 d.on.1 cap2):=T5.b1.cell 10;have x5_11:w5.cell? ⟨w.heap.size,11,none⟩ = some (.slice ao3 d.tapes.1 cap3):=T5.b1.cell 11;have x5_12:w5.cell? ⟨w.heap.size,12,none⟩ = some (.int .i64 d.writes):=T5.b1.cell 12;have x5_13:w5.cell? ⟨w.heap.size,13,none⟩ = some (.int .i64 d.stop):=T5.b1.cell 13;have x5_14:w5.cell? ⟨w.heap.size,14,none⟩ = some (.bool d.down):=T5.b1.cell 14;clear T5;clear C5
    by_cases hx0:X = 0
    · subst hx0
      have HRZ:Hid (RecsAns d.shape d.tapes.1 d.tapes.2 0):=hX;clear hX;obtain ⟨t6,h6⟩:=exB (Any_wipedWithRecs d.tapes);have C6:=det_b (contains_wipedWithRecs d.tapes _ _ hi w5 ((layTape.slice 73).rd_below HG3.out HT5.out.bel hhi) (Nat.le_trans hhi HT5.out.bel.size)) h6;have H6:Hid (t6 = true ↔ Any_wipedWithRecs d.tapes):=h6;clear h6
      go_wp2_with fail
      refine C6.mono ?_;rintro e w6 ⟨rfl,b6⟩;have T6:One w w6 #[.int .i64 (d.shape 0),.int .i64 (d.shape 1),.int .i64 (d.shape 2),.int .i64 (d.shape 3),.int .i64 (d.shape 4),.int .i64 (d.shape 5),.int .i64 (d.shape 6),.int .i64 (d.shape 7),.int .i64 (d.shape 8),.slice ao1 d.groups.1 cap1,.slice ao2 d.on.1 cap2,.slice ao3 d.tapes.1 cap3,.int .i64 d.writes,.int .i64 d.stop,.bool d.down] 35:=HT5.out.call b6;have HT6:Hid (One w w6 #[.int .i64 (d.shape 0),.int .i64 (d.shape 1),.int .i64 (d.shape 2),.int .i64 (d.shape 3),.int .i64 (d.shape 4),.int .i64 (d.shape 5),.int .i64 (d.shape 6),.int .i64 (d.shape 7),.int .i64 (d.shape 8),.slice ao1 d.groups.1 cap1,.slice ao2 d.on.1 cap2,.slice ao3 d.tapes.1 cap3,.int .i64 d.writes,.int .i64 d.stop,.bool d.down] 35):=T6;clear b6 x5_0 x5_1 x5_2 x5_3 x5_4 x5_5 x5_6 x5_7 x5_8 x5_9 x5_10 x5_11 x5_12 x5_13 x5_14;have x6_0:w6.cell? ⟨w.heap.size,0,none⟩ = some (.int .i64 (d.shape 0)):=T6.b1.cell 0;have x6_1:w6.cell? ⟨w.heap.size,1,none⟩ = some (.int .i64 (d.shape 1)):=T6.b1.cell 1;have x6_2:w6.cell? ⟨w.heap.size,2,none⟩ = some (.int .i64 (d.shape 2)):=T6.b1.cell 2;have x6_3:w6.cell? ⟨w.heap.size,3,none⟩ = some (.int .i64 (d.shape 3)):=T6.b1.cell 3;have x6_4:w6.cell? ⟨w.heap.size,4,none⟩ = some (.int .i64 (d.shape 4)):=T6.b1.cell 4;have x6_5:w6.cell? ⟨w.heap.size,5,none⟩ = some (.int .i64 (d.shape 5)):=T6.b1.cell 5;have x6_6:w6.cell? ⟨w.heap.size,6,none⟩ = some (.int .i64 (d.shape 6)):=T6.b1.cell 6;have x6_7:w6.cell? ⟨w.heap.size,7,none⟩ = some (.int .i64 (d.shape 7)):=T6.b1.cell 7;have x6_8:w6.cell? ⟨w.heap.size,8,none⟩ = some (.int .i64 (d.shape 8)):=T6.b1.cell 8;have x6_9:w6.cell? ⟨w.heap.size,9,none⟩ = some (.slice ao1 d.groups.1 cap1):=T6.b1.cell 9;have x6_10:w6.cell? ⟨w.heap.size,10,none⟩ = some (.slice ao2 d.on.1 cap2):=T6.b1.cell 10;have x6_11:w6.cell? ⟨w.heap.size,11,none⟩ = some (.slice ao3 d.tapes.1 cap3):=T6.b1.cell 11;have x6_12:w6.cell? ⟨w.heap.size,12,none⟩ = some (.int .i64 d.writes):=T6.b1.cell 12;have x6_13:w6.cell? ⟨w.heap.size,13,none⟩ = some (.int .i64 d.stop):=T6.b1.cell 13;have x6_14:w6.cell? ⟨w.heap.size,14,none⟩ = some (.bool d.down):=T6.b1.cell 14;clear T6;clear C6
      cases t6 with
      | true =>
        go_wp2;go_ret;exact wldP rfl (Stair.pass HOK.out (Stair.pass HFM.out (Stair.pass HFW.out (Stair.last (.inr ⟨HRZ.out,Stair.fall (fun h => by obtain ⟨t,ht,h1,h2⟩:=H6.out.1 (by simp);have:=h t ht h1;omega)⟩))))) HT6.out.bel
      | false =>
      have HCL:Hid (CleanP d):=fun t ht hw => by
        by_cases c:0 < (d.tapes.2 t).recs.1
        · have:=H6.out.2 ⟨t,ht,hw,c⟩
          simp at this
        · omega
      clear H6
      by_cases h7:InP d.writes 0 1000000000
      · go_wp2_with fail
        refine (inBounds_b (t:=true) (by omega) (exBT h7) _).mono ?_;rintro e w' ⟨rfl,hw'⟩;obtain rfl:=hw'.symm
        by_cases h8:InP d.stop (-1) 1000000000
        · go_wp2_with fail
          refine (inBounds_b (t:=true) (by omega) (exBT h8) _).mono ?_;rintro e w' ⟨rfl,hw'⟩;obtain rfl:=hw'.symm;go_wp2;go_ret;exact wldP rfl (Stair.pass HOK.out (Stair.pass HFM.out (Stair.pass HFW.out (Stair.last (.inr ⟨HRZ.out,Stair.pass HCL.out (Stair.pass ⟨h7,h8⟩ (Stair.last rfl))⟩))))) HT6.out.bel
        · go_wp2_with fail
          refine (inBounds_b (t:=false) (by omega) (exBF h8) _).mono ?_;rintro e w' ⟨rfl,hw'⟩;obtain rfl:=hw'.symm;go_wp2;go_ret;exact wldP rfl (Stair.pass HOK.out (Stair.pass HFM.out (Stair.pass HFW.out (Stair.last (.inr ⟨HRZ.out,Stair.pass HCL.out (Stair.fall (fun h => h8 h.2))⟩))))) HT6.out.bel
      · go_wp2_with fail
        refine (inBounds_b (t:=false) (by omega) (exBF h7) _).mono ?_;rintro e w' ⟨rfl,hw'⟩;obtain rfl:=hw'.symm;go_wp2;go_ret;exact wldP rfl (Stair.pass HOK.out (Stair.pass HFM.out (Stair.pass HFW.out (Stair.last (.inr ⟨HRZ.out,Stair.pass HCL.out (Stair.fall (fun h => h7 h.1))⟩))))) HT6.out.bel
    · have hne:(X != 0) = true:=by simp [hx0]
      go_wp2;go_ret;exact wldP rfl (Stair.pass HOK.out (Stair.pass HFM.out (Stair.pass HFW.out (Stair.last (.inl ⟨hx0,hX⟩))))) HT5.out.bel
  · have n5:((d.tapes.1:Int) != 2) = true:=by simp;omega
    go_wp2;go_ret;exact wldP rfl (Stair.pass HOK.out (Stair.fall (fun h => h5 h.2.2))) HT3.out.bel
end Go.Proofs.YtpmiljdhacmppaaGreat
namespace Go.Proofs.YtpmiljdhacmppaaGreat
open Go.RowKit F256
theorem world15 {w:World} {hi:Nat} {d:WorldD} {cs:List Value} (h:layWorld.rd w hi d cs):∃ v0 v1 v2 v3 v4 v5 v6 v7 v8 vp0 vl0 vq0 vp1 vl1 vq1 vp2 vl2 vq2 v9 v10 vb,cs = [.int .i64 v0,.int .i64 v1,.int .i64 v2,.int .i64 v3,.int .i64 v4,.int .i64 v5,.int .i64 v6,.int .i64 v7,.int .i64 v8,.slice vp0 vl0 vq0,.slice vp1 vl1 vq1,.slice vp2 vl2 vq2,.int .i64 v9,.int .i64 v10,.bool vb]:=by
  obtain ⟨p1,pc1,p2,pc2,p3,pc3,rfl,-⟩:=World_rd h;exact ⟨_,_,_,_,_,_,_,_,_,_,_,_,_,_,_,_,_,_,_,_,_,rfl⟩
theorem world15O {w:World} {lo hi:Nat} {d:WorldD} {cs:List Value} (h:OwnT layWorld w lo hi d cs):∃ v0 v1 v2 v3 v4 v5 v6 v7 v8 vp0 vl0 vq0 vp1 vl1 vq1 vp2 vl2 vq2 v9 v10 vb,cs = [.int .i64 v0,.int .i64 v1,.int .i64 v2,.int .i64 v3,.int .i64 v4,.int .i64 v5,.int .i64 v6,.int .i64 v7,.int .i64 v8,.slice vp0 vl0 vq0,.slice vp1 vl1 vq1,.slice vp2 vl2 vq2,.int .i64 v9,.int .i64 v10,.bool vb]:=world15 h.rd
theorem stair_in {K:Int → Prop}:∀ (l:List (Prop × Int)) {x:Int},Stair l K x → K x ∨ ∃ p,p ∈ l ∧ x = p.2
  | [],x,h => .inl h
  | (p,c) :: l,x,h => by
    rcases h with ⟨_,h⟩ | ⟨_,h⟩
    · exact .inr ⟨(p,c),List.mem_cons_self ..,h⟩
    · rcases stair_in l h with k | ⟨q,hq,k⟩
      · exact .inl k
      · exact .inr ⟨q,List.mem_cons_of_mem _ hq,k⟩
theorem rec_small {s:Nat → Int} {r:RecD} {x:Int} (h:RecAns s r x):0 ≤ x ∧ x ≤ 9:=by
  rcases stair_in _ h with k | ⟨p,hp,rfl⟩
  · rw [show x = 0 from k];decide
  · simp at hp
    rcases hp with rfl | rfl | rfl | rfl | rfl | rfl <;> constructor <;> simp
theorem wld_small {d:WorldD} {x:Int} (h:WldAns d x):(-9223372036854775808 ≤ x ∧ x ≤ 9223372036854775807):=by
  have key:0 ≤ x ∧ x ≤ 9:=by
    rcases stair_in _ h with k | ⟨p,hp,rfl⟩
    · rcases k with ⟨_,k⟩ | ⟨_,k⟩
      · rcases k with ⟨rfl,_⟩ | ⟨_,t,i,_,_,hr,_⟩
        · decide
        · exact rec_small hr
      · rcases stair_in _ k with k | ⟨p,hp,rfl⟩
        · rw [show x = 0 from k];decide
        · simp at hp
          rcases hp with rfl | rfl <;> constructor <;> simp
    · simp at hp
      rcases hp with rfl | rfl | rfl <;> constructor <;> simp
  omega
theorem wld_ok_names {d:WorldD} (h:szWorldD d ≤ 1048576):∀ t,t < d.tapes.1 → ∀ i,i < (d.tapes.2 t).recs.1 → ((d.tapes.2 t).recs.2 i).name.size ≤ 1048576:=fun t ht i hi => by
  have h1:szSl szTapeD d.tapes ≤ 1048576:=by unfold szWorldD at h;omega
  have h2:szSl szRecD (d.tapes.2 t).recs ≤ 1048576:=szSl_at h1 ht;have h3:szRecD ((d.tapes.2 t).recs.2 i) ≤ 1048576:=szSl_at h2 hi;unfold szRecD at h3;omega
end Go.Proofs.YtpmiljdhacmppaaGreat
namespace Go.Proofs.YtpmiljdhacmppaaGreat
open Go.RowKit F256
structure Turn {α:Type} (A:Lay α) (w:World) (K:List Nat) (w':World) (a:α) (cs:List Value) (K':List Nat):Prop where
  own:A.own w' a cs K'
  nd:K'.Nodup
  sub:∀ b,b ∈ K' → b ∈ K ∨ (w.heap.size ≤ b ∧ b < w'.heap.size)
  chg:ChgL K w w'
section
variable {α:Type} {E:Lay α} {t:TypeId} {w w':World} {g cap n:Nat} {x:Nat → α} {ce:Nat → List Value} {Ls:Nat → List Nat}
end
structure WOpen (w:World) (lo hi:Nat) (d:WorldD) (v1 v2 v3:Value) (K1 K2 K3:List Nat):Prop where
  g:((layDrive.slice 88).slice 80).own w d.groups [v1] K1
  o:layInts.own w d.on [v2] K2
  t:(layTape.slice 73).own w d.tapes [v3] K3
  nd:(K1 ++ (K2 ++ K3)).Nodup
  inn:∀ b,b ∈ K1 ++ (K2 ++ K3) → lo ≤ b ∧ b < hi
  k0:∀ i,-9223372036854775808 ≤ d.shape i ∧ d.shape i ≤ 9223372036854775807
  k4:-9223372036854775808 ≤ d.writes ∧ d.writes ≤ 9223372036854775807
  k5:-9223372036854775808 ≤ d.stop ∧ d.stop ≤ 9223372036854775807
section
variable {w w':World} {lo hi:Nat} {d:WorldD} {v1 v2 v3:Value} {K1 K2 K3:List Nat}
end
end Go.Proofs.YtpmiljdhacmppaaGreat
namespace Go.Proofs.YtpmiljdhacmppaaGreat
open Go.RowKit F256
end Go.Proofs.YtpmiljdhacmppaaGreat
namespace Go.Proofs.YtpmiljdhacmppaaGreat
open Go.RowKit F256
end Go.Proofs.YtpmiljdhacmppaaGreat
namespace Go.Proofs.YtpmiljdhacmppaaGreat
open Go.RowKit F256
section
variable {α:Type} {E:Lay α} {t:TypeId} {w w':World} {g cap n:Nat} {x:Nat → α} {ce:Nat → List Value} {Ls:Nat → List Nat}
end
end Go.Proofs.YtpmiljdhacmppaaGreat
namespace Go.Proofs.YtpmiljdhacmppaaGreat
open Go.RowKit F256
def keptI (p:Nat → Bool) (n:Nat):List Nat:=(List.range n).filter p
section
variable {α:Type} {E:Lay α} {t:TypeId} {w w':World} {g cap n:Nat} {x:Nat → α} {ce:Nat → List Value} {Ls:Nat → List Nat}
end
end Go.Proofs.YtpmiljdhacmppaaGreat
namespace Go.Proofs.YtpmiljdhacmppaaGreat
open Go.RowKit F256
end Go.Proofs.YtpmiljdhacmppaaGreat
namespace Go.Proofs.YtpmiljdhacmppaaGreat
open Go.RowKit F256
end Go.Proofs.YtpmiljdhacmppaaGreat
namespace Go.Proofs.YtpmiljdhacmppaaGreat
open Go.RowKit F256
end Go.Proofs.YtpmiljdhacmppaaGreat
namespace Go.Proofs.YtpmiljdhacmppaaGreat
open Go.RowKit F256
end Go.Proofs.YtpmiljdhacmppaaGreat
namespace Go.Proofs.YtpmiljdhacmppaaGreat
open Go.RowKit F256
def movB (q:Int) (r:RecD):Bool:=r.kind == 2 && r.row == q
set_option maxHeartbeats 16000000 in
set_option maxRecDepth 20000 in
theorem movOne_any (a0:Nat) (q:Int) (r:RecD) (cr:List Value) (hi:Nat) (w:World) (h0:w.cell? ⟨a0,0,none⟩ = some (.int .i64 q)) (l0:a0 < w.heap.size) (hr:layRec.rd w hi r cr) :
    Calls Tryz.prog 47 #[.agg cr.toArray,.pointer (some ⟨a0,0,none⟩)] w (fun e w' => e = .returned (.bool (movB q r)) ∧ Below w.heap.size w w'):=by
  obtain ⟨b6,bk6,b7,bk7,b8,bk8,rfl,-⟩:=Rec_rd hr;have B0:=one_new w #[.int .i64 r.kind,.int .i64 r.seq,.string r.name,.int .i64 r.length,.int .i64 r.group,.int .i64 r.row,.slice b6 r.rows.1 bk6,.slice b7 r.data.1 bk7,.slice b8 r.delta.1 bk8] 76;have HB:Hid (Below w.heap.size w (w.alloc (.cells #[.int .i64 r.kind,.int .i64 r.seq,.string r.name,.int .i64 r.length,.int .i64 r.group,.int .i64 r.row,.slice b6 r.rows.1 bk6,.slice b7 r.data.1 bk7,.slice b8 r.delta.1 bk8] 76))):=B0.bel;have c0:(w.alloc (.cells #[.int .i64 r.kind,.int .i64 r.seq,.string r.name,.int .i64 r.length,.int .i64 r.group,.int .i64 r.row,.slice b6 r.rows.1 bk6,.slice b7 r.data.1 bk7,.slice b8 r.delta.1 bk8] 76)).cell? ⟨a0,0,none⟩ = some (.int .i64 q):=(B0.bel.cell (p:=⟨a0,0,none⟩) l0).trans h0;have x0:(w.alloc (.cells #[.int .i64 r.kind,.int .i64 r.seq,.string r.name,.int .i64 r.length,.int .i64 r.group,.int .i64 r.row,.slice b6 r.rows.1 bk6,.slice b7 r.data.1 bk7,.slice b8 r.delta.1 bk8] 76)).cell? ⟨w.heap.size,0,none⟩ = some (.int .i64 r.kind):=B0.b1.cell 0;have x5:(w.alloc (.cells #[.int .i64 r.kind,.int .i64 r.seq,.string r.name,.int .i64 r.length,.int .i64 r.group,.int .i64 r.row,.slice b6 r.rows.1 bk6,.slice b7 r.data.1 bk7,.slice b8 r.delta.1 bk8] 76)).cell? ⟨w.heap.size,5,none⟩ = some (.int .i64 r.row):=B0.b1.cell 5;clear B0 h0 hr
  by_cases hk:r.kind = 2
  · have e1:(r.kind == 2) = true:=by simp [hk]
    have eM:movB q r = (r.row == q):=by unfold movB;rw [e1];rfl
    rw [eM];clear eM hk
    go_enter Tryz.func47,Tryz.ntmps47
    go_wp2;go_ret;exact ⟨rfl,HB.out⟩
  · have e1:(r.kind == 2) = false:=by simpa using hk
    have eM:movB q r = false:=by unfold movB;rw [e1];rfl
    rw [eM];clear eM hk
    go_enter Tryz.func47,Tryz.ntmps47
    go_wp2;go_ret;exact ⟨rfl,HB.out⟩
set_option maxHeartbeats 16000000 in
set_option maxRecDepth 100000 in
theorem index_mov (g cap n lo hi:Nat) (x:Nat → RecD) (ce:Nat → List Value) (a0:Nat) (del:Nat → Bool) (w:World) (hV:View layRec 76 w lo hi (.slice (some ⟨g,0,none⟩) n cap) n x ce) (hhi:hi ≤ w.heap.size) (hn:n ≤ 1048576) (CD:∀ k,k < n → ∀ w',ChgL [g] w w' → Calls Tryz.prog 47 #[.agg (ce k).toArray,.pointer (some ⟨a0,0,none⟩)] w' (fun e w'' => e = .returned (.bool (del k)) ∧ Below w'.heap.size w' w'')) :
    Calls Tryz.prog 83 #[.slice (some ⟨g,0,none⟩) n cap,.func (.func 47) #[] #[.pointer (some ⟨a0,0,none⟩)]] w fun e w' => ((e = .returned (.int .i64 (-1)) ∧ ∀ i,i < n → del i = false) ∨ ∃ i:Nat,i < n ∧ e = .returned (.int .i64 (i:Int)) ∧ del i = true ∧ ∀ t,t < i → del t = false) ∧ Below w.heap.size w w':=by
  have HV:Hid (View layRec 76 w lo hi (.slice (some ⟨g,0,none⟩) n cap) n x ce):=hV;have HCD:Hid (∀ k,k < n → ∀ w',ChgL [g] w w' → Calls Tryz.prog 47 #[.agg (ce k).toArray,.pointer (some ⟨a0,0,none⟩)] w' (fun e w'' => e = .returned (.bool (del k)) ∧ Below w'.heap.size w' w'')):=CD;clear hV CD
  go_enter Tryz.func83,Tryz.ntmps83
  go_wp2
  go_loopw [8] (fun z wr => ∃ k:Nat,k ≤ n ∧ z = .int .i64 k ∧ (∀ t,t < k → del t = false) ∧ Below w.heap.size w wr) (fun z _ => n - (intOf z).toNat)
  case atStart => exact ⟨0,Nat.zero_le _,rfl,fun t ht => by omega,Below.refl _ _⟩
  case round =>
    obtain ⟨k,hk,rfl,hall,hbl⟩:=hrel;obtain ⟨wx,rfl⟩:∃ y,y = wr:=⟨_,rfl⟩;have HALL:Hid (∀ t,t < k → del t = false):=hall;have HBL:Hid (Below w.heap.size w wx):=hbl;have zx:=hbl.size;clear hall
    by_cases hlt:k < n
    · have VX:=HV.out.below hbl hhi
      have rgK:wx.rangeAt g (k * 9) (ce k):=VX.range hlt;have hcK:(ce k).length = 9:=VX.lens k hlt;have CS:=HCD.out k hlt wx (ChgL.of_below hbl);obtain ⟨cK,hcKe⟩:∃ c,c = ce k:=⟨_,rfl⟩;rw [← hcKe] at rgK hcK CS;obtain ⟨t,ht⟩:∃ t,t = del k:=⟨_,rfl⟩;rw [← ht] at CS;have HT:Hid (t = del k):=ht
      have i1:(0:Int) ≤ (k:Int):=by omega
      have i2:(k:Int) < (n:Int):=by omega
      clear hbl hcKe VX ht
      go_wp2_with (refine wpList_load_mid rfl 76 (.tmp 14) rfl g (k * 9) (by simp [Act.eval]) cK _ rgK Tryz.underlying76 rfl (info_Rec9 hcK) ?_)
      refine CS.mono ?_;rintro e w5 ⟨rfl,b5⟩;have B5:Hid (Below w.heap.size w w5):=HBL.out.trans (b5.mono zx);clear b5 CS rgK
      cases t with
      | true =>
        go_wp2;go_ret;exact ⟨.inr ⟨k,hlt,rfl,HT.out.symm,HALL.out⟩,B5.out⟩
      | false =>
        go_wp2
        go_roundw
        case rel => exact ⟨k + 1,by omega,by go_num,fun t ht => by
                      by_cases c:t = k
                      · rw [c];exact HT.out.symm
                      · exact HALL.out t (by omega),B5.out⟩
        case measure => simp [intOf];omega
    · obtain rfl:k = n:=by omega
      clear hbl;go_wp2;go_ret;exact ⟨.inl ⟨rfl,HALL.out⟩,HBL.out⟩
set_option maxHeartbeats 16000000 in
set_option maxRecDepth 20000 in
theorem index_mov0 (a0:Nat) (w:World):Calls Tryz.prog 83 #[.slice none 0 0,.func (.func 47) #[] #[.pointer (some ⟨a0,0,none⟩)]] w fun e w' => e = .returned (.int .i64 (-1)) ∧ Below w.heap.size w w':=by
  go_enter Tryz.func83,Tryz.ntmps83
  go_wp2
  go_loopw [8] (fun z wr => z = .int .i64 0 ∧ Below w.heap.size w wr) (fun z _ => 0)
  case atStart => exact ⟨rfl,Below.refl _ _⟩
  case round =>
    obtain ⟨rfl,hb⟩:=hrel;go_wp2;go_ret;exact ⟨rfl,hb⟩
set_option maxHeartbeats 16000000 in
set_option maxRecDepth 20000 in
theorem containsMov_any (v:Value) (n lo hi:Nat) (x:Nat → RecD) (ce:Nat → List Value) (a0:Nat) (q:Int) (w:World) (V:View layRec 76 w lo hi v n x ce) (hhi:hi ≤ w.heap.size) (hn:n ≤ 1048576) (h0:w.cell? ⟨a0,0,none⟩ = some (.int .i64 q)) (l0:a0 < lo) (hlo:hi ≤ lo) (hlw:lo ≤ w.heap.size) :
    Calls Tryz.prog 45 #[v,.func (.func 47) #[] #[.pointer (some ⟨a0,0,none⟩)]] w (BoolP (∃ i,i < n ∧ movB q (x i) = true) w):=by
  have CS:Calls Tryz.prog 83 #[v,.func (.func 47) #[] #[.pointer (some ⟨a0,0,none⟩)]] w fun e w' => ((e = .returned (.int .i64 (-1)) ∧ ∀ i,i < n → movB q (x i) = false) ∨ ∃ i:Nat,i < n ∧ e = .returned (.int .i64 (i:Int)) ∧ movB q (x i) = true) ∧ Below w.heap.size w w':=by
    rcases V.form2 with ⟨rfl,rfl⟩ | ⟨g,cap,rfl,hnc,hg⟩
    · exact (index_mov0 a0 w).mono fun e w' ⟨h1,h2⟩ => ⟨.inl ⟨h1,fun i hi => by omega⟩,h2⟩
    · have hgl:=V.row.lt g rfl
      refine (index_mov g cap n lo hi x ce a0 (fun i => movB q (x i)) w V hhi hn (fun k hk w' hch => ?_)).mono fun e w' ⟨h1,h2⟩ => ⟨?_,h2⟩
      · have hz:=hch.size
        have e0:w'.cell? ⟨a0,0,none⟩ = some (.int .i64 q):=(World.cell?_of_block (hch.block a0 (by omega) (by simp;omega))).trans h0;have hbl:Below lo w w':=hch.bel (fun b hb => by simp at hb;omega) (by omega);exact movOne_any a0 q (x k) (ce k) hi w' e0 (by omega) (layRec.rd_below (V.each k hk) hbl hlo)
      · rcases h1 with h1 | ⟨i,a,b,c,_⟩
        · exact .inl h1
        · exact .inr ⟨i,a,b,c⟩
  clear V h0
  go_enter Tryz.func45,Tryz.ntmps45
  go_wp2_with fail
  refine CS.mono ?_;rintro e w1 ⟨⟨rfl,hn'⟩ | ⟨i,hi',rfl,hs⟩,b1⟩
  · have HN:Hid (∀ i,i < n → movB q (x i) = false):=hn'
    have HB:Hid (Below w.heap.size w w1):=b1;clear hn' b1 CS;go_wp2;go_ret;exact boolNo rfl (fun ⟨i,h1,h2⟩ => by rw [HN.out i h1] at h2;cases h2) HB.out
  · have HS:Hid (movB q (x i) = true):=hs
    have HB:Hid (Below w.heap.size w w1):=b1
    have hd:decide ((0:Int) ≤ (i:Int)) = true:=by simp
    clear hs b1 CS;go_wp2;go_ret;exact boolYes (by simp) ⟨i,hi',HS.out⟩ HB.out
set_option maxHeartbeats 16000000 in
set_option maxRecDepth 20000 in
theorem isMoved_any (d:WorldD) (q:Int) (cs:List Value) (hi:Nat) (w:World) (h:layWorld.rd w hi d cs) (hhi:hi ≤ w.heap.size) (h2:d.tapes.1 = 2) (hn0:(d.tapes.2 0).recs.1 ≤ 400000) (hn1:(d.tapes.2 1).recs.1 ≤ 400000) :
    Calls Tryz.prog 21 #[.agg cs.toArray,.int .i64 q] w (fun e w' => ∃ l,Cnt (recT d.tapes.2 2) (lenT d.tapes.2 2) l ∧ BoolP (∃ i,i < l.length ∧ movB q (recT d.tapes.2 2 (l.getD i 0)) = true) w e w'):=by
  obtain ⟨ao1,cap1,ao2,cap2,ao3,cap3,rfl,g1,g2,g3,k0,k4,k5⟩:=World_rd h;have T0:=two_newb w #[.int .i64 (d.shape 0),.int .i64 (d.shape 1),.int .i64 (d.shape 2),.int .i64 (d.shape 3),.int .i64 (d.shape 4),.int .i64 (d.shape 5),.int .i64 (d.shape 6),.int .i64 (d.shape 7),.int .i64 (d.shape 8),.slice ao1 d.groups.1 cap1,.slice ao2 d.on.1 cap2,.slice ao3 d.tapes.1 cap3,.int .i64 d.writes,.int .i64 d.stop,.bool d.down] #[.int .i64 q] 35 2;obtain ⟨W,hW⟩:∃ x,x = (w.alloc (.cells #[.int .i64 (d.shape 0),.int .i64 (d.shape 1),.int .i64 (d.shape 2),.int .i64 (d.shape 3),.int .i64 (d.shape 4),.int .i64 (d.shape 5),.int .i64 (d.shape 6),.int .i64 (d.shape 7),.int .i64 (d.shape 8),.slice ao1 d.groups.1 cap1,.slice ao2 d.on.1 cap2,.slice ao3 d.tapes.1 cap3,.int .i64 d.writes,.int .i64 d.stop,.bool d.down] 35)).alloc (.cells #[.int .i64 q] 2):=⟨_,rfl⟩;rw [← hW] at T0;have zW:w.heap.size + 1 < W.heap.size:=T0.b2.lt
  have x11:W.cell? ⟨w.heap.size,11,none⟩ = some (.slice ao3 2 cap3):=by have:=T0.b1.cell 11;rw [h2] at this;exact this
  have HT0:Hid (Two w W #[.int .i64 (d.shape 0),.int .i64 (d.shape 1),.int .i64 (d.shape 2),.int .i64 (d.shape 3),.int .i64 (d.shape 4),.int .i64 (d.shape 5),.int .i64 (d.shape 6),.int .i64 (d.shape 7),.int .i64 (d.shape 8),.slice ao1 d.groups.1 cap1,.slice ao2 d.on.1 cap2,.slice ao3 d.tapes.1 cap3,.int .i64 d.writes,.int .i64 d.stop,.bool d.down] #[.int .i64 q] 35 2):=T0
  have G3:(layTape.slice 73).rd W hi (2,d.tapes.2) [.slice ao3 2 cap3]:=by
    have:=Lay.rd_below _ g3 T0.bel hhi;rw [h2] at this;rw [show d.tapes = (2,d.tapes.2) from Prod.ext h2 rfl] at this;exact this
  have CC:=countOnce_any d.tapes.2 (.slice ao3 2 cap3) hi W G3 (by omega) hn0 hn1;clear T0 h g1 g2 g3 k0 k4 k5 G3 h2
  go_enter Tryz.func21,Tryz.ntmps21
  go_upto_region 1 with fail
  rw [← hW];clear hW
  go_wp2_with fail
  refine CC.mono ?_;rintro e w2 ⟨v2,l,ce,lo,rfl,hCt,hlo,V,b2⟩;have HL:Hid (Cnt (recT d.tapes.2 2) (lenT d.tapes.2 2) l):=hCt;have z2:W.heap.size ≤ w2.heap.size:=b2.size;have B2:=HT0.out.call b2;have y1:w2.cell? ⟨w.heap.size + 1,0,none⟩ = some (.int .i64 q):=B2.b2.cell 0;have HB2:Hid (Below w.heap.size w w2):=B2.bel
  have hlen:l.length ≤ 1048576:=by
    have h1:=(hCt.sum (fun _ => 0)).2
    have e2:lenT d.tapes.2 2 = (d.tapes.2 0).recs.1 + (d.tapes.2 1).recs.1:=by simp [lenT]
    omega
  obtain ⟨lo',V,hlo',hlw⟩:∃ lo',View layRec 76 w2 lo' hi v2 l.length (fun i => recT d.tapes.2 2 (l.getD i 0)) ce ∧ W.heap.size ≤ lo' ∧ lo' ≤ w2.heap.size:=by
    by_cases hlw:lo ≤ w2.heap.size
    · exact ⟨lo,V,hlo,hlw⟩
    · refine ⟨W.heap.size,⟨⟨V.row.1,?_⟩,V.each⟩,Nat.le_refl _,z2⟩
      rcases V.row.2 with hn | ⟨g,cap,cur,e,hbg,rest⟩
      · exact .inl hn
      · exact .inr ⟨g,cap,cur,e,by omega,rest⟩
  have CD:=containsMov_any v2 l.length lo' hi (fun i => recT d.tapes.2 2 (l.getD i 0)) ce (w.heap.size + 1) q w2 V (by omega) hlen y1 (by omega) (by omega) hlw;obtain ⟨a2,c2,rfl⟩:=V.form;clear V y1 b2 hCt CC x11 B2 HT0
  go_wp2_with fail
  refine CD.mono ?_;rintro e w3 ⟨t,rfl,ht,b3⟩;have HB3:Hid (Below w.heap.size w w3):=HB2.out.trans (b3.mono HB2.out.size);have HT:Hid (t = true ↔ ∃ i,i < l.length ∧ movB q (recT d.tapes.2 2 (l.getD i 0)) = true):=ht;clear ht b3 CD;go_wp2;go_ret;exact ⟨l,HL.out,t,rfl,HT.out,HB3.out⟩
end Go.Proofs.YtpmiljdhacmppaaGreat
namespace Go.Proofs.YtpmiljdhacmppaaGreat
open Go.RowKit F256
def wipedN (x:Nat → DriveD):Nat → Nat
  | 0 => 0
  | n + 1 => wipedN x n + (if (x n).wiped = true then 1 else 0)
theorem wipedN_le (x:Nat → DriveD):∀ n,wipedN x n ≤ n
  | 0 => Nat.le_refl _
  | n + 1 => by
    have:=wipedN_le x n;unfold wipedN
    split <;> omega
def DeadP (d:WorldD) (G:Nat):Prop:=d.shape 3 < (wipedN (d.groups.2 G).2 (d.groups.2 G).1:Int)
set_option maxHeartbeats 8000000 in
set_option maxRecDepth 20000 in
theorem isDead_any (d:WorldD) (cs:List Value) (hi:Nat) (G:Nat) (w:World) (h:layWorld.rd w hi d cs) (hhi:hi ≤ w.heap.size) (hG:G < d.groups.1) :
    Calls Tryz.prog 43 #[.agg cs.toArray,.int .i64 (G:Int)] w (BoolP (DeadP d G) w):=by
  obtain ⟨ao1,cap1,ao2,cap2,ao3,cap3,rfl,g1,g2,g3,k0,k4,k5⟩:=World_rd h;obtain ⟨_,_,e1,hm1,hc1⟩:=g1
  cases e1
  obtain ⟨b1,off1,he1,hb1,hel1⟩:=hc1 (by omega);subst he1;obtain ⟨cg,hrg,hcg⟩:=hel1 G hG;obtain ⟨ao9,cap9,rfl⟩:=sl_form hrg
  have c0:w.cell? ⟨b1,off1 + G,none⟩ = some (.slice ao9 (d.groups.2 G).1 cap9):=by
    have:=hcg 0 (by decide)
    have e:off1 + (G * (layDrive.slice 88).sz + 0) = off1 + G:=by show off1 + (G * 1 + 0) = off1 + G;omega
    rw [e] at this;exact this
  obtain ⟨_,_,e9,hm9,hc9⟩:=hrg
  cases e9
  unfold maxLen at hm9
  have i1:(0:Int) ≤ (G:Int):=by omega
  have i2:(G:Int) < (d.groups.1:Int):=by omega
  clear g2 g3 k0 k4 k5 hcg hel1 hc1 hm1;have T0:=one_new w #[.int .i64 (d.shape 0),.int .i64 (d.shape 1),.int .i64 (d.shape 2),.int .i64 (d.shape 3),.int .i64 (d.shape 4),.int .i64 (d.shape 5),.int .i64 (d.shape 6),.int .i64 (d.shape 7),.int .i64 (d.shape 8),.slice (some ⟨b1,off1,none⟩) d.groups.1 cap1,.slice ao2 d.on.1 cap2,.slice ao3 d.tapes.1 cap3,.int .i64 d.writes,.int .i64 d.stop,.bool d.down] 35;have x9:=T0.b1.cell 9;have c0':=(T0.bel.cell (p:=⟨b1,off1 + G,none⟩) (by show b1 < w.heap.size;omega)).trans c0
  go_enter Tryz.func43,Tryz.ntmps43
  go_wp2
  go_loopw [5,14] (fun v i wr => ∃ k:Nat,k ≤ (d.groups.2 G).1 ∧ i = .int .i64 k ∧ v = .int .i64 (wipedN (d.groups.2 G).2 k:Int) ∧ One w wr #[.int .i64 (d.shape 0),.int .i64 (d.shape 1),.int .i64 (d.shape 2),.int .i64 (d.shape 3),.int .i64 (d.shape 4),.int .i64 (d.shape 5),.int .i64 (d.shape 6),.int .i64 (d.shape 7),.int .i64 (d.shape 8),.slice (some ⟨b1,off1,none⟩) d.groups.1 cap1,.slice ao2 d.on.1 cap2,.slice ao3 d.tapes.1 cap3,.int .i64 d.writes,.int .i64 d.stop,.bool d.down] 35) (fun _ i _ => (d.groups.2 G).1 - (intOf i).toNat)
  case atStart => exact ⟨0,Nat.zero_le _,rfl,rfl,T0⟩
  case round =>
    clear T0 x9 c0';obtain ⟨k,hk,rfl,rfl,T⟩:=hrel;have HT:Hid (One w wr #[.int .i64 (d.shape 0),.int .i64 (d.shape 1),.int .i64 (d.shape 2),.int .i64 (d.shape 3),.int .i64 (d.shape 4),.int .i64 (d.shape 5),.int .i64 (d.shape 6),.int .i64 (d.shape 7),.int .i64 (d.shape 8),.slice (some ⟨b1,off1,none⟩) d.groups.1 cap1,.slice ao2 d.on.1 cap2,.slice ao3 d.tapes.1 cap3,.int .i64 d.writes,.int .i64 d.stop,.bool d.down] 35):=T;have x3:wr.cell? ⟨w.heap.size,3,none⟩ = some (.int .i64 (d.shape 3)):=T.b1.cell 3;have hwk:=wipedN_le (d.groups.2 G).2 k
    by_cases hlt:k < (d.groups.2 G).1
    · have t1:(k:Int) < ((d.groups.2 G).1:Int):=by omega
      obtain ⟨b,off,rfl,hblt,hcell⟩:=hc9 (by omega);obtain ⟨cd,hrd,hcd⟩:=hcell k hlt;obtain ⟨ao5,cap5,rfl,g5⟩:=Drive_rd hrd;have c2:wr.cell? ⟨b,off + k * 2,none⟩ = some (.bool ((d.groups.2 G).2 k).wiped):=(T.bel.cell (p:=⟨b,off + k * 2,none⟩) (by show b < w.heap.size;omega)).trans (hcd 0 (by decide));have c3:wr.cell? ⟨b,off + k * 2 + 1,none⟩ = some (.slice ao5 ((d.groups.2 G).2 k).blocks.1 cap5):=(T.bel.cell (p:=⟨b,off + k * 2 + 1,none⟩) (by show b < w.heap.size;omega)).trans (hcd 1 (by decide));obtain ⟨D,hD⟩:∃ D,D = (d.groups.2 G).2 k:=⟨_,rfl⟩;have HD:Hid (D = (d.groups.2 G).2 k):=hD;rw [← hD] at c2 c3;obtain ⟨m,hm⟩:∃ m,m = wipedN (d.groups.2 G).2 k:=⟨_,rfl⟩;have HM:Hid (m = wipedN (d.groups.2 G).2 k):=hm;rw [← hm] at hwk ⊢;have HT9:Hid (One w (wr.alloc (.cells #[.bool D.wiped,.slice ao5 D.blocks.1 cap5] 88)) #[.int .i64 (d.shape 0),.int .i64 (d.shape 1),.int .i64 (d.shape 2),.int .i64 (d.shape 3),.int .i64 (d.shape 4),.int .i64 (d.shape 5),.int .i64 (d.shape 6),.int .i64 (d.shape 7),.int .i64 (d.shape 8),.slice (some ⟨b1,off1,none⟩) d.groups.1 cap1,.slice ao2 d.on.1 cap2,.slice ao3 d.tapes.1 cap3,.int .i64 d.writes,.int .i64 d.stop,.bool d.down] 35):=HT.out.call ((Below.refl _ _).alloc (Nat.le_refl _) _);clear hc9 hcell hcd hrd g5 T hD hm x3
      cases hw:D.wiped with
      | true =>
        rw [hw] at c2 HT9;have HW:Hid (D.wiped = true):=hw
        have zz:IntKind.i64.wrap ((m:Int) + 1) = (m:Int) + 1:=by rw [IntKind.wrap_i64];omega
        clear hw;go_wp2
        go_roundw
        case rel => exact ⟨k + 1,by omega,by go_num,by
          have e:wipedN (d.groups.2 G).2 (k + 1) = m + 1:=by
            show wipedN (d.groups.2 G).2 k + (if ((d.groups.2 G).2 k).wiped = true then 1 else 0) = m + 1
            rw [← HD.out,if_pos HW.out,← HM.out]
          rw [e];go_num,HT9.out⟩
        case measure => simp [intOf];omega
      | false =>
        rw [hw] at c2 HT9;have HW:Hid (D.wiped = false):=hw;clear hw;go_wp2
        go_roundw
        case rel => exact ⟨k + 1,by omega,by go_num,by
          have e:wipedN (d.groups.2 G).2 (k + 1) = m:=by
            show wipedN (d.groups.2 G).2 k + (if ((d.groups.2 G).2 k).wiped = true then 1 else 0) = m
            rw [← HD.out,if_neg (by rw [HW.out];decide),← HM.out];rfl
          rw [e],HT9.out⟩
        case measure => simp [intOf];omega
    · obtain rfl:k = (d.groups.2 G).1:=by omega
      clear hlt T hc9
      by_cases hd:d.shape 3 < (wipedN (d.groups.2 G).2 (d.groups.2 G).1:Int)
      · have HD:Hid (DeadP d G):=hd
        have dd:decide (d.shape 3 < (wipedN (d.groups.2 G).2 (d.groups.2 G).1:Int)) = true:=decide_eq_true hd;clear hd;go_wp2;go_ret;exact boolYes rfl HD.out HT.out.bel
      · have HD:Hid (¬ DeadP d G):=hd
        have dd:decide (d.shape 3 < (wipedN (d.groups.2 G).2 (d.groups.2 G).1:Int)) = false:=decide_eq_false hd;clear hd;go_wp2;go_ret;exact boolNo rfl HD.out HT.out.bel
set_option maxHeartbeats 8000000 in
set_option maxRecDepth 20000 in
theorem l7Dead_any (d:WorldD) (cs:List Value) (hi B:Nat) (G:Nat) (w:World) (h:layWorld.rd w hi d cs) (hhi:hi ≤ w.heap.size) (hB:Box w B cs.toArray 35) (hG:G < d.groups.1) :
    Calls Tryz.prog 38 #[.pointer (some ⟨B,0,none⟩),.int .i64 (G:Int)] w (BoolP (DeadP d G) w):=by
  obtain ⟨ao1,cap1,ao2,cap2,ao3,cap3,rfl,g1,g2,g3,k0,k4,k5⟩:=World_rd h;obtain ⟨_,_,e1,hm1,hc1⟩:=g1
  cases e1
  obtain ⟨b1,off1,he1,hb1,hel1⟩:=hc1 (by omega);subst he1;obtain ⟨cg,hrg,hcg⟩:=hel1 G hG;obtain ⟨ao9,cap9,rfl⟩:=sl_form hrg
  have c0:w.cell? ⟨b1,off1 + G,none⟩ = some (.slice ao9 (d.groups.2 G).1 cap9):=by
    have:=hcg 0 (by decide)
    have e:off1 + (G * (layDrive.slice 88).sz + 0) = off1 + G:=by show off1 + (G * 1 + 0) = off1 + G;omega
    rw [e] at this;exact this
  obtain ⟨_,_,e9,hm9,hc9⟩:=hrg
  cases e9
  unfold maxLen at hm9
  have i1:(0:Int) ≤ (G:Int):=by omega
  have i2:(G:Int) < (d.groups.1:Int):=by omega
  clear g2 g3 k0 k4 k5 hcg hel1 hc1 hm1;have x9:w.cell? ⟨B,9,none⟩ = some (.slice (some ⟨b1,off1,none⟩) d.groups.1 cap1):=hB.cell 9;have x3:w.cell? ⟨B,3,none⟩ = some (.int .i64 (d.shape 3)):=hB.cell 3;clear hB
  go_enter Tryz.func38,Tryz.ntmps38
  go_wp2
  go_loopw [5,6] (fun v i wr => ∃ k:Nat,k ≤ (d.groups.2 G).1 ∧ i = .int .i64 k ∧ v = .int .i64 (wipedN (d.groups.2 G).2 k:Int) ∧ wr = w) (fun _ i _ => (d.groups.2 G).1 - (intOf i).toNat)
  case atStart => exact ⟨0,Nat.zero_le _,rfl,rfl,rfl⟩
  case round =>
    obtain ⟨k,hk,rfl,rfl,e⟩:=hrel;obtain rfl:=e.symm;have hwk:=wipedN_le (d.groups.2 G).2 k
    by_cases hlt:k < (d.groups.2 G).1
    · have t1:(k:Int) < ((d.groups.2 G).1:Int):=by omega
      obtain ⟨b,off,rfl,hblt,hcell⟩:=hc9 (by omega);obtain ⟨cd,hrd,hcd⟩:=hcell k hlt;obtain ⟨ao5,cap5,rfl,g5⟩:=Drive_rd hrd;have c2:w.cell? ⟨b,off + k * 2,none⟩ = some (.bool ((d.groups.2 G).2 k).wiped):=hcd 0 (by decide);obtain ⟨D,hD⟩:∃ D,D = (d.groups.2 G).2 k:=⟨_,rfl⟩;have HD:Hid (D = (d.groups.2 G).2 k):=hD;rw [← hD] at c2;obtain ⟨m,hm⟩:∃ m,m = wipedN (d.groups.2 G).2 k:=⟨_,rfl⟩;have HM:Hid (m = wipedN (d.groups.2 G).2 k):=hm;rw [← hm] at hwk ⊢;clear hc9 hcell hcd hrd g5 hD hm
      cases hw:D.wiped with
      | true =>
        rw [hw] at c2;have HW:Hid (D.wiped = true):=hw
        have zz:IntKind.i64.wrap ((m:Int) + 1) = (m:Int) + 1:=by rw [IntKind.wrap_i64];omega
        clear hw;go_wp2
        go_roundw
        case rel => exact ⟨k + 1,by omega,by go_num,by
          have e:wipedN (d.groups.2 G).2 (k + 1) = m + 1:=by
            show wipedN (d.groups.2 G).2 k + (if ((d.groups.2 G).2 k).wiped = true then 1 else 0) = m + 1
            rw [← HD.out,if_pos HW.out,← HM.out]
          rw [e];go_num,trivial⟩
        case measure => simp [intOf];omega
      | false =>
        rw [hw] at c2;have HW:Hid (D.wiped = false):=hw;clear hw;go_wp2
        go_roundw
        case rel => exact ⟨k + 1,by omega,by go_num,by
          have e:wipedN (d.groups.2 G).2 (k + 1) = m:=by
            show wipedN (d.groups.2 G).2 k + (if ((d.groups.2 G).2 k).wiped = true then 1 else 0) = m
            rw [← HD.out,if_neg (by rw [HW.out];decide),← HM.out];rfl
          rw [e],trivial⟩
        case measure => simp [intOf];omega
    · obtain rfl:k = (d.groups.2 G).1:=by omega
      clear hlt hc9
      by_cases hd:d.shape 3 < (wipedN (d.groups.2 G).2 (d.groups.2 G).1:Int)
      · have HD:Hid (DeadP d G):=hd
        have dd:decide (d.shape 3 < (wipedN (d.groups.2 G).2 (d.groups.2 G).1:Int)) = true:=decide_eq_true hd;clear hd;go_wp2;go_ret;exact boolYes rfl HD.out (Below.refl _ _)
      · have HD:Hid (¬ DeadP d G):=hd
        have dd:decide (d.shape 3 < (wipedN (d.groups.2 G).2 (d.groups.2 G).1:Int)) = false:=decide_eq_false hd;clear hd;go_wp2;go_ret;exact boolNo rfl HD.out (Below.refl _ _)
end Go.Proofs.YtpmiljdhacmppaaGreat
namespace Go.Proofs.YtpmiljdhacmppaaGreat
def pickI (p:Nat → Bool) (n:Nat):List Nat:=(List.range n).filter p
theorem pick_succ (p:Nat → Bool) (n:Nat):pickI p (n + 1) = pickI p n ++ (if p n then [n] else []):=by
  unfold pickI;rw [List.range_succ,List.filter_append]
  cases h:p n <;> simp [h]
theorem pick_lt {p:Nat → Bool} {n i:Nat} (h:i ∈ pickI p n):i < n:=by
  unfold pickI at h;exact List.mem_range.1 (List.mem_filter.1 h).1
theorem pick_le (p:Nat → Bool) (n:Nat):(pickI p n).length ≤ n:=by
  have:=List.length_filter_le p (List.range n);unfold pickI
  simpa using this
def pickF (p:Nat → Bool) (n:Nat):Nat → Nat:=fun m => (pickI p n).getD m 0
theorem pickF_mem {p:Nat → Bool} {n m:Nat} (h:m < (pickI p n).length):pickF p n m ∈ pickI p n:=by
  unfold pickF;rw [List.getD_eq_getElem?_getD,List.getElem?_eq_getElem h];exact List.getElem_mem h
theorem pickF_lt {p:Nat → Bool} {n m:Nat} (h:m < (pickI p n).length):pickF p n m < n:=pick_lt (pickF_mem h)
theorem pickF_more {p:Nat → Bool} {n m:Nat} (h:m < (pickI p n).length):pickF p (n + 1) m = pickF p n m:=by
  unfold pickF;rw [pick_succ,List.getD_eq_getElem?_getD,List.getD_eq_getElem?_getD,List.getElem?_append_left h]
theorem pickF_last {p:Nat → Bool} {n:Nat} (h:p n = true):pickF p (n + 1) (pickI p n).length = n:=by
  unfold pickF;rw [pick_succ,List.getD_eq_getElem?_getD,List.getElem?_append_right (Nat.le_refl _),Nat.sub_self,if_pos h];rfl
theorem pick_skip {p:Nat → Bool} {n:Nat} (h:p n = false):pickI p (n + 1) = pickI p n:=by rw [pick_succ,if_neg (by simp [h])];simp
end Go.Proofs.YtpmiljdhacmppaaGreat
namespace Go.Proofs.YtpmiljdhacmppaaGreat
open Go.RowKit F256
theorem pickF_at {p:Nat → Bool} {k:Nat} (hp:p k = true):∀ n,k < n → pickF p n (pickI p k).length = k ∧ (pickI p k).length < (pickI p n).length
  | 0,h => by omega
  | n + 1,h => by
    by_cases c:k = n
    · subst c
      exact ⟨pickF_last hp,by rw [pick_succ,if_pos hp];simp⟩
    · obtain ⟨h1,h2⟩:=pickF_at hp n (by omega)
      exact ⟨(pickF_more h2).trans h1,by rw [pick_succ,List.length_append];omega⟩
theorem pickF_le (p:Nat → Bool) (n i:Nat):pickF p n i ≤ n:=by
  by_cases h:i < (pickI p n).length
  · exact Nat.le_of_lt (pickF_lt h)
  · unfold pickF
    rw [List.getD_eq_getElem?_getD,List.getElem?_eq_none (by omega)];exact Nat.zero_le _
def deadB (d:WorldD) (G:Nat):Bool:=decide (d.shape 3 < (wipedN (d.groups.2 G).2 (d.groups.2 G).1:Int))
theorem deadB_is (d:WorldD) (G:Nat):deadB d G = true ↔ DeadP d G:=by unfold deadB DeadP;simp
def deadsF (d:WorldD):Nat → Int:=fun i => (pickF (deadB d) d.groups.1 i:Int)
def DeadAns (d:WorldD) (q:GroupsResultD):Prop:=(∃ x,x ≠ 0 ∧ WldAns d x ∧ q = ⟨x,(0,fun _ => 0)⟩) ∨ (WldAns d 0 ∧ q = ⟨0,((pickI (deadB d) d.groups.1).length,deadsF d)⟩)
def GrPost (P:GroupsResultD → Prop) (w:World) (e:Ending) (w':World):Prop:=∃ q cs,e = .returned (.agg cs.toArray) ∧ P q ∧ OwnT layGroupsResult w' w.heap.size w'.heap.size q cs ∧ Below w.heap.size w w'
theorem size_Gr:(Tryz.prog.info? 51).map (·.size) = some 2:=by kernel_rfl
theorem gres_own {w:World} {lo hi n cap:Nat} {ao:Option Addr} {f:Nat → Int} (h:OwnI w lo hi (.slice ao n cap) n f) (hhi:hi ≤ w.heap.size) (hb:∀ i,-9223372036854775808 ≤ f i ∧ f i ≤ 9223372036854775807) (c:Int) (hc:-9223372036854775808 ≤ c ∧ c ≤ 9223372036854775807):OwnT layGroupsResult w lo hi ⟨c,(n,f)⟩ [.int .i64 c,.slice ao n cap] :=
  ⟨(Value.slice ao n cap).ownBlock.toList,GroupsResult_mk ⟨c,(n,f)⟩ ⟨_,rfl,rfl,h.weaken (Nat.zero_le _) hhi,hb⟩ hc,by cases (Value.slice ao n cap).ownBlock <;> simp,fun b hb => by
    have e:(Value.slice ao n cap).ownBlock = some b:=by simpa using hb
    exact ⟨(h.1.lt b e).1,h.2 b e⟩⟩
theorem gcode_own (w:World) (c:Int) (hc:-9223372036854775808 ≤ c ∧ c ≤ 9223372036854775807) (lo hi:Nat) (hhi:hi ≤ w.heap.size):OwnT layGroupsResult w lo hi ⟨c,(0,fun _ => 0)⟩ [.int .i64 c,.slice none 0 0]:=gres_own (ownI_nil w lo hi _) hhi (fun _ => by decide) c hc
theorem deadsF_in {d:WorldD} (h:OkWorld d) (i:Nat):-9223372036854775808 ≤ deadsF d i ∧ deadsF d i ≤ 9223372036854775807:=by
  have h1:=pickF_le (deadB d) d.groups.1 i;have h2:=h.form.1.1;obtain ⟨s1,s2,_⟩:=h.shape;unfold Shp3 at s1;unfold deadsF;omega
set_option maxHeartbeats 16000000 in
set_option maxRecDepth 20000 in
theorem implDead_any (d:WorldD) (cs:List Value) (hi:Nat) (w:World) (h:layWorld.rd w hi d cs) (hhi:hi ≤ w.heap.size) (hsz:szWorldD d ≤ 1048576) :
    Calls Tryz.prog 19 #[.agg cs.toArray] w (GrPost (DeadAns d) w):=by
  have h':=h;obtain ⟨ao1,cap1,ao2,cap2,ao3,cap3,rfl,g1,g2,g3,k0,k4,k5⟩:=World_rd h';have HRD:Hid (layWorld.rd w hi d [.int .i64 (d.shape 0),.int .i64 (d.shape 1),.int .i64 (d.shape 2),.int .i64 (d.shape 3),.int .i64 (d.shape 4),.int .i64 (d.shape 5),.int .i64 (d.shape 6),.int .i64 (d.shape 7),.int .i64 (d.shape 8),.slice ao1 d.groups.1 cap1,.slice ao2 d.on.1 cap2,.slice ao3 d.tapes.1 cap3,.int .i64 d.writes,.int .i64 d.stop,.bool d.down]):=h;have HSZ:Hid (szWorldD d ≤ 1048576):=hsz;clear h h' hsz g1 g2 g3 k0 k4 k5;have T0:=two_newb w #[.int .i64 (d.shape 0),.int .i64 (d.shape 1),.int .i64 (d.shape 2),.int .i64 (d.shape 3),.int .i64 (d.shape 4),.int .i64 (d.shape 5),.int .i64 (d.shape 6),.int .i64 (d.shape 7),.int .i64 (d.shape 8),.slice ao1 d.groups.1 cap1,.slice ao2 d.on.1 cap2,.slice ao3 d.tapes.1 cap3,.int .i64 d.writes,.int .i64 d.stop,.bool d.down] #[.int .i64 0,.slice none 0 0] 35 51
  go_enter Tryz.func19,Tryz.ntmps19
  go_wp2_with (refine wp_loadBox 35 (.tmp 1) rfl rfl (w.heap.size) rfl (cs:=[.int .i64 (d.shape 0),.int .i64 (d.shape 1),.int .i64 (d.shape 2),.int .i64 (d.shape 3),.int .i64 (d.shape 4),.int .i64 (d.shape 5),.int .i64 (d.shape 6),.int .i64 (d.shape 7),.int .i64 (d.shape 8),.slice ao1 d.groups.1 cap1,.slice ao2 d.on.1 cap2,.slice ao3 d.tapes.1 cap3,.int .i64 d.writes,.int .i64 d.stop,.bool d.down]) (T0.b1) Tryz.underlying35 size_W rfl ?_)
  refine (implWorld_any d _ hi _ (layWorld.rd_below HRD.out T0.bel hhi) (Nat.le_trans hhi T0.bel.size) (wld_ok_names HSZ.out)).mono ?_;rintro e w1 ⟨x,rfl,hx,b1⟩;have HT1:Hid (Two w w1 #[.int .i64 (d.shape 0),.int .i64 (d.shape 1),.int .i64 (d.shape 2),.int .i64 (d.shape 3),.int .i64 (d.shape 4),.int .i64 (d.shape 5),.int .i64 (d.shape 6),.int .i64 (d.shape 7),.int .i64 (d.shape 8),.slice ao1 d.groups.1 cap1,.slice ao2 d.on.1 cap2,.slice ao3 d.tapes.1 cap3,.int .i64 d.writes,.int .i64 d.stop,.bool d.down] #[.int .i64 0,.slice none 0 0] 35 51):=T0.call b1;have HX:Hid (WldAns d x):=hx;have z1:w.heap.size + 1 < w1.heap.size:=HT1.out.b2.lt;clear b1 T0 hx
  by_cases hx0:x = 0
  case neg =>
    have hne:(x != 0) = true:=by simp [hx0]
    go_wp2_with (refine wp_storeBox 51 _ _ rfl rfl (w.heap.size + 1) rfl (cs:=[.int .i64 x,.slice none 0 0]) (old:=[.int .i64 0,.slice none 0 0]) rfl (HT1.out.b2) size_Gr rfl rfl ((gcode_own w1 x (wld_small HX.out) 0 0 (Nat.zero_le _)).one) ?_;intro w9 X9 C9 z9)
    refine ret_box Tryz.results19 rfl X9 Tryz.underlying51 size_Gr rfl rfl ?_;have zz:=C9.size;exact ⟨⟨x,(0,fun _ => 0)⟩,[.int .i64 x,.slice none 0 0],rfl,.inl ⟨x,hx0,HX.out,rfl⟩,gcode_own w9 x (wld_small HX.out) _ _ (Nat.le_refl _),HT1.out.bel.trans (C9.bel (fun b hb => by simp at hb;omega) HT1.out.bel.size)⟩
  subst hx0;have HOK:Hid (OkWorld d):=WldAns.ok HX.out
  have hN:d.shape 0 + d.shape 1 = (d.groups.1:Int):=by have:=HOK.out.form.1.1;omega
  have hNs:d.groups.1 ≤ 100:=by
    obtain ⟨s1,s2,_⟩:=HOK.out.shape;unfold Shp3 at s1;omega
  have bL:Below w1.heap.size w1 (w1.alloc (.cells #[] 2)):=(Below.refl _ _).alloc (Nat.le_refl _) _;have I0:=(ownI_lit0 w1 (deadsF d)).weaken (lo':=w.heap.size + 1 + 1) (hi':=(w1.alloc (.cells #[] 2)).heap.size) (by omega) (Nat.le_refl _);have TL:Two w (w1.alloc (.cells #[] 2)) #[.int .i64 (d.shape 0),.int .i64 (d.shape 1),.int .i64 (d.shape 2),.int .i64 (d.shape 3),.int .i64 (d.shape 4),.int .i64 (d.shape 5),.int .i64 (d.shape 6),.int .i64 (d.shape 7),.int .i64 (d.shape 8),.slice ao1 d.groups.1 cap1,.slice ao2 d.on.1 cap2,.slice ao3 d.tapes.1 cap3,.int .i64 d.writes,.int .i64 d.stop,.bool d.down] #[.int .i64 0,.slice none 0 0] 35 51:=HT1.out.call bL;have x_0:(w1.alloc (.cells #[] 2)).cell? ⟨w.heap.size,0,none⟩ = some (.int .i64 (d.shape 0)):=TL.b1.cell 0;have x_1:(w1.alloc (.cells #[] 2)).cell? ⟨w.heap.size,1,none⟩ = some (.int .i64 (d.shape 1)):=TL.b1.cell 1;have x_2:(w1.alloc (.cells #[] 2)).cell? ⟨w.heap.size,2,none⟩ = some (.int .i64 (d.shape 2)):=TL.b1.cell 2;have x_3:(w1.alloc (.cells #[] 2)).cell? ⟨w.heap.size,3,none⟩ = some (.int .i64 (d.shape 3)):=TL.b1.cell 3;have x_4:(w1.alloc (.cells #[] 2)).cell? ⟨w.heap.size,4,none⟩ = some (.int .i64 (d.shape 4)):=TL.b1.cell 4;have x_5:(w1.alloc (.cells #[] 2)).cell? ⟨w.heap.size,5,none⟩ = some (.int .i64 (d.shape 5)):=TL.b1.cell 5;have x_6:(w1.alloc (.cells #[] 2)).cell? ⟨w.heap.size,6,none⟩ = some (.int .i64 (d.shape 6)):=TL.b1.cell 6;have x_7:(w1.alloc (.cells #[] 2)).cell? ⟨w.heap.size,7,none⟩ = some (.int .i64 (d.shape 7)):=TL.b1.cell 7;have x_8:(w1.alloc (.cells #[] 2)).cell? ⟨w.heap.size,8,none⟩ = some (.int .i64 (d.shape 8)):=TL.b1.cell 8;have CG:=groupCount_any d.shape HOK.out.shape (w1.alloc (.cells #[] 2));rw [hN] at CG;unfold shapeV at CG
  go_wp2_with fail
  refine CG.mono ?_;rintro e w2 ⟨rfl,b2⟩;have T2:=TL.call b2;have I2:=(I0.below b2 (Nat.le_refl _)).mono b2.size;clear CG b2 I0 TL bL x_0 x_1 x_2 x_3 x_4 x_5 x_6 x_7 x_8 HT1;go_wp2
  go_loopw [4,16] (fun vh i wr => ∃ k:Nat,k ≤ d.groups.1 ∧ i = .int .i64 k ∧ OwnI wr (w.heap.size + 1 + 1) wr.heap.size vh (pickI (deadB d) k).length (deadsF d) ∧ Two w wr #[.int .i64 (d.shape 0),.int .i64 (d.shape 1),.int .i64 (d.shape 2),.int .i64 (d.shape 3),.int .i64 (d.shape 4),.int .i64 (d.shape 5),.int .i64 (d.shape 6),.int .i64 (d.shape 7),.int .i64 (d.shape 8),.slice ao1 d.groups.1 cap1,.slice ao2 d.on.1 cap2,.slice ao3 d.tapes.1 cap3,.int .i64 d.writes,.int .i64 d.stop,.bool d.down] #[.int .i64 0,.slice none 0 0] 35 51) (fun _ i _ => d.groups.1 - (intOf i).toNat)
  case atStart => exact ⟨0,Nat.zero_le _,rfl,I2,T2⟩
  case round =>
    clear I2 T2;obtain ⟨k,hk,rfl,hI,T⟩:=hrel;have HT:Hid (Two w wr #[.int .i64 (d.shape 0),.int .i64 (d.shape 1),.int .i64 (d.shape 2),.int .i64 (d.shape 3),.int .i64 (d.shape 4),.int .i64 (d.shape 5),.int .i64 (d.shape 6),.int .i64 (d.shape 7),.int .i64 (d.shape 8),.slice ao1 d.groups.1 cap1,.slice ao2 d.on.1 cap2,.slice ao3 d.tapes.1 cap3,.int .i64 d.writes,.int .i64 d.stop,.bool d.down] #[.int .i64 0,.slice none 0 0] 35 51):=T;obtain ⟨c,hc⟩:∃ c,c = (pickI (deadB d) k).length:=⟨_,rfl⟩;have HC:Hid (c = (pickI (deadB d) k).length):=hc;rw [← hc] at hI;have HI:Hid (OwnI wr (w.heap.size + 1 + 1) wr.heap.size u4 c (deadsF d)):=hI;obtain ⟨ao9,cap9,hs9⟩:=hI.slice;subst hs9;have zr:w.heap.size + 1 < wr.heap.size:=T.b2.lt
    have hck:c ≤ k:=by rw [hc];exact pick_le _ _
    clear hI hc
    by_cases hlt:k < d.groups.1
    · have HLT:Hid (k < d.groups.1):=hlt
      have t1:(k:Int) < (d.groups.1:Int):=by omega
      have CD:=isDead_any d [.int .i64 (d.shape 0),.int .i64 (d.shape 1),.int .i64 (d.shape 2),.int .i64 (d.shape 3),.int .i64 (d.shape 4),.int .i64 (d.shape 5),.int .i64 (d.shape 6),.int .i64 (d.shape 7),.int .i64 (d.shape 8),.slice ao1 d.groups.1 cap1,.slice ao2 d.on.1 cap2,.slice ao3 d.tapes.1 cap3,.int .i64 d.writes,.int .i64 d.stop,.bool d.down] hi k wr (layWorld.rd_below HRD.out T.bel hhi) (Nat.le_trans hhi T.bel.size) hlt
      go_wp2_with (refine wp_loadBox 35 (.tmp 1) rfl rfl (w.heap.size) rfl (cs:=[.int .i64 (d.shape 0),.int .i64 (d.shape 1),.int .i64 (d.shape 2),.int .i64 (d.shape 3),.int .i64 (d.shape 4),.int .i64 (d.shape 5),.int .i64 (d.shape 6),.int .i64 (d.shape 7),.int .i64 (d.shape 8),.slice ao1 d.groups.1 cap1,.slice ao2 d.on.1 cap2,.slice ao3 d.tapes.1 cap3,.int .i64 d.writes,.int .i64 d.stop,.bool d.down]) (T.b1) Tryz.underlying35 size_W rfl ?_)
      refine CD.mono ?_;rintro e w2 ⟨t,rfl,ht,b2⟩;have HT2:Hid (Two w w2 #[.int .i64 (d.shape 0),.int .i64 (d.shape 1),.int .i64 (d.shape 2),.int .i64 (d.shape 3),.int .i64 (d.shape 4),.int .i64 (d.shape 5),.int .i64 (d.shape 6),.int .i64 (d.shape 7),.int .i64 (d.shape 8),.slice ao1 d.groups.1 cap1,.slice ao2 d.on.1 cap2,.slice ao3 d.tapes.1 cap3,.int .i64 d.writes,.int .i64 d.stop,.bool d.down] #[.int .i64 0,.slice none 0 0] 35 51):=HT.out.call b2;have HI2:Hid (OwnI w2 (w.heap.size + 1 + 1) w2.heap.size (.slice ao9 c cap9) c (deadsF d)):=(HI.out.below b2 (Nat.le_refl _)).mono b2.size
      have Ht:Hid (t = deadB d k):=by
        show t = deadB d k
        cases t with
        | true => exact ((deadB_is d k).2 (ht.1 rfl)).symm
        | false =>
          cases hb:deadB d k with
          | false => rfl
          | true => have:=ht.2 ((deadB_is d k).1 hb);cases this
      have z2:wr.heap.size ≤ w2.heap.size:=b2.size;clear CD ht b2 HT HI T
      cases t with
      | false =>
        go_wp2
        go_roundw
        case rel => exact ⟨k + 1,by omega,by go_num,by rw [pick_skip Ht.out.symm,← HC.out];exact HI2.out,HT2.out⟩
        case measure => simp [intOf];omega
      | true =>
        have HF:Hid (deadsF d c = (k:Int)):=by
          show deadsF d c = (k:Int)
          have:=(pickF_at (p:=deadB d) Ht.out.symm d.groups.1 HLT.out).1;unfold deadsF;rw [HC.out,this]
        go_wp2_with (at_builtin;refine wp_appendI rfl (.tmp 22) (.tmp 24) rfl (w.heap.size + 1 + 1) w2.heap.size (.slice ao9 c cap9) c (deadsF d) ?_ ?_ w2.heap.size 1 ?_ ?_ (by omega) ?_ ?_;(simp [Act.eval]);exact HI2.out.alloc _;(simp [Act.eval]);(rw [HF.out];simp);(simp;omega);intro v2 w3 o3 b3)
        have b4:Below (w.heap.size + 1 + 1) w2 w3:=((Below.refl (w.heap.size + 1 + 1) w2).alloc (by omega) _).trans b3;have HT3:Hid (Two w w3 #[.int .i64 (d.shape 0),.int .i64 (d.shape 1),.int .i64 (d.shape 2),.int .i64 (d.shape 3),.int .i64 (d.shape 4),.int .i64 (d.shape 5),.int .i64 (d.shape 6),.int .i64 (d.shape 7),.int .i64 (d.shape 8),.slice ao1 d.groups.1 cap1,.slice ao2 d.on.1 cap2,.slice ao3 d.tapes.1 cap3,.int .i64 d.writes,.int .i64 d.stop,.bool d.down] #[.int .i64 0,.slice none 0 0] 35 51):=⟨HT2.out.b1.below b4 (by omega),HT2.out.b2.below b4 (by omega),HT2.out.bel.trans (b4.mono (by omega))⟩;have HI4:Hid (OwnI w3 (w.heap.size + 1 + 1) w3.heap.size v2 (c + 1) (deadsF d)):=o3;clear o3 b3 b4 HI2 HT2;go_wp2
        go_roundw
        case rel => exact ⟨k + 1,by omega,by go_num,by
          have e:(pickI (deadB d) (k + 1)).length = c + 1:=by rw [pick_succ,if_pos Ht.out.symm,List.length_append,← HC.out];rfl
          rw [e];exact HI4.out,HT3.out⟩
        case measure => simp [intOf];omega
    · obtain rfl:k = d.groups.1:=by omega
      clear hlt T;have OO:=gres_own HI.out (Nat.le_refl _) (deadsF_in HOK.out) 0 (by decide)
      go_wp2_with (refine wp_storeBox 51 _ _ rfl rfl (w.heap.size + 1) rfl (cs:=[.int .i64 0,.slice ao9 c cap9]) (old:=[.int .i64 0,.slice none 0 0]) rfl (HT.out.b2) size_Gr rfl rfl (OO.one) ?_;intro w9 X9 C9 z9)
      refine ret_box Tryz.results19 rfl X9 Tryz.underlying51 size_Gr rfl rfl ?_;have zz:=C9.size;have O9:=(OO.chgk C9 (fun b hb => by simp at hb;omega)).weaken (lo':=w.heap.size) (hi':=w9.heap.size) (by omega) zz;have HQ:DeadAns d ⟨0,(c,deadsF d)⟩:=.inr ⟨HX.out,by rw [HC.out]⟩;exact ⟨_,_,rfl,HQ,O9,HT.out.bel.trans (C9.bel (fun b hb => by simp at hb;omega) HT.out.bel.size)⟩
end Go.Proofs.YtpmiljdhacmppaaGreat
namespace Go.Proofs.YtpmiljdhacmppaaGreat
open Go.RowKit F256
theorem run_appendAt (w:World) (ty:TypeId) (lo hi:Nat) (v:Value) (n:Nat) (f:Nat → Nat) (hown:Own w lo hi v n f) (b c:Nat) (hcell:w.cell? ⟨b,0,none⟩ = some (.int .u8 (f n))) (hn:n + 1 ≤ 1000000) (hlo:lo ≤ w.heap.size) :
    ∃ v' w',(Builtin.append_ #[56,56] ty #[v,.slice (some ⟨b,0,none⟩) 1 c]).run Tryz.prog w = .ok v' w' ∧ Own w' lo w'.heap.size v' (n + 1) f ∧ w.grownBy w' v.ownBlock ∧ (v'.ownBlock = v.ownBlock ∨ v'.ownBlock = some w.heap.size):=by
  obtain ⟨i0,hi0,hz0,hz1,hz2⟩:=info_parts info_u8
  obtain ⟨v',w',hr,h2,h3,_,h4⟩:=run_append_own_at (P:=Tryz.prog) w lo 56 ty 5 i0 (.int .u8 0) 1 1 Tryz.underlying56 hi0 hz0 hz1 hz2 rfl (by decide) v n (cellsOf n f) hown.1 ⟨b,0,none⟩ 1 c [.int .u8 (f n)] rfl
    (fun j u hj => by
      match j,hj with
      | 0,hj => simp at hj;subst hj;simpa [Addr.add] using hcell)
    (fun u hu => by simp at hu;subst hu;rfl) (by unfold maxLen;omega) (by omega) hlo
  rw [cellsOf_snoc] at h2;exact ⟨v',w',hr,⟨h2,fun k hk => (h2.lt k hk).2⟩,h3,h4⟩
theorem step_appendAt {ops:Array Oper} {o:Oper} {a:Act} {w:World} {K:Act → World → Prop} {Q:Exit → Act → World → Prop} {E:Prop}
    (hg:o.guard = none) (s x:Operand) (hop:o.op = Op.call { callee:=Callee.builtin Builtin.append,args:=#[s,x],argTypes:=#[56,56] })
    (lo hi:Nat) (v:Value) (n:Nat) (f:Nat → Nat) (hs:a.eval s = v) (hown:Own w lo hi v n f) (b c:Nat) (hx:a.eval x = .slice (some ⟨b,0,none⟩) 1 c) (hcell:w.cell? ⟨b,0,none⟩ = some (.int .u8 (f n)))
    (hn:n + 1 ≤ 1000000) (hlo:lo ≤ w.heap.size)
    (hK:∀ v' w',Own w' lo w'.heap.size v' (n + 1) f → w.grownBy w' v.ownBlock → (v'.ownBlock = v.ownBlock ∨ v'.ownBlock = some w.heap.size) → K (a.put o.dst v') w') :
    if Region.wanted o (yielded ops a.tmps) = true then Oper.wp Tryz.prog o a w K Q else E:=by
  have hw:Region.wanted o (yielded ops a.tmps) = true:=by simp [Region.wanted,hg]
  rw [if_pos hw];obtain ⟨v',w',hrun,r1,r2,r3⟩:=run_appendAt w o.type lo hi v n f hown b c hcell hn hlo;unfold Oper.wp
  simp [execOp,hop,resolve,invoke,builtin,hs,hx,hrun,Result.andThen]
  exact hK v' w' r1 r2 r3
theorem OwnE.grow {w w2:World} {lo:Nat} {v:Value} {R:Nat} {n n':Nat → Nat} {M:Mat} {g cap:Nat} {e:Nat → Value} {x:Value} {o:Obj} (h:OwnE w lo w.heap.size v R n M g cap e) (i:Nat) (hi':i < R)
    (hg:(w.alloc o).grownBy w2 (e i).ownBlock) (ho:Own w2 lo w2.heap.size x (n' i) (M i)) (hx:x.ownBlock = (e i).ownBlock ∨ x.ownBlock = some (w.heap.size + 1)) (hn:∀ j,j < R → j ≠ i → n' j = n j) :
    OwnE (w2.setCell ⟨g,i,none⟩ x) lo w2.heap.size v R n' M g cap (fun j => if j = i then x else e j):=by
  have hs:w.heap.size + 1 ≤ w2.heap.size:=by have:=hg.size;simpa using this
  have hhi:=h.high
  have kp:∀ b,b < w.heap.size → (e i).ownBlock ≠ some b → w2.heap[b]? = w.heap[b]?:=fun b hb hne =>
    (hg.block b (by simp;omega) (fun hh => hne hh.symm)).trans (Below.heap_alloc w o b hb)
  have hr:=row_kept (w':=w2) h.row fun b hb => by
    have e1:b = g:=by rw [h.val] at hb;simpa [Value.ownBlock] using hb.symm
    subst e1;exact kp b hhi (h.apart.1 i hi')
  rw [h.val] at hr;have hst:=(hr.stored i x).1;rw [valsOf_set R e (fun j => if j = i then x else e j) i x hi' (fun j _ => rfl)] at hst;have oth:∀ b,b ≠ g → (w2.setCell ⟨g,i,none⟩ x).heap[b]? = w2.heap[b]?:=fun b hbg => heap_setCell_other w2 ⟨g,i,none⟩ b _ hbg;have low:∀ q,q < R → ∀ k,(e q).ownBlock = some k → k < w.heap.size:=fun q hq k hk => (h.each q hq).2 k hk
  have xng:x.ownBlock ≠ some g:=fun hh => by
    rcases hx with hx | hx
    · rw [hx] at hh
      exact h.apart.1 i hi' hh
    · rw [hx] at hh
      cases hh
      omega
  refine ⟨h.val,h.low,by omega,by rw [h.val];exact hst,fun j hj => ?_,⟨fun j hj => ?_,fun j l hj hl hne k hk => ?_⟩⟩
  · by_cases c:j = i
    · subst c
      simp only [if_pos]
      exact ho.kept fun k hk => oth k fun hkg => xng (by rw [hk,hkg])
    · simp only [if_neg c]
      rw [hn j hj c];refine ((h.each j hj).kept fun k hk => ?_).weaken (Nat.le_refl _) (by omega);exact (oth k fun hkg => h.apart.1 j hj (by rw [hk,hkg])).trans (kp k (low j hj k hk) fun hh => h.apart.2 i j hi' hj (fun z => c z.symm) k hh hk)
  · by_cases c:j = i
    · simp only [if_pos c]
      exact xng
    · simp only [if_neg c]
      exact h.apart.1 j hj
  · by_cases c:j = i
    · have c2:¬ l = i:=fun z => hne (by rw [c,z])
      simp only [if_pos c] at hk
      simp only [if_neg c2]
      intro hh
      rcases hx with hx | hx
      · rw [hx] at hk
        exact h.apart.2 i l hi' hl (fun z => c2 z.symm) k hk hh
      · rw [hx] at hk
        cases hk
        have:=low l hl _ hh;omega
    · simp only [if_neg c] at hk
      by_cases c2:l = i
      · simp only [if_pos c2]
        intro hh
        rcases hx with hx | hx
        · rw [hx] at hh
          exact h.apart.2 i j hi' hj (fun z => c z.symm) k hh hk
        · rw [hx] at hh
          cases hh
          have:=low j hj _ hk;omega
      · simp only [if_neg c2]
        exact h.apart.2 j l hj hl hne k hk
end Go.Proofs.YtpmiljdhacmppaaGreat
namespace Go.Proofs.YtpmiljdhacmppaaGreat
open Go.RowKit F256
set_option maxHeartbeats 1000000 in
theorem firstLeading_any (v:Value) (R C:Nat) (M:Mat) (hi:Nat) (r c:Nat) (hr:r ≤ R) (hc:c < C) (hR:R ≤ 1000000) (hC:C ≤ 1000000) (w:World) (h:RdM w hi v R (fun _ => C) M) :
    Calls Tryz.prog 168 #[v,.int .i64 r,.int .i64 c] w fun e w' => e = .returned (.int .i64 (lead M c R r)) ∧ w' = w:=by
  obtain ⟨ao,cap,e,rfl,hm,hcc,he⟩:=h
  go_enter Tryz.func168,Tryz.ntmps168
  go_wp2
  go_loop [7] (fun i => ∃ k:Nat,r ≤ k ∧ k ≤ R ∧ i = .int .i64 k ∧ ∀ j,r ≤ j → j < k → M j c = 0) (fun i => R - (intOf i).toNat)
  case atStart => exact ⟨r,Nat.le_refl _,hr,rfl,fun j h1 h2 => by omega⟩
  case round =>
    obtain ⟨k,hk1,hk,rfl,hz⟩:=hrel
    by_cases hlt:k < R
    · obtain ⟨b,off,rfl,hblt,hcell⟩:=hcc (by omega)
      obtain ⟨aok,capk,hsk,hmk,hqk⟩:=he k hlt;obtain ⟨b2,off2,rfl,hlt2,hcell2⟩:=hqk (by omega)
      have hck:w.cell? ⟨b,off + k,none⟩ = some (.slice (some ⟨b2,off2,none⟩) C capk):=by rw [← hsk];exact hcell k hlt
      have hcc2:w.cell? ⟨b2,off2 + c,none⟩ = some (.int .u8 (M k c)):=hcell2 c hc;have HZ:Hid (∀ j,r ≤ j → j < k → M j c = 0):=hz;obtain ⟨x,hx⟩:∃ x,x = M k c:=⟨_,rfl⟩;have HX:Hid (x = M k c):=hx;rw [← hx] at hcc2;clear hcc he hcell hsk hcell2 hz hx
      by_cases h0:x = 0
      · subst h0
        go_wp2
        go_round
        case rel => exact ⟨k + 1,by omega,by omega,by go_num,fun j h1 h2 => by
                      by_cases ej:j = k
                      · rw [ej,← HX.out]
                      · exact HZ.out j h1 (by omega)⟩
        case measure => simp [intOf];omega
      · have ht:((x:Int) != 0) = true:=by simp;omega
        go_wp2;go_ret;exact ⟨ret_eq (by rw [lead_eq (a:=k) ⟨hk1,by omega,HZ.out,fun _ => by rw [← HX.out];exact h0⟩]),rfl⟩
    · have hkn:k = R:=by omega
      subst hkn;have HZ:Hid (∀ j,r ≤ j → j < k → M j c = 0):=hz;clear hz;go_wp2;go_ret;exact ⟨ret_eq (by rw [lead_eq (a:=k) ⟨hk1,Nat.le_refl _,HZ.out,fun h => by omega⟩]),rfl⟩
theorem addScaled_two (v1 v2:Value) (n:Nat) (f l g:Nat → Nat) (c:Nat) (lo hi:Nat) (w:World) (hs:Own w lo hi v1 n f) (hr:Own w lo hi v2 n l) (hne:∀ k,v1.ownBlock = some k → v2.ownBlock ≠ some k) (hlh:lo ≤ hi) (hhi:hi ≤ w.heap.size)
    (kf:∀ i,f i < 256) (kl:∀ i,l i < 256) (hc:c < 256) (hg:∀ i,i < n → g i = f i ^^^ mulN c (l i)) (hn:n ≤ 1000000000) :
    Calls Tryz.prog 92 #[v1,v2,.int .u8 c] w fun e w' => e = .returned (.tuple #[]) ∧ Own w' lo hi v1 n g ∧ Chg (tlo v1 lo) (thi v1 lo) w w':=by
  by_cases h0:n = 0
  · subst h0
    refine (addScaled_nil v1 v2 f l c hi hi w hs.rd hr.rd hc).mono fun e w' ⟨he,hb⟩ => ⟨he,(hs.below hb hhi).congr (fun i hi => by omega),Below.chg hb _ _⟩
  · obtain ⟨g0,cap0,rfl,h1,h2,h3,h4⟩:=hs.form h0
    obtain ⟨b,cap,rfl,h1',h2',h3',h4'⟩:=hr.form h0;have hbg:b ≠ g0:=fun hh => hne g0 rfl (by simp [Value.ownBlock,hh]);have ht:tlo (.slice (some ⟨g0,0,none⟩) n cap0) lo = g0:=rfl;have ht2:thi (.slice (some ⟨g0,0,none⟩) n cap0) lo = g0 + 1:=rfl;have hst:=hs.tight;rw [ht,ht2] at hst ⊢
    have hcell:∀ i,i < n → w.cell? ⟨b,0 + i,none⟩ = some (.int .u8 (l i)):=fun i hi => by rw [Nat.zero_add,hr.1.cellAt i (by omega),cellsOf_get _ _ _ hi]
    refine (addScaled_core g0 cap0 n f l g c g0 (g0 + 1) b 0 cap w hst (by omega) h3' (by omega) hcell (Nat.le_refl _) (Nat.lt_succ_self _) kf kl hc hg hn).mono fun e w' ⟨he,ho,hch⟩ => ⟨he,?_,hch⟩;exact hs.untight ho
set_option maxHeartbeats 2000000 in
theorem clearColumn_any (v:Value) (R C:Nat) (M:Mat) (lo hi:Nat) (r c:Nat) (g cap:Nat) (e:Nat → Value) (hr:r < R) (hc:c < C) (hR:R ≤ 1000000) (hC:C ≤ 1000000) (kM:Byt M) (w:World) (h:OwnE w lo hi v R (fun _ => C) M g cap e) (hhi:hi ≤ w.heap.size) :
    Calls Tryz.prog 170 #[v,.int .i64 r,.int .i64 c] w fun ee w' => ee = .returned (.tuple #[]) ∧ OwnE w' lo hi v R (fun _ => C) (clearM M r c R) g cap e ∧ Chg lo hi w w':=by
  obtain rfl:=h.val;have hlh:lo ≤ hi:=Nat.le_trans h.low (Nat.le_of_lt h.high)
  go_enter Tryz.func170,Tryz.ntmps170
  go_wp2
  go_loopw [6,9] (fun _ i wr => ∃ k:Nat,k ≤ R ∧ i = .int .i64 k ∧ OwnE wr lo hi (.slice (some ⟨g,0,none⟩) R cap) R (fun _ => C) (clearM M r c k) g cap e ∧ Chg lo hi w wr) (fun _ i _ => R - (intOf i).toNat)
  case atStart => exact ⟨0,Nat.zero_le _,rfl,by rw [clearM_zero];exact h,Chg.refl' _ _ _⟩
  case round =>
    clear h;obtain ⟨k,hk,rfl,hE,hch⟩:=hrel
    by_cases hlt:k < R
    · by_cases hkr:k = r
      · subst hkr
        have E:Hid (OwnE wr lo hi (.slice (some ⟨g,0,none⟩) R cap) R (fun _ => C) (clearM M k c (k + 1)) g cap e):=by rw [clearM_skip];exact hE
        clear hE;go_wp2
        go_roundw
        case rel => exact ⟨k + 1,by omega,by go_num,E.out,hch⟩
        case measure => simp [intOf];omega
      · have ht:((k:Int) != (r:Int)) = true:=by simp;omega
        have kB:=clearM_byt kM r c k;have ck:=hE.cell k hlt;have cr:=hE.cell r hr;have ok:=hE.each k hlt;have or:=hE.each r hr;obtain ⟨gk,capk,hek,_,_,hgk,_⟩:=ok.form (by omega)
        have hcc:wr.cell? ⟨gk,c,none⟩ = some (.int .u8 (clearM M r c k k c)):=by
          have:=ok.1;rw [hek] at this;rw [this.cellAt c (by omega),cellsOf_get _ _ _ hc]
        have hcy:=kB k c;obtain ⟨y,hy⟩:∃ y,y = clearM M r c k k c:=⟨_,rfl⟩;have hsz:=hch.size
        have A:=addScaled_two (e k) (e r) C (clearM M r c k k) (clearM M r c k r) (clearM M r c (k + 1) k) y lo hi (wr.drewN 1) ok or (hE.apart.2 k r hlt hr hkr) hlh (by show hi ≤ wr.heap.size;omega) (kB k) (kB r) (by rw [hy];exact hcy)
          (fun j hj => by rw [clearM_next hkr,hy];simp) (by omega)
        rw [← hy] at hcc hcy;obtain ⟨ek,hek'⟩:∃ x,x = e k:=⟨_,rfl⟩;obtain ⟨er,her'⟩:∃ x,x = e r:=⟨_,rfl⟩;rw [← hek'] at ck A hek;rw [← her'] at cr A;have HEK:Hid (ek = e k):=hek';subst hek;have HE:Hid (OwnE wr lo hi (.slice (some ⟨g,0,none⟩) R cap) R (fun _ => C) (clearM M r c k) g cap e):=hE;have HTS:Hid (lo ≤ tlo (e k) lo ∧ thi (e k) lo ≤ hi):=tight_sub ok hlh;clear hy hek' her' ok or hE kB;go_wp2
        go_region_with (go_at_call 92;refine A.mono ?_;rintro ee w3 ⟨rfl,ho3,hc3⟩)
        all_goals
          have c3:Chg (tlo (e k) lo) (thi (e k) lo) wr w3:=by rw [← HEK.out];exact ⟨hc3.os,hc3.tape,hc3.output,hc3.size,hc3.block⟩
          have E3:OwnE w3 lo hi (.slice (some ⟨g,0,none⟩) R cap) R (fun _ => C) (clearM M r c (k + 1)) g cap e:=HE.out.upd k hlt c3 (by rw [← HEK.out];exact ho3) (fun j hj hne => by rw [clearM_next hkr];simp [hne]);have C3:Chg lo hi w w3:=hch.trans (c3.widen HTS.out.1 HTS.out.2);clear c3 hc3 ho3 HE A HEK HTS;go_wp2
          go_roundw
          case rel => exact ⟨k + 1,by omega,by go_num,E3,C3⟩
          case measure => simp [intOf];omega
    · have hkn:k = R:=by omega
      subst hkn;go_wp2
      go_end0
      exact ⟨rfl,hE,hch⟩
end Go.Proofs.YtpmiljdhacmppaaGreat
namespace Go.Proofs.YtpmiljdhacmppaaGreat
open Go.RowKit F256
theorem undrewN' {B:Nat} {w w2:World} {m:Nat} (h:Below B (w.drewN m) w2):Below B w w2:=⟨h.os,h.tape,h.output,h.size,h.block⟩
set_option maxHeartbeats 4000000 in
theorem reduceRows_any (v:Value) (R C n:Nat) (M:Mat) (lo:Nat) (g cap:Nat) (e:Nat → Value) (hn:n ≤ C) (hR:R ≤ 1000000) (hC:C ≤ 1000000) (kM:Byt M) (w:World) (h:OwnE w lo w.heap.size v R (fun _ => C) M g cap e) :
    Calls Tryz.prog 167 #[v,.int .i64 n] w fun ee w' => ee = .returned (.int .i64 ((gaussM R M n).2)) ∧ (∃ e',OwnE w' lo w'.heap.size v R (fun _ => C) (gaussM R M n).1 g cap e') ∧ Below lo w w':=by
  obtain rfl:=h.val
  go_enter Tryz.func167,Tryz.ntmps167
  go_wp2
  go_loopw [5,6,7,9] (fun d _ _ i wr => ∃ k:Nat,k ≤ n ∧ i = .int .i64 k ∧ d = .int .i64 ((gaussM R M k).2) ∧ (∃ e',OwnE wr lo wr.heap.size (.slice (some ⟨g,0,none⟩) R cap) R (fun _ => C) (gaussM R M k).1 g cap e') ∧ Below lo w wr) (fun _ _ _ i _ => n - (intOf i).toNat)
  case atStart => exact ⟨0,Nat.zero_le _,rfl,rfl,⟨e,h⟩,Below.refl _ _⟩
  case round =>
    clear h e;obtain ⟨k,hk,rfl,rfl,⟨e,hE⟩,hbel⟩:=hrel;have hle:=gaussM_le (R:=R) (M:=M) k;have kB:=gaussM_byt (R:=R) kM k;have hstep:gaussM R M (k + 1) = stepM R (gaussM R M k) k:=rfl;obtain ⟨S,hS⟩:∃ S,S = gaussM R M k:=⟨_,rfl⟩;rw [← hS] at hle kB hstep hE
    by_cases hlt:k < n
    · have L:=firstLeading_any _ R C S.1 _ S.2 k hle.1 (by omega) hR hC wr hE.rd
      have HS:Hid (S = gaussM R M k):=hS;have HST:Hid (gaussM R M (k + 1) = stepM R S k):=hstep;rw [← hS];clear hS hstep;obtain ⟨r,hr⟩:∃ r,r = S.2:=⟨_,rfl⟩;obtain ⟨a,hal⟩:∃ a,a = lead S.1 k R S.2:=⟨_,rfl⟩;have hlead:=lead_is S.1 k R S.2 hle.1;rw [← hal] at hlead L;rw [← hr] at hle hlead L ⊢;have HR:Hid (r = S.2):=hr;have HA:Hid (a = lead S.1 k R S.2):=hal;clear hr hal
      go_wp2_with fail
      refine L.mono ?_;rintro ee wx ⟨rfl,hwx⟩;obtain rfl:=hwx.symm;clear L;have ha:=hlead.2.1;have hra:=hlead.1
      by_cases haR:a = R
      · have N0:gaussM R M (k + 1) = S:=by
          rw [HST.out];unfold stepM;rw [if_pos (by rw [← HA.out];exact haR)]
        have N:Hid (gaussM R M (k + 1) = S):=N0;clear N0;subst haR;clear hlead;go_wp2
        go_roundw
        case rel => exact ⟨k + 1,by omega,by go_num,val_eq (by rw [N.out,HR.out]),⟨e,by rw [N.out];exact hE⟩,hbel⟩
        case measure => simp [intOf];omega
      · have haR':a < R:=by omega
        have hrR:r < R:=by omega
        have t1:((a:Int) == (R:Int)) = false:=by simp;omega
        have ca:=hE.cell a haR';have cr:=hE.cell r hrR;have fa:=hE.frozen a;have fr:=hE.frozen r;have hsw:=hE.swap r a hrR haR' (Nat.le_refl _);have oa:=hE.each a haR';have or:=hE.each r hrR;obtain ⟨ga,capa,hea,_,_,_,_⟩:=oa.form (by omega);obtain ⟨gr,capr,her,_,_,_,_⟩:=or.form (by omega);obtain ⟨ea,hea'⟩:∃ x,x = e a:=⟨_,rfl⟩;obtain ⟨er,her'⟩:∃ x,x = e r:=⟨_,rfl⟩;rw [← hea'] at ca hea hsw;rw [← her'] at cr her hsw;have HSW:Hid (OwnE ((wr.setCell ⟨g,r,none⟩ ea).setCell ⟨g,a,none⟩ er) lo wr.heap.size (.slice (some ⟨g,0,none⟩) R cap) R (fun _ => C) (swapM S.1 r a) g cap (fun j => if j = r then ea else if j = a then er else e j)):=hsw;clear hsw hE oa or hea' her';subst hea her;obtain ⟨va,hva⟩:=cell?_setCell_some (w:=wr) (p:=⟨g,r,none⟩) (x:=.slice (some ⟨ga,0,none⟩) C capa) (q:=⟨g,a,none⟩) ca;go_wp2
        go_region
        have hE1:=HSW.out.drewN 1;have hb1:Below lo w (((wr.setCell ⟨g,r,none⟩ (.slice (some ⟨ga,0,none⟩) C capa)).setCell ⟨g,a,none⟩ (.slice (some ⟨gr,0,none⟩) C capr)).drewN 1):=below_drewN ((hbel.setCell hE1.low _).setCell hE1.low _) 1
        have hz1:wr.heap.size = (((wr.setCell ⟨g,r,none⟩ (.slice (some ⟨ga,0,none⟩) C capa)).setCell ⟨g,a,none⟩ (.slice (some ⟨gr,0,none⟩) C capr)).drewN 1).heap.size:=by simp
        rw [hz1] at hE1;have kB1:Byt (swapM S.1 r a):=swapM_byt kB r a;rw [World.drew_is_drewN];clear HSW hbel hz1 ca cr fa fr hva kB
        generalize ((wr.setCell ⟨g,r,none⟩ (.slice (some ⟨ga,0,none⟩) C capa)).setCell ⟨g,a,none⟩ (.slice (some ⟨gr,0,none⟩) C capr)).drewN 1 = wq at hE1 hb1 ⊢
        generalize (fun j => if j = r then Value.slice (some ⟨ga,0,none⟩) C capa else if j = a then Value.slice (some ⟨gr,0,none⟩) C capr else e j) = e1 at hE1
        obtain ⟨M1,hM1⟩:∃ M1,M1 = swapM S.1 r a:=⟨_,rfl⟩;have HM1:Hid (M1 = swapM S.1 r a):=hM1;rw [← hM1] at hE1 kB1;clear hM1;have c1:=hE1.cell r hrR;have o1:=hE1.each r hrR;obtain ⟨gq,capq,heq,hq1,hq2,hq3,_⟩:=o1.form (by omega)
        have hcc:wq.cell? ⟨gq,k,none⟩ = some (.int .u8 (M1 r k)):=by
          have:=o1.1;rw [heq] at this;rw [this.cellAt k (by omega),cellsOf_get _ _ _ (by omega)]
        have hy:=kB1 r k;have fz:=hE1.frozen r;have hgl:=hE1.high;obtain ⟨y,hyd⟩:∃ y,y = M1 r k:=⟨_,rfl⟩;have HY:Hid (y = M1 r k):=hyd;rw [← hyd] at hcc hy;have I:=implInv_any y hy (wq.drewN 1)
        have SC:∀ w2,Below wq.heap.size wq w2 → Calls Tryz.prog 169 #[e1 r,.int .u8 (powN y 254)] w2 fun e w' => ∃ v',e = .returned v' ∧ Own w' w2.heap.size w'.heap.size v' C (fun j => mulN (powN y 254) (M1 r j)) ∧ Below w2.heap.size w2 w':=fun w2 hb2 =>
          scaled_any (e1 r) C (M1 r) (fun j => mulN (powN y 254) (M1 r j)) (powN y 254) wq.heap.size w2 (o1.rd.below hb2 (Nat.le_refl _)) hb2.size (kB1 r) (powN_lt _) (fun _ _ => rfl) (by omega)
        obtain ⟨er1,her1⟩:∃ x,x = e1 r:=⟨_,rfl⟩;rw [← her1] at c1 SC heq;have HO:Hid (OwnE wq lo wq.heap.size (.slice (some ⟨g,0,none⟩) R cap) R (fun _ => C) M1 g cap e1):=hE1;clear hyd her1 o1 hE1 hlead;subst heq;go_wp2
        go_region_with (first | (go_at_call 116;refine I.mono ?_;rintro ee w2 ⟨rfl,hb2⟩;have q0:w2.cell? ⟨g,r,none⟩ = some (.slice (some ⟨gq,0,none⟩) C capq):=((undrewN' hb2).cell (p:=⟨g,r,none⟩) hgl).trans c1) | (go_at_call 169;refine (SC _ (undrewN' hb2)).mono ?_;rintro ee w3 ⟨v3,rfl,ho3,hb3⟩;obtain ⟨ao3,cap3,rfl⟩:=ho3.slice;have q1:w3.cell? ⟨g,r,none⟩ = some (.slice (some ⟨gq,0,none⟩) C capq):=((bthen (w:=wq) (undrewN' hb2) hb3).cell (p:=⟨g,r,none⟩) hgl).trans c1;have q2:w3.frozen? ⟨g,r,none⟩ = false:=((bthen (w:=wq) (undrewN' hb2) hb3).frozen (p:=⟨g,r,none⟩) hgl).trans fz))
        all_goals
          have hb23:Below wq.heap.size wq w3:=bthen (w:=wq) (undrewN' hb2) hb3
          have hsr:scaleM M1 r k r = fun j => mulN (powN y 254) (M1 r j):=by simp only [scaleM,if_pos,HY.out]
          have ho4:Own w3 wq.heap.size w3.heap.size (.slice ao3 C cap3) C (scaleM M1 r k r):=by rw [hsr];exact ho3.weaken (by have:=(undrewN' hb2).size;omega) (Nat.le_refl _)
          have E4:=HO.out.put r hrR hb23 (Nat.le_refl _) ho4 (fun j hj hne => by simp only [scaleM,if_neg hne]);have B4:Below lo w (w3.setCell ⟨g,r,none⟩ (.slice ao3 C cap3)):=(hb1.trans (hb23.mono (by have:=HO.out.low;have:=HO.out.high;omega))).setCell HO.out.low _
          have Z4:w3.heap.size = (w3.setCell ⟨g,r,none⟩ (.slice ao3 C cap3)).heap.size:=by simp
          rw [Z4] at E4;have kB4:Byt (scaleM M1 r k):=scaleM_byt kB1 r k;clear hb23 hsr ho4 ho3 hb2 hb3 q0 q1 q2 Z4 HO c1 hcc fz I SC hgl hq1 hq2 hq3
          generalize w3.setCell ⟨g,r,none⟩ (.slice ao3 C cap3) = w4 at E4 B4 ⊢
          generalize (fun j => if j = r then Value.slice ao3 C cap3 else e1 j) = e4 at E4
          have CC:=clearColumn_any _ R C (scaleM M1 r k) lo w4.heap.size r k g cap e4 hrR (by omega) hR hC kB4 w4 E4 (Nat.le_refl _)
          go_wp2_with fail
          refine CC.mono ?_;rintro ee w5 ⟨rfl,E5,C5⟩
          have hlo:lo ≤ w4.heap.size:=by have:=E4.low;have:=E4.high;omega
          have E6:=E5.weaken C5.size;have B6:Below lo w w5:=B4.trans (C5.below (Nat.le_refl _) hlo)
          have N0:gaussM R M (k + 1) = (clearM (scaleM M1 r k) r k R,r + 1):=by
            rw [HST.out];unfold stepM;rw [if_neg (by rw [← HA.out];exact haR),← HA.out,← HR.out,← HM1.out]
          have N:Hid (gaussM R M (k + 1) = (clearM (scaleM M1 r k) r k R,r + 1)):=N0;clear N0 CC E4 E5 B4 C5 hlo;go_wp2
          go_roundw
          case rel => exact ⟨k + 1,by omega,by go_num,val_eq (by rw [N.out];show _ = ((r + 1:Nat):Int);omega),⟨e4,by rw [N.out];exact E6⟩,B6⟩
          case measure => simp [intOf];omega
    · have hkn:k = n:=by omega
      subst hkn;rw [hS] at hE;go_wp2;go_ret;exact ⟨rfl,⟨e,hE⟩,hbel⟩
end Go.Proofs.YtpmiljdhacmppaaGreat
namespace Go.Proofs.YtpmiljdhacmppaaGreat
open Go.RowKit F256
theorem OwnE.congrN {w:World} {lo hi:Nat} {v:Value} {R:Nat} {n n':Nat → Nat} {M:Mat} {g cap:Nat} {e:Nat → Value} (h:OwnE w lo hi v R n M g cap e) (hn:∀ i,i < R → n i = n' i):OwnE w lo hi v R n' M g cap e :=
  ⟨h.val,h.low,h.high,h.row,fun i hi => by rw [← hn i hi];exact h.each i hi,h.apart⟩
end Go.Proofs.YtpmiljdhacmppaaGreat
namespace Go.Proofs.YtpmiljdhacmppaaGreat
open Go.RowKit F256
def SolveAns (R m:Nat) (n:Nat → Nat) (f:Mat) (c:Nat → Nat) (x:Int):Prop :=
  (x = 2 ∧ 16 < R) ∨ (x = 1 ∧ R ≤ 16 ∧ (R = 0 ∨ m ≠ R ∨ ∃ i,i < R ∧ n i ≠ R)) ∨ (R ≤ 16 ∧ R ≠ 0 ∧ m = R ∧ (∀ i,i < R → n i = R) ∧ ((x = 4 ∧ (gaussM R (aug R f c) R).2 < R) ∨ (x = 0 ∧ (gaussM R (aug R f c) R).2 = R)))
set_option maxHeartbeats 8000000 in
theorem implSolve_any (v1 v2:Value) (R m:Nat) (n:Nat → Nat) (f:Mat) (c:Nat → Nat) (l1 h1 l2 h2:Nat) (w:World) (o1:OwnM w l1 h1 v1 R n f) (o2:Own w l2 h2 v2 m c) (hh1:h1 ≤ w.heap.size) (hh2:h2 ≤ w.heap.size) (kf:Byt f) (kc:∀ i,c i < 256) :
    Calls Tryz.prog 159 #[v1,v2] w fun ee w' => ∃ x v',ee = .returned (bytesR x v') ∧ SolveAns R m n f c x ∧ Own w' w.heap.size w'.heap.size v' (if x = 0 then R else 0) (if x = 0 then (fun i => (gaussM R (aug R f c) R).1 i R) else fun _ => 0) ∧ Below w.heap.size w w':=by
  obtain ⟨gA,cA,e,r1⟩:=o1
  have hm:R ≤ maxLen:=by obtain ⟨_,_,_,_,h,_⟩:=r1.rd;exact h
  have hm2:=o2.le;unfold maxLen at hm hm2;obtain rfl:=r1.val;obtain ⟨ao2,cap2,rfl⟩:=o2.slice;have hb0:Below w.heap.size w (w.alloc (.cells #[.int .i64 0,.slice none 0 0] 92)):=(Below.refl _ _).alloc (Nat.le_refl _) _;have HA:Hid (OwnE w l1 h1 (.slice (some ⟨gA,0,none⟩) R cA) R n f gA cA e):=r1;have H2:Hid (Own w l2 h2 (.slice ao2 m cap2) m c):=o2;have CE:=equallyLong_any _ R n f h1 _ (r1.rd.below hb0 hh1)
  have hgw:gA < w.heap.size:=by have:=r1.high;omega
  clear r1 o2
  by_cases hbig:16 < R
  · clear CE
    go_enter Tryz.func159,Tryz.ntmps159
    go_wp2;exact bodyPost_ret (v:=bytesR 2 (.slice none 0 0)) (by simp [results,Tryz.results159,go_sem,bytesR]) rfl ⟨2,_,rfl,.inl ⟨rfl,hbig⟩,own_nil _ _ _ _,(Below.refl _ _).alloc (Nat.le_refl _) _⟩
  by_cases hR0:R = 0
  · subst hR0
    clear CE
    go_enter Tryz.func159,Tryz.ntmps159
    go_wp2;exact bodyPost_ret (v:=bytesR 1 (.slice none 0 0)) (by simp [results,Tryz.results159,go_sem,bytesR]) rfl ⟨1,_,rfl,.inr (.inl ⟨rfl,by omega,.inl rfl⟩),own_nil _ _ _ _,(Below.refl _ _).alloc (Nat.le_refl _) _⟩
  have t0:((R:Int) == 0) = false:=by simp;omega
  by_cases hmR:m = R
  · subst hmR
    obtain ⟨N,hN⟩:∃ N,N = n 0:=⟨_,rfl⟩;have hN2:=(HA.out.each 0 (by omega)).le;unfold maxLen at hN2;have HN:Hid (N = n 0):=hN;obtain ⟨aoz,capz,hsz⟩:=(HA.out.each 0 (by omega)).slice
    have hz0:w.cell? ⟨gA,0,none⟩ = some (.slice aoz N capz):=by rw [hN,← hsz];exact HA.out.cell 0 (by omega)
    rw [← hN] at hN2;clear hsz hN
    go_enter Tryz.func159,Tryz.ntmps159
    go_wp2_with fail
    refine CE.mono ?_;rintro ee w1 ⟨bb,rfl,hbb,hb1⟩;clear CE;have HBB:Hid (bb = true ↔ ∀ i,i < m → n i = n 0):=hbb;clear hbb;have hbel:Below w.heap.size w w1:=bnew hb1;have hbx:Box w1 w.heap.size #[.int .i64 0,.slice none 0 0] 92:=(box_new w _ _).below hb1 (by simp);have hz1:w1.cell? ⟨gA,0,none⟩ = some (.slice aoz N capz):=(hbel.cell (p:=⟨gA,0,none⟩) hgw).trans hz0;obtain ⟨x0,x1,y0,y1⟩:=res_cells hbx;have hl1:=hbx.lt;clear hb1 hb0 hz0
    cases bb with
    | false =>
      have hno:∃ i,i < m ∧ n i ≠ m:=Classical.byContradiction fun hno => absurd (HBB.out.mpr fun i hi => by
        have q1:n i = m:=Classical.byContradiction fun h => hno ⟨i,hi,h⟩;have q2:n 0 = m:=Classical.byContradiction fun h => hno ⟨0,by omega,h⟩
        omega) (by simp)
      have HNO:Hid (∃ i,i < m ∧ n i ≠ m):=hno;clear hno HBB;go_wp2;exact bodyPost_ret (v:=bytesR 1 (.slice none 0 0)) (by simp [results,Tryz.results159,go_sem,bytesR,x0,x1]) rfl ⟨1,_,rfl,.inr (.inl ⟨rfl,by omega,.inr (.inr HNO.out)⟩),own_nil _ _ _ _,(hbel.setCell (Nat.le_refl _) _).setCell (Nat.le_refl _) _⟩
    | true =>
      have HALL:Hid (∀ i,i < m → n i = n 0):=HBB.out.mp rfl;clear HBB
      by_cases hNm:N = m
      · subst hNm
        have HSH:Hid (∀ i,i < N → n i = N):=fun i hi => by rw [HALL.out i hi,← HN.out]
        obtain ⟨gr,capr,hgr,hr1,hr2,hr3,hr4⟩:=H2.out.form (by omega)
        simp only [Value.slice.injEq] at hgr
        obtain ⟨rfl,_,rfl⟩:=hgr;clear HALL
        go_wp2_with (at_make;refine wp_makeM _ rfl _ _ rfl _ _ N rfl rfl rfl rfl (by omega) ?_;intro w2 hown2 hb2 hz2)
        clear x0 x1 y0 y1 hz1
        go_loopw [7,40] (fun _ i wr => ∃ k:Nat,k ≤ N ∧ i = .int .i64 k ∧ ∃ e',Cpy w1 wr N k (fun _ => N + 1) (aug N f c) e') (fun _ i _ => N - (intOf i).toNat)
        case atStart => exact ⟨0,Nat.zero_le _,rfl,fun _ => nilS,by rw [valsOf_eq (g:=fun _ => nilS) (fun i hi => by simp)];exact hown2,fun i hi => by omega,⟨fun i hi => by omega,fun i j hi => by omega⟩,hb2,hz2⟩
        case round =>
          clear hown2 hb2 hz2;obtain ⟨k,hk,rfl,e',hcp⟩:=hrel;have hbw1:Below w.heap.size w wr:=bthen hbel hcp.bel
          by_cases hlt:k < N
          · have hrk:Rd wr h1 (e k) N (f k):=by
              have:=((HA.out.each k hlt).below hbw1 hh1).rd;rw [HSH.out k hlt] at this;exact this
            have hck:wr.cell? ⟨gA,k,none⟩ = some (e k):=(hbw1.cell (p:=⟨gA,k,none⟩) hgw).trans (HA.out.cell k hlt)
            have hrt:Rd (wr.drewN 1) h2 (.slice (some ⟨gr,k,none⟩) 1 (cap2 - k)) 1 (fun _ => c k):=⟨_,_,rfl,by unfold maxLen;omega,fun _ => ⟨gr,k,rfl,hr2,fun i hi => by
              have hi0:i = 0:=by omega
              subst hi0;have:=H2.out.1.cellAt k (by omega);rw [cellsOf_get _ _ _ hlt] at this
              exact (hbw1.cell (p:=⟨gr,k + 0,none⟩) (by show gr < w.heap.size;omega)).trans this⟩⟩
            have C:=joined_some (e k) (.slice (some ⟨gr,k,none⟩) 1 (cap2 - k)) N 1 (f k) (fun _ => c k) (aug N f c k) h1 h2 (wr.drewN 1) hrk hrt (Nat.le_trans hh1 hbw1.size) (Nat.le_trans hh2 hbw1.size) (by omega) (by omega) (by omega) (fun i hi => rfl);obtain ⟨ek,hek⟩:∃ x,x = e k:=⟨_,rfl⟩;rw [← hek] at hck C;obtain ⟨ao3,cap3,hsl,hmm,hcc⟩:=hrk;rw [← hek] at hsl;subst hsl;have hl:=hcp.lt;have HCP:Hid (Cpy w1 wr N k (fun _ => N + 1) (aug N f c) e'):=hcp
            have Q1:∀ w3,Below wr.heap.size wr w3 → w3.cell? ⟨w1.heap.size,k,none⟩ = some nilS ∧ w3.frozen? ⟨w1.heap.size,k,none⟩ = false:=fun w3 hb => by
              refine ⟨?_,(hb.frozen (p:=⟨w1.heap.size,k,none⟩) hl).trans (hcp.row.frozenAt k)⟩;rw [hb.cell (p:=⟨w1.heap.size,k,none⟩) hl,hcp.row.cellAt k (by omega),valsOf_get _ _ _ hlt,if_neg (Nat.lt_irrefl k)]
            have hsl1:IntKind.i64.wrap ((k:Int) + 1) = (k:Int) + 1:=by rw [IntKind.wrap_i64];omega
            have hsl2:((k:Int) + 1).toNat = k + 1:=by omega
            have hsl3:((k:Int) + 1 ≤ (cap2:Int)):=by omega
            have hsl4:¬ cap2 = k:=by omega
            have hsl5:k + 1 - k = 1:=by omega
            have hsl6:(0:Int) ≤ (k:Int) + 1:=by omega
            clear hcc hek hrt hcp;go_wp2
            go_region_with (go_at_call 141;refine C.mono ?_;rintro ee w3 ⟨v3,rfl,ho3,hb3⟩;obtain ⟨ao5,cap5,rfl⟩:=ho3.slice;have q1:=(Q1 _ (undrewN' hb3)).1;have q2:=(Q1 _ (undrewN' hb3)).2)
            all_goals
              have N1:=HCP.out.next hlt (undrewN' hb3) ho3;clear HCP hb3 ho3 q1 q2 hbw1 C Q1;go_wp2
              go_roundw
              case rel => exact ⟨k + 1,by omega,by go_num,_,N1⟩
              case measure => simp [intOf];omega
          · have hkn:k = N:=by omega
            subst hkn;obtain ⟨gg,cc,e2,hE⟩:=hcp.done;have hv:=hE.val
            simp only [Value.slice.injEq,Option.some.injEq,Addr.mk.injEq,and_true,true_and] at hv
            obtain ⟨rfl,rfl⟩:=hv;have RD:=reduceRows_any _ k (k + 1) k (aug k f c) w1.heap.size w1.heap.size k e2 (by omega) (by omega) (by omega) (aug_byt kf kc) wr hE;have X3:Box wr w.heap.size #[.int .i64 0,.slice none 0 0] 92:=hbx.below hcp.bel hl1;clear hE
            go_wp2_with fail
            refine RD.mono ?_;rintro ee w4 ⟨rfl,⟨e4,hE4⟩,hb4⟩;have B4:Below w.heap.size w w4:=hbw1.trans (hb4.mono (by omega));have X4:Box w4 w.heap.size #[.int .i64 0,.slice none 0 0] 92:=X3.below hb4 hl1;obtain ⟨x0,x1,y0,y1⟩:=res_cells X4;have hle:=(gaussM_le (R:=k) (M:=aug k f c) k).1;obtain ⟨G,hG⟩:∃ G,G = gaussM k (aug k f c) k:=⟨_,rfl⟩;have HG:Hid (G = gaussM k (aug k f c) k):=hG;rw [← hG] at hle hE4 ⊢;obtain ⟨rk,hrk⟩:∃ rk,rk = G.2:=⟨_,rfl⟩;have HRK:Hid (rk = G.2):=hrk;rw [← hrk] at hle ⊢;clear hG hrk hb4 X3 RD hcp hbw1
            by_cases hfull:rk < k
            · go_wp2
              exact bodyPost_ret (v:=bytesR 4 (.slice none 0 0)) (by simp [results,Tryz.results159,go_sem,bytesR,x0,x1]) rfl ⟨4,_,rfl,.inr (.inr ⟨by omega,hR0,rfl,HSH.out,.inl ⟨rfl,by rw [← HG.out,← HRK.out];exact hfull⟩⟩),own_nil _ _ _ _,(B4.setCell (Nat.le_refl _) _).setCell (Nat.le_refl _) _⟩
            · go_wp2_with (at_make;refine wp_makeB _ rfl _ _ rfl _ _ k rfl rfl rfl rfl (by omega) ?_;intro w5 hown5 hb5 hz5)
              have B5:Below w.heap.size w w5:=bthen B4 hb5;have X5:Box w5 w.heap.size #[.int .i64 0,.slice none 0 0] 92:=X4.below hb5 X4.lt;have E5:=hE4.below hb5 (Nat.le_refl _)
              have h14:w1.heap.size ≤ w4.heap.size:=by have:=hE4.low;have:=hE4.high;omega
              clear x0 x1 y0 y1 B4 X4 hE4 hb5
              go_loopw [9,66] (fun _ i wr => ∃ q:Nat,q ≤ k ∧ i = .int .i64 q ∧ Own wr w4.heap.size w5.heap.size (.slice (some ⟨w4.heap.size,0,none⟩) k k) k (fun i => if i < q then G.1 i k else 0) ∧ Out w4.heap.size w5.heap.size w5 wr) (fun _ i _ => k - (intOf i).toNat)
              case atStart => exact ⟨0,Nat.zero_le _,rfl,hown5,Out.refl _ _ _⟩
              case round =>
                clear hown5;obtain ⟨q,hq,rfl,hown,hout⟩:=hrel
                by_cases hqk:q < k
                · have cq:wr.cell? ⟨w1.heap.size,q,none⟩ = some (e4 q):=(World.cell?_of_block (w:=w5) (hout.block _ (.inl (by have:=E5.high;omega)))).trans (E5.cell q hqk)
                  obtain ⟨gq,capq,heq,hg1,hg2,hg3,_⟩:=(E5.each q hqk).form (by omega)
                  have cv:wr.cell? ⟨gq,k,none⟩ = some (.int .u8 (G.1 q k)):=by
                    have h5:=(E5.each q hqk).1;rw [heq] at h5;exact (World.cell?_of_block (w:=w5) (hout.block gq (.inl hg2))).trans ((h5.cellAt k (by omega)).trans (cellsOf_get _ _ _ (by omega)))
                  rw [heq] at cq
                  have hco:wr.cell? ⟨w4.heap.size,q,none⟩ = some (.int .u8 (0:Nat)):=by
                    have:=hown.1.cellAt q (by omega);rw [this,cellsOf_get _ _ _ hqk,if_neg (Nat.lt_irrefl q)]
                  have hfo:wr.frozen? ⟨w4.heap.size,q,none⟩ = false:=hown.1.frozenAt q;obtain ⟨y,hy⟩:∃ y,y = G.1 q k:=⟨_,rfl⟩
                  have RW:Own (wr.setCell ⟨w4.heap.size,q,none⟩ (.int .u8 y)) w4.heap.size w5.heap.size (.slice (some ⟨w4.heap.size,0,none⟩) k k) k (fun i => if i < q + 1 then G.1 i k else 0) :=
                    hown.store q y hqk (fun i _ => by
                      by_cases c1:i = q
                      · subst c1;simp [hy]
                      · by_cases c2:i < q
                        · have c3:i < q + 1:=by omega
                          simp [c1,c2,c3]
                        · have c3:¬ i < q + 1:=by omega
                          simp [c1,c2,c3])
                  have RO:Out w4.heap.size w5.heap.size w5 (wr.setCell ⟨w4.heap.size,q,none⟩ (.int .u8 y)):=hout.trans (out_store wr _ _ _ q _ (Nat.le_refl _) hz5);rw [← hy] at cv;clear hown hout hy heq;go_wp2
                  go_roundw
                  case rel => exact ⟨q + 1,by omega,by go_num,RW,RO⟩
                  case measure => simp [intOf];omega
                · have hqn:q = k:=by omega
                  subst hqn;have B6:Below w.heap.size w wr:=B5.trans (hout.below.mono (by omega));have X6:Box wr w.heap.size #[.int .i64 0,.slice none 0 0] 92:=(hout.block _ (.inl (by omega))).trans X5;obtain ⟨x0,x1,y0,y1⟩:=res_cells X6;have hown6:Own wr w4.heap.size w5.heap.size (.slice (some ⟨w4.heap.size,0,none⟩) q q) q (fun i => G.1 i q):=hown.congr (fun i hi => by simp [hi]);have hsz6:=hout.size;clear hown hout B5 X5 E5 X6;go_wp2;refine bodyPost_ret (v:=bytesR 0 (.slice (some ⟨w4.heap.size,0,none⟩) q q)) (by simp [results,Tryz.results159,go_sem,bytesR,x0,x1]) rfl ⟨0,_,rfl,.inr (.inr ⟨by omega,hR0,rfl,HSH.out,.inr ⟨rfl,by rw [← HG.out,← HRK.out];omega⟩⟩),?_,(B6.setCell (Nat.le_refl _) _).setCell (Nat.le_refl _) _⟩;have o1:=out_store wr w.heap.size (w.heap.size + 1) w.heap.size 0 (.int .i64 0) (Nat.le_refl _) (by omega);have o2:=out_store (wr.setCell ⟨w.heap.size,0,none⟩ (.int .i64 0)) w.heap.size (w.heap.size + 1) w.heap.size 1 (.slice (some ⟨w4.heap.size,0,none⟩) q q) (Nat.le_refl _) (by omega)
                  simp only [if_pos]
                  rw [← HG.out];exact (hown6.out (o1.trans o2) (.inr (by omega))).weaken (by omega) (by rw [(o1.trans o2).size,hsz6];exact Nat.le_refl _)
      · have tN:((N:Int) != (m:Int)) = true:=by simp;omega
        go_wp2;exact bodyPost_ret (v:=bytesR 1 (.slice none 0 0)) (by simp [results,Tryz.results159,go_sem,bytesR,x0,x1]) rfl ⟨1,_,rfl,.inr (.inl ⟨rfl,by omega,.inr (.inr ⟨0,by omega,by rw [← HN.out];exact hNm⟩)⟩),own_nil _ _ _ _,(hbel.setCell (Nat.le_refl _) _).setCell (Nat.le_refl _) _⟩
  · have t1:((m:Int) != (R:Int)) = true:=by simp;omega
    clear CE
    go_enter Tryz.func159,Tryz.ntmps159
    go_wp2;exact bodyPost_ret (v:=bytesR 1 (.slice none 0 0)) (by simp [results,Tryz.results159,go_sem,bytesR]) rfl ⟨1,_,rfl,.inr (.inl ⟨rfl,by omega,.inr (.inl hmR)⟩),own_nil _ _ _ _,(Below.refl _ _).alloc (Nat.le_refl _) _⟩
end Go.Proofs.YtpmiljdhacmppaaGreat