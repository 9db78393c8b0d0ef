/- SharersOf of the program. -/
import Derived.Test.YtfodlpnkllolnaaGreatZPshareai
import Derived.Test.YtfodlpnkllolnaaGreatZPshareaf
import Derived.Test.YtfodlpnkllolnaaGreatZPshareah
import Derived.Test.YtfodlpnkllolnaaGreatZPshareag
import Derived.Deep.DeepCutAuto
import Derived.Test.YtfodlpnkllolnaaGreatZPshareac
import Derived.Maps.AppendAt
import Derived.Test.YtfodlpnkllolnaaGreatZPshareab
import Derived.Test.YtfodlpnkllolnaaGreatZPshareaa
import Derived.Test.YtfodlpnkllolnaaGreatZPshareae
import Derived.StillTailTactics
set_option linter.unusedVariables false
set_option linter.unusedSimpArgs false
namespace Go.Proofs.YtfodlpnkllolnaaGreat
open Go.RowKit F256
theorem shrF_lt (d:WorldD) (G i:Nat):shrF d G i < 256:=shrM_lt _ _ _ _ _
def ShrP (d:WorldD) (G:Nat) (w:World) (e:Ending) (w':World):Prop:=∃ c ao m cap,e = .returned (.agg #[.int .i64 c,.slice ao m cap]) ∧ (((livN d G:Int) < d.shape 0 ∧ c = 10 ∧ m = 0) ∨ (¬ (livN d G:Int) < d.shape 0 ∧ c = 0 ∧ m = d.groups.1)) ∧ Own w' w.heap.size w'.heap.size (.slice ao m cap) m (shrF d G) ∧ Below w.heap.size w w'
theorem liv_skip {d:WorldD} {G k:Nat} (h:livB d G k = false):livK d G (k + 1) = livK d G k:=by unfold livK;rw [pick_skip h]
theorem liv_take {d:WorldD} {G k:Nat} (h:livB d G k = true):livK d G (k + 1) = livK d G k + 1:=by unfold livK;rw [pick_succ,if_pos h,List.length_append];rfl
theorem liv_at {d:WorldD} {G k:Nat} (h:livB d G k = true) (hk:k < d.groups.1):livF d G (livK d G k) = k:=(pickF_at h d.groups.1 hk).1
theorem livB_no {d:WorldD} {G k:Nat} (h:k = G):livB d G k = false:=by unfold livB;simp [h]
theorem livB_is {d:WorldD} {G k:Nat} (h:k ≠ G) {t:Bool} (ht:t = true ↔ DeadP d k):livB d G k = !t:=by
  unfold livB
  have e:deadB d k = t:=by
    cases t with
    | true => exact (deadB_is d k).2 (ht.1 rfl)
    | false =>
      cases hb:deadB d k with
      | false => rfl
      | true => have:=ht.2 ((deadB_is d k).1 hb);cases this
  rw [e]
  simp [h]
set_option maxHeartbeats 16000000 in
set_option maxRecDepth 20000 in
theorem sharersOf_any (d:WorldD) (cs:List Value) (hi G:Nat) (w:World) (h:layWorld.rd w hi d cs) (hhi:hi ≤ w.heap.size) (hok:OkWorld d) (hG:G < d.groups.1) :
    Calls Tryz.prog 30 #[.agg cs.toArray,.int .i64 (G:Int)] w (ShrP d G w):=by
  have h':=h;obtain ⟨ao1,cap1,ao2,cap2,ao3,cap3,rfl,g1,g2,g3,k0,k4,k5⟩:=World_rd h';have HRD:Hid (layWorld.rd w hi d [.int .i64 (d.shape 0),.int .i64 (d.shape 1),.int .i64 (d.shape 2),.int .i64 (d.shape 3),.int .i64 (d.shape 4),.int .i64 (d.shape 5),.int .i64 (d.shape 6),.int .i64 (d.shape 7),.int .i64 (d.shape 8),.slice ao1 d.groups.1 cap1,.slice ao2 d.on.1 cap2,.slice ao3 d.tapes.1 cap3,.int .i64 d.writes,.int .i64 d.stop,.bool d.down]):=h;have HOK:Hid (OkWorld d):=hok
  have hN:d.shape 0 + d.shape 1 = (d.groups.1:Int):=by have:=hok.form.1.1;omega
  obtain ⟨n,hn⟩:∃ n:Nat,d.shape 0 = (n:Int):=⟨(d.shape 0).toNat,by have:=hok.shape.1;unfold Shp3 at this;omega⟩;have HN:Hid (d.shape 0 = (n:Int)):=hn
  have hNs:1 ≤ n ∧ n ≤ 4 ∧ n ≤ d.groups.1 ∧ d.groups.1 ≤ n + 2:=by
    have s1:=hok.shape.1;unfold Shp3 at s1;omega
  obtain ⟨n1,n2,n3,n4⟩:=hNs
  have HNT:Hid ((d.shape 0).toNat = n):=by show (d.shape 0).toNat = n;omega
  clear h h' g1 g2 g3 k0 k4 k5 hok hn;have T0:=two_newb w #[.int .i64 (d.shape 0),.int .i64 (d.shape 1),.int .i64 (d.shape 2),.int .i64 (d.shape 3),.int .i64 (d.shape 4),.int .i64 (d.shape 5),.int .i64 (d.shape 6),.int .i64 (d.shape 7),.int .i64 (d.shape 8),.slice ao1 d.groups.1 cap1,.slice ao2 d.on.1 cap2,.slice ao3 d.tapes.1 cap3,.int .i64 d.writes,.int .i64 d.stop,.bool d.down] #[.int .i64 0,.slice none 0 0] 38 32;have CG:=groupCount_any d.shape HOK.out.shape;rw [hN] at CG;unfold shapeV at CG
  go_enter Tryz.func30,Tryz.ntmps30
  go_wp2_with fail
  refine (CG _).mono ?_;rintro e w1 ⟨rfl,b1⟩;have T1:=T0.call b1;have I1:OwnI w1 (w.heap.size + 1 + 1) w1.heap.size (.slice none 0 0) (livK d G 0) (fun i => (livF d G i:Int)):=ownI_nil _ _ _ _;clear T0 b1;go_wp2
  go_loopw [5,14] (fun v i wr => ∃ k:Nat,k ≤ d.groups.1 ∧ i = .int .i64 k ∧ OwnI wr (w.heap.size + 1 + 1) wr.heap.size v (livK d G k) (fun i => (livF d G i:Int)) ∧ Two w wr #[.int .i64 (d.shape 0),.int .i64 (d.shape 1),.int .i64 (d.shape 2),.int .i64 (d.shape 3),.int .i64 (d.shape 4),.int .i64 (d.shape 5),.int .i64 (d.shape 6),.int .i64 (d.shape 7),.int .i64 (d.shape 8),.slice ao1 d.groups.1 cap1,.slice ao2 d.on.1 cap2,.slice ao3 d.tapes.1 cap3,.int .i64 d.writes,.int .i64 d.stop,.bool d.down] #[.int .i64 0,.slice none 0 0] 38 32) (fun _ i _ => d.groups.1 - (intOf i).toNat)
  case atStart => exact ⟨0,Nat.zero_le _,rfl,I1,T1⟩
  case round =>
    clear I1 T1;obtain ⟨k,hk,rfl,hI,T⟩:=hrel;have HT:Hid (Two w wr #[.int .i64 (d.shape 0),.int .i64 (d.shape 1),.int .i64 (d.shape 2),.int .i64 (d.shape 3),.int .i64 (d.shape 4),.int .i64 (d.shape 5),.int .i64 (d.shape 6),.int .i64 (d.shape 7),.int .i64 (d.shape 8),.slice ao1 d.groups.1 cap1,.slice ao2 d.on.1 cap2,.slice ao3 d.tapes.1 cap3,.int .i64 d.writes,.int .i64 d.stop,.bool d.down] #[.int .i64 0,.slice none 0 0] 38 32):=T;obtain ⟨c,hc⟩:∃ c,c = livK d G k:=⟨_,rfl⟩;have HC:Hid (c = livK d G k):=hc;rw [← hc] at hI;have HI:Hid (OwnI wr (w.heap.size + 1 + 1) wr.heap.size u5 c (fun i => (livF d G i:Int))):=hI;obtain ⟨ao9,cap9,hs9⟩:=hI.slice;subst hs9;have zr:w.heap.size + 1 < wr.heap.size:=T.b2.lt
    have hck:c ≤ k:=by rw [hc];exact pick_le _ _
    clear hI hc
    by_cases hlt:k < d.groups.1
    · have HLT:Hid (k < d.groups.1):=hlt
      have t1:(k:Int) < (d.groups.1:Int):=by omega
      by_cases hkG:k = G
      · have HB:Hid (livB d G k = false):=livB_no hkG
        have e1:(k:Int) = (G:Int):=by omega
        clear hkG T;go_wp2
        go_roundw
        case rel => exact ⟨k + 1,by omega,by go_num,by rw [liv_skip HB.out,← HC.out];exact HI.out,HT.out⟩
        case measure => simp [intOf];omega
      · have e1:¬ (k:Int) = (G:Int):=by omega
        have CD:=isDead_any d [.int .i64 (d.shape 0),.int .i64 (d.shape 1),.int .i64 (d.shape 2),.int .i64 (d.shape 3),.int .i64 (d.shape 4),.int .i64 (d.shape 5),.int .i64 (d.shape 6),.int .i64 (d.shape 7),.int .i64 (d.shape 8),.slice ao1 d.groups.1 cap1,.slice ao2 d.on.1 cap2,.slice ao3 d.tapes.1 cap3,.int .i64 d.writes,.int .i64 d.stop,.bool d.down] hi k wr (layWorld.rd_below HRD.out T.bel hhi) (Nat.le_trans hhi T.bel.size) hlt;have HKG:Hid (k ≠ G):=hkG;have x_0:wr.cell? ⟨w.heap.size,0,none⟩ = some (.int .i64 (d.shape 0)):=T.b1.cell 0;have x_1:wr.cell? ⟨w.heap.size,1,none⟩ = some (.int .i64 (d.shape 1)):=T.b1.cell 1;have x_2:wr.cell? ⟨w.heap.size,2,none⟩ = some (.int .i64 (d.shape 2)):=T.b1.cell 2;have x_3:wr.cell? ⟨w.heap.size,3,none⟩ = some (.int .i64 (d.shape 3)):=T.b1.cell 3;have x_4:wr.cell? ⟨w.heap.size,4,none⟩ = some (.int .i64 (d.shape 4)):=T.b1.cell 4;have x_5:wr.cell? ⟨w.heap.size,5,none⟩ = some (.int .i64 (d.shape 5)):=T.b1.cell 5;have x_6:wr.cell? ⟨w.heap.size,6,none⟩ = some (.int .i64 (d.shape 6)):=T.b1.cell 6;have x_7:wr.cell? ⟨w.heap.size,7,none⟩ = some (.int .i64 (d.shape 7)):=T.b1.cell 7;have x_8:wr.cell? ⟨w.heap.size,8,none⟩ = some (.int .i64 (d.shape 8)):=T.b1.cell 8;have x_9:wr.cell? ⟨w.heap.size,9,none⟩ = some (.slice ao1 d.groups.1 cap1):=T.b1.cell 9;have x_10:wr.cell? ⟨w.heap.size,10,none⟩ = some (.slice ao2 d.on.1 cap2):=T.b1.cell 10;have x_11:wr.cell? ⟨w.heap.size,11,none⟩ = some (.slice ao3 d.tapes.1 cap3):=T.b1.cell 11;have x_12:wr.cell? ⟨w.heap.size,12,none⟩ = some (.int .i64 d.writes):=T.b1.cell 12;have x_13:wr.cell? ⟨w.heap.size,13,none⟩ = some (.int .i64 d.stop):=T.b1.cell 13;have x_14:wr.cell? ⟨w.heap.size,14,none⟩ = some (.bool d.down):=T.b1.cell 14;clear T hkG
        go_wp2_with fail
        refine CD.mono ?_;rintro e w2 ⟨t,rfl,ht,b2⟩;have HT2:Hid (Two w w2 #[.int .i64 (d.shape 0),.int .i64 (d.shape 1),.int .i64 (d.shape 2),.int .i64 (d.shape 3),.int .i64 (d.shape 4),.int .i64 (d.shape 5),.int .i64 (d.shape 6),.int .i64 (d.shape 7),.int .i64 (d.shape 8),.slice ao1 d.groups.1 cap1,.slice ao2 d.on.1 cap2,.slice ao3 d.tapes.1 cap3,.int .i64 d.writes,.int .i64 d.stop,.bool d.down] #[.int .i64 0,.slice none 0 0] 38 32):=HT.out.call b2;have HI2:Hid (OwnI w2 (w.heap.size + 1 + 1) w2.heap.size (.slice ao9 c cap9) c (fun i => (livF d G i:Int))):=(HI.out.below b2 (Nat.le_refl _)).mono b2.size;have Ht:Hid (livB d G k = !t):=livB_is HKG.out ht;have z2:wr.heap.size ≤ w2.heap.size:=b2.size;clear CD ht b2 HT HI x_0 x_1 x_2 x_3 x_4 x_5 x_6 x_7 x_8 x_9 x_10 x_11 x_12 x_13 x_14
        cases t with
        | true =>
          have HB:Hid (livB d G k = false):=Ht.out;clear Ht;go_wp2
          go_roundw
          case rel => exact ⟨k + 1,by omega,by go_num,by rw [liv_skip HB.out,← HC.out];exact HI2.out,HT2.out⟩
          case measure => simp [intOf];omega
        | false =>
          have HB:Hid (livB d G k = true):=Ht.out;clear Ht
          have HF:Hid ((fun i => (livF d G i:Int)) c = (k:Int)):=by
            show ((livF d G c:Nat):Int) = (k:Int)
            rw [HC.out,liv_at HB.out HLT.out]
          go_wp2_with (at_builtin;refine wp_appendI rfl (.tmp 26) (.tmp 28) rfl (w.heap.size + 1 + 1) w2.heap.size (.slice ao9 c cap9) c (fun i => (livF d G i:Int)) ?_ ?_ w2.heap.size 1 ?_ ?_ (by omega) ?_ ?_;(simp [Act.eval]);exact HI2.out.alloc _;(simp [Act.eval]);(rw [HF.out];simp);(simp;omega);intro v2 w3 o3 b3)
          have b4:Below (w.heap.size + 1 + 1) w2 w3:=((Below.refl (w.heap.size + 1 + 1) w2).alloc (by omega) _).trans b3;have HT3:Hid (Two w w3 #[.int .i64 (d.shape 0),.int .i64 (d.shape 1),.int .i64 (d.shape 2),.int .i64 (d.shape 3),.int .i64 (d.shape 4),.int .i64 (d.shape 5),.int .i64 (d.shape 6),.int .i64 (d.shape 7),.int .i64 (d.shape 8),.slice ao1 d.groups.1 cap1,.slice ao2 d.on.1 cap2,.slice ao3 d.tapes.1 cap3,.int .i64 d.writes,.int .i64 d.stop,.bool d.down] #[.int .i64 0,.slice none 0 0] 38 32):=⟨HT2.out.b1.below b4 (by omega),HT2.out.b2.below b4 (by omega),HT2.out.bel.trans (b4.mono (by omega))⟩;have HI4:Hid (OwnI w3 (w.heap.size + 1 + 1) w3.heap.size v2 (c + 1) (fun i => (livF d G i:Int))):=o3;clear o3 b3 b4 HI2 HT2;go_wp2
          go_roundw
          case rel => exact ⟨k + 1,by omega,by go_num,by rw [liv_take HB.out,← HC.out];exact HI4.out,HT3.out⟩
          case measure => simp [intOf];omega
    · obtain rfl:k = d.groups.1:=by omega
      have hcm:c = livN d G:=HC.out;subst hcm;have hm9:livN d G ≤ d.groups.1:=livN_le d G;obtain ⟨m,hm⟩:∃ m,m = livN d G:=⟨_,rfl⟩;have HM:Hid (m = livN d G):=hm;rw [← hm] at HI hm9 hck ⊢;have x0:wr.cell? ⟨w.heap.size,0,none⟩ = some (.int .i64 (d.shape 0)):=T.b1.cell 0;have x1:wr.cell? ⟨w.heap.size,1,none⟩ = some (.int .i64 (d.shape 1)):=T.b1.cell 1;have CS:=implShare_any (d.shape 0) (d.shape 1) (G:Int) (.slice ao9 m cap9) m (fun i => (livF d G i:Int)) _ _ wr HI.out (Nat.le_refl _) (by omega)
      have HA:Hid (∀ x,ShAns (d.shape 0) (d.shape 1) m (fun i => (livF d G i:Int)) (G:Int) x → ((m:Int) < d.shape 0 ∧ x = 10) ∨ (¬ (m:Int) < d.shape 0 ∧ x = 0)):=fun x hx => by
        have q1:Shp3 (d.shape 0) (d.shape 1):=HOK.out.shape.1
        have q2:RiseP m (fun i => (livF d G i:Int)) (d.shape 0 + d.shape 1 - 1):=by rw [HM.out];exact liv_riseP G _ (by omega)
        have q3:0 ≤ (G:Int) ∧ (G:Int) ≤ d.shape 0 + d.shape 1 - 1:=by omega
        have q4:¬ HasP m (fun i => (livF d G i:Int)) (G:Int):=by rw [HM.out];exact liv_has G
        by_cases q5:(m:Int) < d.shape 0
        · exact .inl ⟨q5,hx.one (.inr (.inr (.inr (.inr (.inl ⟨rfl,q1,q2,q3,q4,q5⟩)))))⟩
        · exact .inr ⟨q5,hx.one (.inr (.inr (.inr (.inr (.inr ⟨rfl,q1,q2,q3,q4,by omega⟩)))))⟩
      clear hlt T hm
      go_wp2_with fail
      refine CS.mono ?_;rintro e w4 ⟨x,v4,rfl,hx,o4,b4⟩;have ho:=HA.out x hx;have HT4:Hid (Two w w4 #[.int .i64 (d.shape 0),.int .i64 (d.shape 1),.int .i64 (d.shape 2),.int .i64 (d.shape 3),.int .i64 (d.shape 4),.int .i64 (d.shape 5),.int .i64 (d.shape 6),.int .i64 (d.shape 7),.int .i64 (d.shape 8),.slice ao1 d.groups.1 cap1,.slice ao2 d.on.1 cap2,.slice ao3 d.tapes.1 cap3,.int .i64 d.writes,.int .i64 d.stop,.bool d.down] #[.int .i64 0,.slice none 0 0] 38 32):=HT.out.call b4;have HI4:Hid (OwnI w4 (w.heap.size + 1 + 1) wr.heap.size (.slice ao9 m cap9) m (fun i => (livF d G i:Int))):=HI.out.below b4 (Nat.le_refl _);have z4:wr.heap.size ≤ w4.heap.size:=b4.size;clear CS HA hx b4 HT HI x0 x1;unfold bytesR
      rcases ho with ⟨hlt,rfl⟩ | ⟨hge,rfl⟩
      · have HL:Hid ((m:Int) < d.shape 0):=by show (m:Int) < d.shape 0;omega
        simp only [show ¬ (10:Int) = 0 by decide,if_false] at o4
        obtain ⟨ao5,cap5,rfl⟩:=o4.slice;have bA:Below w4.heap.size w4 (w4.alloc (.cells #[.int .i64 10,.slice ao5 0 cap5] 32)):=(Below.refl _ _).alloc (Nat.le_refl _) _;have X5:Box (w4.alloc (.cells #[.int .i64 10,.slice ao5 0 cap5] 32)) w4.heap.size #[.int .i64 10,.slice ao5 0 cap5] 32:=box_new _ _ _;have O5:Own w4 wr.heap.size w4.heap.size (.slice ao5 0 cap5) 0 (shrF d G):=o4.congr (fun i hi => absurd hi (Nat.not_lt_zero i));clear o4 hlt
        go_upto_region 9 with fail
        obtain ⟨W5,hW5⟩:∃ y,y = w4.alloc (.cells #[.int .i64 10,.slice ao5 0 cap5] 32):=⟨_,rfl⟩;rw [← hW5] at bA X5 ⊢;have HT5:Hid (Two w W5 #[.int .i64 (d.shape 0),.int .i64 (d.shape 1),.int .i64 (d.shape 2),.int .i64 (d.shape 3),.int .i64 (d.shape 4),.int .i64 (d.shape 5),.int .i64 (d.shape 6),.int .i64 (d.shape 7),.int .i64 (d.shape 8),.slice ao1 d.groups.1 cap1,.slice ao2 d.on.1 cap2,.slice ao3 d.tapes.1 cap3,.int .i64 d.writes,.int .i64 d.stop,.bool d.down] #[.int .i64 0,.slice none 0 0] 38 32):=HT4.out.call bA;have y0:W5.cell? ⟨w4.heap.size,0,none⟩ = some (.int .i64 10):=X5.cell 0;have z5:w4.heap.size < W5.heap.size:=X5.lt;have O6:=O5.below bA (Nat.le_refl _);have OO:=yres_own O6 (by omega) (shrF_lt d G) 10 (by decide);clear bA hW5 HT4 O5
        go_wp2_with (first | (refine wp_loadBox 32 (.tmp 7) rfl rfl (w4.heap.size) rfl (cs:=[.int .i64 10,.slice ao5 0 cap5]) (X5) Tryz.underlying32 size_Yr rfl ?_) | (refine wp_storeBox 32 _ _ rfl rfl (w.heap.size + 1) rfl (cs:=[.int .i64 10,.slice ao5 0 cap5]) (old:=[.int .i64 0,.slice none 0 0]) rfl (HT5.out.b2) size_Yr rfl rfl (OO.one) ?_;intro w9 X9 C9 z9))
        refine ret_box Tryz.results30 rfl X9 Tryz.underlying32 size_Yr rfl rfl ?_;exact ⟨10,ao5,0,cap5,rfl,.inl ⟨by rw [← HM.out];exact HL.out,rfl,rfl⟩,((O6.chg (C9.chg (lo:=w.heap.size + 1) (hi:=w.heap.size + 1 + 1) (fun b hb => by simp at hb;omega)) (.inr (by omega))).weaken (by omega) (by omega)),HT5.out.bel.trans (C9.bel (fun b hb => by simp at hb;omega) HT5.out.bel.size)⟩
      · have hmn:n ≤ m:=by have:=HN.out;omega
        have HGE:Hid (¬ (m:Int) < d.shape 0):=by show ¬ (m:Int) < d.shape 0;omega
        simp only [if_true] at o4
        have o5:Own w4 wr.heap.size w4.heap.size v4 m (shareN n (livF d G) G):=by
          have e1:(fun k => ((fun i => (livF d G i:Int)) k).toNat) = livF d G:=by funext k;simp
          rw [e1,HNT.out,Int.toNat_natCast] at o4;exact o4
        obtain ⟨gv,capv,rfl,v1,v2,v3,v5⟩:=o5.form (by omega);obtain ⟨gl,capl,hl,l1,l2,l3,l4⟩:=HI4.out.form (by omega)
        cases hl
        have HV:Hid (Own w4 wr.heap.size w4.heap.size (.slice (some ⟨gv,0,none⟩) m capv) m (shareN n (livF d G) G)):=o5;have bA:Below w4.heap.size w4 (w4.alloc (.cells #[.int .i64 0,.slice (some ⟨gv,0,none⟩) m capv] 32)):=(Below.refl _ _).alloc (Nat.le_refl _) _;have X5:Box (w4.alloc (.cells #[.int .i64 0,.slice (some ⟨gv,0,none⟩) m capv] 32)) w4.heap.size #[.int .i64 0,.slice (some ⟨gv,0,none⟩) m capv] 32:=box_new _ _ _;clear o4 o5 hge
        go_upto_region 9 with fail
        obtain ⟨W5,hW5⟩:∃ y,y = w4.alloc (.cells #[.int .i64 0,.slice (some ⟨gv,0,none⟩) m capv] 32):=⟨_,rfl⟩;rw [← hW5] at bA X5 ⊢;have HT5:Hid (Two w W5 #[.int .i64 (d.shape 0),.int .i64 (d.shape 1),.int .i64 (d.shape 2),.int .i64 (d.shape 3),.int .i64 (d.shape 4),.int .i64 (d.shape 5),.int .i64 (d.shape 6),.int .i64 (d.shape 7),.int .i64 (d.shape 8),.slice ao1 d.groups.1 cap1,.slice ao2 d.on.1 cap2,.slice ao3 d.tapes.1 cap3,.int .i64 d.writes,.int .i64 d.stop,.bool d.down] #[.int .i64 0,.slice none 0 0] 38 32):=HT4.out.call bA;have HB5:Hid (Below w4.heap.size w4 W5):=bA;have y0:W5.cell? ⟨w4.heap.size,0,none⟩ = some (.int .i64 0):=X5.cell 0;have HX5:Hid (Box W5 w4.heap.size #[.int .i64 0,.slice (some ⟨gv,0,none⟩) m capv] 32):=X5;have z5:w4.heap.size < W5.heap.size:=X5.lt;have x_0:W5.cell? ⟨w.heap.size,0,none⟩ = some (.int .i64 (d.shape 0)):=HT5.out.b1.cell 0;have x_1:W5.cell? ⟨w.heap.size,1,none⟩ = some (.int .i64 (d.shape 1)):=HT5.out.b1.cell 1;have x_2:W5.cell? ⟨w.heap.size,2,none⟩ = some (.int .i64 (d.shape 2)):=HT5.out.b1.cell 2;have x_3:W5.cell? ⟨w.heap.size,3,none⟩ = some (.int .i64 (d.shape 3)):=HT5.out.b1.cell 3;have x_4:W5.cell? ⟨w.heap.size,4,none⟩ = some (.int .i64 (d.shape 4)):=HT5.out.b1.cell 4;have x_5:W5.cell? ⟨w.heap.size,5,none⟩ = some (.int .i64 (d.shape 5)):=HT5.out.b1.cell 5;have x_6:W5.cell? ⟨w.heap.size,6,none⟩ = some (.int .i64 (d.shape 6)):=HT5.out.b1.cell 6;have x_7:W5.cell? ⟨w.heap.size,7,none⟩ = some (.int .i64 (d.shape 7)):=HT5.out.b1.cell 7;have x_8:W5.cell? ⟨w.heap.size,8,none⟩ = some (.int .i64 (d.shape 8)):=HT5.out.b1.cell 8;clear bA hW5 HT4 X5
        go_wp2_with fail
        refine (CG _).mono ?_;rintro e w6 ⟨rfl,b6⟩;have HT6:Hid (Two w w6 #[.int .i64 (d.shape 0),.int .i64 (d.shape 1),.int .i64 (d.shape 2),.int .i64 (d.shape 3),.int .i64 (d.shape 4),.int .i64 (d.shape 5),.int .i64 (d.shape 6),.int .i64 (d.shape 7),.int .i64 (d.shape 8),.slice ao1 d.groups.1 cap1,.slice ao2 d.on.1 cap2,.slice ao3 d.tapes.1 cap3,.int .i64 d.writes,.int .i64 d.stop,.bool d.down] #[.int .i64 0,.slice none 0 0] 38 32):=HT5.out.call b6;have HX6:Hid (Box w6 w4.heap.size #[.int .i64 0,.slice (some ⟨gv,0,none⟩) m capv] 32):=HX5.out.call b6;have HB6:Hid (Below w4.heap.size w4 w6):=HB5.out.trans (b6.mono (by omega));have z6:W5.heap.size ≤ w6.heap.size:=b6.size;clear b6 HT5 HX5 HB5 y0 x_0 x_1 x_2 x_3 x_4 x_5 x_6 x_7 x_8
        go_wp2_with (at_make;refine wp_makeB _ rfl _ _ rfl _ _ d.groups.1 rfl rfl rfl rfl (by omega) ?_;intro w7 o7 b7 z7)
        have O7:Own w7 w6.heap.size w7.heap.size (.slice (some ⟨w6.heap.size,0,none⟩) d.groups.1 d.groups.1) d.groups.1 (shrM d G n 0):=o7.congr (fun i _ => (shrM_zero d G n i).symm);have HT7:Hid (Two w w7 #[.int .i64 (d.shape 0),.int .i64 (d.shape 1),.int .i64 (d.shape 2),.int .i64 (d.shape 3),.int .i64 (d.shape 4),.int .i64 (d.shape 5),.int .i64 (d.shape 6),.int .i64 (d.shape 7),.int .i64 (d.shape 8),.slice ao1 d.groups.1 cap1,.slice ao2 d.on.1 cap2,.slice ao3 d.tapes.1 cap3,.int .i64 d.writes,.int .i64 d.stop,.bool d.down] #[.int .i64 0,.slice none 0 0] 38 32):=HT6.out.call b7;have HX7:Hid (Box w7 w4.heap.size #[.int .i64 0,.slice (some ⟨gv,0,none⟩) m capv] 32):=HX6.out.call b7;have HB7:Hid (Below w4.heap.size w4 w7):=HB6.out.trans (b7.mono (by omega));have zh:w.heap.size + 1 < w6.heap.size:=HT6.out.b2.lt;clear o7 b7 HT6 HX6 HB6;go_wp2
        go_loopw [50] (fun i wq => ∃ k:Nat,k ≤ m ∧ i = .int .i64 k ∧ Own wq w6.heap.size w7.heap.size (.slice (some ⟨w6.heap.size,0,none⟩) d.groups.1 d.groups.1) d.groups.1 (shrM d G n k) ∧ Out w6.heap.size w7.heap.size w7 wq) (fun i _ => m - (intOf i).toNat)
        case atStart => exact ⟨0,Nat.zero_le _,rfl,O7,Out.refl _ _ _⟩
        case round =>
          clear O7;obtain ⟨k,hk,rfl,hown,hout⟩:=hrel
          by_cases hlt:k < m
          · have hkl:k < livN d G:=by rw [← HM.out];exact hlt
            have hF1:livF d G k < d.groups.1:=liv_lt hkl;have HNX:Hid (∀ j,j < d.groups.1 → shrM d G n (k + 1) j = if j = livF d G k then shareN n (livF d G) G k else shrM d G n k j):=fun j hj => shrM_next hkl j hj
            have cl:wr.cell? ⟨gl,k,none⟩ = some (.int .i64 (livF d G k:Int)):=by
              rw [World.cell?_of_block (w:=w7) (hout.block gl (.inl (by omega)))];have e1:=HI4.out.1.cellAt k (by omega);rw [intsOf_get _ _ _ hlt] at e1;rw [HB7.out.cell (p:=⟨gl,k,none⟩) (by show gl < w4.heap.size;omega)];exact e1
            have cv:wr.cell? ⟨gv,k,none⟩ = some (.int .u8 (shareN n (livF d G) G k)):=by
              rw [World.cell?_of_block (w:=w7) (hout.block gv (.inl (by omega)))];have e1:=HV.out.1.cellAt k (by omega);rw [cellsOf_get _ _ _ hlt] at e1;rw [HB7.out.cell (p:=⟨gv,k,none⟩) (by show gv < w4.heap.size;omega)];exact e1
            have cx:wr.cell? ⟨w4.heap.size,1,none⟩ = some (.slice (some ⟨gv,0,none⟩) m capv):=by
              rw [World.cell?_of_block (w:=w7) (hout.block w4.heap.size (.inl (by omega)))];exact HX7.out.cell 1
            obtain ⟨F,hF⟩:∃ F,F = livF d G k:=⟨_,rfl⟩;obtain ⟨y,hy⟩:∃ y,y = shareN n (livF d G) G k:=⟨_,rfl⟩;rw [← hF] at cl hF1 HNX;rw [← hy] at cv HNX
            have co:wr.cell? ⟨w6.heap.size,F,none⟩ = some (.int .u8 (shrM d G n k F)):=by
              have:=hown.1.cellAt F (by omega);rw [this,cellsOf_get _ _ _ hF1]
            have cf:wr.frozen? ⟨w6.heap.size,F,none⟩ = false:=hown.1.frozenAt F;have RW:Own (wr.setCell ⟨w6.heap.size,F,none⟩ (.int .u8 y)) w6.heap.size w7.heap.size (.slice (some ⟨w6.heap.size,0,none⟩) d.groups.1 d.groups.1) d.groups.1 (shrM d G n (k + 1)):=hown.store F y hF1 HNX.out;have RO:Out w6.heap.size w7.heap.size w7 (wr.setCell ⟨w6.heap.size,F,none⟩ (.int .u8 y)):=hout.trans (out_store wr _ _ _ F _ (Nat.le_refl _) z7)
            have i1:(k:Int) < (m:Int):=by omega
            have i2:(F:Int) < (d.groups.1:Int):=by omega
            obtain ⟨q,hq⟩:∃ q,q = shrM d G n k F:=⟨_,rfl⟩;rw [← hq] at co;clear hown hout hF hy hq hkl HNX;go_wp2
            go_roundw
            case rel => exact ⟨k + 1,by omega,by go_num,RW,RO⟩
            case measure => simp [intOf];omega
          · obtain rfl:k = m:=by omega
            have b8:Below w6.heap.size w7 wr:=hout.below;have HT8:Two w wr #[.int .i64 (d.shape 0),.int .i64 (d.shape 1),.int .i64 (d.shape 2),.int .i64 (d.shape 3),.int .i64 (d.shape 4),.int .i64 (d.shape 5),.int .i64 (d.shape 6),.int .i64 (d.shape 7),.int .i64 (d.shape 8),.slice ao1 d.groups.1 cap1,.slice ao2 d.on.1 cap2,.slice ao3 d.tapes.1 cap3,.int .i64 d.writes,.int .i64 d.stop,.bool d.down] #[.int .i64 0,.slice none 0 0] 38 32:=⟨HT7.out.b1.below b8 (by omega),HT7.out.b2.below b8 zh,HT7.out.bel.trans (b8.mono (by omega))⟩
            have O8:Own wr w6.heap.size w7.heap.size (.slice (some ⟨w6.heap.size,0,none⟩) d.groups.1 d.groups.1) d.groups.1 (shrF d G):=hown.congr (fun i _ => by
              unfold shrF;rw [HNT.out]
              exact shrM_more hmn i)
            have zz:w7.heap.size = wr.heap.size:=hout.size.symm;have OO:=yres_own O8 (by omega) (shrF_lt d G) 0 (by decide);clear hown hout b8
            go_wp2_with (refine wp_storeBox 32 _ _ rfl rfl (w.heap.size + 1) rfl (cs:=[.int .i64 0,.slice (some ⟨w6.heap.size,0,none⟩) d.groups.1 d.groups.1]) (old:=[.int .i64 0,.slice none 0 0]) rfl (HT8.b2) size_Yr rfl rfl (OO.one) ?_;intro w9 X9 C9 z9)
            refine ret_box Tryz.results30 rfl X9 Tryz.underlying32 size_Yr rfl rfl ?_;exact ⟨0,_,_,_,rfl,.inr ⟨by rw [← HM.out];have:=HGE.out;omega,rfl,rfl⟩,((O8.chg (C9.chg (lo:=w.heap.size + 1) (hi:=w.heap.size + 1 + 1) (fun b hb => by simp at hb;omega)) (.inr (by omega))).weaken (by omega) (by omega)),HT8.bel.trans (C9.bel (fun b hb => by simp at hb;omega) HT8.bel.size)⟩
end Go.Proofs.YtfodlpnkllolnaaGreat
namespace Go.Proofs.YtfodlpnkllolnaaGreat
open Go.RowKit F256
theorem run_appendAt (w:World) (ty:TypeId) (lo hi:Nat) (v:Value) (n:Nat) (f:Nat → Nat) (hown:Own w lo hi v n f) (b c:Nat) (hcell:w.cell? ⟨b,0,none⟩ = some (.int .u8 (f n))) (hn:n + 1 ≤ 1000000) (hlo:lo ≤ w.heap.size) :
    ∃ v' w',(Builtin.append_ #[30,30] ty #[v,.slice (some ⟨b,0,none⟩) 1 c]).run Tryz.prog w = .ok v' w' ∧ Own w' lo w'.heap.size v' (n + 1) f ∧ w.grownBy w' v.ownBlock ∧ (v'.ownBlock = v.ownBlock ∨ v'.ownBlock = some w.heap.size):=by
  obtain ⟨i0,hi0,hz0,hz1,hz2⟩:=info_parts info_u8
  obtain ⟨v',w',hr,h2,h3,_,h4⟩:=run_append_own_at (P:=Tryz.prog) w lo 30 ty 5 i0 (.int .u8 0) 1 1 Tryz.underlying30 hi0 hz0 hz1 hz2 rfl (by decide) v n (cellsOf n f) hown.1 ⟨b,0,none⟩ 1 c [.int .u8 (f n)] rfl
    (fun j u hj => by
      match j,hj with
      | 0,hj => simp at hj;subst hj;simpa [Addr.add] using hcell)
    (fun u hu => by simp at hu;subst hu;rfl) (by unfold maxLen;omega) (by omega) hlo
  rw [cellsOf_snoc] at h2;exact ⟨v',w',hr,⟨h2,fun k hk => (h2.lt k hk).2⟩,h3,h4⟩
theorem step_appendAt {ops:Array Oper} {o:Oper} {a:Act} {w:World} {K:Act → World → Prop} {Q:Exit → Act → World → Prop} {E:Prop}
    (hg:o.guard = none) (s x:Operand) (hop:o.op = Op.call { callee:=Callee.builtin Builtin.append,args:=#[s,x],argTypes:=#[30,30] })
    (lo hi:Nat) (v:Value) (n:Nat) (f:Nat → Nat) (hs:a.eval s = v) (hown:Own w lo hi v n f) (b c:Nat) (hx:a.eval x = .slice (some ⟨b,0,none⟩) 1 c) (hcell:w.cell? ⟨b,0,none⟩ = some (.int .u8 (f n)))
    (hn:n + 1 ≤ 1000000) (hlo:lo ≤ w.heap.size)
    (hK:∀ v' w',Own w' lo w'.heap.size v' (n + 1) f → w.grownBy w' v.ownBlock → (v'.ownBlock = v.ownBlock ∨ v'.ownBlock = some w.heap.size) → K (a.put o.dst v') w') :
    if Region.wanted o (yielded ops a.tmps) = true then Oper.wp Tryz.prog o a w K Q else E:=by
  have hw:Region.wanted o (yielded ops a.tmps) = true:=by simp [Region.wanted,hg]
  rw [if_pos hw];obtain ⟨v',w',hrun,r1,r2,r3⟩:=run_appendAt w o.type lo hi v n f hown b c hcell hn hlo;unfold Oper.wp
  simp [execOp,hop,resolve,invoke,builtin,hs,hx,hrun,Result.andThen]
  exact hK v' w' r1 r2 r3
theorem OwnE.grow {w w2:World} {lo:Nat} {v:Value} {R:Nat} {n n':Nat → Nat} {M:Mat} {g cap:Nat} {e:Nat → Value} {x:Value} {o:Obj} (h:OwnE w lo w.heap.size v R n M g cap e) (i:Nat) (hi':i < R)
    (hg:(w.alloc o).grownBy w2 (e i).ownBlock) (ho:Own w2 lo w2.heap.size x (n' i) (M i)) (hx:x.ownBlock = (e i).ownBlock ∨ x.ownBlock = some (w.heap.size + 1)) (hn:∀ j,j < R → j ≠ i → n' j = n j) :
    OwnE (w2.setCell ⟨g,i,none⟩ x) lo w2.heap.size v R n' M g cap (fun j => if j = i then x else e j):=by
  have hs:w.heap.size + 1 ≤ w2.heap.size:=by have:=hg.size;simpa using this
  have hhi:=h.high
  have kp:∀ b,b < w.heap.size → (e i).ownBlock ≠ some b → w2.heap[b]? = w.heap[b]?:=fun b hb hne =>
    (hg.block b (by simp;omega) (fun hh => hne hh.symm)).trans (Below.heap_alloc w o b hb)
  have hr:=row_kept (w':=w2) h.row fun b hb => by
    have e1:b = g:=by rw [h.val] at hb;simpa [Value.ownBlock] using hb.symm
    subst e1;exact kp b hhi (h.apart.1 i hi')
  rw [h.val] at hr;have hst:=(hr.stored i x).1;rw [valsOf_set R e (fun j => if j = i then x else e j) i x hi' (fun j _ => rfl)] at hst;have oth:∀ b,b ≠ g → (w2.setCell ⟨g,i,none⟩ x).heap[b]? = w2.heap[b]?:=fun b hbg => heap_setCell_other w2 ⟨g,i,none⟩ b _ hbg;have low:∀ q,q < R → ∀ k,(e q).ownBlock = some k → k < w.heap.size:=fun q hq k hk => (h.each q hq).2 k hk
  have xng:x.ownBlock ≠ some g:=fun hh => by
    rcases hx with hx | hx
    · rw [hx] at hh
      exact h.apart.1 i hi' hh
    · rw [hx] at hh
      cases hh
      omega
  refine ⟨h.val,h.low,by omega,by rw [h.val];exact hst,fun j hj => ?_,⟨fun j hj => ?_,fun j l hj hl hne k hk => ?_⟩⟩
  · by_cases c:j = i
    · subst c
      simp only [if_pos]
      exact ho.kept fun k hk => oth k fun hkg => xng (by rw [hk,hkg])
    · simp only [if_neg c]
      rw [hn j hj c];refine ((h.each j hj).kept fun k hk => ?_).weaken (Nat.le_refl _) (by omega);exact (oth k fun hkg => h.apart.1 j hj (by rw [hk,hkg])).trans (kp k (low j hj k hk) fun hh => h.apart.2 i j hi' hj (fun z => c z.symm) k hh hk)
  · by_cases c:j = i
    · simp only [if_pos c]
      exact xng
    · simp only [if_neg c]
      exact h.apart.1 j hj
  · by_cases c:j = i
    · have c2:¬ l = i:=fun z => hne (by rw [c,z])
      simp only [if_pos c] at hk
      simp only [if_neg c2]
      intro hh
      rcases hx with hx | hx
      · rw [hx] at hk
        exact h.apart.2 i l hi' hl (fun z => c2 z.symm) k hk hh
      · rw [hx] at hk
        cases hk
        have:=low l hl _ hh;omega
    · simp only [if_neg c] at hk
      by_cases c2:l = i
      · simp only [if_pos c2]
        intro hh
        rcases hx with hx | hx
        · rw [hx] at hh
          exact h.apart.2 i j hi' hj (fun z => c z.symm) k hh hk
        · rw [hx] at hh
          cases hh
          have:=low j hj _ hk;omega
      · simp only [if_neg c2]
        exact h.apart.2 j l hj hl hne k hk
end Go.Proofs.YtfodlpnkllolnaaGreat
namespace Go.Proofs.YtfodlpnkllolnaaGreat
open Go.RowKit F256
end Go.Proofs.YtfodlpnkllolnaaGreat
namespace Go.Proofs.YtfodlpnkllolnaaGreat
open Go.RowKit F256
theorem undrewN'' {B:Nat} {w w2:World} {m:Nat} (h:Below B (w.drewN m) w2):Below B w w2:=⟨h.os,h.tape,h.output,h.size,h.block⟩
set_option maxRecDepth 20000 in
set_option maxHeartbeats 8000000 in
theorem l1Step_any (v:Value) (R C n:Nat) (M:Mat) (lo:Nat) (g cap:Nat) (e:Nat → Value) (hn:n ≤ C) (hR:R ≤ 1000000) (hC:C ≤ 1000000) (kM:Byt M) (w:World) (h:OwnE w lo w.heap.size v R (fun _ => C) M g cap e) :
    Calls Tryz.prog 142 #[v,.int .i64 n] w fun ee w' => ee = .returned (.int .i64 ((gaussM R M n).2)) ∧ (∃ e',OwnE w' lo w'.heap.size v R (fun _ => C) (gaussM R M n).1 g cap e') ∧ Below lo w w':=by
  obtain rfl:=h.val
  go_enter Tryz.func142,Tryz.ntmps142
  go_wp2
  go_loopw [5,6,7,8,9] (fun d i _ _ _ wr => ∃ k:Nat,k ≤ n ∧ i = .int .i64 k ∧ d = .int .i64 ((gaussM R M k).2) ∧ (∃ e',OwnE wr lo wr.heap.size (.slice (some ⟨g,0,none⟩) R cap) R (fun _ => C) (gaussM R M k).1 g cap e') ∧ Below lo w wr) (fun _ i _ _ _ _ => n - (intOf i).toNat)
  case atStart => exact ⟨0,Nat.zero_le _,rfl,rfl,⟨e,h⟩,Below.refl _ _⟩
  case round =>
    clear h e;obtain ⟨k,hk,rfl,rfl,⟨e,hE⟩,hbel⟩:=hrel;have hle:=gaussM_le (R:=R) (M:=M) k;have kB:=gaussM_byt (R:=R) kM k;have hstep:gaussM R M (k + 1) = stepM R (gaussM R M k) k:=rfl
    by_cases hlt:k < n
    · by_cases hfull:(gaussM R M k).2 = R
      · have hf:gaussM R M n = gaussM R M k:=by have:=gaussM_full hfull (n - k);rwa [show k + (n - k) = n by omega] at this
        have HF:Hid (gaussM R M n = gaussM R M k):=hf;have HU:Hid ((gaussM R M k).2 = R):=hfull;obtain ⟨r,hr⟩:∃ r,r = (gaussM R M k).2:=⟨_,rfl⟩;have HR:Hid (r = (gaussM R M k).2):=hr
        have hrR:r = R:=by rw [hr];exact hfull
        rw [← hr];subst hrR;clear hf hfull hstep hr kB hle;go_wp2;go_ret;exact ⟨ret_eq (by rw [HF.out,← HR.out]),⟨e,by rw [HF.out];exact hE⟩,hbel⟩
      · obtain ⟨S,hS⟩:∃ S,S = gaussM R M k:=⟨_,rfl⟩
        rw [← hS] at hle kB hstep hE hfull ⊢;have HS:Hid (S = gaussM R M k):=hS;have HST:Hid (gaussM R M (k + 1) = stepM R S k):=hstep;clear hS hstep;obtain ⟨r,hr⟩:∃ r,r = S.2:=⟨_,rfl⟩;rw [← hr] at hle hfull ⊢;have HR:Hid (r = S.2):=hr
        have hrR:r < R:=by omega
        clear hr;go_wp2
        go_loop [7] (fun a => ∃ j:Nat,r ≤ j ∧ j ≤ R ∧ a = .int .i64 j ∧ ∀ i,r ≤ i → i < j → S.1 i k = 0) (fun a => R - (intOf a).toNat)
        case atStart => exact ⟨r,Nat.le_refl _,by omega,rfl,fun i h1 h2 => by omega⟩
        case round =>
          obtain ⟨j,hj1,hj2,rfl,hz⟩:=hrel;have HZ:Hid (∀ i,r ≤ i → i < j → S.1 i k = 0):=hz;clear hz
          by_cases hjR:j < R
          · have cj:=hE.cell j hjR
            have oj:=hE.each j hjR;obtain ⟨gj,capj,hej,_,_,_,_⟩:=oj.form (by omega)
            have hcc:wr.cell? ⟨gj,k,none⟩ = some (.int .u8 (S.1 j k)):=by
              have:=oj.1;rw [hej] at this;rw [this.cellAt k (by omega),cellsOf_get _ _ _ (by omega)]
            obtain ⟨y,hy⟩:∃ y,y = S.1 j k:=⟨_,rfl⟩;have HY:Hid (y = S.1 j k):=hy
            have hyl:y < 256:=by rw [hy];exact kB j k
            rw [← hy] at hcc;clear hy
            by_cases hy0:y = 0
            · rw [hej] at cj
              subst hy0;clear oj hej;go_wp2
              go_round
              case rel => exact ⟨j + 1,by omega,by omega,by go_num,fun i h1 h2 => by
                            by_cases ej:i = j
                            · rw [ej,← HY.out]
                            · exact HZ.out i h1 (by omega)⟩
              case measure => simp [intOf];omega
            · have ty:((y:Int) == 0) = false:=by simp;omega
              have hlead:lead S.1 k R r = j:=lead_eq ⟨hj1,by omega,HZ.out,fun _ => by rw [← HY.out];exact hy0⟩;have HLE:Hid (lead S.1 k R r = j):=hlead
              have tj:((j:Int) == (R:Int)) = false:=by simp;omega
              have cr:=hE.cell r hrR;have or:=hE.each r hrR;obtain ⟨gr,capr,her,_,_,_,_⟩:=or.form (by omega);have fj:=hE.frozen j;have fr:=hE.frozen r;have hgl:=hE.high
              have SC:∀ w2,Below wr.heap.size (wr.setCell ⟨g,j,none⟩ (e r)) w2 → Calls Tryz.prog 157 #[e j,.int .u8 (powN y 254)] w2 fun e w' => ∃ v',e = .returned v' ∧ Own w' w2.heap.size w'.heap.size v' C (fun q => mulN (powN y 254) (S.1 j q)) ∧ Below w2.heap.size w2 w':=fun w2 hb2 => by
                have hk2:Own w2 lo wr.heap.size (e j) C (S.1 j):=oj.kept fun q hq => by
                  have hqg:q ≠ g:=fun hh => hE.apart.1 j hjR (by rw [hq,hh]);rw [hb2.block q (oj.2 q hq)];exact heap_setCell_other wr ⟨g,j,none⟩ q _ hqg
                have hs2:wr.heap.size ≤ w2.heap.size:=by have:=hb2.size;simpa using this
                exact l1Scale_any (e j) C (S.1 j) (fun q => mulN (powN y 254) (S.1 j q)) (powN y 254) wr.heap.size w2 hk2.rd hs2 (kB j) (powN_lt _) (fun _ _ => rfl) (by omega)
              have HEE:Hid (OwnE wr lo wr.heap.size (.slice (some ⟨g,0,none⟩) R cap) R (fun _ => C) S.1 g cap e):=hE;have I:=specInv_any y hyl;obtain ⟨ej,hej'⟩:∃ x,x = e j:=⟨_,rfl⟩;obtain ⟨er,her'⟩:∃ x,x = e r:=⟨_,rfl⟩;have HEJ:Hid (ej = e j):=hej';have HER:Hid (er = e r):=her';rw [← hej'] at cj hej SC;rw [← her'] at cr her SC;have hgg:gj ≠ g:=fun hh => hE.apart.1 j hjR (by rw [← HEJ.out,hej,hh];rfl);clear hej' her' oj or hE hlead;subst hej her;have hcc2:(wr.setCell ⟨g,j,none⟩ (.slice (some ⟨gr,0,none⟩) C capr)).cell? ⟨gj,k,none⟩ = some (.int .u8 y):=(World.cell?_of_block (w:=wr) (heap_setCell_other wr ⟨g,j,none⟩ gj _ hgg)).trans hcc
              go_wp2_with fail
              refine (I _).mono ?_;rintro ee wx ⟨rfl,hwx⟩;obtain rfl:=hwx.symm
              go_wp2_with fail
              refine (SC _ (Below.refl _ _)).mono ?_;rintro ee w3 ⟨v3,rfl,ho3,hb3⟩;obtain ⟨ao3,cap3,rfl⟩:=ho3.slice
              have hz3:(wr.setCell ⟨g,j,none⟩ (.slice (some ⟨gr,0,none⟩) C capr)).heap.size = wr.heap.size:=by simp
              rw [hz3] at hb3 ho3;have hst:=(HEE.out.row.stored j (.slice (some ⟨gr,0,none⟩) C capr)).1
              have hl5:r < ((valsOf R e).set j (.slice (some ⟨gr,0,none⟩) C capr)).length:=by rw [List.length_set,valsOf_length];exact hrR
              have q1:∃ u,w3.cell? ⟨g,r,none⟩ = some u:=⟨_,(hb3.cell (p:=⟨g,r,none⟩) hgl).trans ((hst.cellAt r (by omega)).trans (List.getElem?_eq_getElem hl5))⟩;obtain ⟨u,q1⟩:=q1;have q2:w3.frozen? ⟨g,r,none⟩ = false:=(hb3.frozen (p:=⟨g,r,none⟩) hgl).trans (hst.frozenAt r)
              have hsw:(swapM S.1 r j) r = S.1 j:=by simp [swapM]
              have hM4:scaleM (swapM S.1 r j) r k r = fun q => mulN (powN y 254) (S.1 j q):=by simp only [scaleM,if_pos,hsw,HY.out]
              have ho4:Own w3 wr.heap.size w3.heap.size (.slice ao3 C cap3) C (scaleM (swapM S.1 r j) r k r):=by rw [hM4];exact ho3
              have E4:=HEE.out.put2 (M':=scaleM (swapM S.1 r j) r k) r j hrR hjR (by rw [← HER.out];exact hb3) ho4 (fun q hq hne => by simp only [scaleM,if_neg hne]);have B4:Below lo w (w3.setCell ⟨g,r,none⟩ (.slice ao3 C cap3)):=(((hbel.setCell HEE.out.low _).trans (hb3.mono (by have:=HEE.out.low;have:=HEE.out.high;omega)))).setCell HEE.out.low _
              have Z4:w3.heap.size = (w3.setCell ⟨g,r,none⟩ (.slice ao3 C cap3)).heap.size:=by simp
              rw [Z4] at E4;have kB4:Byt (scaleM (swapM S.1 r j) r k):=scaleM_byt (swapM_byt kB r j) r k
              have N0:gaussM R M (k + 1) = (clearM (scaleM (swapM S.1 r j) r k) r k R,r + 1):=by
                rw [HST.out];unfold stepM;rw [← HR.out,HLE.out,if_neg (by omega)]
              have N:Hid (gaussM R M (k + 1) = (clearM (scaleM (swapM S.1 r j) r k) r k R,r + 1)):=N0;clear N0 ho4 hM4 hsw ho3 hst hl5 hz3 hcc hcc2 cj cr fj fr SC I HEE HEJ HER hbel;go_wp2;clear q1 q2 hb3
              generalize w3.setCell ⟨g,r,none⟩ (.slice ao3 C cap3) = w4 at E4 B4 ⊢
              generalize (fun q => if q = r then Value.slice ao3 C cap3 else if q = j then e r else e q) = e4 at E4
              generalize scaleM (swapM S.1 r j) r k = M2 at E4 kB4 N
              go_loopw [9] (fun i wr => ∃ q:Nat,q ≤ R ∧ i = .int .i64 q ∧ (∃ e',OwnE wr lo wr.heap.size (.slice (some ⟨g,0,none⟩) R cap) R (fun _ => C) (clearM M2 r k q) g cap e') ∧ Below lo w wr) (fun i _ => R - (intOf i).toNat)
              case atStart => exact ⟨0,Nat.zero_le _,rfl,⟨e4,by rw [clearM_zero];exact E4⟩,B4⟩
              case round =>
                clear E4 B4 e4;obtain ⟨q,hq,rfl,⟨e5,hE5⟩,hb5⟩:=hrel
                by_cases hqR:q < R
                · by_cases hqr:q = r
                  · subst hqr
                    have E:Hid (OwnE wr lo wr.heap.size (.slice (some ⟨g,0,none⟩) R cap) R (fun _ => C) (clearM M2 q k (q + 1)) g cap e5):=by rw [clearM_skip];exact hE5
                    clear hE5;go_wp2
                    go_roundw
                    case rel => exact ⟨q + 1,by omega,by go_num,⟨e5,E.out⟩,hb5⟩
                    case measure => simp [intOf];omega
                  · have tq:((q:Int) != (r:Int)) = true:=by simp;omega
                    have kB5:=clearM_byt kB4 r k q;have cq:=hE5.cell q hqR;have cr5:=hE5.cell r hrR;have oq:=hE5.each q hqR;have or5:=hE5.each r hrR;have fq:=hE5.frozen q;have hgl5:=hE5.high;obtain ⟨gq,capq,heq,_,_,_,_⟩:=oq.form (by omega);obtain ⟨gs,caps,hes,_,_,_,_⟩:=or5.form (by omega)
                    have hcq:wr.cell? ⟨gq,k,none⟩ = some (.int .u8 (clearM M2 r k q q k)):=by
                      have:=oq.1;rw [heq] at this;rw [this.cellAt k (by omega),cellsOf_get _ _ _ (by omega)]
                    have hnx:=clearM_next (M:=M2) (r:=r) (c:=k) hqr;obtain ⟨M3,hM3⟩:∃ M3,M3 = clearM M2 r k q:=⟨_,rfl⟩;rw [← hM3] at hcq kB5 oq or5 hE5 hnx;obtain ⟨y2,hy2⟩:∃ y,y = M3 q k:=⟨_,rfl⟩
                    have hy2l:y2 < 256:=by rw [hy2];exact kB5 q k
                    have HNX:Hid (clearM M2 r k (q + 1) = fun i => if i = q then (fun j => M3 q j ^^^ mulN (M3 q k) (M3 r j)) else M3 i):=hnx;have HY2:Hid (y2 = M3 q k):=hy2;rw [← hy2] at hcq;have C1:=l1Scale_any (e5 r) C (M3 r) (fun t => mulN y2 (M3 r t)) y2 wr.heap.size (wr.drewN 1) or5.rd (Nat.le_refl _) (kB5 r) hy2l (fun _ _ => rfl) (by omega)
                    have C2:∀ (w2:World) (v2:Value),Own w2 wr.heap.size w2.heap.size v2 C (fun t => mulN y2 (M3 r t)) → Below wr.heap.size wr w2 →
                        Calls Tryz.prog 75 #[e5 q,v2] w2 fun e w' => ∃ v',e = .returned v' ∧ Own w' w2.heap.size w'.heap.size v' C (fun t => M3 q t ^^^ mulN y2 (M3 r t)) ∧ Below w2.heap.size w2 w':=fun w2 v2 ho hb2 =>
                      l1Add_any (e5 q) v2 C (M3 q) (fun t => mulN y2 (M3 r t)) _ _ _ w2 (oq.below hb2 (Nat.le_refl _)).rd ho.rd hb2.size (Nat.le_refl _) (kB5 q) (fun t => mulN_lt hy2l) (fun _ _ => rfl) (by omega)
                    obtain ⟨xq,hxq⟩:∃ x,x = e5 q:=⟨_,rfl⟩;obtain ⟨xr,hxr⟩:∃ x,x = e5 r:=⟨_,rfl⟩;rw [← hxq] at cq C2 heq;rw [← hxr] at cr5 C1 hes;have HE5:Hid (OwnE wr lo wr.heap.size (.slice (some ⟨g,0,none⟩) R cap) R (fun _ => C) M3 g cap e5):=hE5;clear hxq hxr hM3 hy2 hnx oq or5 hE5 kB5;subst heq hes;go_wp2
                    go_region_with (first | (go_at_call 157;refine C1.mono ?_;rintro ee w6 ⟨v6,rfl,ho6,hb6⟩;have q0:w6.cell? ⟨g,q,none⟩ = some (.slice (some ⟨gq,0,none⟩) C capq):=((undrewN'' hb6).cell (p:=⟨g,q,none⟩) hgl5).trans cq) | (go_at_call 75;refine (C2 _ _ ho6 (undrewN'' hb6)).mono ?_;rintro ee w7 ⟨v7,rfl,ho7,hb7⟩;obtain ⟨ao7,cap7,rfl⟩:=ho7.slice;have q1:w7.cell? ⟨g,q,none⟩ = some (.slice (some ⟨gq,0,none⟩) C capq):=((bthen (w:=wr) (undrewN'' hb6) hb7).cell (p:=⟨g,q,none⟩) hgl5).trans cq;have q2:w7.frozen? ⟨g,q,none⟩ = false:=((bthen (w:=wr) (undrewN'' hb6) hb7).frozen (p:=⟨g,q,none⟩) hgl5).trans fq))
                    all_goals
                      have hb67:Below wr.heap.size wr w7:=bthen (w:=wr) (undrewN'' hb6) hb7
                      have ho8:Own w7 wr.heap.size w7.heap.size (.slice ao7 C cap7) C (clearM M2 r k (q + 1) q):=by
                        have hq8:clearM M2 r k (q + 1) q = fun t => M3 q t ^^^ mulN y2 (M3 r t):=by rw [HNX.out];simp [HY2.out]
                        rw [hq8];exact ho7.weaken (by have:=(undrewN'' hb6).size;omega) (Nat.le_refl _)
                      have E8:=HE5.out.put (M':=clearM M2 r k (q + 1)) q hqR hb67 (Nat.le_refl _) ho8 (fun i hi hne => by rw [HNX.out];simp [hne]);have B8:Below lo w (w7.setCell ⟨g,q,none⟩ (.slice ao7 C cap7)):=(hb5.trans (hb67.mono (by have:=HE5.out.low;have:=HE5.out.high;omega))).setCell HE5.out.low _
                      have Z8:w7.heap.size = (w7.setCell ⟨g,q,none⟩ (.slice ao7 C cap7)).heap.size:=by simp
                      rw [Z8] at E8;clear hb67 ho8 ho7 ho6 hb6 hb7 q0 q1 q2 Z8 HE5 C1 C2 hb5;go_wp2
                      go_roundw
                      case rel => exact ⟨q + 1,by omega,by go_num,⟨_,E8⟩,B8⟩
                      case measure => simp [intOf];omega
                · have hqn:q = R:=by omega
                  subst hqn;go_wp2
                  go_roundw
                  case rel => exact ⟨k + 1,by omega,by go_num,val_eq (by rw [N.out];show _ = ((r + 1:Nat):Int);omega),⟨e5,by rw [N.out];exact hE5⟩,hb5⟩
                  case measure => simp [intOf];omega
          · have hjn:j = R:=by omega
            subst hjn;have hlead:lead S.1 k j r = j:=lead_eq ⟨hj1,Nat.le_refl _,HZ.out,fun h => by omega⟩
            have N0:gaussM j M (k + 1) = S:=by
              rw [HST.out];unfold stepM;rw [if_pos (by rw [← HR.out];exact hlead)]
            have N:Hid (gaussM j M (k + 1) = S):=N0;clear N0 hlead;go_wp2
            go_roundw
            case rel => exact ⟨k + 1,by omega,by go_num,val_eq (by rw [N.out,HR.out]),⟨e,by rw [N.out];exact hE⟩,hbel⟩
            case measure => simp [intOf];omega
    · have hkn:k = n:=by omega
      subst hkn;go_wp2;go_ret;exact ⟨rfl,⟨e,hE⟩,hbel⟩
end Go.Proofs.YtfodlpnkllolnaaGreat
namespace Go.Proofs.YtfodlpnkllolnaaGreat
open Go.RowKit F256
end Go.Proofs.YtfodlpnkllolnaaGreat
namespace Go.Proofs.YtfodlpnkllolnaaGreat
open Go.RowKit F256
theorem belD1 {wr w2:World} {o:Obj} {q:Nat} (h:Chg wr.heap.size (wr.heap.size + 1) ((wr.alloc o).drewN q) w2):Below wr.heap.size wr w2:=by
  have h1:=h.below (B:=wr.heap.size) (Nat.le_refl _) (by simp);exact ((Below.refl wr.heap.size wr).alloc (Nat.le_refl _) o).trans ⟨h1.os,h1.tape,h1.output,h1.size,h1.block⟩
theorem belD2 {wr w2:World} {o o':Obj} {q:Nat} (h:Chg wr.heap.size (wr.heap.size + 1) (((wr.alloc o).alloc o').drewN q) w2):Below wr.heap.size wr w2:=by
  have h1:=h.below (B:=wr.heap.size) (Nat.le_refl _) (by simp;omega);exact (((Below.refl wr.heap.size wr).alloc (Nat.le_refl _) o).alloc (by simp) o').trans ⟨h1.os,h1.tape,h1.output,h1.size,h1.block⟩
theorem cellD2 {wr w2:World} {o:Obj} {q:Nat} {x:Value} {t:TypeId} (h:Chg wr.heap.size (wr.heap.size + 1) (((wr.alloc o).alloc (.cells #[x] t)).drewN q) w2):w2.cell? ⟨wr.heap.size + 1,0,none⟩ = some x:=by
  have hb:=h.block (wr.heap.size + 1) (by simp) (.inr (Nat.le_refl _));have hc:w2.heap[wr.heap.size + 1]? = some (.cells #[x] t (0,0)):=hb.trans (heap_alloc2_new wr o (.cells #[x] t));exact cell_of_row w2 _ 0 _ t _ hc
theorem belD3 {wr w2:World} {o o':Obj} {q:Nat} (h:Chg (wr.heap.size + 1) (wr.heap.size + 1 + 1) (((wr.alloc o).alloc o').drewN q) w2):Below wr.heap.size wr w2:=by
  have h1:=h.below (B:=wr.heap.size) (by omega) (by simp;omega);exact (((Below.refl wr.heap.size wr).alloc (Nat.le_refl _) o).alloc (by simp) o').trans ⟨h1.os,h1.tape,h1.output,h1.size,h1.block⟩
theorem cellD3 {wr w2:World} {o:Obj} {q:Nat} {x:Value} {t:TypeId} (h:Chg (wr.heap.size + 1) (wr.heap.size + 1 + 1) (((wr.alloc (.cells #[x] t)).alloc o).drewN q) w2):w2.cell? ⟨wr.heap.size,0,none⟩ = some x:=by
  have hb:=h.block wr.heap.size (by simp;omega) (.inl (by omega));have hc:w2.heap[wr.heap.size]? = some (.cells #[x] t (0,0)):=hb.trans ((Below.heap_alloc (wr.alloc (.cells #[x] t)) o wr.heap.size (by simp)).trans (box_new wr #[x] t));exact cell_of_row w2 _ 0 _ t _ hc
theorem own_lit3 (w:World) (o:Obj) (g:Nat → Nat):Own ((w.alloc o).alloc (.cells #[] 5)) (w.heap.size + 1) (w.heap.size + 1 + 1) (.slice (some ⟨w.heap.size + 1,0,none⟩) 0 0) 0 g:=by
  have h:=own_lit0 (w.alloc o) g
  have hz:(w.alloc o).heap.size = w.heap.size + 1:=by simp
  rw [hz] at h;exact h.weaken (Nat.le_refl _) (by simp)
def SolvP (R:Nat) (f:Mat) (c:Nat → Nat) (b:Bool) (k:Nat) (x:Nat → Nat):Prop :=
  (b = true → (gaussM R (aug R f c) R).2 = R ∧ k = R ∧ x = fun i => (gaussM R (aug R f c) R).1 i R) ∧ (b = false → (gaussM R (aug R f c) R).2 < R ∧ k = 0)
set_option maxHeartbeats 8000000 in
theorem l1Solve_any (v1 v2:Value) (R:Nat) (f:Mat) (c:Nat → Nat) (l1 h1 gA cA l2 h2:Nat) (e:Nat → Value) (w:World) (r1:OwnE w l1 h1 v1 R (fun _ => R) f gA cA e) (o2:Own w l2 h2 v2 R c) (hh1:h1 ≤ w.heap.size) (hh2:h2 ≤ w.heap.size) (hR:0 < R) (hR2:R ≤ 16) (kf:Byt f) (kc:∀ i,c i < 256) :
    Calls Tryz.prog 121 #[v1,v2] w fun ee w' => ∃ v' b k x,ee = .returned (.tuple #[v',.bool b]) ∧ SolvP R f c b k x ∧ Own w' w.heap.size w'.heap.size v' k x ∧ Below w.heap.size w w':=by
  obtain rfl:=r1.val;obtain ⟨gr,capr,rfl,hr1,hr2,hr3,hr4⟩:=o2.form (by omega);have HA:Hid (OwnE w l1 h1 (.slice (some ⟨gA,0,none⟩) R cA) R (fun _ => R) f gA cA e):=r1;have H2:Hid (Own w l2 h2 (.slice (some ⟨gr,0,none⟩) R capr) R c):=o2
  have hgw:gA < w.heap.size:=by have:=r1.high;omega
  clear r1 o2
  go_enter Tryz.func121,Tryz.ntmps121
  go_wp2
  have hstart:Bld w (w.alloc (.cells #[] 30)) w.heap.size (.slice (some ⟨w.heap.size,0,none⟩) 0 0) 0 (fun _ => R + 1) (aug R f c) e:=by
    have hl:=World.ownsRow_lit (base:=w.heap.size) (e:=30) (size:=1) w #[] 0 (Nat.le_refl _) (Nat.zero_le _) rfl;exact ⟨hl,by simp,fun i hi => by omega,fun i j hi => by omega,(Below.refl _ _).alloc (Nat.le_refl _) _,by simp⟩
  go_loopw [6,7] (fun v i wr => ∃ m:Nat,m ≤ R ∧ i = .int .i64 m ∧ ∃ e',Bld w wr w.heap.size v m (fun _ => R + 1) (aug R f c) e') (fun _ i _ => R - (intOf i).toNat)
  case atStart => exact ⟨0,Nat.zero_le _,rfl,e,hstart⟩
  case round =>
    clear hstart;obtain ⟨m,hm1,rfl,e',hB⟩:=hrel;have hbw:Below w.heap.size w wr:=hB.bel
    by_cases hlt:m < R
    · have hcm:wr.cell? ⟨gA,m,none⟩ = some (e m):=(hbw.cell (p:=⟨gA,m,none⟩) hgw).trans (HA.out.cell m hlt)
      have om:Own wr l1 h1 (e m) R (f m):=(HA.out.each m hlt).below hbw hh1
      have hcr:wr.cell? ⟨gr,m,none⟩ = some (.int .u8 (c m)):=by
        have:=H2.out.1.cellAt m (by omega);rw [cellsOf_get _ _ _ hlt] at this;exact (hbw.cell (p:=⟨gr,m,none⟩) (by show gr < w.heap.size;omega)).trans this
      obtain ⟨y,hy⟩:∃ y,y = c m:=⟨_,rfl⟩;have HY:Hid (y = c m):=hy;obtain ⟨x,hx⟩:∃ x,x = e m:=⟨_,rfl⟩;rw [← hy] at hcr;rw [← hx] at hcm om;obtain ⟨aom,capm,hsm⟩:=om.slice;subst hsm;have HOM:Hid (Own wr l1 h1 (.slice aom R capm) R (f m)):=om;have HBB:Hid (Bld w wr w.heap.size u6 m (fun _ => R + 1) (aug R f c) e'):=hB
      have FE0:∀ i,i < R → f m i = aug R f c m i:=fun i hi => by simp [aug,hi]
      have FY0:y = aug R f c m R:=by rw [HY.out];simp [aug]
      have FE:Hid (∀ i,i < R → f m i = aug R f c m i):=FE0;have FY:Hid (y = aug R f c m R):=FY0;clear FE0 FY0;have hszr:=hB.le
      have hg1:gA < wr.heap.size:=by omega
      have hg2:gr < wr.heap.size:=by omega
      have hz1:∀ q,((wr.drewN q).alloc (.cells #[] 5)).cell? ⟨gA,m,none⟩ = some (.slice aom R capm):=fun q => (cell_alloc_old (wr.drewN q) _ gA m hg1).trans hcm;clear hy hx om hB;go_wp2
      go_region_law (first | (refine step_appendC rfl (.tmp 19) (.tmp 23) rfl wr.heap.size (fun _ => 0) ?_ ?_ l1 h1 (.slice aom R capm) R (f m) ?_ ?_ (by omega) ?_;(simp [Act.eval,Act.put]);(exact (own_lit0 wr (fun _ => 0)).weaken (Nat.le_refl _) (by simp));(simp [Act.eval,Act.put]);(exact HOM.out.alloc _);intro v2 w2 ho2 hc2;obtain ⟨ao2,cap2,rfl⟩:=ho2.slice;have bD:Below wr.heap.size wr w2:=belD1 hc2;have qr:w2.cell? ⟨gr,m,none⟩ = some (.int .u8 y):=(bD.cell (p:=⟨gr,m,none⟩) hg2).trans hcr) | (refine step_appendC rfl (.tmp 19) (.tmp 23) rfl wr.heap.size (fun _ => 0) ?_ ?_ l1 h1 (.slice aom R capm) R (f m) ?_ ?_ (by omega) ?_;(simp [Act.eval,Act.put]);(exact ((own_lit0 wr (fun _ => 0)).weaken (Nat.le_refl _) (by simp)).alloc _);(simp [Act.eval,Act.put]);(exact (HOM.out.alloc _).alloc _);intro v2 w2 ho2 hc2;obtain ⟨ao2,cap2,rfl⟩:=ho2.slice;have bD:Below wr.heap.size wr w2:=belD2 hc2;have qg:w2.cell? ⟨wr.heap.size + 1,0,none⟩ = some (.int .u8 y):=cellD2 hc2) | (refine step_appendC rfl (.tmp 19) (.tmp 23) rfl (wr.heap.size + 1) (fun _ => 0) ?_ ?_ l1 h1 (.slice aom R capm) R (f m) ?_ ?_ (by omega) ?_;(simp [Act.eval,Act.put]);(exact own_lit3 wr _ (fun _ => 0));(simp [Act.eval,Act.put]);(exact (HOM.out.alloc _).alloc _);intro v2 w2 ho2 hc2;obtain ⟨ao2,cap2,rfl⟩:=ho2.slice;have bD:Below wr.heap.size wr w2:=belD3 hc2;have qg:w2.cell? ⟨wr.heap.size,0,none⟩ = some (.int .u8 y):=cellD3 hc2;replace ho2:=ho2.weaken (lo':=wr.heap.size) (by omega) (Nat.le_refl _)) | (refine step_appendB rfl (.tmp 24) (.tmp 29) rfl wr.heap.size w2.heap.size (.slice ao2 R cap2) R (aug R f c m) ?_ ?_ w2.heap.size 1 ?_ ?_ (by omega) ?_ ?_;(simp [Act.eval,Act.put]);(exact (ho2.congr FE.out).alloc _);(simp [Act.eval,Act.put]);(rw [← FY.out];simp);(simp;have:=bD.size;omega);intro v3 w3 ho3 hb3;obtain ⟨ao3,cap3,rfl⟩:=ho3.slice;have bH:Below wr.heap.size wr w3:=bD.trans (((Below.refl _ w2).alloc bD.size _).trans hb3)) | (refine step_appendB rfl (.tmp 24) (.tmp 29) rfl wr.heap.size w2.heap.size (.slice ao2 R cap2) R (aug R f c m) ?_ ?_ (wr.heap.size + 1) 1 ?_ ?_ (by omega) ?_ ?_;(simp [Act.eval,Act.put]);(exact ho2.congr FE.out);(simp [Act.eval,Act.put]);(rw [← FY.out];exact qg);(have:=bD.size;omega);intro v3 w3 ho3 hb3;obtain ⟨ao3,cap3,rfl⟩:=ho3.slice;have bH:Below wr.heap.size wr w3:=bD.trans hb3) | (refine step_appendB rfl (.tmp 24) (.tmp 29) rfl wr.heap.size w2.heap.size (.slice ao2 R cap2) R (aug R f c m) ?_ ?_ wr.heap.size 1 ?_ ?_ (by omega) ?_ ?_;(simp [Act.eval,Act.put]);(exact ho2.congr FE.out);(simp [Act.eval,Act.put]);(rw [← FY.out];exact qg);(have:=bD.size;omega);intro v3 w3 ho3 hb3;obtain ⟨ao3,cap3,rfl⟩:=ho3.slice;have bH:Below wr.heap.size wr w3:=bD.trans hb3) | (refine step_appendM rfl (.tmp 18) (.tmp 31) rfl w.heap.size u6 m e' ?_ ?_ w3.heap.size 1 (.slice ao3 (R + 1) cap3) ?_ ?_ rfl (by omega) ?_ ?_;(simp [Act.eval,Act.put]);(exact (row_kept HBB.out.row fun b hb' => bH.block b (HBB.out.row.lt b hb').2).alloc _);(simp [Act.eval,Act.put]);simp;(simp;have:=bH.size;omega);intro v4 w4 hr4 hg4 hn4))
      all_goals
        have NX:=HBB.out.next bH ho3 hr4 hg4 hn4;clear HBB HOM bH bD hr4 hg4 hn4 ho3 hb3 ho2 hc2 hbw;go_wp2
        go_roundw
        case rel => exact ⟨m + 1,by omega,by go_num,_,NX⟩
        case measure => simp [intOf];omega
    · have hmn:m = R:=by omega
      subst hmn;obtain ⟨g2,c2,e2,hE⟩:=hB.done;have RD:=l1Step_any _ m (m + 1) m (aug m f c) w.heap.size g2 c2 e2 (by omega) (by omega) (by omega) (aug_byt kf kc) wr hE;have hv:=hE.val;rw [hv] at RD;clear hE hB;subst hv
      go_wp2_with fail
      refine RD.mono ?_;rintro ee w4 ⟨rfl,⟨e4,hE4⟩,hb4⟩;have B4:Below w.heap.size w w4:=hbw.trans hb4;have hle:=(gaussM_le (R:=m) (M:=aug m f c) m).1;obtain ⟨G,hG⟩:∃ G,G = gaussM m (aug m f c) m:=⟨_,rfl⟩;have HG:Hid (G = gaussM m (aug m f c) m):=hG;rw [← hG] at hle hE4 ⊢;obtain ⟨rk,hrk⟩:∃ rk,rk = G.2:=⟨_,rfl⟩;have HRK:Hid (rk = G.2):=hrk;rw [← hrk] at hle ⊢;clear hG hrk hb4 RD hbw;have hw4:=B4.size
      by_cases hfull:rk < m
      · go_wp2
        go_ret2
        exact ⟨_,false,0,fun _ => 0,rfl,⟨fun h => by simp at h,fun _ => ⟨by rw [← HG.out,← HRK.out];exact hfull,rfl⟩⟩,own_nil _ _ _ _,B4⟩
      · go_wp2
        go_loopw [9,10] (fun v i wr => ∃ q:Nat,q ≤ m ∧ i = .int .i64 q ∧ Own wr w4.heap.size wr.heap.size v q (fun i => G.1 i m) ∧ Below w4.heap.size w4 wr) (fun _ i _ => m - (intOf i).toNat)
        case atStart => exact ⟨0,Nat.zero_le _,rfl,own_lit0 w4 _,(Below.refl _ _).alloc (Nat.le_refl _) _⟩
        case round =>
          obtain ⟨q,hq,rfl,hown,hb⟩:=hrel
          by_cases hqk:q < m
          · have cq:wr.cell? ⟨g2,q,none⟩ = some (e4 q):=(hb.cell (p:=⟨g2,q,none⟩) hE4.high).trans (hE4.cell q hqk)
            obtain ⟨gq,capq,heq,hg1,hg2,hg3,_⟩:=(hE4.each q hqk).form (by omega)
            have cv:wr.cell? ⟨gq,m,none⟩ = some (.int .u8 (G.1 q m)):=by
              have h5:=(hE4.each q hqk).1;rw [heq] at h5;exact (hb.cell (p:=⟨gq,m,none⟩) hg2).trans ((h5.cellAt m (by omega)).trans (cellsOf_get _ _ _ (by omega)))
            rw [heq] at cq;obtain ⟨y,hy⟩:∃ y,y = G.1 q m:=⟨_,rfl⟩;have HY:Hid (y = G.1 q m):=hy;rw [← hy] at cv;have hsz:=hb.size;have HO:Hid (Own wr w4.heap.size wr.heap.size u9 q (fun i => G.1 i m)):=hown;have HB:Hid (Below w4.heap.size w4 wr):=hb;clear hy heq hown hb
            go_wp2_with (at_builtin;refine wp_appendB rfl (.tmp 46) (.tmp 54) rfl w4.heap.size wr.heap.size u9 q (fun i => G.1 i m) ?_ ?_ wr.heap.size 1 ?_ ?_ (by omega) ?_ ?_;(simp [Act.eval]);exact HO.out.alloc _;(simp [Act.eval]);(rw [← HY.out];simp);(simp;omega);intro v' w5 hown5 hb5)
            have R5:Below w4.heap.size w4 w5:=(HB.out.alloc hsz _).trans hb5;clear hb5 HO HB;go_wp2
            go_roundw
            case rel => exact ⟨q + 1,by omega,by go_num,hown5,R5⟩
            case measure => simp [intOf];omega
          · have hqn:q = m:=by omega
            subst hqn;go_wp2
            go_ret2
            refine ⟨_,true,q,fun i => G.1 i q,rfl,⟨fun _ => ⟨by rw [← HG.out,← HRK.out];omega,rfl,by rw [← HG.out]⟩,fun h => by simp at h⟩,?_,B4.trans (hb.mono (by omega))⟩;exact hown.weaken (by omega) (Nat.le_refl _)
end Go.Proofs.YtfodlpnkllolnaaGreat
namespace Go.Proofs.YtfodlpnkllolnaaGreat
open Go.RowKit F256
set_option maxHeartbeats 4000000 in
theorem l2Weights_any (n base want:Nat) (vh:Value) (m:Nat) (hv:Nat → Nat) (h1:Nat) (w:World) (rh:RdI w h1 vh m (fun i => (hv i:Int))) (hh:h1 ≤ w.heap.size) (hm:n ≤ m) (hn0:1 ≤ n) (hn:n ≤ 16) (hb:∀ k,k < n → base + hv k < n + 16) (hw:base + want < n + 16) :
    Calls Tryz.prog 88 #[.int .i64 n,vh,.int .i64 want,.int .i64 base] w fun e w' => ∃ v' b k x,e = .returned v' ∧ SolvP n (wtM n base hv) (genN n want base) b k x ∧ Own w' w.heap.size w'.heap.size v' k x ∧ Below w.heap.size w w':=by
  obtain ⟨aoh,caph,rfl,hmm,hch⟩:=rh;unfold maxLen at hmm;obtain ⟨bh,oh,rfl,hbh,hcell⟩:=hch (by omega);have HC:Hid (∀ i,i < m → w.cell? ⟨bh,oh + i,none⟩ = some (.int .i64 (hv i:Int))):=hcell;have HBD:Hid (∀ k,k < n → base + hv k < n + 16):=hb;clear hch hcell hb
  go_enter Tryz.func88,Tryz.ntmps88
  go_wp2_with (at_make;refine wp_makeM _ rfl _ _ rfl _ _ n rfl rfl rfl rfl (by omega) ?_;intro w1 hown1 hb1 hz1)
  have E1:OwnE w1 w.heap.size w1.heap.size (.slice (some ⟨w.heap.size,0,none⟩) n n) n (fun _ => 0) (wtM n base hv) w.heap.size n (fun _ => nilS) :=
    ⟨rfl,Nat.le_refl _,hz1,hown1,fun i _ => own_nil _ _ _ _,⟨fun i _ hhh => (by cases hhh),fun i j _ _ _ k hk => (by cases hk)⟩⟩
  clear hown1
  go_loopw [10] (fun i wr => ∃ k:Nat,k ≤ n ∧ i = .int .i64 k ∧ ∃ e,OwnE wr w.heap.size wr.heap.size (.slice (some ⟨w.heap.size,0,none⟩) n n) n (fun _ => k) (wtM n base hv) w.heap.size n e ∧ Below w.heap.size w wr) (fun i _ => n - (intOf i).toNat)
  case atStart => exact ⟨0,Nat.zero_le _,rfl,_,E1,hb1⟩
  case round =>
    clear E1 hb1 hz1;obtain ⟨k,hk,rfl,e,hE,hbel⟩:=hrel;have HBL:Hid (Below w.heap.size w wr):=hbel
    by_cases hlt:k < n
    · have ck:wr.cell? ⟨bh,oh + k,none⟩ = some (.int .i64 (hv k:Int)):=(hbel.cell (p:=⟨bh,oh + k,none⟩) (by show bh < w.heap.size;omega)).trans (HC.out k (by omega))
      have C:=l2Gen_any n (hv k) base hn (HBD.out k hlt) wr;obtain ⟨p,hp⟩:∃ p,p = hv k:=⟨_,rfl⟩;have HP:Hid (p = hv k):=hp;rw [← hp] at ck C;have HE0:Hid (OwnE wr w.heap.size wr.heap.size (.slice (some ⟨w.heap.size,0,none⟩) n n) n (fun _ => k) (wtM n base hv) w.heap.size n e):=hE
      have hkm:(k:Int) < (m:Int):=by omega
      have szw:=hbel.size;obtain ⟨wk,hwk⟩:∃ wk,wk = wr:=⟨_,rfl⟩;rw [← hwk] at ck C HE0 szw HBL ⊢;clear hp hE hbel hwk
      go_wp2_with fail
      refine C.mono ?_;rintro ee w6 ⟨v6,rfl,o6,b6⟩;obtain ⟨gv,capv,hgv,h61,h62,h63,h64⟩:=o6.form (by omega);subst hgv;have E6:=(HE0.out.below b6 (Nat.le_refl _)).weaken b6.size;have s6:=b6.size;have q6:∀ j,j < n → ∀ q,(e j).ownBlock = some q → q < wk.heap.size ∨ w6.heap.size ≤ q:=fun j hj q hq => .inl ((HE0.out.each j hj).2 q hq);have B6:Below w.heap.size w w6:=HBL.out.trans (b6.mono szw);have hgh:=HE0.out.high;clear C ck b6;go_wp2
      go_loopw [12] (fun i wr => ∃ j:Nat,j ≤ n ∧ i = .int .i64 j ∧ ∃ e,OwnE wr w.heap.size wr.heap.size (.slice (some ⟨w.heap.size,0,none⟩) n n) n (fun l => if l < j then k + 1 else k) (wtM n base hv) w.heap.size n e ∧ Own wr wk.heap.size w6.heap.size (.slice (some ⟨gv,0,none⟩) n capv) n (genN n p base) ∧ (∀ j,j < n → ∀ q,(e j).ownBlock = some q → q < wk.heap.size ∨ w6.heap.size ≤ q) ∧ Below w.heap.size w wr ∧ w6.heap.size ≤ wr.heap.size) (fun i _ => n - (intOf i).toNat)
      case atStart => exact ⟨0,Nat.zero_le _,rfl,e,by simpa using E6,o6,q6,B6,Nat.le_refl _⟩
      case round =>
        clear E6 o6 q6 B6;obtain ⟨j,hj,rfl,e3,hE3,ho3,hq3,hb3,s6r⟩:=hrel;have HE3:Hid (OwnE wr w.heap.size wr.heap.size (.slice (some ⟨w.heap.size,0,none⟩) n n) n (fun l => if l < j then k + 1 else k) (wtM n base hv) w.heap.size n e3):=hE3;have HO3:Hid (Own wr wk.heap.size w6.heap.size (.slice (some ⟨gv,0,none⟩) n capv) n (genN n p base)):=ho3;have HQ3:Hid (∀ j,j < n → ∀ q,(e3 j).ownBlock = some q → q < wk.heap.size ∨ w6.heap.size ≤ q):=hq3;have HB3:Hid (Below w.heap.size w wr):=hb3
        by_cases hjn:j < n
        · have c1:wr.cell? ⟨w.heap.size,j,none⟩ = some (e3 j):=hE3.cell j hjn
          have c2:wr.cell? ⟨gv,j,none⟩ = some (.int .u8 (genN n p base j)):=(ho3.1.cellAt j (by omega)).trans (cellsOf_get _ _ _ hjn);have oj:=hE3.each j hjn
          simp only [if_neg (Nat.lt_irrefl j)] at oj
          obtain ⟨x,hx⟩:∃ x,x = e3 j:=⟨_,rfl⟩;obtain ⟨y,hy⟩:∃ y,y = genN n p base j:=⟨_,rfl⟩
          have hyw:y = wtM n base hv j k:=by rw [hy,HP.out];rfl
          have HX:Hid (x = e3 j):=hx;have HYW:Hid (y = wtM n base hv j k):=hyw;rw [← hx] at c1 oj;rw [← hy] at c2;have HOJ:Hid (Own wr w.heap.size wr.heap.size x k (wtM n base hv j)):=oj;obtain ⟨aox,capx,hxs⟩:=oj.slice;subst hxs;have szr:=hb3.size;have c3:=(cell_alloc_old wr (.cells #[.int .u8 y] 5) w.heap.size j hE3.high).trans c1;have hgR:=hE3.high;clear hE3 ho3 hq3 hb3 hx hy hyw oj;go_wp2
          go_region_law (refine step_appendAt rfl (.tmp 39) (.tmp 44) rfl w.heap.size wr.heap.size (.slice aox k capx) k (wtM n base hv j) ?_ ?_ wr.heap.size 1 ?_ ?_ (by omega) ?_ ?_;(simp [Act.eval,Act.put]);exact HOJ.out.alloc _;(simp [Act.eval,Act.put]);(rw [← HYW.out];simp);(simp;omega);intro v7 w7 o7 g7 hl7;obtain ⟨ao7,cap7,rfl⟩:=o7.slice;have R7:w7.ownsRow w.heap.size 30 1 (.slice (some ⟨w.heap.size,0,none⟩) n n) n (valsOf n e3):=row_kept HE3.out.row (fun q hq => by (have e1:w.heap.size = q:=by simpa [Value.ownBlock] using hq);subst e1;exact (g7.block w.heap.size (by simp;omega) (fun hhh => HE3.out.apart.1 j hjn (by rw [← HX.out];exact hhh.symm))).trans (Below.heap_alloc wr _ w.heap.size hgR));have p1:=(R7.cellAt j (by omega)).trans (valsOf_get _ _ _ hjn);have p2:=R7.frozenAt j;rw [← HX.out] at p1)
          all_goals
            have g7':(wr.alloc (.cells #[.int .u8 y] 5)).grownBy w7 (e3 j).ownBlock:=⟨g7.os,g7.tape,g7.output,g7.size,by rw [← HX.out];exact g7.block⟩
            have hl7':(Value.slice ao7 (k + 1) cap7).ownBlock = (e3 j).ownBlock ∨ (Value.slice ao7 (k + 1) cap7).ownBlock = some (wr.heap.size + 1):=by
              rcases hl7 with h | h
              · left;rw [← HX.out];exact h
              · right;rw [h];simp
            have s7:wr.heap.size + 1 ≤ w7.heap.size:=by have:=g7'.size;simpa using this
            have GE:=HE3.out.grow j hjn (n':=fun l => if l < j + 1 then k + 1 else k) g7' (by simpa using o7) hl7' (fun l _ hl => by
              by_cases c:l < j
              · have c2:l < j + 1:=by omega
                simp only [if_pos c,if_pos c2]
              · have c2:¬ l < j + 1:=by omega
                simp only [if_neg c,if_neg c2])
            have zs:(w7.setCell ⟨w.heap.size,j,none⟩ (.slice ao7 (k + 1) cap7)).heap.size = w7.heap.size:=by simp
            rw [← zs] at GE
            have GO:Own (w7.setCell ⟨w.heap.size,j,none⟩ (.slice ao7 (k + 1) cap7)) wk.heap.size w6.heap.size (.slice (some ⟨gv,0,none⟩) n capv) n (genN n p base):=HO3.out.kept fun q hq => by
              have e1:gv = q:=by simpa [Value.ownBlock] using hq
              subst e1;refine (heap_setCell_other w7 ⟨w.heap.size,j,none⟩ gv _ (by show gv ≠ w.heap.size;omega)).trans ((g7'.block gv (by simp;omega) (fun hhh => ?_)).trans (Below.heap_alloc wr _ gv (by omega)));have:=HQ3.out j hjn gv hhh.symm;omega
            have GQ:∀ l,l < n → ∀ q,(if l = j then Value.slice ao7 (k + 1) cap7 else e3 l).ownBlock = some q → q < wk.heap.size ∨ w6.heap.size ≤ q:=fun l hl q hq => by
              by_cases c:l = j
              · rw [if_pos c] at hq
                rcases hl7' with h | h
                · rw [h] at hq
                  exact HQ3.out j hjn q hq
                · rw [h] at hq
                  cases hq
                  right;omega
              · rw [if_neg c] at hq
                exact HQ3.out l hl q hq
            have GB:Below w.heap.size w (w7.setCell ⟨w.heap.size,j,none⟩ (.slice ao7 (k + 1) cap7)):=((HB3.out.alloc szr _).grown g7' (by simp;omega) (fun q hq => ((HE3.out.each j hjn).1.lt q hq).1)).setCell (Nat.le_refl _) _
            have GS:w6.heap.size ≤ (w7.setCell ⟨w.heap.size,j,none⟩ (.slice ao7 (k + 1) cap7)).heap.size:=by rw [zs];omega
            clear g7 g7' hl7 hl7' o7 R7 p1 p2 HE3 HO3 HQ3 HB3 HOJ c1 c2 c3 zs;go_wp2
            go_roundw
            case rel => exact ⟨j + 1,by omega,by go_num,_,GE,GO,GQ,GB,GS⟩
            case measure => simp [intOf];omega
        · obtain rfl:j = n:=by omega
          have E9:=hE3.congrN (n':=fun _ => k + 1) (fun l hl => by simp [hl]);clear hE3 ho3 hq3;go_wp2
          go_roundw
          case rel => exact ⟨k + 1,by omega,by go_num,_,E9,hb3⟩
          case measure => simp [intOf];omega
    · obtain rfl:k = n:=by omega
      have C:=l2Gen_any k want base hn hw wr;have HE:Hid (OwnE wr w.heap.size wr.heap.size (.slice (some ⟨w.heap.size,0,none⟩) k k) k (fun _ => k) (wtM k base hv) w.heap.size k e):=hE;clear hE hbel
      go_wp2_with fail
      refine C.mono ?_;rintro ee w6 ⟨v6,rfl,o6,b6⟩;have B6:Below w.heap.size w w6:=HBL.out.trans (b6.mono HBL.out.size);have CS:=l1Solve_any _ _ k (wtM k base hv) (genN k want base) w.heap.size wr.heap.size w.heap.size k wr.heap.size w6.heap.size e w6 (HE.out.below b6 (Nat.le_refl _)) o6 b6.size (Nat.le_refl _) (by omega) hn (wtM_byt k base hv) (genN_lt k want base);obtain ⟨ao6,cap6,rfl⟩:=o6.slice;clear C o6 b6
      go_wp2_with fail
      refine CS.mono ?_;rintro ee w7 ⟨v7,b7,k7,x7,rfl,hp7,o7,b7'⟩;have HP7:Hid (SolvP k (wtM k base hv) (genN k want base) b7 k7 x7):=hp7;have HO7:Hid (Own w7 w6.heap.size w7.heap.size v7 k7 x7):=o7;have B7:Below w.heap.size w w7:=B6.trans (b7'.mono B6.size);have s67:=B6.size;obtain ⟨ao7,cap7,rfl⟩:=o7.slice;clear CS hp7 o7 b7' B6;go_wp2;go_ret;exact ⟨_,b7,k7,x7,rfl,HP7.out,HO7.out.weaken s67 (Nat.le_refl _),B7⟩
end Go.Proofs.YtfodlpnkllolnaaGreat
namespace Go.Proofs.YtfodlpnkllolnaaGreat
open Go.RowKit F256
theorem l2Weights_col (n want:Nat) (vh:Value) (hv:Nat → Nat) (h1:Nat) (w:World) (rh:RdI w h1 vh n (fun i => (hv i:Int))) (hh:h1 ≤ w.heap.size) (hn0:1 ≤ n) (hn:n ≤ 4) (hb:∀ k,k < n → hv k < n + 2) (hr:∀ k,k + 1 < n → hv k < hv (k + 1)) (hw:want < n + 2) :
    Calls Tryz.prog 88 #[.int .i64 n,vh,.int .i64 want,.int .i64 8] w fun e w' => ∃ v',e = .returned v' ∧ Own w' w.heap.size w'.heap.size v' n (weightsN n 8 hv want) ∧ Below w.heap.size w w':=by
  have C:=l2Weights_any n 8 want vh n hv h1 w rh hh (Nat.le_refl _) hn0 (by omega) (fun k hk => by have:=hb k hk;omega) (by omega);have e0:((8:Nat):Int) = 8:=rfl;rw [e0] at C;refine C.mono fun e w' ⟨v',b,k,x,he,hp,ho,hbel⟩ => ?_;have hfull:=col_full n hn0 hn hv (genN n want 8) hb hr
  have hbt:b = true:=by
    cases b with
    | true => rfl
    | false => have:=(hp.2 rfl).1;omega
  obtain ⟨_,hk,hx⟩:=hp.1 hbt;subst hk;subst hx;exact ⟨v',he,ho,hbel⟩
set_option maxHeartbeats 4000000 in
theorem l3Share_any (n want:Nat) (vh:Value) (m:Nat) (g:Nat → Int) (hv:Nat → Nat) (l1 h1:Nat) (w:World) (oh:OwnI w l1 h1 vh m g) (hh:h1 ≤ w.heap.size) (hg:∀ k,k < n → g k = (hv k:Int)) (hnm:n ≤ m) (hm:m ≤ 1000000000) (hn0:1 ≤ n) (hn:n ≤ 4) (hb:∀ k,k < n → hv k < n + 2) (hr:∀ k,k + 1 < n → hv k < hv (k + 1)) (hw:want < n + 2) :
    Calls Tryz.prog 53 #[.int .i64 n,vh,.int .i64 want] w fun e w' => ∃ v',e = .returned v' ∧ Own w' w.heap.size w'.heap.size v' m (shareN n hv want) ∧ Below w.heap.size w w':=by
  obtain ⟨gh,caph,rfl,hg1,hg2,hg3,hg4⟩:=oh.form (by omega);have HOH:Hid (OwnI w l1 h1 (.slice (some ⟨gh,0,none⟩) m caph) m g):=oh;have HG:Hid (∀ k,k < n → g k = (hv k:Int)):=hg;have HBD:Hid (∀ k,k < n → hv k < n + 2):=hb;have HRI:Hid (∀ k,k + 1 < n → hv k < hv (k + 1)):=hr
  have hnc:(n:Int) ≤ (caph:Int):=by omega
  have hn00:n ≠ 0:=by omega
  clear oh hg hb hr
  go_enter Tryz.func53,Tryz.ntmps53
  go_wp2_with (at_make;refine wp_makeB _ rfl _ _ rfl _ _ m rfl rfl rfl rfl (by omega) ?_;intro w1 hown1 hb1 hz1)
  have rN:RdI w1 h1 (.slice (some ⟨gh,0,none⟩) n caph) n (fun i => (hv i:Int)):=⟨_,_,rfl,by unfold maxLen;omega,fun _ => ⟨gh,0,rfl,hg2,fun i hi => by
    rw [Nat.zero_add];have:=(HOH.out.below hb1 hh).1.cellAt i (by omega)
    rw [this,intsOf_get _ _ _ (by omega),HG.out i hi]⟩⟩
  have C:=l2Weights_col n want _ hv h1 w1 rN (Nat.le_trans hh hb1.size) hn0 hn HBD.out HRI.out hw;have HO1:Hid (Own w1 w.heap.size w1.heap.size (.slice (some ⟨w.heap.size,0,none⟩) m m) m (fun _ => 0)):=hown1;clear rN hown1;refine C.mono ?_;rintro e0 w2 ⟨v2,rfl,o2,b2⟩;obtain ⟨gv,capv,rfl,v1,v2',v3,v4⟩:=o2.form hn00;have O2:Own w2 w.heap.size w1.heap.size (.slice (some ⟨w.heap.size,0,none⟩) m m) m (fun i => if i < 0 then weightsN n 8 hv want i else 0):=(HO1.out.below b2 (Nat.le_refl _)).congr (fun i hi => by simp);have HV:Hid (Own w2 w1.heap.size w2.heap.size (.slice (some ⟨gv,0,none⟩) n capv) n (weightsN n 8 hv want)):=o2;have HB2:Hid (Below w.heap.size w w2):=hb1.trans (b2.mono hb1.size);have s2:=b2.size;clear C o2 b2 HO1;go_wp2
  go_loopw [9] (fun i wr => ∃ k:Nat,k ≤ n ∧ i = .int .i64 k ∧ Own wr w.heap.size w1.heap.size (.slice (some ⟨w.heap.size,0,none⟩) m m) m (fun i => if i < k then weightsN n 8 hv want i else 0) ∧ Out w.heap.size w1.heap.size w2 wr) (fun i _ => n - (intOf i).toNat)
  case atStart => exact ⟨0,Nat.zero_le _,rfl,O2,Out.refl _ _ _⟩
  case round =>
    clear O2;obtain ⟨k,hk,rfl,hown,hout⟩:=hrel
    by_cases hlt:k < n
    · have hco:wr.cell? ⟨w.heap.size,k,none⟩ = some (.int .u8 (0:Nat)):=by
        have:=hown.1.cellAt k (by omega);rw [this,cellsOf_get _ _ _ (by omega),if_neg (Nat.lt_irrefl k)]
      have hfo:wr.frozen? ⟨w.heap.size,k,none⟩ = false:=hown.1.frozenAt k;have cv:wr.cell? ⟨gv,k,none⟩ = some (.int .u8 (weightsN n 8 hv want k)):=(World.cell?_of_block (w:=w2) (hout.block gv (.inr v1))).trans ((HV.out.1.cellAt k (by omega)).trans (cellsOf_get _ _ _ hlt));obtain ⟨y,hy⟩:∃ y,y = weightsN n 8 hv want k:=⟨_,rfl⟩
      have RW:Own (wr.setCell ⟨w.heap.size,k,none⟩ (.int .u8 y)) w.heap.size w1.heap.size (.slice (some ⟨w.heap.size,0,none⟩) m m) m (fun i => if i < k + 1 then weightsN n 8 hv want i else 0) :=
        hown.store k y (by omega) (fun i _ => by
          by_cases c1:i = k
          · subst c1;simp [hy]
          · by_cases c2:i < k
            · have c3:i < k + 1:=by omega
              simp [c1,c2,c3]
            · have c3:¬ i < k + 1:=by omega
              simp [c1,c2,c3])
      have RO:Out w.heap.size w1.heap.size w2 (wr.setCell ⟨w.heap.size,k,none⟩ (.int .u8 y)):=hout.trans (out_store wr _ _ _ k _ (Nat.le_refl _) hz1)
      have hkm:(k:Int) < (m:Int):=by omega
      rw [← hy] at cv;clear hown hout hy;go_wp2
      go_roundw
      case rel => exact ⟨k + 1,by omega,by go_num,RW,RO⟩
      case measure => simp [intOf];omega
    · obtain rfl:k = n:=by omega
      have B6:Below w.heap.size w wr:=HB2.out.trans hout.below;have hsz:=hout.size;clear hout;go_wp2;go_ret;exact ⟨_,rfl,hown.weaken (Nat.le_refl _) (by omega),B6⟩
end Go.Proofs.YtfodlpnkllolnaaGreat
namespace Go.Proofs.YtfodlpnkllolnaaGreat
open Go.RowKit F256
def ShrQ (d:WorldD) (G:Nat) (w:World) (e:Ending) (w':World):Prop:=∃ ao m cap t,e = .returned (.tuple #[.slice ao m cap,.bool t]) ∧ (((livN d G:Int) < d.shape 0 ∧ t = false ∧ m = 0) ∨ (¬ (livN d G:Int) < d.shape 0 ∧ t = true ∧ m = d.groups.1)) ∧ Own w' w.heap.size w'.heap.size (.slice ao m cap) m (shrF d G) ∧ Below w.heap.size w w'
set_option maxHeartbeats 16000000 in
set_option maxRecDepth 20000 in
theorem l8Sharers_any (d:WorldD) (cs:List Value) (hi B G:Nat) (w:World) (h:layWorld.rd w hi d cs) (hhi:hi ≤ w.heap.size) (hB:Box w B cs.toArray 38) (hok:OkWorld d) (hG:G < d.groups.1) :
    Calls Tryz.prog 23 #[.pointer (some ⟨B,0,none⟩),.int .i64 (G:Int)] w (ShrQ d G w):=by
  have h':=h;obtain ⟨ao1,cap1,ao2,cap2,ao3,cap3,rfl,g1,g2,g3,k0,k4,k5⟩:=World_rd h';have HRD:Hid (layWorld.rd w hi d [.int .i64 (d.shape 0),.int .i64 (d.shape 1),.int .i64 (d.shape 2),.int .i64 (d.shape 3),.int .i64 (d.shape 4),.int .i64 (d.shape 5),.int .i64 (d.shape 6),.int .i64 (d.shape 7),.int .i64 (d.shape 8),.slice ao1 d.groups.1 cap1,.slice ao2 d.on.1 cap2,.slice ao3 d.tapes.1 cap3,.int .i64 d.writes,.int .i64 d.stop,.bool d.down]):=h;have HOK:Hid (OkWorld d):=hok
  have hN:d.shape 0 + d.shape 1 = (d.groups.1:Int):=by have:=hok.form.1.1;omega
  obtain ⟨n,hn⟩:∃ n:Nat,d.shape 0 = (n:Int):=⟨(d.shape 0).toNat,by have:=hok.shape.1;unfold Shp3 at this;omega⟩;have HN:Hid (d.shape 0 = (n:Int)):=hn
  have hNs:1 ≤ n ∧ n ≤ 4 ∧ n ≤ d.groups.1 ∧ d.groups.1 ≤ n + 2:=by
    have s1:=hok.shape.1;unfold Shp3 at s1;omega
  obtain ⟨n1,n2,n3,n4⟩:=hNs
  have HNT:Hid ((d.shape 0).toNat = n):=by show (d.shape 0).toNat = n;omega
  clear h h' g1 g2 g3 k0 k4 k5 hok hn;have HB0:Hid (Box w B #[.int .i64 (d.shape 0),.int .i64 (d.shape 1),.int .i64 (d.shape 2),.int .i64 (d.shape 3),.int .i64 (d.shape 4),.int .i64 (d.shape 5),.int .i64 (d.shape 6),.int .i64 (d.shape 7),.int .i64 (d.shape 8),.slice ao1 d.groups.1 cap1,.slice ao2 d.on.1 cap2,.slice ao3 d.tapes.1 cap3,.int .i64 d.writes,.int .i64 d.stop,.bool d.down] 38):=hB;have CG:=l5All_any d.shape HOK.out.shape;rw [hN] at CG;unfold shapeV at CG;have bL:Below w.heap.size w (w.alloc (.cells #[] 2)):=(Below.refl _ _).alloc (Nat.le_refl _) _;have I0:=(ownI_lit0 w (fun i => (livF d G i:Int))).weaken (lo':=w.heap.size) (hi':=(w.alloc (.cells #[] 2)).heap.size) (by omega) (Nat.le_refl _);have zB:B < w.heap.size:=hB.lt;clear hB
  go_enter Tryz.func23,Tryz.ntmps23
  go_wp2
  go_loopw [6,7] (fun v i wr => ∃ k:Nat,k ≤ d.groups.1 ∧ i = .int .i64 k ∧ OwnI wr w.heap.size wr.heap.size v (min (livK d G k) n) (fun i => (livF d G i:Int)) ∧ Below w.heap.size w wr) (fun _ i _ => d.groups.1 - (intOf i).toNat)
  case atStart => exact ⟨0,Nat.zero_le _,rfl,by
      have e:min (livK d G 0) n = 0:=by show min 0 n = 0;omega
      rw [e];exact I0,bL⟩
  case round =>
    clear I0 bL;obtain ⟨k,hk,rfl,hI,hb⟩:=hrel;have HBl:Hid (Below w.heap.size w wr):=hb;have HBx:Hid (Box wr B #[.int .i64 (d.shape 0),.int .i64 (d.shape 1),.int .i64 (d.shape 2),.int .i64 (d.shape 3),.int .i64 (d.shape 4),.int .i64 (d.shape 5),.int .i64 (d.shape 6),.int .i64 (d.shape 7),.int .i64 (d.shape 8),.slice ao1 d.groups.1 cap1,.slice ao2 d.on.1 cap2,.slice ao3 d.tapes.1 cap3,.int .i64 d.writes,.int .i64 d.stop,.bool d.down] 38):=HB0.out.below hb zB;obtain ⟨c,hc⟩:∃ c,c = min (livK d G k) n:=⟨_,rfl⟩;have HC:Hid (c = min (livK d G k) n):=hc;rw [← hc] at hI;have HI:Hid (OwnI wr w.heap.size wr.heap.size u6 c (fun i => (livF d G i:Int))):=hI;obtain ⟨ao9,cap9,hs9⟩:=hI.slice;subst hs9;have zr:w.heap.size ≤ wr.heap.size:=hb.size
    have hck:c ≤ n:=by rw [hc];omega
    clear hI hc hb;have x_0:wr.cell? ⟨B,0,none⟩ = some (.int .i64 (d.shape 0)):=HBx.out.cell 0;have x_1:wr.cell? ⟨B,1,none⟩ = some (.int .i64 (d.shape 1)):=HBx.out.cell 1;have x_2:wr.cell? ⟨B,2,none⟩ = some (.int .i64 (d.shape 2)):=HBx.out.cell 2;have x_3:wr.cell? ⟨B,3,none⟩ = some (.int .i64 (d.shape 3)):=HBx.out.cell 3;have x_4:wr.cell? ⟨B,4,none⟩ = some (.int .i64 (d.shape 4)):=HBx.out.cell 4;have x_5:wr.cell? ⟨B,5,none⟩ = some (.int .i64 (d.shape 5)):=HBx.out.cell 5;have x_6:wr.cell? ⟨B,6,none⟩ = some (.int .i64 (d.shape 6)):=HBx.out.cell 6;have x_7:wr.cell? ⟨B,7,none⟩ = some (.int .i64 (d.shape 7)):=HBx.out.cell 7;have x_8:wr.cell? ⟨B,8,none⟩ = some (.int .i64 (d.shape 8)):=HBx.out.cell 8
    go_wp2_with fail
    refine (CG _).mono ?_;rintro e wq ⟨rfl,bq⟩;have HBq:Hid (Below w.heap.size w wq):=HBl.out.trans (bq.mono zr);have HIq:Hid (OwnI wq w.heap.size wq.heap.size (.slice ao9 c cap9) c (fun i => (livF d G i:Int))):=(HI.out.below bq (Nat.le_refl _)).mono bq.size;have HXq:Hid (Box wq B #[.int .i64 (d.shape 0),.int .i64 (d.shape 1),.int .i64 (d.shape 2),.int .i64 (d.shape 3),.int .i64 (d.shape 4),.int .i64 (d.shape 5),.int .i64 (d.shape 6),.int .i64 (d.shape 7),.int .i64 (d.shape 8),.slice ao1 d.groups.1 cap1,.slice ao2 d.on.1 cap2,.slice ao3 d.tapes.1 cap3,.int .i64 d.writes,.int .i64 d.stop,.bool d.down] 38):=HBx.out.call bq;have zq:wr.heap.size ≤ wq.heap.size:=bq.size;clear bq HBl HI HBx x_0 x_1 x_2 x_3 x_4 x_5 x_6 x_7 x_8
    by_cases hlt:k < d.groups.1
    · have HLT:Hid (k < d.groups.1):=hlt
      have t1:(k:Int) < (d.groups.1:Int):=by omega
      by_cases hkG:k = G
      · have HB:Hid (livB d G k = false):=livB_no hkG
        have e1:(k:Int) = (G:Int):=by omega
        clear hkG;go_wp2
        go_roundw
        case rel => exact ⟨k + 1,by omega,by go_num,by rw [liv_skip HB.out,← HC.out];exact HIq.out,HBq.out⟩
        case measure => simp [intOf];omega
      · have e1:¬ (k:Int) = (G:Int):=by omega
        have CD:=l7Dead_any d [.int .i64 (d.shape 0),.int .i64 (d.shape 1),.int .i64 (d.shape 2),.int .i64 (d.shape 3),.int .i64 (d.shape 4),.int .i64 (d.shape 5),.int .i64 (d.shape 6),.int .i64 (d.shape 7),.int .i64 (d.shape 8),.slice ao1 d.groups.1 cap1,.slice ao2 d.on.1 cap2,.slice ao3 d.tapes.1 cap3,.int .i64 d.writes,.int .i64 d.stop,.bool d.down] hi B k wq (layWorld.rd_below HRD.out HBq.out hhi) (Nat.le_trans hhi HBq.out.size) HXq.out hlt;have HKG:Hid (k ≠ G):=hkG;clear hkG
        go_wp2_with fail
        refine CD.mono ?_;rintro e w2 ⟨t,rfl,ht,b2⟩;have HB2:Hid (Below w.heap.size w w2):=HBq.out.trans (b2.mono (by omega));have HI2:Hid (OwnI w2 w.heap.size w2.heap.size (.slice ao9 c cap9) c (fun i => (livF d G i:Int))):=(HIq.out.below b2 (Nat.le_refl _)).mono b2.size;have X2:=HXq.out.call b2;have x0:w2.cell? ⟨B,0,none⟩ = some (.int .i64 (d.shape 0)):=X2.cell 0;have Ht:Hid (livB d G k = !t):=livB_is HKG.out ht;have z2:wq.heap.size ≤ w2.heap.size:=b2.size;rw [HN.out] at x0;clear CD ht b2 HBq HIq HXq X2
        cases t with
        | true =>
          have HB:Hid (livB d G k = false):=Ht.out;clear Ht;go_wp2
          go_roundw
          case rel => exact ⟨k + 1,by omega,by go_num,by rw [liv_skip HB.out,← HC.out];exact HI2.out,HB2.out⟩
          case measure => simp [intOf];omega
        | false =>
          have HB:Hid (livB d G k = true):=Ht.out;clear Ht
          by_cases hcn:c < n
          · have hcn':(c:Int) < (n:Int):=by omega
            have HF:Hid ((fun i => (livF d G i:Int)) c = (k:Int)):=by
              show ((livF d G c:Nat):Int) = (k:Int)
              have e2:c = livK d G k:=by have:=HC.out;omega
              rw [e2,liv_at HB.out HLT.out]
            have HE:Hid (min (livK d G (k + 1)) n = c + 1):=by
              show min (livK d G (k + 1)) n = c + 1
              rw [liv_take HB.out];have:=HC.out;omega
            go_wp2_with (at_builtin;refine wp_appendI rfl (.tmp 40) (.tmp 42) rfl w.heap.size w2.heap.size (.slice ao9 c cap9) c (fun i => (livF d G i:Int)) ?_ ?_ w2.heap.size 1 ?_ ?_ (by omega) ?_ ?_;(simp [Act.eval]);exact HI2.out.alloc _;(simp [Act.eval]);(rw [HF.out];simp);(simp;omega);intro v2 w3 o3 b3)
            have HB3:Hid (Below w.heap.size w w3):=HB2.out.trans (((Below.refl w.heap.size w2).alloc (by omega) _).trans b3);have HI4:Hid (OwnI w3 w.heap.size w3.heap.size v2 (c + 1) (fun i => (livF d G i:Int))):=o3;clear o3 b3 HI2 HB2;go_wp2
            go_roundw
            case rel => exact ⟨k + 1,by omega,by go_num,by rw [HE.out];exact HI4.out,HB3.out⟩
            case measure => simp [intOf];omega
          · have hcn':¬ (c:Int) < (n:Int):=by omega
            have HE:Hid (min (livK d G (k + 1)) n = c):=by
              show min (livK d G (k + 1)) n = c
              rw [liv_take HB.out];have:=HC.out;omega
            have hdc:decide ((c:Int) < (n:Int)) = false:=decide_eq_false hcn';have hdn:decide (c < n) = false:=decide_eq_false hcn;go_wp2
            go_roundw
            case rel => exact ⟨k + 1,by omega,by go_num,by rw [HE.out];exact HI2.out,HB2.out⟩
            case measure => simp [intOf];omega
    · obtain rfl:k = d.groups.1:=by omega
      have HC2:Hid (c = min (livN d G) n):=HC.out
      have x0:wq.cell? ⟨B,0,none⟩ = some (.int .i64 (n:Int)):=by rw [← HN.out];exact HXq.out.cell 0
      have t1:¬ (d.groups.1:Int) < (d.groups.1:Int):=by omega
      clear hlt HC
      by_cases hcn:c < n
      · have HL:Hid ((livN d G:Int) < d.shape 0):=by
          show (livN d G:Int) < d.shape 0
          have:=HC2.out;rw [HN.out];omega
        have hcn':(c:Int) < (n:Int):=by omega
        go_wp2
        go_ret2
        exact ⟨none,0,0,false,rfl,.inl ⟨HL.out,rfl,rfl⟩,own_nil _ _ _ _,HBq.out⟩
      · obtain rfl:c = n:=by omega
        have HGE:Hid (¬ (livN d G:Int) < d.shape 0):=by
          show ¬ (livN d G:Int) < d.shape 0
          have:=HC2.out;rw [HN.out];omega
        have HLN:Hid (c ≤ livN d G):=by
          show c ≤ livN d G
          have:=HC2.out;omega
        have CS:=l3Share_any c G (.slice ao9 c cap9) c (fun i => (livF d G i:Int)) (livF d G) _ _ wq HIq.out (Nat.le_refl _) (fun _ _ => rfl) (Nat.le_refl _) (by omega) n1 n2 (fun k hk => by have:=liv_lt (d:=d) (G:=G) (Nat.lt_of_lt_of_le hk HLN.out);omega) (fun k hk => liv_rise k (Nat.lt_of_lt_of_le hk HLN.out)) (by omega)
        have hcn':¬ (c:Int) < (c:Int):=by omega
        clear hcn HC2
        go_wp2_with fail
        refine CS.mono ?_;rintro e w4 ⟨v4,rfl,o5,b4⟩;have HB4:Hid (Below w.heap.size w w4):=HBq.out.trans (b4.mono (by omega));have HI4:Hid (OwnI w4 w.heap.size wq.heap.size (.slice ao9 c cap9) c (fun i => (livF d G i:Int))):=HIq.out.below b4 (Nat.le_refl _);have HBx:Hid (Box w4 B #[.int .i64 (d.shape 0),.int .i64 (d.shape 1),.int .i64 (d.shape 2),.int .i64 (d.shape 3),.int .i64 (d.shape 4),.int .i64 (d.shape 5),.int .i64 (d.shape 6),.int .i64 (d.shape 7),.int .i64 (d.shape 8),.slice ao1 d.groups.1 cap1,.slice ao2 d.on.1 cap2,.slice ao3 d.tapes.1 cap3,.int .i64 d.writes,.int .i64 d.stop,.bool d.down] 38):=HXq.out.call b4;have z4:wq.heap.size ≤ w4.heap.size:=b4.size;clear CS b4 HBq HIq HXq x0;obtain ⟨gv,capv,rfl,v1,v2,v3,v5⟩:=o5.form (by omega);obtain ⟨gl,capl,hl,l1,l2,l3,l4⟩:=HI4.out.form (by omega)
        cases hl
        have HV:Hid (Own w4 wq.heap.size w4.heap.size (.slice (some ⟨gv,0,none⟩) c capv) c (shareN c (livF d G) G)):=o5;clear o5;have x_0:w4.cell? ⟨B,0,none⟩ = some (.int .i64 (d.shape 0)):=HBx.out.cell 0;have x_1:w4.cell? ⟨B,1,none⟩ = some (.int .i64 (d.shape 1)):=HBx.out.cell 1;have x_2:w4.cell? ⟨B,2,none⟩ = some (.int .i64 (d.shape 2)):=HBx.out.cell 2;have x_3:w4.cell? ⟨B,3,none⟩ = some (.int .i64 (d.shape 3)):=HBx.out.cell 3;have x_4:w4.cell? ⟨B,4,none⟩ = some (.int .i64 (d.shape 4)):=HBx.out.cell 4;have x_5:w4.cell? ⟨B,5,none⟩ = some (.int .i64 (d.shape 5)):=HBx.out.cell 5;have x_6:w4.cell? ⟨B,6,none⟩ = some (.int .i64 (d.shape 6)):=HBx.out.cell 6;have x_7:w4.cell? ⟨B,7,none⟩ = some (.int .i64 (d.shape 7)):=HBx.out.cell 7;have x_8:w4.cell? ⟨B,8,none⟩ = some (.int .i64 (d.shape 8)):=HBx.out.cell 8
        go_wp2_with fail
        refine (CG _).mono ?_;rintro e w6 ⟨rfl,b6⟩;have HB6:Hid (Below w4.heap.size w4 w6):=b6;have z6:w4.heap.size ≤ w6.heap.size:=b6.size;clear b6 HBx x_0 x_1 x_2 x_3 x_4 x_5 x_6 x_7 x_8
        go_wp2_with (at_make;refine wp_makeB _ rfl _ _ rfl _ _ d.groups.1 rfl rfl rfl rfl (by omega) ?_;intro w7 o7 b7 z7)
        have O7:Own w7 w6.heap.size w7.heap.size (.slice (some ⟨w6.heap.size,0,none⟩) d.groups.1 d.groups.1) d.groups.1 (shrM d G c 0):=o7.congr (fun i _ => (shrM_zero d G c i).symm);have HB7:Hid (Below w4.heap.size w4 w7):=HB6.out.trans (b7.mono (by omega));clear o7 b7 HB6;go_wp2
        go_loopw [10] (fun i wq => ∃ k:Nat,k ≤ c ∧ i = .int .i64 k ∧ Own wq w6.heap.size w7.heap.size (.slice (some ⟨w6.heap.size,0,none⟩) d.groups.1 d.groups.1) d.groups.1 (shrM d G c k) ∧ Below w6.heap.size w7 wq ∧ wq.heap.size = w7.heap.size) (fun i _ => c - (intOf i).toNat)
        case atStart => exact ⟨0,Nat.zero_le _,rfl,O7,Below.refl _ _,rfl⟩
        case round =>
          clear O7;obtain ⟨k,hk,rfl,hown,hout,hsz⟩:=hrel
          by_cases hlt:k < c
          · have hkl:k < livN d G:=Nat.lt_of_lt_of_le hlt HLN.out
            have hF1:livF d G k < d.groups.1:=liv_lt hkl;have HNX:Hid (∀ j,j < d.groups.1 → shrM d G c (k + 1) j = if j = livF d G k then shareN c (livF d G) G k else shrM d G c k j):=fun j hj => shrM_next hkl j hj
            have cl:wr.cell? ⟨gl,k,none⟩ = some (.int .i64 (livF d G k:Int)):=by
              rw [hout.cell (p:=⟨gl,k,none⟩) (by show gl < w6.heap.size;omega)];have e1:=HI4.out.1.cellAt k (by omega);rw [intsOf_get _ _ _ hlt] at e1;rw [HB7.out.cell (p:=⟨gl,k,none⟩) (by show gl < w4.heap.size;omega)];exact e1
            have cv:wr.cell? ⟨gv,k,none⟩ = some (.int .u8 (shareN c (livF d G) G k)):=by
              rw [hout.cell (p:=⟨gv,k,none⟩) (by show gv < w6.heap.size;omega)];have e1:=HV.out.1.cellAt k (by omega);rw [cellsOf_get _ _ _ hlt] at e1;rw [HB7.out.cell (p:=⟨gv,k,none⟩) (by show gv < w4.heap.size;omega)];exact e1
            obtain ⟨F,hF⟩:∃ F,F = livF d G k:=⟨_,rfl⟩;obtain ⟨y,hy⟩:∃ y,y = shareN c (livF d G) G k:=⟨_,rfl⟩;rw [← hF] at cl hF1 HNX;rw [← hy] at cv HNX
            have co:wr.cell? ⟨w6.heap.size,F,none⟩ = some (.int .u8 (shrM d G c k F)):=by
              have:=hown.1.cellAt F (by omega);rw [this,cellsOf_get _ _ _ hF1]
            have cf:wr.frozen? ⟨w6.heap.size,F,none⟩ = false:=hown.1.frozenAt F;have RW:Own (wr.setCell ⟨w6.heap.size,F,none⟩ (.int .u8 y)) w6.heap.size w7.heap.size (.slice (some ⟨w6.heap.size,0,none⟩) d.groups.1 d.groups.1) d.groups.1 (shrM d G c (k + 1)):=hown.store F y hF1 HNX.out;have RO:Below w6.heap.size w7 (wr.setCell ⟨w6.heap.size,F,none⟩ (.int .u8 y)):=hout.setCell (Nat.le_refl _) _
            have i1:(k:Int) < (c:Int):=by omega
            have i2:(F:Int) < (d.groups.1:Int):=by omega
            obtain ⟨q,hq⟩:∃ q,q = shrM d G c k F:=⟨_,rfl⟩;rw [← hq] at co;clear hown hout hF hy hq hkl HNX;go_wp2;refine wp_region_still_tail 10 (by kernel_rfl) (by kernel_rfl) ?_;obtain ⟨WB,hWB⟩:∃ x:World,x = { wr with drawn:=wr.drawn + 1 }:=⟨_,rfl⟩
            have cl':WB.cell? ⟨gl,k,none⟩ = some (.int .i64 (F:Int)):=by rw [hWB];exact cl
            have cv':WB.cell? ⟨gv,k,none⟩ = some (.int .u8 y):=by rw [hWB];exact cv
            have co':WB.cell? ⟨w6.heap.size,F,none⟩ = some (.int .u8 q):=by rw [hWB];exact co
            have cf':WB.frozen? ⟨w6.heap.size,F,none⟩ = false:=by rw [hWB];exact cf
            have RW':Own (WB.setCell ⟨w6.heap.size,F,none⟩ (.int .u8 y)) w6.heap.size w7.heap.size (.slice (some ⟨w6.heap.size,0,none⟩) d.groups.1 d.groups.1) d.groups.1 (shrM d G c (k + 1)):=by rw [hWB];exact RW
            have RO':Below w6.heap.size w7 (WB.setCell ⟨w6.heap.size,F,none⟩ (.int .u8 y)):=by rw [hWB];exact ⟨RO.os,RO.tape,RO.output,RO.size,RO.block⟩
            have RS':(WB.setCell ⟨w6.heap.size,F,none⟩ (.int .u8 y)).heap.size = w7.heap.size:=by rw [hWB];simpa using hsz
            rw [← hWB];clear cl cv co cf RW RO hWB
            simp only [List.take_succ_cons,List.take_zero,List.drop_succ_cons,List.drop_zero]
            repeat still_step
            refine wpStill_nil ?_;go_wp2
            go_roundw
            case rel => exact ⟨k + 1,by omega,by go_num,RW',RO',RS'⟩
            case measure => simp [intOf];omega
          · obtain rfl:k = c:=by omega
            have O8:Own wr w6.heap.size w7.heap.size (.slice (some ⟨w6.heap.size,0,none⟩) d.groups.1 d.groups.1) d.groups.1 (shrF d G):=hown.congr (fun i _ => by
              unfold shrF
              rw [HNT.out])
            have HB8:Hid (Below w.heap.size w wr):=(HB4.out.trans (HB7.out.mono (by omega))).trans (hout.mono (by omega));have HO8:Hid (Own wr w.heap.size wr.heap.size (.slice (some ⟨w6.heap.size,0,none⟩) d.groups.1 d.groups.1) d.groups.1 (shrF d G)):=O8.weaken (by omega) (by omega);clear hown hout O8;go_wp2
            go_ret2
            exact ⟨_,_,_,true,rfl,.inr ⟨by have:=HGE.out;omega,rfl,rfl⟩,HO8.out,HB8.out⟩
end Go.Proofs.YtfodlpnkllolnaaGreat
namespace Go.Proofs.YtfodlpnkllolnaaGreat
open Go.RowKit F256
end Go.Proofs.YtfodlpnkllolnaaGreat
namespace Go.Proofs.YtfodlpnkllolnaaGreat
open Go.RowKit F256
def PlaceP (s:Nat → Int) (g k r:Int):Prop:=InP g 0 (s 0 + s 1 - 1) ∧ InP k 0 (s 2 + s 3 - 1) ∧ InP r 0 (s 4 - 1)
theorem size_S:(Tryz.prog.info? 34).map (·.size) = some 9:=by kernel_rfl
set_option maxHeartbeats 4000000 in
set_option maxRecDepth 20000 in
theorem l5Place_any (s:Nat → Int) (hok:OkShape s) (g k r:Int) (w:World):Calls Tryz.prog 51 #[shapeV s,.int .i64 g,.int .i64 k,.int .i64 r] w (BoolP (PlaceP s g k r) w):=by
  have hb:=okB hok;obtain ⟨t1,h1⟩:=exB (InP g 0 (s 0 + s 1 - 1));obtain ⟨t2,h2⟩:=exB (InP k 0 (s 2 + s 3 - 1));obtain ⟨t3,h3⟩:=exB (InP r 0 (s 4 - 1));have CA:=fun w' => l5All_any s hok w';have CD:=fun w' => l5Drives_any s hok w';have C1:=fun w' => l1In_b (w:=w') h1;have C2:=fun w' => l1In_b (w:=w') h2;have C3:=fun w' => l1In_b (w:=w') h3
  have HE:Hid (PlaceP s g k r ↔ (t1 = true ∧ t2 = true ∧ t3 = true)):=by
    show PlaceP s g k r ↔ _
    rw [h1,h2,h3];exact Iff.rfl
  have T0:=one_new w #[.int .i64 (s 0),.int .i64 (s 1),.int .i64 (s 2),.int .i64 (s 3),.int .i64 (s 4),.int .i64 (s 5),.int .i64 (s 6),.int .i64 (s 7),.int .i64 (s 8)] 34;unfold shapeV at CA CD ⊢;clear h1 h2 h3 hok
  go_enter Tryz.func51,Tryz.ntmps51
  go_wp2_with (refine wp_loadBox 34 (.tmp 4) rfl rfl w.heap.size rfl (cs:=[.int .i64 (s 0),.int .i64 (s 1),.int .i64 (s 2),.int .i64 (s 3),.int .i64 (s 4),.int .i64 (s 5),.int .i64 (s 6),.int .i64 (s 7),.int .i64 (s 8)]) T0.b1 Tryz.underlying34 size_S rfl ?_)
  refine (CA _).mono ?_;rintro e w1 ⟨rfl,b1⟩;have T1:=T0.call b1;have HT1:Hid (One w w1 #[.int .i64 (s 0),.int .i64 (s 1),.int .i64 (s 2),.int .i64 (s 3),.int .i64 (s 4),.int .i64 (s 5),.int .i64 (s 6),.int .i64 (s 7),.int .i64 (s 8)] 34):=T1
  have z1:IntKind.i64.wrap (s 0 + s 1 - 1) = s 0 + s 1 - 1:=by rw [IntKind.wrap_i64];omega
  have z2:IntKind.i64.wrap (s 2 + s 3 - 1) = s 2 + s 3 - 1:=by rw [IntKind.wrap_i64];omega
  have z3:IntKind.i64.wrap (s 4 - 1) = s 4 - 1:=by rw [IntKind.wrap_i64];omega
  have x_0:w1.cell? ⟨w.heap.size,0,none⟩ = some (.int .i64 (s 0)):=T1.b1.cell 0;have x_1:w1.cell? ⟨w.heap.size,1,none⟩ = some (.int .i64 (s 1)):=T1.b1.cell 1;have x_2:w1.cell? ⟨w.heap.size,2,none⟩ = some (.int .i64 (s 2)):=T1.b1.cell 2;have x_3:w1.cell? ⟨w.heap.size,3,none⟩ = some (.int .i64 (s 3)):=T1.b1.cell 3;have x_4:w1.cell? ⟨w.heap.size,4,none⟩ = some (.int .i64 (s 4)):=T1.b1.cell 4;have x_5:w1.cell? ⟨w.heap.size,5,none⟩ = some (.int .i64 (s 5)):=T1.b1.cell 5;have x_6:w1.cell? ⟨w.heap.size,6,none⟩ = some (.int .i64 (s 6)):=T1.b1.cell 6;have x_7:w1.cell? ⟨w.heap.size,7,none⟩ = some (.int .i64 (s 7)):=T1.b1.cell 7;have x_8:w1.cell? ⟨w.heap.size,8,none⟩ = some (.int .i64 (s 8)):=T1.b1.cell 8;clear T0 b1 T1
  go_wp2_with fail
  refine (C1 _).mono ?_;rintro e w' ⟨rfl,hw'⟩;obtain rfl:=hw'.symm
  cases t1 with
  | false =>
    go_wp2;go_ret;exact boolNo rfl (fun h => by have:=HE.out.1 h;simp at this) HT1.out.bel
  | true =>
  go_wp2_with fail
  refine (CD _).mono ?_;rintro e w2 ⟨rfl,b2⟩;have T2:=HT1.out.call b2;have HB2:Hid (Below w.heap.size w w2):=T2.bel;have y4:w2.cell? ⟨w.heap.size,4,none⟩ = some (.int .i64 (s 4)):=T2.b1.cell 4;clear b2 T2 x_0 x_1 x_2 x_3 x_4 x_5 x_6 x_7 x_8
  go_wp2_with fail
  refine (C2 _).mono ?_;rintro e w' ⟨rfl,hw'⟩;obtain rfl:=hw'.symm
  cases t2 with
  | false =>
    go_wp2;go_ret;exact boolNo rfl (fun h => by have:=HE.out.1 h;simp at this) HB2.out
  | true =>
  go_wp2_with fail
  refine (C3 _).mono ?_;rintro e w' ⟨rfl,hw'⟩;obtain rfl:=hw'.symm
  cases t3 with
  | false =>
    go_wp2;go_ret;exact boolNo rfl (fun h => by have:=HE.out.1 h;simp at this) HB2.out
  | true =>
    go_wp2;go_ret;exact boolYes rfl (HE.out.2 (by simp)) HB2.out
end Go.Proofs.YtfodlpnkllolnaaGreat