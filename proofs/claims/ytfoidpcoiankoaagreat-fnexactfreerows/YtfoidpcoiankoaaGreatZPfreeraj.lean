/- FreeRows of both sides. -/
import Derived.Test.YtfoidpcoiankoaaGreatZPfreerai
import Derived.Test.YtfoidpcoiankoaaGreatZPfreerag
import Derived.Deep.DeepCutAuto
import Derived.Test.YtfoidpcoiankoaaGreatZPfreerad
import Derived.Test.YtfoidpcoiankoaaGreatZPfreerah
import Derived.Test.YtfoidpcoiankoaaGreatZPfreerac
import Derived.Test.YtfoidpcoiankoaaGreatRows
import Derived.Test.YtfoidpcoiankoaaGreatZPfreeraa
import Derived.Test.YtfoidpcoiankoaaGreatZPfreerab
import Derived.Deep.RegionLaw
set_option linter.unusedVariables false
set_option linter.unusedSimpArgs false
namespace Go.Proofs.YtfoidpcoiankoaaGreat
open Go.RowKit F256
theorem recT_named {d:WorldD} (hok:OkWorld d) {i:Nat} (hi:i < lenT d.tapes.2 2):NamedP (recT d.tapes.2 2 i):=by
  have h2:d.tapes.1 = 2:=hok.form.2.2;have key:∀ t j,t < 2 → j < (d.tapes.2 t).recs.1 → NamedP ((d.tapes.2 t).recs.2 j):=fun t j ht hj => rec_named (hok.recs t (by omega) j hj)
  have e1:lenT d.tapes.2 1 = (d.tapes.2 0).recs.1:=by simp [lenT]
  have e2:lenT d.tapes.2 2 = (d.tapes.2 0).recs.1 + (d.tapes.2 1).recs.1:=by simp [lenT]
  rw [e2] at hi
  show NamedP (cat2 (recT d.tapes.2 1) (lenT d.tapes.2 1) (d.tapes.2 1).recs.2 i)
  unfold cat2
  split
  · rename_i c
    rw [e1] at c
    show NamedP (cat2 (recT d.tapes.2 0) (lenT d.tapes.2 0) (d.tapes.2 0).recs.2 i)
    unfold cat2;rw [if_neg (by show ¬ i < 0;omega)];exact key 0 (i - 0) (by omega) (by omega)
  · rename_i c
    rw [e1] at c ⊢;exact key 1 _ (by omega) (by omega)
theorem l_items {d:WorldD} (hok:OkWorld d) {l:List Nat} (hCt:Cnt (recT d.tapes.2 2) (lenT d.tapes.2 2) l):∀ i,i < l.length → ((fun i => recT d.tapes.2 2 (l.getD i 0)) i).kind = 1 → OkName ((fun i => recT d.tapes.2 2 (l.getD i 0)) i).name ∧ ((fun i => recT d.tapes.2 2 (l.getD i 0)) i).rows.1 ≤ 3:=fun i hi hk =>
  ⟨recT_named hok ((hCt.mem _).1 (by rw [getD_at hi];exact List.getElem_mem hi)).1 hk,item_rows hok.shape (l_kind hok hCt hi) hk⟩
theorem size_IsF:(Tryz.prog.info? 43).map (·.size) = some 2:=by kernel_rfl
def FrPost (P:IntsResultD → Prop) (w:World) (e:Ending) (w':World):Prop:=∃ q cs,e = .returned (.agg cs.toArray) ∧ P q ∧ OwnT layIntsResult w' w.heap.size w'.heap.size q cs ∧ Below w.heap.size w w'
theorem fres_own {w:World} {lo hi n cap:Nat} {ao:Option Addr} {f:Nat → Int} (h:OwnI w lo hi (.slice ao n cap) n f) (hhi:hi ≤ w.heap.size) (hb:∀ i,-9223372036854775808 ≤ f i ∧ f i ≤ 9223372036854775807) (c:Int) (hc:-9223372036854775808 ≤ c ∧ c ≤ 9223372036854775807):OwnT layIntsResult w lo hi ⟨c,(n,f)⟩ [.int .i64 c,.slice ao n cap] :=
  ⟨(Value.slice ao n cap).ownBlock.toList,IntsResult_mk ⟨c,(n,f)⟩ ⟨_,rfl,rfl,h.weaken (Nat.zero_le _) hhi,hb⟩ hc,by cases (Value.slice ao n cap).ownBlock <;> simp,fun b hb => by
    have e:(Value.slice ao n cap).ownBlock = some b:=by simpa using hb
    exact ⟨(h.1.lt b e).1,h.2 b e⟩⟩
theorem fcode_own (w:World) (c:Int) (hc:-9223372036854775808 ≤ c ∧ c ≤ 9223372036854775807) (lo hi:Nat) (hhi:hi ≤ w.heap.size):OwnT layIntsResult w lo hi ⟨c,(0,fun _ => 0)⟩ [.int .i64 c,.slice none 0 0]:=fres_own (ownI_nil w lo hi _) hhi (fun _ => by decide) c hc
theorem freeF_in (s:Nat → Int) (x:Nat → RecD) (N:Nat) (m:List Nat) (g:Int) (R:Nat) (hR:R ≤ 100) (i:Nat):-9223372036854775808 ≤ freeF s x N m g R i ∧ freeF s x N m g R i ≤ 9223372036854775807:=by
  have:=pickF_le (freeB s x N m g) R i;unfold freeF;omega
noncomputable def freeOf (d:WorldD) (g:Int) (l m:List Nat):Nat × (Nat → Int):=((pickI (freeB d.shape (fun i => recT d.tapes.2 2 (l.getD i 0)) l.length m g) (d.shape 4).toNat).length,(freeF d.shape (fun i => recT d.tapes.2 2 (l.getD i 0)) l.length m g (d.shape 4).toNat))
def FrAns (d:WorldD) (g:Int) (q:IntsResultD):Prop:=(∃ x,x ≠ 0 ∧ WldAns d x ∧ q = ⟨x,(0,fun _ => 0)⟩) ∨ (WldAns d 0 ∧ ¬ InP g 0 (d.shape 0 - 1) ∧ q = ⟨3,(0,fun _ => 0)⟩) ∨ (WldAns d 0 ∧ InP g 0 (d.shape 0 - 1) ∧ ∃ l m,Cnt (recT d.tapes.2 2) (lenT d.tapes.2 2) l ∧ Live (fun i => recT d.tapes.2 2 (l.getD i 0)) l.length m ∧ q = ⟨0,freeOf d g l m⟩)
theorem FrAns.one {d:WorldD} {g:Int} {p q:IntsResultD} (h:FrAns d g p) (k:FrAns d g q):p = q:=by
  rcases h with ⟨x,h1,h2,rfl⟩ | ⟨h1,hn,rfl⟩ | ⟨h1,hn,l,m,hl,hm,rfl⟩ <;> rcases k with ⟨y,k1,k2,rfl⟩ | ⟨k1,kn,rfl⟩ | ⟨k1,kn,l',m',kl,km,rfl⟩
  · rw [h2.one k2]
  · exact absurd (h2.one k1) h1
  · exact absurd (h2.one k1) h1
  · exact absurd (k2.one h1) k1
  · rfl
  · exact absurd kn hn
  · exact absurd (k2.one h1) k1
  · exact absurd hn kn
  · obtain rfl:=hl.uniq kl
    rw [hm.uniq km]
set_option maxHeartbeats 16000000 in
set_option maxRecDepth 20000 in
theorem freeRows_any (d:WorldD) (g:Int) (cs:List Value) (hi:Nat) (w:World) (h:layWorld.rd w hi d cs) (hhi:hi ≤ w.heap.size) (hok:OkWorld d) :
    Calls Tryz.prog 37 #[.agg cs.toArray,.int .i64 g] w (fun e w' => ∃ l m v',e = .returned v' ∧ Cnt (recT d.tapes.2 2) (lenT d.tapes.2 2) l ∧ Live (fun i => recT d.tapes.2 2 (l.getD i 0)) l.length m ∧ OwnI w' w.heap.size w'.heap.size v' (freeOf d g l m).1 (freeOf d g l m).2 ∧ Below w.heap.size w w'):=by
  have h':=h;obtain ⟨ao1,cap1,ao2,cap2,ao3,cap3,rfl,-⟩:=World_rd h';have HRD:Hid (layWorld.rd w hi d [.int .i64 (d.shape 0),.int .i64 (d.shape 1),.int .i64 (d.shape 2),.int .i64 (d.shape 3),.int .i64 (d.shape 4),.int .i64 (d.shape 5),.int .i64 (d.shape 6),.int .i64 (d.shape 7),.int .i64 (d.shape 8),.slice ao1 d.groups.1 cap1,.slice ao2 d.on.1 cap2,.slice ao3 d.tapes.1 cap3,.int .i64 d.writes,.int .i64 d.stop,.bool d.down]):=h;have HOK:Hid (OkWorld d):=hok;have h2:d.tapes.1 = 2:=hok.form.2.2;have hn0:(d.tapes.2 0).recs.1 ≤ 400000:=Nat.le_trans (hok.few 0 (by omega)) (by decide);have hn1:(d.tapes.2 1).recs.1 ≤ 400000:=Nat.le_trans (hok.few 1 (by omega)) (by decide);have hsb:=okB hok.shape;obtain ⟨R,hR⟩:∃ R:Nat,d.shape 4 = (R:Int):=⟨(d.shape 4).toNat,by omega⟩
  have hR6:R ≤ 6:=by omega
  have HR:Hid (d.shape 4 = (R:Int)):=hR
  have hRt:(d.shape 4).toNat = R:=by rw [hR];rfl
  have HRT:Hid ((d.shape 4).toNat = R):=hRt;have T0:=one_new w #[.int .i64 (d.shape 0),.int .i64 (d.shape 1),.int .i64 (d.shape 2),.int .i64 (d.shape 3),.int .i64 (d.shape 4),.int .i64 (d.shape 5),.int .i64 (d.shape 6),.int .i64 (d.shape 7),.int .i64 (d.shape 8),.slice ao1 d.groups.1 cap1,.slice ao2 d.on.1 cap2,.slice ao3 d.tapes.1 cap3,.int .i64 d.writes,.int .i64 d.stop,.bool d.down] 37;have CR:=readTapes_any d [.int .i64 (d.shape 0),.int .i64 (d.shape 1),.int .i64 (d.shape 2),.int .i64 (d.shape 3),.int .i64 (d.shape 4),.int .i64 (d.shape 5),.int .i64 (d.shape 6),.int .i64 (d.shape 7),.int .i64 (d.shape 8),.slice ao1 d.groups.1 cap1,.slice ao2 d.on.1 cap2,.slice ao3 d.tapes.1 cap3,.int .i64 d.writes,.int .i64 d.stop,.bool d.down] hi (w.alloc (.cells #[.int .i64 (d.shape 0),.int .i64 (d.shape 1),.int .i64 (d.shape 2),.int .i64 (d.shape 3),.int .i64 (d.shape 4),.int .i64 (d.shape 5),.int .i64 (d.shape 6),.int .i64 (d.shape 7),.int .i64 (d.shape 8),.slice ao1 d.groups.1 cap1,.slice ao2 d.on.1 cap2,.slice ao3 d.tapes.1 cap3,.int .i64 d.writes,.int .i64 d.stop,.bool d.down] 37)) (layWorld.rd_below h T0.bel hhi) (Nat.le_trans hhi T0.bel.size) hok;clear h h' hok h2 hR hRt
  go_enter Tryz.func37,Tryz.ntmps37
  go_wp2_with (refine wp_loadBox 37 (.tmp 2) rfl rfl (w.heap.size) rfl (cs:=[.int .i64 (d.shape 0),.int .i64 (d.shape 1),.int .i64 (d.shape 2),.int .i64 (d.shape 3),.int .i64 (d.shape 4),.int .i64 (d.shape 5),.int .i64 (d.shape 6),.int .i64 (d.shape 7),.int .i64 (d.shape 8),.slice ao1 d.groups.1 cap1,.slice ao2 d.on.1 cap2,.slice ao3 d.tapes.1 cap3,.int .i64 d.writes,.int .i64 d.stop,.bool d.down]) (T0.b1) Tryz.underlying37 size_W rfl ?_)
  refine CR.mono ?_;rintro e w2 ⟨B,l,ce,v,b1,b2,b3,b4,b5,rfl,hCt,hLd,hRd,bb2⟩;have HL:Hid (Cnt (recT d.tapes.2 2) (lenT d.tapes.2 2) l):=hCt;have T2:=T0.call bb2;have HT2:Hid (One w w2 #[.int .i64 (d.shape 0),.int .i64 (d.shape 1),.int .i64 (d.shape 2),.int .i64 (d.shape 3),.int .i64 (d.shape 4),.int .i64 (d.shape 5),.int .i64 (d.shape 6),.int .i64 (d.shape 7),.int .i64 (d.shape 8),.slice ao1 d.groups.1 cap1,.slice ao2 d.on.1 cap2,.slice ao3 d.tapes.1 cap3,.int .i64 d.writes,.int .i64 d.stop,.bool d.down] 37):=T2;have z2:w.heap.size < w2.heap.size:=T2.b1.lt
  have hlen:l.length ≤ 800000:=by
    have h1:=(hCt.sum (fun _ => 0)).2
    have e2:lenT d.tapes.2 2 = (d.tapes.2 0).recs.1 + (d.tapes.2 1).recs.1:=by simp [lenT]
    omega
  have CU:=takenRows_any hLd HOK.out.shape hlen (Nat.le_trans hhi T2.bel.size) hRd (fun i hi' hk1 => item_len (l_kind HOK.out hCt hi') hk1) (l_items HOK.out hCt) (fun i hi' => recT_ok HOK.out ((hCt.mem _).1 (by rw [getD_at hi'];exact List.getElem_mem hi')).1) g;clear hLd hRd bb2 CR T0 T2 hCt
  go_wp2_with fail
  refine CU.mono ?_;rintro e w3 ⟨m,u,n,y,rfl,hLM,hRD,hU,bb3⟩;have HLM:Hid (Live (fun i => recT d.tapes.2 2 (l.getD i 0)) l.length m):=hLM;have HRD3:Hid (RdI w3 w3.heap.size u n y):=hRD;have HT3:Hid (One w w3 #[.int .i64 (d.shape 0),.int .i64 (d.shape 1),.int .i64 (d.shape 2),.int .i64 (d.shape 3),.int .i64 (d.shape 4),.int .i64 (d.shape 5),.int .i64 (d.shape 6),.int .i64 (d.shape 7),.int .i64 (d.shape 8),.slice ao1 d.groups.1 cap1,.slice ao2 d.on.1 cap2,.slice ao3 d.tapes.1 cap3,.int .i64 d.writes,.int .i64 d.stop,.bool d.down] 37):=HT2.out.call bb3;have HUN:Hid (∀ z,HasP n y z ↔ U1 d.shape (fun i => recT d.tapes.2 2 (l.getD i 0)) m g m.length z ∨ U2 (fun i => recT d.tapes.2 2 (l.getD i 0)) g l.length z):=hU;have z3:w.heap.size < w3.heap.size:=HT3.out.b1.lt
  obtain ⟨au,cau,hu⟩:∃ a c,u = .slice a n c:=by
    obtain ⟨a,c,h,_⟩:=hRD;exact ⟨a,c,h⟩
  subst hu;obtain ⟨fB,hfB⟩:∃ f,f = (freeB d.shape (fun i => recT d.tapes.2 2 (l.getD i 0)) l.length m g):=⟨_,rfl⟩;obtain ⟨fF,hfF⟩:∃ f,f = freeF d.shape (fun i => recT d.tapes.2 2 (l.getD i 0)) l.length m g R:=⟨_,rfl⟩;have HFB:Hid (fB = (freeB d.shape (fun i => recT d.tapes.2 2 (l.getD i 0)) l.length m g)):=hfB;have HFF:Hid (fF = freeF d.shape (fun i => recT d.tapes.2 2 (l.getD i 0)) l.length m g R):=hfF
  have HFI:Hid (∀ j,fB j = true ↔ ¬ HasP n y (j:Int)):=fun j => by rw [hfB,freeB_is,HUN.out]
  have HFA:Hid (∀ j,j < R → fB j = true → fF (pickI fB j).length = (j:Int)):=fun j hj hf => by
    rw [hfF,hfB];rw [hfB] at hf;unfold freeF;rw [(pickF_at hf R hj).1]
  have I0:=ownI_lit0 w3 fF;have bL:Below w3.heap.size w3 (w3.alloc (.cells #[] 2)):=(Below.refl _ _).alloc (Nat.le_refl _) _
  have x4:(w3.alloc (.cells #[] 2)).cell? ⟨w.heap.size,4,none⟩ = some (.int .i64 (R:Int)):=by
    have h1:=(HT3.out.b1.call bL).cell 4;rw [h1,← HR.out];rfl
  clear CU HT2 bb3 hLM hRD hU hfB hfF;go_wp2;clear x4
  go_loopw [6,16] (fun vo i wr => ∃ j:Nat,j ≤ R ∧ i = .int .i64 j ∧ OwnI wr w3.heap.size wr.heap.size vo (pickI fB j).length fF ∧ Below w3.heap.size w3 wr) (fun _ i _ => R - (intOf i).toNat)
  case atStart => exact ⟨0,Nat.zero_le _,rfl,I0,bL⟩
  case round =>
    clear I0 bL;obtain ⟨j,hj,rfl,hI,bw⟩:=hrel;obtain ⟨wx,rfl⟩:∃ y,y = wr:=⟨_,rfl⟩;obtain ⟨c,hc⟩:∃ c,c = (pickI fB j).length:=⟨_,rfl⟩;have HC:Hid (c = (pickI fB j).length):=hc;rw [← hc] at hI
    have hck:c ≤ j:=by rw [hc];exact pick_le _ _
    obtain ⟨aoo,capo,hvo⟩:=hI.slice;subst hvo;have HI5:Hid (OwnI wx w3.heap.size wx.heap.size (.slice aoo c capo) c fF):=hI;have HBX:Hid (Below w3.heap.size w3 wx):=bw;have zx:w3.heap.size ≤ wx.heap.size:=bw.size;have RDx:=HRD3.out.below bw (Nat.le_refl _);clear hI hc bw
    by_cases hlt:j < R
    · obtain ⟨t,ht⟩:=exB (HasP n y (j:Int))
      have CT:=det_b (contains_any (.slice au n cau) n y w3.heap.size (j:Int) wx RDx) ht
      have t1:(j:Int) < (R:Int):=by omega
      have HW:Hid (fB j = !t):=by
        show fB j = !t
        have h1:=HFI.out j
        cases t with
        | true =>
          cases hf:fB j with
          | false => rfl
          | true => exact absurd (ht.1 rfl) (h1.1 hf)
        | false => exact h1.2 (fun h => by have:=ht.2 h;cases this)
      clear ht RDx
      go_wp2_with fail
      refine CT.mono ?_;rintro e w5 ⟨rfl,b5⟩;have z5:wx.heap.size ≤ w5.heap.size:=b5.size;have HI6:Hid (OwnI w5 w3.heap.size w5.heap.size (.slice aoo c capo) c fF):=(HI5.out.below b5 (Nat.le_refl _)).mono z5;have HB5:Hid (Below w3.heap.size w3 w5):=HBX.out.trans (b5.mono zx);clear b5 CT
      cases t with
      | true =>
        go_wp2
        go_roundw
        case rel => exact ⟨j + 1,by omega,by go_num,by rw [pick_skip HW.out,← HC.out];exact HI6.out,HB5.out⟩
        case measure => simp [intOf];omega
      | false =>
        have HF:Hid (fF c = (j:Int)):=by
          show fF c = (j:Int)
          rw [HC.out];exact HFA.out j hlt HW.out
        go_wp2_with (at_builtin;refine wp_appendI rfl (.tmp 23) (.tmp 25) rfl w3.heap.size w5.heap.size (.slice aoo c capo) c fF ?_ ?_ w5.heap.size 1 ?_ ?_ (by omega) ?_ ?_;(simp [Act.eval]);exact HI6.out.alloc _;(simp [Act.eval]);(rw [HF.out];simp);(simp;omega);intro v7 w7 o7 b7)
        have b8:Below w3.heap.size w5 w7:=((Below.refl w3.heap.size w5).alloc (by omega) _).trans b7;have HB7:Hid (Below w3.heap.size w3 w7):=HB5.out.trans b8;have HI7:Hid (OwnI w7 w3.heap.size w7.heap.size v7 (c + 1) fF):=o7;clear o7 b7 b8 HI6;go_wp2
        go_roundw
        case rel => exact ⟨j + 1,by omega,by go_num,by
          have e:(pickI fB (j + 1)).length = c + 1:=by rw [pick_succ,if_pos (show fB j = true from HW.out),List.length_append,← HC.out];rfl
          rw [e];exact HI7.out,HB7.out⟩
        case measure => simp [intOf];omega
    · obtain rfl:j = R:=by omega
      have HO:Hid (OwnI wx w.heap.size wx.heap.size (.slice aoo c capo) c fF):=HI5.out.weaken (by omega) (Nat.le_refl _);have HBZ:Hid (Below w.heap.size w wx):=HT3.out.bel.trans (HBX.out.mono (by omega))
      have HE:Hid (c = (freeOf d g l m).1 ∧ fF = (freeOf d g l m).2):=by
        unfold freeOf;rw [HRT.out];exact ⟨by rw [HC.out,HFB.out],HFF.out⟩
      clear RDx hlt;go_wp2;go_ret;exact ⟨l,m,_,rfl,HL.out,HLM.out,by rw [← HE.out.1,← HE.out.2];exact HO.out,HBZ.out⟩
set_option maxHeartbeats 16000000 in
set_option maxRecDepth 20000 in
theorem implFr_any (d:WorldD) (g:Int) (cs:List Value) (hi:Nat) (w:World) (h:layWorld.rd w hi d cs) (hhi:hi ≤ w.heap.size) (hsz:szWorldD d ≤ 1048576) :
    Calls Tryz.prog 12 #[.agg cs.toArray,.int .i64 g] w (FrPost (FrAns d g) w):=by
  have h':=h;obtain ⟨ao1,cap1,ao2,cap2,ao3,cap3,rfl,g1,g2,g3,k0,k4,k5⟩:=World_rd h';have HRD:Hid (layWorld.rd w hi d [.int .i64 (d.shape 0),.int .i64 (d.shape 1),.int .i64 (d.shape 2),.int .i64 (d.shape 3),.int .i64 (d.shape 4),.int .i64 (d.shape 5),.int .i64 (d.shape 6),.int .i64 (d.shape 7),.int .i64 (d.shape 8),.slice ao1 d.groups.1 cap1,.slice ao2 d.on.1 cap2,.slice ao3 d.tapes.1 cap3,.int .i64 d.writes,.int .i64 d.stop,.bool d.down]):=h;have HG3:Hid ((layTape.slice 87).rd w hi d.tapes [.slice ao3 d.tapes.1 cap3]):=g3;have HSZ:Hid (szWorldD d ≤ 1048576):=hsz;clear h h' hsz g1 g2 g3 k0 k4 k5;have T0:=two_newb w #[.int .i64 (d.shape 0),.int .i64 (d.shape 1),.int .i64 (d.shape 2),.int .i64 (d.shape 3),.int .i64 (d.shape 4),.int .i64 (d.shape 5),.int .i64 (d.shape 6),.int .i64 (d.shape 7),.int .i64 (d.shape 8),.slice ao1 d.groups.1 cap1,.slice ao2 d.on.1 cap2,.slice ao3 d.tapes.1 cap3,.int .i64 d.writes,.int .i64 d.stop,.bool d.down] #[.int .i64 0,.slice none 0 0] 37 43
  go_enter Tryz.func12,Tryz.ntmps12
  go_wp2_with (refine wp_loadBox 37 (.tmp 2) rfl rfl (w.heap.size) rfl (cs:=[.int .i64 (d.shape 0),.int .i64 (d.shape 1),.int .i64 (d.shape 2),.int .i64 (d.shape 3),.int .i64 (d.shape 4),.int .i64 (d.shape 5),.int .i64 (d.shape 6),.int .i64 (d.shape 7),.int .i64 (d.shape 8),.slice ao1 d.groups.1 cap1,.slice ao2 d.on.1 cap2,.slice ao3 d.tapes.1 cap3,.int .i64 d.writes,.int .i64 d.stop,.bool d.down]) (T0.b1) Tryz.underlying37 size_W rfl ?_)
  refine (implWorld_any d _ hi _ (layWorld.rd_below HRD.out T0.bel hhi) (Nat.le_trans hhi T0.bel.size) (wld_ok_names HSZ.out)).mono ?_;rintro e w1 ⟨x,rfl,hx,b1⟩;have HT1:Hid (Two w w1 #[.int .i64 (d.shape 0),.int .i64 (d.shape 1),.int .i64 (d.shape 2),.int .i64 (d.shape 3),.int .i64 (d.shape 4),.int .i64 (d.shape 5),.int .i64 (d.shape 6),.int .i64 (d.shape 7),.int .i64 (d.shape 8),.slice ao1 d.groups.1 cap1,.slice ao2 d.on.1 cap2,.slice ao3 d.tapes.1 cap3,.int .i64 d.writes,.int .i64 d.stop,.bool d.down] #[.int .i64 0,.slice none 0 0] 37 43):=T0.call b1;have HX:Hid (WldAns d x):=hx;have z1:w.heap.size + 1 < w1.heap.size:=HT1.out.b2.lt;clear b1 T0 hx
  by_cases hx0:x = 0
  case neg =>
    have hne:(x != 0) = true:=by simp [hx0]
    go_wp2_with (refine wp_storeBox 43 _ _ rfl rfl (w.heap.size + 1) rfl (cs:=[.int .i64 x,.slice none 0 0]) (old:=[.int .i64 0,.slice none 0 0]) rfl (HT1.out.b2) size_IsF rfl rfl ((fcode_own w1 x (wld_small HX.out) 0 0 (Nat.zero_le _)).one) ?_;intro w9 X9 C9 z9)
    refine ret_box Tryz.results12 rfl X9 Tryz.underlying43 size_IsF rfl rfl ?_;have zz:=C9.size;exact ⟨⟨x,(0,fun _ => 0)⟩,[.int .i64 x,.slice none 0 0],rfl,.inl ⟨x,hx0,HX.out,rfl⟩,fcode_own w9 x (wld_small HX.out) _ _ (Nat.le_refl _),HT1.out.bel.trans (C9.bel (fun b hb => by simp at hb;omega) HT1.out.bel.size)⟩
  subst hx0;have HOK:Hid (OkWorld d):=WldAns.ok HX.out;have h2:d.tapes.1 = 2:=HOK.out.form.2.2;have hn0:(d.tapes.2 0).recs.1 ≤ 400000:=Nat.le_trans (HOK.out.few 0 (by omega)) (by decide);have hn1:(d.tapes.2 1).recs.1 ≤ 400000:=Nat.le_trans (HOK.out.few 1 (by omega)) (by decide);have HH2:Hid (d.tapes.1 = 2):=h2;clear h2;obtain ⟨b,hb⟩:=exB (InP g 0 (d.shape 0 - 1));have HBB:Hid (b = true ↔ InP g 0 (d.shape 0 - 1)):=hb;have x_0:w1.cell? ⟨w.heap.size,0,none⟩ = some (.int .i64 (d.shape 0)):=HT1.out.b1.cell 0;have x_1:w1.cell? ⟨w.heap.size,1,none⟩ = some (.int .i64 (d.shape 1)):=HT1.out.b1.cell 1;have x_2:w1.cell? ⟨w.heap.size,2,none⟩ = some (.int .i64 (d.shape 2)):=HT1.out.b1.cell 2;have x_3:w1.cell? ⟨w.heap.size,3,none⟩ = some (.int .i64 (d.shape 3)):=HT1.out.b1.cell 3;have x_4:w1.cell? ⟨w.heap.size,4,none⟩ = some (.int .i64 (d.shape 4)):=HT1.out.b1.cell 4;have x_5:w1.cell? ⟨w.heap.size,5,none⟩ = some (.int .i64 (d.shape 5)):=HT1.out.b1.cell 5;have x_6:w1.cell? ⟨w.heap.size,6,none⟩ = some (.int .i64 (d.shape 6)):=HT1.out.b1.cell 6;have x_7:w1.cell? ⟨w.heap.size,7,none⟩ = some (.int .i64 (d.shape 7)):=HT1.out.b1.cell 7;have x_8:w1.cell? ⟨w.heap.size,8,none⟩ = some (.int .i64 (d.shape 8)):=HT1.out.b1.cell 8;have CB:=isDataGroup_b HOK.out.shape hb w1;unfold shapeV at CB;clear hb
  go_wp2_with fail
  refine CB.mono ?_;rintro e wq ⟨rfl,bq⟩;have HTq:Hid (Two w wq #[.int .i64 (d.shape 0),.int .i64 (d.shape 1),.int .i64 (d.shape 2),.int .i64 (d.shape 3),.int .i64 (d.shape 4),.int .i64 (d.shape 5),.int .i64 (d.shape 6),.int .i64 (d.shape 7),.int .i64 (d.shape 8),.slice ao1 d.groups.1 cap1,.slice ao2 d.on.1 cap2,.slice ao3 d.tapes.1 cap3,.int .i64 d.writes,.int .i64 d.stop,.bool d.down] #[.int .i64 0,.slice none 0 0] 37 43):=HT1.out.call bq;have zq:w1.heap.size ≤ wq.heap.size:=bq.size;clear CB bq HT1 x_0 x_1 x_2 x_3 x_4 x_5 x_6 x_7 x_8
  cases b with
  | false =>
    have HNT:Hid (¬ InP g 0 (d.shape 0 - 1)):=fun h => absurd (HBB.out.2 h) (by simp)
    go_wp2_with (refine wp_storeBox 43 _ _ rfl rfl (w.heap.size + 1) rfl (cs:=[.int .i64 3,.slice none 0 0]) (old:=[.int .i64 0,.slice none 0 0]) rfl (HTq.out.b2) size_IsF rfl rfl ((fcode_own wq 3 (by decide) 0 0 (Nat.zero_le _)).one) ?_;intro w9 X9 C9 z9)
    refine ret_box Tryz.results12 rfl X9 Tryz.underlying43 size_IsF rfl rfl ?_;have zz:=C9.size;exact ⟨⟨3,(0,fun _ => 0)⟩,[.int .i64 3,.slice none 0 0],rfl,.inr (.inl ⟨HX.out,HNT.out,rfl⟩),fcode_own w9 3 (by decide) _ _ (Nat.le_refl _),HTq.out.bel.trans (C9.bel (fun b hb => by simp at hb;omega) HTq.out.bel.size)⟩
  | true =>
  have hIn:InP g 0 (d.shape 0 - 1):=HBB.out.1 (by simp);have HIN:Hid (InP g 0 (d.shape 0 - 1)):=hIn
  have hR6:(d.shape 4).toNat ≤ 100:=by have:=okB HOK.out.shape;omega
  have CF:=freeRows_any d g [.int .i64 (d.shape 0),.int .i64 (d.shape 1),.int .i64 (d.shape 2),.int .i64 (d.shape 3),.int .i64 (d.shape 4),.int .i64 (d.shape 5),.int .i64 (d.shape 6),.int .i64 (d.shape 7),.int .i64 (d.shape 8),.slice ao1 d.groups.1 cap1,.slice ao2 d.on.1 cap2,.slice ao3 d.tapes.1 cap3,.int .i64 d.writes,.int .i64 d.stop,.bool d.down] hi wq (layWorld.rd_below HRD.out HTq.out.bel hhi) (Nat.le_trans hhi HTq.out.bel.size) HOK.out
  go_wp2_with (refine wp_loadBox 37 (.tmp 2) rfl rfl (w.heap.size) rfl (cs:=[.int .i64 (d.shape 0),.int .i64 (d.shape 1),.int .i64 (d.shape 2),.int .i64 (d.shape 3),.int .i64 (d.shape 4),.int .i64 (d.shape 5),.int .i64 (d.shape 6),.int .i64 (d.shape 7),.int .i64 (d.shape 8),.slice ao1 d.groups.1 cap1,.slice ao2 d.on.1 cap2,.slice ao3 d.tapes.1 cap3,.int .i64 d.writes,.int .i64 d.stop,.bool d.down]) (HTq.out.b1) Tryz.underlying37 size_W rfl ?_)
  refine CF.mono ?_;rintro e w3 ⟨l,m,v3,rfl,hCt,hLM,O3,bb3⟩;have HL:Hid (Cnt (recT d.tapes.2 2) (lenT d.tapes.2 2) l):=hCt;have HLM:Hid (Live (fun i => recT d.tapes.2 2 (l.getD i 0)) l.length m):=hLM;have HT3:Hid (Two w w3 #[.int .i64 (d.shape 0),.int .i64 (d.shape 1),.int .i64 (d.shape 2),.int .i64 (d.shape 3),.int .i64 (d.shape 4),.int .i64 (d.shape 5),.int .i64 (d.shape 6),.int .i64 (d.shape 7),.int .i64 (d.shape 8),.slice ao1 d.groups.1 cap1,.slice ao2 d.on.1 cap2,.slice ao3 d.tapes.1 cap3,.int .i64 d.writes,.int .i64 d.stop,.bool d.down] #[.int .i64 0,.slice none 0 0] 37 43):=HTq.out.call bb3;obtain ⟨a3,c3,hv3⟩:=O3.slice;subst hv3;have HO3:Hid (OwnT layIntsResult w3 wq.heap.size w3.heap.size ⟨0,freeOf d g l m⟩ [.int .i64 0,.slice a3 (freeOf d g l m).1 c3]):=fres_own O3 (Nat.le_refl _) (fun i => freeF_in _ _ _ _ _ _ hR6 i) 0 (by decide);clear O3 bb3 CF HTq hCt hLM
  go_wp2_with (refine wp_storeBox 43 _ _ rfl rfl (w.heap.size + 1) rfl (cs:=[.int .i64 0,.slice a3 (freeOf d g l m).1 c3]) (old:=[.int .i64 0,.slice none 0 0]) rfl (HT3.out.b2) size_IsF rfl rfl (HO3.out.one) ?_;intro w9 X9 C9 z9)
  refine ret_box Tryz.results12 rfl X9 Tryz.underlying43 size_IsF rfl rfl ?_;have zz:=C9.size;have O9:=(HO3.out.chgk C9 (fun b hb => by simp at hb;omega)).weaken (lo':=w.heap.size) (hi':=w9.heap.size) (by omega) zz;exact ⟨_,_,rfl,.inr (.inr ⟨HX.out,HIN.out,l,m,HL.out,HLM.out,rfl⟩),O9,HT3.out.bel.trans (C9.bel (fun b hb => by simp at hb;omega) HT3.out.bel.size)⟩
set_option maxHeartbeats 16000000 in
set_option maxRecDepth 20000 in
theorem specFr_any (d:WorldD) (g:Int) (cs:List Value) (hi:Nat) (w:World) (h:layWorld.rd w hi d cs) (hhi:hi ≤ w.heap.size) (hsz:szWorldD d ≤ 1048576) :
    Calls Tryz.prog 11 #[.agg cs.toArray,.int .i64 g] w (FrPost (FrAns d g) w):=by
  have h':=h;obtain ⟨ao1,cap1,ao2,cap2,ao3,cap3,rfl,g1,g2,g3,k0,k4,k5⟩:=World_rd h';have HRD:Hid (layWorld.rd w hi d [.int .i64 (d.shape 0),.int .i64 (d.shape 1),.int .i64 (d.shape 2),.int .i64 (d.shape 3),.int .i64 (d.shape 4),.int .i64 (d.shape 5),.int .i64 (d.shape 6),.int .i64 (d.shape 7),.int .i64 (d.shape 8),.slice ao1 d.groups.1 cap1,.slice ao2 d.on.1 cap2,.slice ao3 d.tapes.1 cap3,.int .i64 d.writes,.int .i64 d.stop,.bool d.down]):=h;have HG3:Hid ((layTape.slice 87).rd w hi d.tapes [.slice ao3 d.tapes.1 cap3]):=g3;have HSZ:Hid (szWorldD d ≤ 1048576):=hsz;clear h h' hsz g1 g2 g3 k0 k4 k5;have T0:=two_newb w #[.int .i64 (d.shape 0),.int .i64 (d.shape 1),.int .i64 (d.shape 2),.int .i64 (d.shape 3),.int .i64 (d.shape 4),.int .i64 (d.shape 5),.int .i64 (d.shape 6),.int .i64 (d.shape 7),.int .i64 (d.shape 8),.slice ao1 d.groups.1 cap1,.slice ao2 d.on.1 cap2,.slice ao3 d.tapes.1 cap3,.int .i64 d.writes,.int .i64 d.stop,.bool d.down] #[.int .i64 0,.slice none 0 0] 37 43
  go_enter Tryz.func11,Tryz.ntmps11
  go_wp2_with (refine wp_loadBox 37 (.tmp 2) rfl rfl (w.heap.size) rfl (cs:=[.int .i64 (d.shape 0),.int .i64 (d.shape 1),.int .i64 (d.shape 2),.int .i64 (d.shape 3),.int .i64 (d.shape 4),.int .i64 (d.shape 5),.int .i64 (d.shape 6),.int .i64 (d.shape 7),.int .i64 (d.shape 8),.slice ao1 d.groups.1 cap1,.slice ao2 d.on.1 cap2,.slice ao3 d.tapes.1 cap3,.int .i64 d.writes,.int .i64 d.stop,.bool d.down]) (T0.b1) Tryz.underlying37 size_W rfl ?_)
  refine (specWorld_any d _ hi _ (layWorld.rd_below HRD.out T0.bel hhi) (Nat.le_trans hhi T0.bel.size) (wld_ok_names HSZ.out)).mono ?_;rintro e w1 ⟨x,rfl,hx,b1⟩;have HT1:Hid (Two w w1 #[.int .i64 (d.shape 0),.int .i64 (d.shape 1),.int .i64 (d.shape 2),.int .i64 (d.shape 3),.int .i64 (d.shape 4),.int .i64 (d.shape 5),.int .i64 (d.shape 6),.int .i64 (d.shape 7),.int .i64 (d.shape 8),.slice ao1 d.groups.1 cap1,.slice ao2 d.on.1 cap2,.slice ao3 d.tapes.1 cap3,.int .i64 d.writes,.int .i64 d.stop,.bool d.down] #[.int .i64 0,.slice none 0 0] 37 43):=T0.call b1;have HX:Hid (WldAns d x):=hx;have z1:w.heap.size + 1 < w1.heap.size:=HT1.out.b2.lt;clear b1 T0 hx
  by_cases hx0:x = 0
  case neg =>
    have hne:(x != 0) = true:=by simp [hx0]
    go_wp2_with (refine wp_storeBox 43 _ _ rfl rfl (w.heap.size + 1) rfl (cs:=[.int .i64 x,.slice none 0 0]) (old:=[.int .i64 0,.slice none 0 0]) rfl (HT1.out.b2) size_IsF rfl rfl ((fcode_own w1 x (wld_small HX.out) 0 0 (Nat.zero_le _)).one) ?_;intro w9 X9 C9 z9)
    refine ret_box Tryz.results11 rfl X9 Tryz.underlying43 size_IsF rfl rfl ?_;have zz:=C9.size;exact ⟨⟨x,(0,fun _ => 0)⟩,[.int .i64 x,.slice none 0 0],rfl,.inl ⟨x,hx0,HX.out,rfl⟩,fcode_own w9 x (wld_small HX.out) _ _ (Nat.le_refl _),HT1.out.bel.trans (C9.bel (fun b hb => by simp at hb;omega) HT1.out.bel.size)⟩
  subst hx0;have HOK:Hid (OkWorld d):=WldAns.ok HX.out;have h2:d.tapes.1 = 2:=HOK.out.form.2.2;have hn0:(d.tapes.2 0).recs.1 ≤ 400000:=Nat.le_trans (HOK.out.few 0 (by omega)) (by decide);have hn1:(d.tapes.2 1).recs.1 ≤ 400000:=Nat.le_trans (HOK.out.few 1 (by omega)) (by decide);obtain ⟨b,hb⟩:=exB (InP g 0 (d.shape 0 - 1));have HBB:Hid (b = true ↔ InP g 0 (d.shape 0 - 1)):=hb;have C1:=fun w' => l1In_b (w:=w') hb
  have zw:IntKind.i64.wrap (d.shape 0 - 1) = d.shape 0 - 1:=by have:=okB HOK.out.shape;rw [IntKind.wrap_i64];omega
  have x_0:w1.cell? ⟨w.heap.size,0,none⟩ = some (.int .i64 (d.shape 0)):=HT1.out.b1.cell 0;have x_1:w1.cell? ⟨w.heap.size,1,none⟩ = some (.int .i64 (d.shape 1)):=HT1.out.b1.cell 1;have x_2:w1.cell? ⟨w.heap.size,2,none⟩ = some (.int .i64 (d.shape 2)):=HT1.out.b1.cell 2;have x_3:w1.cell? ⟨w.heap.size,3,none⟩ = some (.int .i64 (d.shape 3)):=HT1.out.b1.cell 3;have x_4:w1.cell? ⟨w.heap.size,4,none⟩ = some (.int .i64 (d.shape 4)):=HT1.out.b1.cell 4;have x_5:w1.cell? ⟨w.heap.size,5,none⟩ = some (.int .i64 (d.shape 5)):=HT1.out.b1.cell 5;have x_6:w1.cell? ⟨w.heap.size,6,none⟩ = some (.int .i64 (d.shape 6)):=HT1.out.b1.cell 6;have x_7:w1.cell? ⟨w.heap.size,7,none⟩ = some (.int .i64 (d.shape 7)):=HT1.out.b1.cell 7;have x_8:w1.cell? ⟨w.heap.size,8,none⟩ = some (.int .i64 (d.shape 8)):=HT1.out.b1.cell 8;clear hb
  go_wp2_with fail
  refine (C1 _).mono ?_;rintro e w' ⟨rfl,hw'⟩;obtain rfl:=hw'.symm;obtain ⟨wq,hwq⟩:∃ y,y = w1:=⟨_,rfl⟩;rw [← hwq] at HT1 z1 ⊢;have HTq:Hid (Two w wq #[.int .i64 (d.shape 0),.int .i64 (d.shape 1),.int .i64 (d.shape 2),.int .i64 (d.shape 3),.int .i64 (d.shape 4),.int .i64 (d.shape 5),.int .i64 (d.shape 6),.int .i64 (d.shape 7),.int .i64 (d.shape 8),.slice ao1 d.groups.1 cap1,.slice ao2 d.on.1 cap2,.slice ao3 d.tapes.1 cap3,.int .i64 d.writes,.int .i64 d.stop,.bool d.down] #[.int .i64 0,.slice none 0 0] 37 43):=HT1;clear C1 zw HT1 hwq x_0 x_1 x_2 x_3 x_4 x_5 x_6 x_7 x_8
  cases b with
  | false =>
    have HNT:Hid (¬ InP g 0 (d.shape 0 - 1)):=fun h => absurd (HBB.out.2 h) (by simp)
    go_wp2_with (refine wp_storeBox 43 _ _ rfl rfl (w.heap.size + 1) rfl (cs:=[.int .i64 3,.slice none 0 0]) (old:=[.int .i64 0,.slice none 0 0]) rfl (HTq.out.b2) size_IsF rfl rfl ((fcode_own wq 3 (by decide) 0 0 (Nat.zero_le _)).one) ?_;intro w9 X9 C9 z9)
    refine ret_box Tryz.results11 rfl X9 Tryz.underlying43 size_IsF rfl rfl ?_;have zz:=C9.size;exact ⟨⟨3,(0,fun _ => 0)⟩,[.int .i64 3,.slice none 0 0],rfl,.inr (.inl ⟨HX.out,HNT.out,rfl⟩),fcode_own w9 3 (by decide) _ _ (Nat.le_refl _),HTq.out.bel.trans (C9.bel (fun b hb => by simp at hb;omega) HTq.out.bel.size)⟩
  | true =>
  have hIn:InP g 0 (d.shape 0 - 1):=HBB.out.1 (by simp);have HIN:Hid (InP g 0 (d.shape 0 - 1)):=hIn
  have hR6:(d.shape 4).toNat ≤ 100:=by have:=okB HOK.out.shape;omega
  have bD:Below wq.heap.size wq wq.drew:=⟨rfl,rfl,rfl,Nat.le_refl _,fun _ _ => rfl⟩;have HTD:Hid (Two w wq.drew #[.int .i64 (d.shape 0),.int .i64 (d.shape 1),.int .i64 (d.shape 2),.int .i64 (d.shape 3),.int .i64 (d.shape 4),.int .i64 (d.shape 5),.int .i64 (d.shape 6),.int .i64 (d.shape 7),.int .i64 (d.shape 8),.slice ao1 d.groups.1 cap1,.slice ao2 d.on.1 cap2,.slice ao3 d.tapes.1 cap3,.int .i64 d.writes,.int .i64 d.stop,.bool d.down] #[.int .i64 0,.slice none 0 0] 37 43):=HTq.out.call bD;have CC0:=l6Counted_any d [.int .i64 (d.shape 0),.int .i64 (d.shape 1),.int .i64 (d.shape 2),.int .i64 (d.shape 3),.int .i64 (d.shape 4),.int .i64 (d.shape 5),.int .i64 (d.shape 6),.int .i64 (d.shape 7),.int .i64 (d.shape 8),.slice ao1 d.groups.1 cap1,.slice ao2 d.on.1 cap2,.slice ao3 d.tapes.1 cap3,.int .i64 d.writes,.int .i64 d.stop,.bool d.down] hi w.heap.size wq.drew (layWorld.rd_below HRD.out HTD.out.bel hhi) (Nat.le_trans hhi HTD.out.bel.size) HTD.out.b1 h2 hn0 hn1;have CC:=calls_appF CC0;have zD:wq.drew.heap.size = wq.heap.size:=rfl;obtain ⟨cS,hcS⟩:∃ c:List Value,c = [.int .i64 (d.shape 0),.int .i64 (d.shape 1),.int .i64 (d.shape 2),.int .i64 (d.shape 3),.int .i64 (d.shape 4),.int .i64 (d.shape 5),.int .i64 (d.shape 6),.int .i64 (d.shape 7),.int .i64 (d.shape 8)]:=⟨_,rfl⟩;have HCS:Hid (cS = [.int .i64 (d.shape 0),.int .i64 (d.shape 1),.int .i64 (d.shape 2),.int .i64 (d.shape 3),.int .i64 (d.shape 4),.int .i64 (d.shape 5),.int .i64 (d.shape 6),.int .i64 (d.shape 7),.int .i64 (d.shape 8)]):=hcS
  have hlS:cS.length = 9:=by rw [hcS];rfl
  have rng:∀ W,Box W w.heap.size #[.int .i64 (d.shape 0),.int .i64 (d.shape 1),.int .i64 (d.shape 2),.int .i64 (d.shape 3),.int .i64 (d.shape 4),.int .i64 (d.shape 5),.int .i64 (d.shape 6),.int .i64 (d.shape 7),.int .i64 (d.shape 8),.slice ao1 d.groups.1 cap1,.slice ao2 d.on.1 cap2,.slice ao3 d.tapes.1 cap3,.int .i64 d.writes,.int .i64 d.stop,.bool d.down] 37 → W.rangeAt w.heap.size 0 cS:=fun W hW j v hv => by
    rw [hcS] at hv;rw [Nat.zero_add];have hj:j < 9:=(List.getElem?_eq_some_iff.1 hv).1;refine (hW.cell j).trans ?_;rw [← hv]
    match j,hj with
    | 0,_ => rfl
    | 1,_ => rfl
    | 2,_ => rfl
    | 3,_ => rfl
    | 4,_ => rfl
    | 5,_ => rfl
    | 6,_ => rfl
    | 7,_ => rfl
    | 8,_ => rfl
  have HRNG:Hid (∀ W,Box W w.heap.size #[.int .i64 (d.shape 0),.int .i64 (d.shape 1),.int .i64 (d.shape 2),.int .i64 (d.shape 3),.int .i64 (d.shape 4),.int .i64 (d.shape 5),.int .i64 (d.shape 6),.int .i64 (d.shape 7),.int .i64 (d.shape 8),.slice ao1 d.groups.1 cap1,.slice ao2 d.on.1 cap2,.slice ao3 d.tapes.1 cap3,.int .i64 d.writes,.int .i64 d.stop,.bool d.down] 37 → W.rangeAt w.heap.size 0 cS):=rng;have rS:=rng _ HTD.out.b1;clear hcS rng CC0
  go_upto_region 6 with fail
  refine wp_region_M 4 (fun w' => w'.rangeAt w.heap.size 0 cS) mixedF rS (fun hHeld => ?_);refine wpAnyM_pure (i:=0) (oi:=_) (v:=?_) rfl (by kernel_rfl) (fun _ _ _ h => h) (Or.inl ⟨by kernel_rfl,?_⟩) (by assumption) ?_
  rotate_left
  · intro w' hSw;go_simp;try with_reducible rfl
  try simp only [Act.put,SL]
  refine wpAnyM_take (i:=1) (oi:=_) (v:=.agg cS.toArray) 16 rfl (by kernel_rfl) (fun _ _ _ h => h) (yieldsIf_load_mid (by kernel_rfl) 33 (.tmp 20) rfl w.heap.size (0) (by simp [Act.eval,Act.put]) cS _ (fun w h => h) Tryz.underlying33 rfl (info_S9F hlS)) (by assumption) ?_
  try simp only [Act.put,SL]
  refine wpAnyM_pure (i:=3) (oi:=_) (v:=?_) rfl (by kernel_rfl) (fun _ _ _ h => h) (Or.inl ⟨by kernel_rfl,?_⟩) (by assumption) ?_
  rotate_left
  · intro w' hSw;go_simp;try with_reducible rfl
  try simp only [Act.put,SL]
  refine wpAnyM_oneS (i:=2) (o:=_) rfl (by kernel_rfl) (fun KC hKC => ?_);refine step_callv (by kernel_rfl) (.func 22) 22 #[] _ _ rfl (by simp [Act.eval,Act.put]) #[.pointer (some ⟨w.heap.size,0,none⟩)] (by simp [Act.eval,Act.put]) Tryz.func22 (by kernel_rfl) (by kernel_rfl) CC ?_;rintro e w2 ⟨v2,l,ce,lo2,rfl,hCt,hlo2,V,b2⟩;refine ⟨_,rfl,?_⟩;have HT2:Hid (Two w w2 #[.int .i64 (d.shape 0),.int .i64 (d.shape 1),.int .i64 (d.shape 2),.int .i64 (d.shape 3),.int .i64 (d.shape 4),.int .i64 (d.shape 5),.int .i64 (d.shape 6),.int .i64 (d.shape 7),.int .i64 (d.shape 8),.slice ao1 d.groups.1 cap1,.slice ao2 d.on.1 cap2,.slice ao3 d.tapes.1 cap3,.int .i64 d.writes,.int .i64 d.stop,.bool d.down] #[.int .i64 0,.slice none 0 0] 37 43):=HTD.out.call b2;refine hKC _ _ (HRNG.out _ HT2.out.b1) ?_;clear hKC KC
  try simp only [Act.put,SL]
  have HL:Hid (Cnt (recT d.tapes.2 2) (lenT d.tapes.2 2) l):=hCt;have z2:wq.heap.size ≤ w2.heap.size:=b2.size
  have hlen:l.length ≤ 800000:=by
    have h1:=(hCt.sum (fun _ => 0)).2
    have e2:lenT d.tapes.2 2 = (d.tapes.2 0).recs.1 + (d.tapes.2 1).recs.1:=by simp [lenT]
    omega
  have hh2:hi ≤ w2.heap.size:=by omega
  have CU0:=l6Free_any d.shape HOK.out.shape v2 l.length (fun i => recT d.tapes.2 2 (l.getD i 0)) g w2.heap.size w2 (V.rd hh2) (Nat.le_refl _) hlen (l_items HOK.out hCt);rw [show shapeV d.shape = .agg cS.toArray by rw [HCS.out];rfl] at CU0;have CU:=calls_appF CU0;clear CU0 V b2 CC rS hCt;refine wpAnyM_one (i:=4) (o:=_) rfl (by kernel_rfl) (by kernel_rfl) (fun KC hKC => ?_);refine step_callv (by kernel_rfl) (.func 35) 35 #[] _ _ rfl (by simp [Act.eval,Act.put]) #[.agg cS.toArray,v2,.int .i64 g] (by simp [Act.eval,Act.put]) Tryz.func35 (by kernel_rfl) (by kernel_rfl) CU ?_;rintro e w3 ⟨m,v3,rfl,hLM,O3,b3⟩;refine ⟨_,rfl,?_⟩;refine hKC _ _ ?_;clear hKC KC
  try simp only [Act.put,SL]
  have HLM:Hid (Live (fun i => recT d.tapes.2 2 (l.getD i 0)) l.length m):=hLM;have HT3:Hid (Two w w3 #[.int .i64 (d.shape 0),.int .i64 (d.shape 1),.int .i64 (d.shape 2),.int .i64 (d.shape 3),.int .i64 (d.shape 4),.int .i64 (d.shape 5),.int .i64 (d.shape 6),.int .i64 (d.shape 7),.int .i64 (d.shape 8),.slice ao1 d.groups.1 cap1,.slice ao2 d.on.1 cap2,.slice ao3 d.tapes.1 cap3,.int .i64 d.writes,.int .i64 d.stop,.bool d.down] #[.int .i64 0,.slice none 0 0] 37 43):=HT2.out.call b3;have O3':OwnI w3 wq.heap.size w3.heap.size v3 (freeOf d g l m).1 (freeOf d g l m).2:=O3.weaken z2 (Nat.le_refl _);clear O3;have O3:=O3';obtain ⟨a3,c3,hv3⟩:=O3.slice;subst hv3;have HO3:Hid (OwnT layIntsResult w3 wq.heap.size w3.heap.size ⟨0,freeOf d g l m⟩ [.int .i64 0,.slice a3 (freeOf d g l m).1 c3]):=fres_own O3 (Nat.le_refl _) (fun i => freeF_in _ _ _ _ _ _ hR6 i) 0 (by decide);clear O3 O3' b3 CU HT2 hLM;refine wpAnyM_pureL (i:=5) (oi:=_) (v:=?_) rfl (by kernel_rfl) (fun _ _ _ h => h) (Or.inl ⟨by kernel_rfl,?_⟩) ?_
  rotate_left
  · intro w' hSw;go_simp;try with_reducible rfl
  try simp only [Act.put,SL]
  refine wpAnyM_one (i:=6) (o:=_) rfl (by kernel_rfl) (by kernel_rfl) (fun KC hKC => ?_);refine step_storeBoxI 43 _ _ rfl rfl (w.heap.size + 1) (by simp [Act.eval,Act.put]) (cs:=[.int .i64 0,.slice a3 (freeOf d g l m).1 c3]) (old:=[.int .i64 0,.slice none 0 0]) (by simp [Act.eval,Act.put]) (HT3.out.b2) size_IsF rfl rfl (HO3.out.one) ?_;intro w9 X9 C9 z9;refine hKC _ _ ?_;clear hKC KC
  try simp only [Act.put,SL]
  refine wpAnyM_done (by kernel_rfl) ?_ _;go_wp2;refine ret_box Tryz.results11 rfl X9 Tryz.underlying43 size_IsF rfl rfl ?_;have zz:=C9.size;have O9:=(HO3.out.chgk C9 (fun b hb => by simp at hb;omega)).weaken (lo':=w.heap.size) (hi':=w9.heap.size) (by omega) zz;exact ⟨_,_,rfl,.inr (.inr ⟨HX.out,HIN.out,l,m,HL.out,HLM.out,rfl⟩),O9,HT3.out.bel.trans (C9.bel (fun b hb => by simp at hb;omega) HT3.out.bel.size)⟩
end Go.Proofs.YtfoidpcoiankoaaGreat
namespace Go.Proofs.YtfoidpcoiankoaaGreat
open Go.RowKit
section
variable {ops:Array Oper} {Q:Exit → Act → World → Prop} {md:Region.Mode} {S:World → Prop} {L:Nat}
theorem load_yield {o:Oper} {a:Act} (T:TypeId) (x:Operand) (ho:o.op = .load T x) (hg:o.guard = none) (b:Nat) (hx:a.eval x = .pointer (some ⟨b,0,none⟩)) {cs:List Value} (hB:∀ w,S w → Box w b cs.toArray T) {fs:Array Field} (hu:Tryz.prog.underlying T = some (.struct fs)) {n:Nat} (hi:(Tryz.prog.info? T).map (·.size) = some n) (hl:cs.length = n):YieldsIf Tryz.prog ops S o (.agg cs.toArray) a:=by
  refine .inl ⟨by simp [Region.wanted,hg],fun w hS => ?_⟩;unfold execOp
  simp only [ho,hx,Instr.loadAt,Instr.sureAddr,Sem.run_bind,Sem.run_pure,Result.andThen_ok,run_loadVar_row w b T T cs.toArray (0,0) (.struct fs) (hB w hS) hu rfl (by rw [hi];simp [hl])]
end
theorem below_drew (w:World):Below w.heap.size w w.drew:=⟨rfl,rfl,rfl,Nat.le_refl _,fun _ _ => rfl⟩
end Go.Proofs.YtfoidpcoiankoaaGreat
namespace Go.Proofs.YtfoidpcoiankoaaGreat
open Go.RowKit F256
set_option maxHeartbeats 8000000 in
set_option maxRecDepth 20000 in
theorem eqIntsResult_is:EqV layIntsResult 13:=fun c1 c2 d h1 h2 w r1 r2 u1 u2 => by
  obtain ⟨ao1,cap1,rfl,g1,-⟩:=IntsResult_rd r1;obtain ⟨bao1,bcap1,rfl,q1,-⟩:=IntsResult_rd r2;clear r1 r2;have G1:Hid (layInts.rd w h1 d.list [.slice ao1 d.list.1 cap1]):=g1;have E1:Hid (layInts.rd w h2 d.list [.slice bao1 d.list.1 bcap1]):=q1;clear g1 q1
  go_enter Tryz.func13,Tryz.ntmps13
  go_wp2_with fail
  have T0:=two_newb w #[.int .i64 d.code,.slice ao1 d.list.1 cap1] #[.int .i64 d.code,.slice bao1 d.list.1 bcap1] 43 43;refine (eqInts_is _ _ d.list h1 h2 _ (layInts.rd_below G1.out T0.bel u1) (layInts.rd_below E1.out T0.bel u2) (Nat.le_trans u1 T0.bel.size) (Nat.le_trans u2 T0.bel.size)).mono ?_;rintro e w1 ⟨rfl,b1⟩;have T1:Two w w1 #[.int .i64 d.code,.slice ao1 d.list.1 cap1] #[.int .i64 d.code,.slice bao1 d.list.1 bcap1] 43 43:=T0.call b1;clear T0 b1;have B:Hid (Below w.heap.size w w1):=T1.bel;clear T1;go_wp2;go_ret;exact ⟨rfl,B.out⟩
end Go.Proofs.YtfoidpcoiankoaaGreat
namespace Go.Proofs.YtfoidpcoiankoaaGreat
open Go.RowKit F256
set_option maxHeartbeats 4000000 in
theorem markIntsResult_is:MkV layIntsResult cvIntsResultD mkvIntsResultD 15:=fun cs d L j w h nd hj => by
  obtain ⟨ao1,cap1,K1,rfl,hLL,o1,k0⟩:=IntsResult_own h;clear h;have hLM:=hLL.symm;subst hLM;unfold cvIntsResultD at hj ⊢;have Z1:=layInts.own_lt o1;have bz:Below w.heap.size w (w.alloc (.cells #[.int .i64 d.code,.slice ao1 d.list.1 cap1] 43)):=(Below.refl _ _).alloc (Nat.le_refl _) _;have B0:Hid (Box (w.alloc (.cells #[.int .i64 d.code,.slice ao1 d.list.1 cap1] 43)) w.heap.size #[.int .i64 d.code,.slice ao1 d.list.1 cap1] 43):=box_new _ _ _;have CH0:Hid (ChgL (K1) w (w.alloc (.cells #[.int .i64 d.code,.slice ao1 d.list.1 cap1] 43))):=ChgL.of_below bz;have O0_1:Hid (layInts.own (w.alloc (.cells #[.int .i64 d.code,.slice ao1 d.list.1 cap1] 43)) d.list [.slice ao1 d.list.1 cap1] K1):=layInts.own_kept o1 (fun b hb => bz.block b (Z1 b hb));clear bz o1
  go_enter Tryz.func15,Tryz.ntmps15
  go_wp2_with fail
  refine (markInts_is _ d.list K1 (j) _ O0_1.out nd (by omega)).mono ?_;rintro e w1 ⟨rfl,p1,q1⟩;have O1_1:Hid (layInts.own w1 (mkInts (j) d.list) [.slice ao1 d.list.1 cap1] K1):=p1;have B1:Hid (Box w1 w.heap.size #[.int .i64 d.code,.slice ao1 d.list.1 cap1] 43):=(q1.block w.heap.size B0.out.lt (fun hb => by have:=Z1 _ hb;omega)).trans B0.out;have CH1:Hid (ChgL (K1) w w1):=CH0.out.sub q1 (fun b hb => hb);clear p1 q1;go_wp2;go_ret;exact ⟨ret_eq (by omega),IntsResult_mk (mkvIntsResultD j d) O1_1.out k0,CH1.out⟩
end Go.Proofs.YtfoidpcoiankoaaGreat
namespace Go.Proofs.YtfoidpcoiankoaaGreat
open Go.RowKit F256
set_option maxHeartbeats 4000000 in
theorem heldIntsResult_is:HdV layIntsResult cvIntsResultD mkvIntsResultD 16:=fun cs d hi j w h hhi hj => by
  obtain ⟨ao1,cap1,rfl,r1,-⟩:=IntsResult_rd h;clear h;unfold cvIntsResultD at hj ⊢;have R1:Hid (layInts.rd w hi (mkInts (j) d.list) [.slice ao1 d.list.1 cap1]):=r1;clear r1
  change Calls Tryz.prog 16 #[.agg #[.int .i64 d.code,.slice ao1 d.list.1 cap1],.int .i64 j] w _
  go_enter Tryz.func16,Tryz.ntmps16
  go_wp2_with fail
  have T0:=one_new w #[.int .i64 d.code,.slice ao1 d.list.1 cap1] 43;refine (heldInts_is _ d.list hi (j) _ (layInts.rd_below R1.out T0.bel hhi) (Nat.le_trans hhi T0.bel.size) (by omega)).mono ?_;rintro e w1 ⟨rfl,b1⟩;have T1:One w w1 #[.int .i64 d.code,.slice ao1 d.list.1 cap1] 43:=T0.call b1
  have hz1:¬ (((j + lenD d.list:Nat):Int) < 0):=by omega
  have HB:Hid (Below w.heap.size w w1):=T1.bel;clear b1 T1;go_wp2;go_ret;exact ⟨ret_eq (by omega),HB.out⟩
end Go.Proofs.YtfoidpcoiankoaaGreat
namespace Go.Proofs.YtfoidpcoiankoaaGreat
open Go.ChangeShapes Go.WideShapes Go.ChangeAt Go.RowKit F256
theorem res2_IntsResult {w:World} {hi:Nat} {d:IntsResultD} {cs:List Value} (h:layIntsResult.rd w hi d cs):∃ v0 vp vl vq,cs = [.int .i64 v0,.slice vp vl vq]:=by
  obtain ⟨p1,pc1,rfl,-⟩:=IntsResult_rd h;exact ⟨_,_,_,_,rfl⟩
theorem info_IntsResult:(Tryz.prog.info? 43).map (fun i => (i.zero.map (·.cells),i.size)) = some (some #[.int .i64 0,.slice none 0 0],2):=by kernel_rfl
theorem frr_ex (d:WorldD) (g:Int):∃ q,FrAns d g q:=by
  obtain ⟨x,hx⟩:=world_ex d
  by_cases h:x = 0
  · subst h
    by_cases ht:InP g 0 (d.shape 0 - 1)
    · obtain ⟨l,hl⟩:=cnt_ex (recT d.tapes.2 2) (lenT d.tapes.2 2)
      obtain ⟨m,hm⟩:=live_ex (fun i => recT d.tapes.2 2 (l.getD i 0)) l.length;exact ⟨_,.inr (.inr ⟨hx,ht,l,m,hl,hm,rfl⟩)⟩
    · exact ⟨_,.inr (.inl ⟨hx,ht,rfl⟩)⟩
  · exact ⟨_,.inl ⟨x,h,hx,rfl⟩⟩
theorem frr_cv {d:WorldD} {g:Int} {q:IntsResultD} (hq:FrAns d g q) (hsz:szWorldD d ≤ 1048576):cvIntsResultD q ≤ 90000000:=by
  rcases hq with ⟨x,_,_,rfl⟩ | ⟨_,_,rfl⟩ | ⟨h0,_,l,m,_,_,rfl⟩
  · exact Nat.zero_le _
  · exact Nat.zero_le _
  · have h1:=pick_le (freeB d.shape (fun i => recT d.tapes.2 2 (l.getD i 0)) l.length m g) (d.shape 4).toNat
    have h2:=okB (WldAns.ok h0).shape
    show (pickI (freeB d.shape (fun i => recT d.tapes.2 2 (l.getD i 0)) l.length m g) (d.shape 4).toNat).length ≤ _
    omega
theorem frr_det {d:WorldD} {g:Int} {q:IntsResultD} {w:World} {f:Nat} {args:Array Value} (hq:FrAns d g q) (h:Calls Tryz.prog f args w (FrPost (FrAns d g) w)):Calls Tryz.prog f args w fun e w' => ∃ cs,e = .returned (.agg cs.toArray) ∧ OwnT layIntsResult w' w.heap.size w'.heap.size q cs ∧ Below w.heap.size w w' :=
  h.mono fun e w' ⟨d',cs,h1,h2,h3,h4⟩ => ⟨cs,h1,by rw [hq.one h2];exact h3,h4⟩
theorem size_IR:(Tryz.prog.info? 43).map (·.size) = some 2:=by kernel_rfl
set_option maxHeartbeats 16000000 in
set_option maxRecDepth 20000 in
theorem fnExactFreeRows_walk (d:WorldD) (cs:List Value) (i0:Int) (w:World) (rd0:layWorld.rd w w.heap.size d cs) (hi0:-9223372036854775808 ≤ i0 ∧ i0 ≤ 9223372036854775807) :
    Calls Tryz.prog 4 #[.agg cs.toArray,.int .i64 i0] w fun e w' => e = .returned (.bool true) ∧ Below w.heap.size w w':=by
  obtain ⟨v0,v1,v2,v3,v4,v5,v6,v7,v8,vp0,vl0,vq0,vp1,vl1,vq1,vp2,vl2,vq2,v9,v10,vb,rfl⟩:=world15 rd0;have HR:Hid (layWorld.rd w w.heap.size d [.int .i64 v0,.int .i64 v1,.int .i64 v2,.int .i64 v3,.int .i64 v4,.int .i64 v5,.int .i64 v6,.int .i64 v7,.int .i64 v8,.slice vp0 vl0 vq0,.slice vp1 vl1 vq1,.slice vp2 vl2 vq2,.int .i64 v9,.int .i64 v10,.bool vb]):=rd0
  skip
  clear rd0 hi0;have T0:=one_new w #[.int .i64 v0,.int .i64 v1,.int .i64 v2,.int .i64 v3,.int .i64 v4,.int .i64 v5,.int .i64 v6,.int .i64 v7,.int .i64 v8,.slice vp0 vl0 vq0,.slice vp1 vl1 vq1,.slice vp2 vl2 vq2,.int .i64 v9,.int .i64 v10,.bool vb] 28
  go_enter Tryz.func4,Tryz.ntmps4
  go_wp2_with (refine wp_loadBox 28 (.tmp 2) rfl rfl (w.heap.size) rfl (cs:=[.int .i64 v0,.int .i64 v1,.int .i64 v2,.int .i64 v3,.int .i64 v4,.int .i64 v5,.int .i64 v6,.int .i64 v7,.int .i64 v8,.slice vp0 vl0 vq0,.slice vp1 vl1 vq1,.slice vp2 vl2 vq2,.int .i64 v9,.int .i64 v10,.bool vb]) T0.b1 Tryz.underlying28 size_LW rfl ?_)
  refine (szWorld_is _ d w.heap.size 1048576 _ (layWorld.rd_below HR.out T0.bel (Nat.le_refl _)) T0.bel.size (by omega)).mono ?_;rintro e w1 ⟨x,rfl,hx,b1⟩;have T1:=T0.call b1;have HT1:Hid (One w w1 #[.int .i64 v0,.int .i64 v1,.int .i64 v2,.int .i64 v3,.int .i64 v4,.int .i64 v5,.int .i64 v6,.int .i64 v7,.int .i64 v8,.slice vp0 vl0 vq0,.slice vp1 vl1 vq1,.slice vp2 vl2 vq2,.int .i64 v9,.int .i64 v10,.bool vb] 28):=T1;clear b1 T0
  rcases hx with rfl | ⟨hsz,hx⟩
  · clear T1
    go_wp2;go_ret;exact ⟨rfl,HT1.out.bel⟩
  have hx0:¬ x < 0:=by omega
  clear hx;obtain ⟨q,hq⟩:=frr_ex d i0;obtain ⟨N,hN⟩:∃ N,N = 1 + cvIntsResultD q:=⟨_,rfl⟩
  have hj:1 + cvIntsResultD q ≤ 100000000:=by have:=frr_cv hq hsz;omega
  obtain ⟨M,hM⟩:∃ M,M = 1 + cvWorldD d:=⟨_,rfl⟩
  have hk:1 + cvWorldD d ≤ 100000000:=by have:=cvWorld_le d;omega
  have CT:∀ w',Below w1.heap.size w1 w' → Calls Tryz.prog 7 #[.agg #[.int .i64 v0,.int .i64 v1,.int .i64 v2,.int .i64 v3,.int .i64 v4,.int .i64 v5,.int .i64 v6,.int .i64 v7,.int .i64 v8,.slice vp0 vl0 vq0,.slice vp1 vl1 vq1,.slice vp2 vl2 vq2,.int .i64 v9,.int .i64 v10,.bool vb]] w' fun e w'' => ∃ cs',e = .returned (.agg cs'.toArray) ∧ OwnT layWorld w'' w'.heap.size w''.heap.size d cs' ∧ Below w'.heap.size w' w'':=fun w' hb =>
    toWorld_is _ d w.heap.size w' (layWorld.rd_below (layWorld.rd_below HR.out HT1.out.bel (Nat.le_refl _)) hb HT1.out.bel.size) (Nat.le_trans HT1.out.bel.size hb.size) hsz
  have CS:=fun (cs':List Value) (hi:Nat) (w':World) (h1:layWorld.rd w' hi d cs') (h2:hi ≤ w'.heap.size) => frr_det hq (specFr_any d i0 cs' hi w' h1 h2 hsz);have CI:=fun (cs':List Value) (hi:Nat) (w':World) (h1:layWorld.rd w' hi d cs') (h2:hi ≤ w'.heap.size) => frr_det hq (implFr_any d i0 cs' hi w' h1 h2 hsz);have CE:=fun c1 c2 h1 h2 w' => eqIntsResult_is c1 c2 q h1 h2 w';have CW:=fun c1 c2 h1 h2 w' => eqWorld_is c1 c2 d h1 h2 w';have CM:=fun {w':World} {lo hi:Nat} {cs:List Value} (h:OwnT layIntsResult w' lo hi q cs) => mark_T markIntsResult_is h 1 hj;have CK:=fun {w':World} {lo hi:Nat} {cs:List Value} (h:OwnT layWorld w' lo hi d cs) => mark_T markWorld_is h 1 hk;have CH:=fun (cs:List Value) (hi:Nat) (w':World) (h:layIntsResult.rd w' hi (mkvIntsResultD 1 q) cs) (hh:hi ≤ w'.heap.size) => heldIntsResult_is cs q hi 1 w' h hh hj;rw [← hN] at CM CH;rw [← hM] at CK;clear hN hM hj hk hq hsz
  go_wp2_with (refine wp_loadBox 28 (.tmp 2) rfl rfl (w.heap.size) rfl (cs:=[.int .i64 v0,.int .i64 v1,.int .i64 v2,.int .i64 v3,.int .i64 v4,.int .i64 v5,.int .i64 v6,.int .i64 v7,.int .i64 v8,.slice vp0 vl0 vq0,.slice vp1 vl1 vq1,.slice vp2 vl2 vq2,.int .i64 v9,.int .i64 v10,.bool vb]) T1.b1 Tryz.underlying28 size_LW rfl ?_)
  refine (CT _ (Below.refl _ _)).mono ?_;rintro e w2 ⟨c2,rfl,o2,b2⟩;have z1:w.heap.size < w1.heap.size:=T1.b1.lt;clear T1
  go_wp2_with fail
  refine (CS _ _ _ o2.rd (Nat.le_refl _)).mono ?_;rintro e w3 ⟨cS,rfl,oS,b3⟩;obtain ⟨s0,sp,sl,sq,rfl⟩:=res2_IntsResult oS.rd;have z2:w1.heap.size ≤ w2.heap.size:=b2.size;have z3:w2.heap.size ≤ w3.heap.size:=b3.size;have B3:Below w1.heap.size w1 w3:=b2.trans (b3.mono b2.size);clear o2 b2 b3
  go_upto_region 6 with (refine wp_allocStore 43 6 (.tmp 21) [.int .i64 s0,.slice sp sl sq] _ 2 rfl rfl rfl rfl rfl rfl rfl rfl info_IntsResult rfl rfl oS.one ?_)
  have bA:Below w3.heap.size w3 (w3.alloc (.cells #[.int .i64 s0,.slice sp sl sq] 43)):=(Below.refl _ _).alloc (Nat.le_refl _) _;have S4:Box (w3.alloc (.cells #[.int .i64 s0,.slice sp sl sq] 43)) w3.heap.size #[.int .i64 s0,.slice sp sl sq] 43:=box_new _ _ _;obtain ⟨W4,hW4⟩:∃ x,x = w3.alloc (.cells #[.int .i64 s0,.slice sp sl sq] 43):=⟨_,rfl⟩;rw [← hW4] at bA S4 ⊢;have B4:=B3.trans (bA.mono (by omega));have P4:=HT1.out.call B4;have OS4:=oS.call bA;have z4:w3.heap.size < W4.heap.size:=S4.lt;clear bA hW4 oS B3
  go_wp2_with (refine wp_loadBox 28 (.tmp 2) rfl rfl (w.heap.size) rfl (cs:=[.int .i64 v0,.int .i64 v1,.int .i64 v2,.int .i64 v3,.int .i64 v4,.int .i64 v5,.int .i64 v6,.int .i64 v7,.int .i64 v8,.slice vp0 vl0 vq0,.slice vp1 vl1 vq1,.slice vp2 vl2 vq2,.int .i64 v9,.int .i64 v10,.bool vb]) P4.b1 Tryz.underlying28 size_LW rfl ?_)
  refine (CT _ B4).mono ?_;rintro e w5 ⟨cX,rfl,oX,b5⟩;obtain ⟨x0,x1,x2,x3,x4,x5,x6,x7,x8,xp0,xl0,xq0,xp1,xl1,xq1,xp2,xl2,xq2,x9,x10,xb,rfl⟩:=world15O oX;have z5:W4.heap.size ≤ w5.heap.size:=b5.size;have B5:=B4.trans (b5.mono (by omega));have S5:=S4.call b5;have OS5:=OS4.call b5;clear P4 b5 B4 S4 OS4
  go_upto_region 7 with (refine wp_allocStore 37 7 (.tmp 23) [.int .i64 x0,.int .i64 x1,.int .i64 x2,.int .i64 x3,.int .i64 x4,.int .i64 x5,.int .i64 x6,.int .i64 x7,.int .i64 x8,.slice xp0 xl0 xq0,.slice xp1 xl1 xq1,.slice xp2 xl2 xq2,.int .i64 x9,.int .i64 x10,.bool xb] _ 15 rfl rfl rfl rfl rfl rfl rfl rfl info_W rfl rfl oX.one ?_)
  have bA:Below w5.heap.size w5 (w5.alloc (.cells #[.int .i64 x0,.int .i64 x1,.int .i64 x2,.int .i64 x3,.int .i64 x4,.int .i64 x5,.int .i64 x6,.int .i64 x7,.int .i64 x8,.slice xp0 xl0 xq0,.slice xp1 xl1 xq1,.slice xp2 xl2 xq2,.int .i64 x9,.int .i64 x10,.bool xb] 37)):=(Below.refl _ _).alloc (Nat.le_refl _) _;have X6:Box (w5.alloc (.cells #[.int .i64 x0,.int .i64 x1,.int .i64 x2,.int .i64 x3,.int .i64 x4,.int .i64 x5,.int .i64 x6,.int .i64 x7,.int .i64 x8,.slice xp0 xl0 xq0,.slice xp1 xl1 xq1,.slice xp2 xl2 xq2,.int .i64 x9,.int .i64 x10,.bool xb] 37)) w5.heap.size #[.int .i64 x0,.int .i64 x1,.int .i64 x2,.int .i64 x3,.int .i64 x4,.int .i64 x5,.int .i64 x6,.int .i64 x7,.int .i64 x8,.slice xp0 xl0 xq0,.slice xp1 xl1 xq1,.slice xp2 xl2 xq2,.int .i64 x9,.int .i64 x10,.bool xb] 37:=box_new _ _ _;obtain ⟨W6,hW6⟩:∃ x,x = w5.alloc (.cells #[.int .i64 x0,.int .i64 x1,.int .i64 x2,.int .i64 x3,.int .i64 x4,.int .i64 x5,.int .i64 x6,.int .i64 x7,.int .i64 x8,.slice xp0 xl0 xq0,.slice xp1 xl1 xq1,.slice xp2 xl2 xq2,.int .i64 x9,.int .i64 x10,.bool xb] 37):=⟨_,rfl⟩;rw [← hW6] at bA X6 ⊢;have B6:=B5.trans (bA.mono (by omega));have S6:=S5.call bA;have OS6:=OS5.call bA;have OX6:=oX.call bA;have z6:w5.heap.size < W6.heap.size:=X6.lt;clear bA hW6 oX B5 S5 OS5
  go_wp2_with (refine wp_loadBox 37 (.tmp 7) rfl rfl (w5.heap.size) rfl (cs:=[.int .i64 x0,.int .i64 x1,.int .i64 x2,.int .i64 x3,.int .i64 x4,.int .i64 x5,.int .i64 x6,.int .i64 x7,.int .i64 x8,.slice xp0 xl0 xq0,.slice xp1 xl1 xq1,.slice xp2 xl2 xq2,.int .i64 x9,.int .i64 x10,.bool xb]) X6 Tryz.underlying37 size_W rfl ?_)
  refine (CI _ _ _ OX6.rd (by omega)).mono ?_;rintro e w7 ⟨cG,rfl,oG,b7⟩;obtain ⟨g0,gp,gl,gq,rfl⟩:=res2_IntsResult oG.rd;have z7:W6.heap.size ≤ w7.heap.size:=b7.size;have B7:=B6.trans (b7.mono (by omega));have S7:=S6.call b7;have OS7:=OS6.call b7;have X7:=X6.call b7;have OX7:=OX6.call b7;clear b7 B6 S6 OS6 X6 OX6
  go_upto_region 8 with (refine wp_allocStore 43 8 (.tmp 26) [.int .i64 g0,.slice gp gl gq] _ 2 rfl rfl rfl rfl rfl rfl rfl rfl info_IntsResult rfl rfl oG.one ?_)
  have bA:Below w7.heap.size w7 (w7.alloc (.cells #[.int .i64 g0,.slice gp gl gq] 43)):=(Below.refl _ _).alloc (Nat.le_refl _) _;have G8:Box (w7.alloc (.cells #[.int .i64 g0,.slice gp gl gq] 43)) w7.heap.size #[.int .i64 g0,.slice gp gl gq] 43:=box_new _ _ _;obtain ⟨W8,hW8⟩:∃ x,x = w7.alloc (.cells #[.int .i64 g0,.slice gp gl gq] 43):=⟨_,rfl⟩;rw [← hW8] at bA G8 ⊢;have B8:=B7.trans (bA.mono (by omega));have S8:=S7.call bA;have OS8:=OS7.call bA;have X8:=X7.call bA;have OX8:=OX7.call bA;have OG8:=oG.call bA;have z8:w7.heap.size < W8.heap.size:=G8.lt;clear bA hW8 oG B7 S7 OS7 X7 OX7
  go_wp2_with (first | (refine wp_loadBox 43 (.tmp 8) rfl rfl (w7.heap.size) rfl (cs:=[.int .i64 g0,.slice gp gl gq]) G8 Tryz.underlying43 size_IR rfl ?_) | (refine wp_loadBox 43 (.tmp 6) rfl rfl (w3.heap.size) rfl (cs:=[.int .i64 s0,.slice sp sl sq]) S8 Tryz.underlying43 size_IR rfl ?_))
  refine (CE _ _ _ _ _ OG8.rd OS8.rd (by omega) (by omega)).mono ?_;rintro e w9 ⟨rfl,b9⟩;have z9:W8.heap.size ≤ w9.heap.size:=b9.size;have B9:=B8.trans (b9.mono (by omega));have S9:Hid (Box w9 w3.heap.size #[.int .i64 s0,.slice sp sl sq] 43):=S8.call b9;have OS9:Hid (OwnT layIntsResult w9 w2.heap.size w3.heap.size q [.int .i64 s0,.slice sp sl sq]):=OS8.call b9;have X9:Hid (Box w9 w5.heap.size #[.int .i64 x0,.int .i64 x1,.int .i64 x2,.int .i64 x3,.int .i64 x4,.int .i64 x5,.int .i64 x6,.int .i64 x7,.int .i64 x8,.slice xp0 xl0 xq0,.slice xp1 xl1 xq1,.slice xp2 xl2 xq2,.int .i64 x9,.int .i64 x10,.bool xb] 37):=X8.call b9;have OX9:Hid (OwnT layWorld w9 W4.heap.size w5.heap.size d [.int .i64 x0,.int .i64 x1,.int .i64 x2,.int .i64 x3,.int .i64 x4,.int .i64 x5,.int .i64 x6,.int .i64 x7,.int .i64 x8,.slice xp0 xl0 xq0,.slice xp1 xl1 xq1,.slice xp2 xl2 xq2,.int .i64 x9,.int .i64 x10,.bool xb]):=OX8.call b9;have G9:Hid (Box w9 w7.heap.size #[.int .i64 g0,.slice gp gl gq] 43):=G8.call b9;have OG9:Hid (OwnT layIntsResult w9 W6.heap.size w7.heap.size q [.int .i64 g0,.slice gp gl gq]):=OG8.call b9;have HB9:Hid (Below w1.heap.size w1 w9):=B9;have P9:Hid (One w w9 #[.int .i64 v0,.int .i64 v1,.int .i64 v2,.int .i64 v3,.int .i64 v4,.int .i64 v5,.int .i64 v6,.int .i64 v7,.int .i64 v8,.slice vp0 vl0 vq0,.slice vp1 vl1 vq1,.slice vp2 vl2 vq2,.int .i64 v9,.int .i64 v10,.bool vb] 28):=HT1.out.call B9;have CTc:=fun w' (hb:Below w9.heap.size w9 w') => CT w' (HB9.out.trans (hb.mono (by omega)));clear b9 B8 S8 OS8 X8 OX8 G8 OG8 B9
  go_upto_region 10 with fail
  go_cut [35] (fun v wx => v = .bool false ∧ Below w9.heap.size w9 wx)
  case first =>
    have KS:∀ w',Below w9.heap.size w9 w' → (Box w' (w5.heap.size) #[.int .i64 x0,.int .i64 x1,.int .i64 x2,.int .i64 x3,.int .i64 x4,.int .i64 x5,.int .i64 x6,.int .i64 x7,.int .i64 x8,.slice xp0 xl0 xq0,.slice xp1 xl1 xq1,.slice xp2 xl2 xq2,.int .i64 x9,.int .i64 x10,.bool xb] 37 ∧ Box w' (w.heap.size) #[.int .i64 v0,.int .i64 v1,.int .i64 v2,.int .i64 v3,.int .i64 v4,.int .i64 v5,.int .i64 v6,.int .i64 v7,.int .i64 v8,.slice vp0 vl0 vq0,.slice vp1 vl1 vq1,.slice vp2 vl2 vq2,.int .i64 v9,.int .i64 v10,.bool vb] 28):=fun w' hb => ⟨(X9.out).call hb,(P9.out.b1).call hb⟩;have B0:Below w9.heap.size w9 w9.drew:=below_drew _;refine wp_region_L 4 (fun w' => Box w' (w5.heap.size) #[.int .i64 x0,.int .i64 x1,.int .i64 x2,.int .i64 x3,.int .i64 x4,.int .i64 x5,.int .i64 x6,.int .i64 x7,.int .i64 x8,.slice xp0 xl0 xq0,.slice xp1 xl1 xq1,.slice xp2 xl2 xq2,.int .i64 x9,.int .i64 x10,.bool xb] 37 ∧ Box w' (w.heap.size) #[.int .i64 v0,.int .i64 v1,.int .i64 v2,.int .i64 v3,.int .i64 v4,.int .i64 v5,.int .i64 v6,.int .i64 v7,.int .i64 v8,.slice vp0 vl0 vq0,.slice vp1 vl1 vq1,.slice vp2 vl2 vq2,.int .i64 v9,.int .i64 v10,.bool vb] 28) (by kernel_rfl) (KS _ B0) (fun hHeld => ?_);refine wpAnyL_take (i:=0) (oi:=_) (v:=.agg #[.int .i64 x0,.int .i64 x1,.int .i64 x2,.int .i64 x3,.int .i64 x4,.int .i64 x5,.int .i64 x6,.int .i64 x7,.int .i64 x8,.slice xp0 xl0 xq0,.slice xp1 xl1 xq1,.slice xp2 xl2 xq2,.int .i64 x9,.int .i64 x10,.bool xb]) 16 rfl (by kernel_rfl) (fun _ _ _ h => h) (load_yield 37 (.tmp 7) rfl rfl (w5.heap.size) rfl (cs:=[.int .i64 x0,.int .i64 x1,.int .i64 x2,.int .i64 x3,.int .i64 x4,.int .i64 x5,.int .i64 x6,.int .i64 x7,.int .i64 x8,.slice xp0 xl0 xq0,.slice xp1 xl1 xq1,.slice xp2 xl2 xq2,.int .i64 x9,.int .i64 x10,.bool xb]) (fun w' h => h.1) Tryz.underlying37 size_W rfl) (by assumption) ?_
    try simp only [Act.put,SL]
    refine wpAnyL_take (i:=1) (oi:=_) (v:=.agg #[.int .i64 v0,.int .i64 v1,.int .i64 v2,.int .i64 v3,.int .i64 v4,.int .i64 v5,.int .i64 v6,.int .i64 v7,.int .i64 v8,.slice vp0 vl0 vq0,.slice vp1 vl1 vq1,.slice vp2 vl2 vq2,.int .i64 v9,.int .i64 v10,.bool vb]) 16 rfl (by kernel_rfl) (fun _ _ _ h => h) (load_yield 28 (.tmp 2) rfl rfl (w.heap.size) rfl (cs:=[.int .i64 v0,.int .i64 v1,.int .i64 v2,.int .i64 v3,.int .i64 v4,.int .i64 v5,.int .i64 v6,.int .i64 v7,.int .i64 v8,.slice vp0 vl0 vq0,.slice vp1 vl1 vq1,.slice vp2 vl2 vq2,.int .i64 v9,.int .i64 v10,.bool vb]) (fun w' h => h.2) Tryz.underlying28 size_LW rfl) (by assumption) ?_
    try simp only [Act.put,SL]
    refine wpAnyL_one (i:=2) (o:=_) rfl (by kernel_rfl) (fun KC hKC => ?_);refine step_call rfl 7 _ _ rfl #[.agg #[.int .i64 v0,.int .i64 v1,.int .i64 v2,.int .i64 v3,.int .i64 v4,.int .i64 v5,.int .i64 v6,.int .i64 v7,.int .i64 v8,.slice vp0 vl0 vq0,.slice vp1 vl1 vq1,.slice vp2 vl2 vq2,.int .i64 v9,.int .i64 v10,.bool vb]] ?_ Tryz.func7 (by kernel_rfl) (by kernel_rfl) (CTc _ B0) ?_
    · simp [Act.eval,Act.put]
    rintro ee wb ⟨cs',rfl,oR,bb⟩;have bR:Below w9.heap.size w9 wb:=B0.trans (bb.mono B0.size);refine ⟨_,rfl,?_⟩;refine hKC.out _ _ (KS _ bR) (fun hHeld => ?_);clear hKC KC
    try simp only [Act.put,SL]
    refine wpAnyL_one (i:=3) (o:=_) rfl (by kernel_rfl) (fun KC hKC => ?_);refine step_call rfl 10 _ _ rfl #[.agg #[.int .i64 x0,.int .i64 x1,.int .i64 x2,.int .i64 x3,.int .i64 x4,.int .i64 x5,.int .i64 x6,.int .i64 x7,.int .i64 x8,.slice xp0 xl0 xq0,.slice xp1 xl1 xq1,.slice xp2 xl2 xq2,.int .i64 x9,.int .i64 x10,.bool xb],.agg cs'.toArray] ?_ Tryz.func10 (by kernel_rfl) (by kernel_rfl) (CW _ _ _ _ _ ((OX9.out).call bR).rd oR.rd (Nat.le_trans (by omega) bR.size) (Nat.le_refl _)) ?_
    · simp [Act.eval,Act.put]
    rintro ee wc' ⟨rfl,bc⟩;have bC:Below w9.heap.size w9 wc':=bR.trans (bc.mono bR.size);refine ⟨_,rfl,?_⟩;refine hKC.out _ _ (KS _ bC) (fun hHeld => ?_);clear hKC KC
    try simp only [Act.put,SL]
    refine wpAnyL_last (o:=_) rfl (by kernel_rfl) (fun KC hKC => ?_);go_simp;refine hKC.out _ _ ?_;clear hKC KC
    try simp only [Act.put,SL]
    refine wpAnyL_done (by kernel_rfl) ?_ _;go_wp2
    go_meet
    exact ⟨rfl,bC⟩
  case rest =>
    obtain ⟨rfl,b10⟩:=hcut;obtain ⟨w10,rfl⟩:∃ x,x = wc:=⟨_,rfl⟩;clear CTc;have z10:w9.heap.size ≤ w10.heap.size:=b10.size;have B10:=HB9.out.trans (b10.mono (by omega));have S10:=S9.out.call b10;have OS10:=OS9.out.call b10;have X10:=X9.out.call b10;have OX10:=OX9.out.call b10;have G10:=G9.out.call b10;have OG10:=OG9.out.call b10;clear b10 HB9 S9 OS9 X9 OX9 G9 OG9 P9
    have hm0:¬ (M:Int) < 0:=by omega
    go_wp2_with (refine wp_loadBox 37 (.tmp 7) rfl rfl (w5.heap.size) rfl (cs:=[.int .i64 x0,.int .i64 x1,.int .i64 x2,.int .i64 x3,.int .i64 x4,.int .i64 x5,.int .i64 x6,.int .i64 x7,.int .i64 x8,.slice xp0 xl0 xq0,.slice xp1 xl1 xq1,.slice xp2 xl2 xq2,.int .i64 x9,.int .i64 x10,.bool xb]) X10 Tryz.underlying37 size_W rfl ?_)
    refine (CK OX10).mono ?_;rintro e w11 ⟨rfl,OX11,c11⟩;have z11:w10.heap.size ≤ w11.heap.size:=c11.size;have B11:=B10.trans (c11.bel (B:=w1.heap.size) (by omega) (by omega));have S11:=S10.chg c11 (.inl (by omega));have OS11:=OS10.chg c11 (.inl (by omega));have G11:=G10.chg c11 (.inr (by omega));have OG11:=OG10.chg c11 (.inr (by omega));have u_0:w11.cell? ⟨w7.heap.size,0,none⟩ = some (.int .i64 g0):=G11.cell 0;have u_1:w11.cell? ⟨w7.heap.size,1,none⟩ = some (.slice gp gl gq):=G11.cell 1;have y_0:w11.cell? ⟨w3.heap.size,0,none⟩ = some (.int .i64 s0):=S11.cell 0;have y_1:w11.cell? ⟨w3.heap.size,1,none⟩ = some (.slice sp sl sq):=S11.cell 1;clear OX11 c11 B10 S10 OS10 X10 OX10 G10 OG10
    go_wp2_with fail
    refine (CE _ _ _ _ _ OG11.rd OS11.rd (by omega) (by omega)).mono ?_;rintro e w12 ⟨rfl,b12⟩;have z12:w11.heap.size ≤ w12.heap.size:=b12.size;have B12:=B11.trans (b12.mono (by omega));have S12:=S11.call b12;have OS12:=OS11.call b12;have G12:=G11.call b12;have OG12:=OG11.call b12;clear b12 B11 S11 OS11 G11 OG11 u_0 u_1 y_0 y_1
    go_wp2_with (refine wp_loadBox 43 (.tmp 8) rfl rfl (w7.heap.size) rfl (cs:=[.int .i64 g0,.slice gp gl gq]) G12 Tryz.underlying43 size_IR rfl ?_)
    refine (CM OG12).mono ?_;rintro e w13 ⟨rfl,OG13,c13⟩;have z13:w12.heap.size ≤ w13.heap.size:=c13.size;have B13:=B12.trans (c13.bel (B:=w1.heap.size) (by omega) (by omega));have S13:=S12.chg c13 (.inl (by omega));have OS13:=OS12.chg c13 (.inl (by omega));have G13:=G12.chg c13 (.inr (by omega));clear c13 B12 S12 OS12 G12 OG12
    go_wp2_with (refine wp_loadBox 43 (.tmp 8) rfl rfl (w7.heap.size) rfl (cs:=[.int .i64 g0,.slice gp gl gq]) G13 Tryz.underlying43 size_IR rfl ?_)
    refine (CH _ _ _ OG13.rd (by omega)).mono ?_;rintro e w14 ⟨rfl,b14⟩;have z14:w13.heap.size ≤ w14.heap.size:=b14.size;have B14:=B13.trans (b14.mono (by omega));have S14:=S13.call b14;have OS14:=OS13.call b14;have G14:=G13.call b14;have OG14:=OG13.call b14;have P14:=HT1.out.call B14;clear b14 B13 S13 OS13 G13 OG13
    have hn0:¬ (N:Int) < 0:=by omega
    go_wp2_with (refine wp_loadBox 28 (.tmp 2) rfl rfl (w.heap.size) rfl (cs:=[.int .i64 v0,.int .i64 v1,.int .i64 v2,.int .i64 v3,.int .i64 v4,.int .i64 v5,.int .i64 v6,.int .i64 v7,.int .i64 v8,.slice vp0 vl0 vq0,.slice vp1 vl1 vq1,.slice vp2 vl2 vq2,.int .i64 v9,.int .i64 v10,.bool vb]) P14.b1 Tryz.underlying28 size_LW rfl ?_)
    refine (CT _ B14).mono ?_;rintro e w15 ⟨c15,rfl,o15,b15⟩
    go_wp2_with fail
    refine (CI _ _ _ o15.rd (Nat.le_refl _)).mono ?_;rintro e w16 ⟨cH,rfl,oH,b16⟩;obtain ⟨h0,hp,hl,hq,rfl⟩:=res2_IntsResult oH.rd;have z15:w14.heap.size ≤ w15.heap.size:=b15.size;have z16:w15.heap.size ≤ w16.heap.size:=b16.size;have B16:=(B14.trans (b15.mono (by omega))).trans (b16.mono (by omega));have S16:=(S14.call b15).call b16;have OS16:=(OS14.call b15).call b16;have G16:=(G14.call b15).call b16;have OG16:=(OG14.call b15).call b16;clear P14 o15 b15 b16 B14 S14 OS14 G14 OG14
    go_upto_region 25 with (refine wp_allocStore 43 12 (.tmp 61) [.int .i64 h0,.slice hp hl hq] _ 2 rfl rfl rfl rfl rfl rfl rfl rfl info_IntsResult rfl rfl oH.one ?_)
    have bA:Below w16.heap.size w16 (w16.alloc (.cells #[.int .i64 h0,.slice hp hl hq] 43)):=(Below.refl _ _).alloc (Nat.le_refl _) _;have H17:Box (w16.alloc (.cells #[.int .i64 h0,.slice hp hl hq] 43)) w16.heap.size #[.int .i64 h0,.slice hp hl hq] 43:=box_new _ _ _;obtain ⟨W17,hW17⟩:∃ x,x = w16.alloc (.cells #[.int .i64 h0,.slice hp hl hq] 43):=⟨_,rfl⟩;rw [← hW17] at bA H17 ⊢;have B17:=B16.trans (bA.mono (by omega));have S17:=S16.call bA;have OS17:=OS16.call bA;have G17:=G16.call bA;have OG17:=OG16.call bA;have OH17:=oH.call bA;have z17:w16.heap.size < W17.heap.size:=H17.lt;clear bA hW17 oH B16 S16 OS16 G16 OG16
    go_wp2_with (first | (refine wp_loadBox 43 (.tmp 12) rfl rfl (w16.heap.size) rfl (cs:=[.int .i64 h0,.slice hp hl hq]) H17 Tryz.underlying43 size_IR rfl ?_) | (refine wp_loadBox 43 (.tmp 6) rfl rfl (w3.heap.size) rfl (cs:=[.int .i64 s0,.slice sp sl sq]) S17 Tryz.underlying43 size_IR rfl ?_))
    refine (CE _ _ _ _ _ OH17.rd OS17.rd (by omega) (by omega)).mono ?_;rintro e w18 ⟨rfl,b18⟩;have z18:W17.heap.size ≤ w18.heap.size:=b18.size;have B18:=B17.trans (b18.mono (by omega));have G18:=G17.call b18;have OG18:=OG17.call b18;clear b18 B17 S17 OS17 G17 OG17 OH17 H17
    go_wp2_with (refine wp_loadBox 43 (.tmp 8) rfl rfl (w7.heap.size) rfl (cs:=[.int .i64 g0,.slice gp gl gq]) G18 Tryz.underlying43 size_IR rfl ?_)
    refine (CH _ _ _ OG18.rd (by omega)).mono ?_;rintro e w19 ⟨rfl,b19⟩;have HB:Hid (Below w.heap.size w w19):=(HT1.out.call (B18.trans (b19.mono (by omega)))).bel;clear b19 B18 G18 OG18;go_wp2;go_ret;exact ⟨rfl,HB.out⟩
set_option maxRecDepth 100000 in
theorem fnExactFreeRows_lifted (os:Os) (started:os.Started) (H:Type) (enc:TypeId × Value → H) :
    ReturnsInHanded {} Tryz.checked os 4 .any (Rows.fnExactFreeRowsSpec.pre6 enc Tryz.prog Tryz.f4 Rows.fnExactFreeRowsRow.domain false) (Rows.fnExactFreeRowsSpec.post enc Tryz.prog Tryz.f4 false true false false):=by
  refine returnsInHanded_of_change (C:=Tryz.checked) frame_own started (by kernel_rfl) Tryz.func4
    (ChangeSpec.witness6 (enc:=enc) (C:=Tryz.checked) false ⟨#[],#[.agg #[.int .i64 0,.int .i64 0,.int .i64 0,.int .i64 0,.int .i64 0,.int .i64 0,.int .i64 0,.int .i64 0,.int .i64 0,.slice none 0 0,.slice none 0 0,.slice none 0 0,.int .i64 0,.int .i64 0,.bool false],.int .i64 0],[]⟩ 8 (by kernel_rfl) (by kernel_rfl) (by kernel_rfl) (by kernel_rfl)) ?_
  intro W base args ds gs before hval0 hW hcnd _;have hval:∀ (j:Nat) t v,Tryz.f4.params[j]? = some t → args[j]? = some v → Value.okWide Tryz.prog W .any base t v:=hval0;have hW':=hW;obtain ⟨p,q,hA0,hV,rfl,hfz,hnd⟩:=hW;have hA:DataW.TrodAll enc Tryz.prog W 0 (fun _ => true) true Tryz.f4.params.toList args.toList ds p:=hA0;rw [Tryz.params4] at hA hval;obtain ⟨v0,vs0,d0,ds0,p0,q0,hargs,rfl,rfl,h0,r0⟩:=trodAll_cons hA;obtain ⟨v1,vs1,d1,ds1,p1,q1,rfl,rfl,rfl,h1,r1⟩:=trodAll_cons r0;obtain ⟨rfl,rfl,rfl⟩:=trodAll_nil r1
  obtain rfl:args = #[v0,v1]:=by cases args;simp_all
  obtain ⟨rfl,rfl⟩:=trodVars_none hV;have k0:=h0
  have lt0:∀ x ∈ p0,x.block < W.heap.size:=by obtain ⟨m,hm⟩:=k0;exact DataW.trod_lt m _ _ _ hm
  obtain ⟨cs0,a0,rfl,rd0⟩:=struct_of_trod opensWorld Tryz.underlying28 (hval 0 28 v0 rfl rfl) h0;obtain ⟨n1,rfl,rfl,rfl,hn1⟩:=open_int Tryz.underlying2 (hval 1 2 v1 rfl rfl) h1;clear hA0 hval0;refine (fnExactFreeRows_walk a0 cs0 n1 W rd0 (bounds_i64 hn1)).mono fun e W' ⟨he,bel⟩ => ?_;subst he;exact ⟨_,rfl,_,_,_,[],_,[],hW',trodAll_mk1 (shut_bool Tryz.underlying4 _),(trodAll_cons_mk (Below.trod frame_laid (by kernel_rfl) (of_decide_eq_true (by kernel_rfl)) k0 bel lt0) (trodAll_cons_mk (shut_int Tryz.underlying2 hn1) trodAll_mk0)),rfl,bel.frame _,fun h => by cases h⟩
end Go.Proofs.YtfoidpcoiankoaaGreat