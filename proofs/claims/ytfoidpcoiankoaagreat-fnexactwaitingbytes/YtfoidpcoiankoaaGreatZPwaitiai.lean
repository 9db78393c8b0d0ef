/- ItemsOf of both sides. -/
import Derived.Test.YtfoidpcoiankoaaGreatZPwaitiah
import Derived.Deep.DeepCutAuto
import Derived.Test.YtfoidpcoiankoaaGreatRows
import Derived.Test.YtfoidpcoiankoaaGreatZPwaitiaa
import Derived.Test.YtfoidpcoiankoaaGreatZPwaitiab
import Derived.Test.YtfoidpcoiankoaaGreatZPwaitiac
import Derived.Deep.RegionLaw
set_option linter.unusedVariables false
set_option linter.unusedSimpArgs false
namespace Go.Proofs.YtfoidpcoiankoaaGreat
open Go.RowKit F256
def liveOf (d:WorldD) (l m:List Nat):Nat × (Nat → RecD):=(m.length,fun i => recT d.tapes.2 2 (l.getD (m.getD i 0) 0))
theorem live_sum {x:Nat → RecD} {N:Nat} {m:List Nat} (h:Live x N m) (f:Nat → Nat):sumN (fun i => f (m.getD i 0)) m.length ≤ sumN f N ∧ m.length ≤ N:=by
  have:=sub_sum f N m h.nodup (fun i hi => h.lt hi);rw [← sumN_map f] at this;exact this
theorem live_size {d:WorldD} (h2:d.tapes.1 = 2) (hsz:szWorldD d ≤ 1048576) {l m:List Nat} (h:Cnt (recT d.tapes.2 2) (lenT d.tapes.2 2) l) (hm:Live (fun i => recT d.tapes.2 2 (l.getD i 0)) l.length m):(szSl szRecD) (liveOf d l m) ≤ 1048576:=by
  have h1:=cnt_size h2 hsz h;have h3:=live_sum hm (fun i => szRecD (recT d.tapes.2 2 (l.getD i 0)));have e1:(szSl szRecD) (l.length,(fun i => recT d.tapes.2 2 (l.getD i 0))) = l.length + sumN (fun i => szRecD (recT d.tapes.2 2 (l.getD i 0))) l.length:=rfl
  show m.length + sumN (fun i => szRecD (recT d.tapes.2 2 (l.getD (m.getD i 0) 0))) m.length ≤ 1048576
  rw [e1] at h1;have h4:=h3.1;have h5:=h3.2;omega
end Go.Proofs.YtfoidpcoiankoaaGreat
namespace Go.Proofs.YtfoidpcoiankoaaGreat
open Go.RowKit F256
theorem size_Ir:(Tryz.prog.info? 31).map (·.size) = some 2:=by kernel_rfl
theorem two_one (a b:Int):∀ v,v ∈ ([.int .i64 a,.int .i64 b]:List Value) → v.oneCell' = true:=fun v hv => by
  simp at hv
  rcases hv with rfl | rfl <;> rfl
def wsum (x:Nat → RecD) (m:List Nat) (k:Nat):Nat:=sumN (fun i => (x (m.getD i 0)).data.1) k
theorem wsum_succ (x:Nat → RecD) (m:List Nat) (k:Nat):wsum x m (k + 1) = wsum x m k + (x (m.getD k 0)).data.1:=sumN_succ _ _
theorem wsum_mono (x:Nat → RecD) (m:List Nat) {j k:Nat} (h:j ≤ k):wsum x m j ≤ wsum x m k:=sumN_mono _ h
theorem wsum_le {d:WorldD} (h2:d.tapes.1 = 2) (hsz:szWorldD d ≤ 1048576) {l m:List Nat} (h:Cnt (recT d.tapes.2 2) (lenT d.tapes.2 2) l) (hm:Live (fun i => recT d.tapes.2 2 (l.getD i 0)) l.length m):wsum (fun i => recT d.tapes.2 2 (l.getD i 0)) m m.length ≤ 1048576:=by
  have h1:=live_size h2 hsz h hm;have e1:(szSl szRecD) (liveOf d l m) = m.length + sumN (fun i => szRecD (recT d.tapes.2 2 (l.getD (m.getD i 0) 0))) m.length:=rfl
  have h3:wsum (fun i => recT d.tapes.2 2 (l.getD i 0)) m m.length ≤ sumN (fun i => szRecD (recT d.tapes.2 2 (l.getD (m.getD i 0) 0))) m.length:=sumN_mono2 (fun i _ => by
    show (recT d.tapes.2 2 (l.getD (m.getD i 0) 0)).data.1 ≤ szRecD _
    unfold szRecD lenD
    omega)
  rw [e1] at h1;omega
def WtAns (d:WorldD) (c v:Int):Prop:=(c ≠ 0 ∧ WldAns d c ∧ v = 0) ∨ (WldAns d 0 ∧ c = 0 ∧ ∃ l m,Cnt (recT d.tapes.2 2) (lenT d.tapes.2 2) l ∧ Live (fun i => recT d.tapes.2 2 (l.getD i 0)) l.length m ∧ v = (wsum (fun i => recT d.tapes.2 2 (l.getD i 0)) m m.length:Int))
theorem WtAns.one {d:WorldD} {c v c' v':Int} (h:WtAns d c v) (k:WtAns d c' v'):c = c' ∧ v = v':=by
  rcases h with ⟨h1,h2,h3⟩ | ⟨h1,h2,l,m,hl,hm,h3⟩ <;> rcases k with ⟨k1,k2,k3⟩ | ⟨k1,k2,l',m',kl,km,k3⟩
  · exact ⟨h2.one k2,by rw [h3,k3]⟩
  · exact absurd (h2.one k1) h1
  · exact absurd (k2.one h1) k1
  · obtain rfl:=hl.uniq kl
    obtain rfl:=hm.uniq km;exact ⟨by rw [h2,k2],by rw [h3,k3]⟩
def WtPost (d:WorldD) (w:World) (e:Ending) (w':World):Prop:=∃ c v,e = .returned (.agg #[.int .i64 c,.int .i64 v]) ∧ WtAns d c v ∧ Below w.heap.size w w'
theorem item_data {s:Nat → Int} {r:RecD} (h:KindP s r) (hk:r.kind = 1) (hl:¬ r.length < 0) (hd:0 < r.data.1):(r.data.1:Int) = r.length:=by
  rcases h with ⟨_,h⟩ | ⟨h,_⟩ | ⟨h,_⟩ | ⟨h,_⟩
  · rcases h with ⟨h,_⟩ | ⟨_,_,_,h⟩
    · omega
    · rcases h with ⟨_,h,_⟩ | ⟨h,_⟩ <;> omega
  · omega
  · omega
  · omega
theorem getD_memL {l:List Nat} {i:Nat} (h:i < l.length):l.getD i 0 ∈ l:=by
  rw [List.getD_eq_getElem?_getD,List.getElem?_eq_getElem h];exact List.getElem_mem h
set_option maxHeartbeats 16000000 in
set_option maxRecDepth 20000 in
theorem l6Waiting_any (v:Value) (N:Nat) (x0:Nat → RecD) (hi:Nat) (w:World) (h:(layRec.slice 66).rd w hi (N,x0) [v]) (hhi:hi ≤ w.heap.size) (hNb:N ≤ 800000) (hsum:∀ m,Live x0 N m → wsum x0 m m.length ≤ 1048576) :
    Calls Tryz.prog 21 #[v] w (fun e w' => ∃ m,e = .returned (.int .i64 (wsum x0 m m.length:Int)) ∧ Live x0 N m ∧ Below w.heap.size w w'):=by
  have CL:=l6Live_any v N x0 hi w h hhi hNb;obtain ⟨ao0,cap0,ev,_⟩:=h
  obtain rfl:v = .slice ao0 N cap0:=by simpa using ev
  clear ev;have HS:Hid (∀ m,Live x0 N m → wsum x0 m m.length ≤ 1048576):=hsum;clear hsum
  go_enter Tryz.func21,Tryz.ntmps21
  go_wp2_with fail
  refine CL.mono ?_;rintro e w2 ⟨v2,m,ce,lo,rfl,hLM,hlo,V,b2⟩;have HLM:Hid (Live x0 N m):=hLM;have HB2:Hid (Below w.heap.size w w2):=b2;have hsm:=HS.out m hLM;obtain ⟨n,hn⟩:∃ n,n = m.length:=⟨_,rfl⟩;have HN:Hid (n = m.length):=hn
  have hnl:n ≤ 800000:=by
    have:=(live_sum hLM (fun _ => 0)).2;omega
  rw [← hn] at V hsm;have z2:w.heap.size ≤ w2.heap.size:=b2.size;have HV:Hid (View layRec 66 w2 lo hi v2 n (fun i => x0 (m.getD i 0)) ce):=V;obtain ⟨ao,cap,hv⟩:=V.form;subst hv;clear CL hLM V hn b2;go_wp2
  go_loopw [4,5] (fun s i wr => ∃ k:Nat,k ≤ n ∧ i = .int .i64 k ∧ s = .int .i64 (wsum x0 m k:Int) ∧ Below w2.heap.size w2 wr) (fun _ i _ => n - (intOf i).toNat)
  case atStart => exact ⟨0,Nat.zero_le _,rfl,rfl,Below.refl _ _⟩
  case round =>
    obtain ⟨k,hk,rfl,rfl,hb⟩:=hrel;have HB:Hid (Below w2.heap.size w2 wr):=hb
    by_cases hlt:k < n
    · have Vr:=HV.out.below hb (by omega)
      obtain ⟨g,c0,hg⟩:=Vr.form0 (by omega);have hg2:=hg
      obtain ⟨rfl,rfl⟩:ao = some ⟨g,0,none⟩ ∧ cap = c0:=by simpa using hg2
      have rg:=Vr.range hlt;obtain ⟨r,hr⟩:∃ r,r = x0 (m.getD k 0):=⟨_,rfl⟩;obtain ⟨ao6,cap6,ao7,cap7,ao8,cap8,hce,-⟩:=Rec_rd (Vr.each k hlt);have y7:wr.cell? ⟨g,k * 9 + 7,none⟩ = some (.slice ao7 r.data.1 cap7):=rg 7 _ (by rw [hce,hr];rfl)
      have HW:Hid (wsum x0 m (k + 1) = wsum x0 m k + r.data.1):=by
        show wsum x0 m (k + 1) = wsum x0 m k + r.data.1
        rw [wsum_succ,hr]
      have hle:=Nat.le_trans (wsum_mono x0 m (show k + 1 ≤ n from hlt)) hsm;rw [HW.out] at hle;obtain ⟨q,hq⟩:∃ q,q = wsum x0 m k:=⟨_,rfl⟩;have HQ:Hid (q = wsum x0 m k):=hq;rw [← hq] at hle ⊢
      have wz:IntKind.i64.wrap ((q:Int) + (r.data.1:Int)) = (q:Int) + (r.data.1:Int):=by rw [IntKind.wrap_i64];omega
      have i1:(0:Int) ≤ (k:Int):=by omega
      have i2:(k:Int) < (n:Int):=by omega
      clear Vr hg hg2 rg hce hr hq hb;go_wp2
      go_roundw
      case rel => exact ⟨k + 1,by omega,by go_num,(by rw [HW.out,← HQ.out];go_num),HB.out⟩
      case measure => simp [intOf];omega
    · obtain rfl:k = n:=by omega
      go_wp2;go_ret;exact ⟨m,(by rw [← HN.out];rfl),HLM.out,HB2.out.trans (HB.out.mono z2)⟩
set_option maxHeartbeats 16000000 in
set_option maxRecDepth 20000 in
theorem specWt_any (d:WorldD) (cs:List Value) (hi:Nat) (w:World) (h:layWorld.rd w hi d cs) (hhi:hi ≤ w.heap.size) (hsz:szWorldD d ≤ 1048576) :
    Calls Tryz.prog 6 #[.agg cs.toArray] w (WtPost d w):=by
  have h':=h;obtain ⟨ao1,cap1,ao2,cap2,ao3,cap3,rfl,g1,g2,g3,k0,k4,k5⟩:=World_rd h';have HRD:Hid (layWorld.rd w hi d [.int .i64 (d.shape 0),.int .i64 (d.shape 1),.int .i64 (d.shape 2),.int .i64 (d.shape 3),.int .i64 (d.shape 4),.int .i64 (d.shape 5),.int .i64 (d.shape 6),.int .i64 (d.shape 7),.int .i64 (d.shape 8),.slice ao1 d.groups.1 cap1,.slice ao2 d.on.1 cap2,.slice ao3 d.tapes.1 cap3,.int .i64 d.writes,.int .i64 d.stop,.bool d.down]):=h;have HG3:Hid ((layTape.slice 87).rd w hi d.tapes [.slice ao3 d.tapes.1 cap3]):=g3;have HSZ:Hid (szWorldD d ≤ 1048576):=hsz;clear h h' hsz g1 g2 g3 k0 k4 k5;have T0:=two_newb w #[.int .i64 (d.shape 0),.int .i64 (d.shape 1),.int .i64 (d.shape 2),.int .i64 (d.shape 3),.int .i64 (d.shape 4),.int .i64 (d.shape 5),.int .i64 (d.shape 6),.int .i64 (d.shape 7),.int .i64 (d.shape 8),.slice ao1 d.groups.1 cap1,.slice ao2 d.on.1 cap2,.slice ao3 d.tapes.1 cap3,.int .i64 d.writes,.int .i64 d.stop,.bool d.down] #[.int .i64 0,.int .i64 0] 37 31
  go_enter Tryz.func6,Tryz.ntmps6
  go_wp2_with (refine wp_loadBox 37 (.tmp 1) rfl rfl (w.heap.size) rfl (cs:=[.int .i64 (d.shape 0),.int .i64 (d.shape 1),.int .i64 (d.shape 2),.int .i64 (d.shape 3),.int .i64 (d.shape 4),.int .i64 (d.shape 5),.int .i64 (d.shape 6),.int .i64 (d.shape 7),.int .i64 (d.shape 8),.slice ao1 d.groups.1 cap1,.slice ao2 d.on.1 cap2,.slice ao3 d.tapes.1 cap3,.int .i64 d.writes,.int .i64 d.stop,.bool d.down]) (T0.b1) Tryz.underlying37 size_W rfl ?_)
  refine (specWorld_any d _ hi _ (layWorld.rd_below HRD.out T0.bel hhi) (Nat.le_trans hhi T0.bel.size) (wld_ok_names HSZ.out)).mono ?_;rintro e w1 ⟨x,rfl,hx,b1⟩;have HT1:Hid (Two w w1 #[.int .i64 (d.shape 0),.int .i64 (d.shape 1),.int .i64 (d.shape 2),.int .i64 (d.shape 3),.int .i64 (d.shape 4),.int .i64 (d.shape 5),.int .i64 (d.shape 6),.int .i64 (d.shape 7),.int .i64 (d.shape 8),.slice ao1 d.groups.1 cap1,.slice ao2 d.on.1 cap2,.slice ao3 d.tapes.1 cap3,.int .i64 d.writes,.int .i64 d.stop,.bool d.down] #[.int .i64 0,.int .i64 0] 37 31):=T0.call b1;have HX:Hid (WldAns d x):=hx;have z1:w.heap.size + 1 < w1.heap.size:=HT1.out.b2.lt;clear b1 T0 hx
  by_cases hx0:x = 0
  case neg =>
    have hne:(x != 0) = true:=by simp [hx0]
    go_wp2_with (refine wp_storeBox 31 _ _ rfl rfl (w.heap.size + 1) rfl (cs:=[.int .i64 x,.int .i64 0]) (old:=[.int .i64 0,.int .i64 0]) rfl (HT1.out.b2) size_Ir rfl rfl (two_one _ _) ?_;intro w9 X9 C9 z9)
    refine ret_box Tryz.results6 rfl X9 Tryz.underlying31 size_Ir rfl rfl ?_;have zz:=C9.size;exact ⟨x,0,rfl,.inl ⟨hx0,HX.out,rfl⟩,HT1.out.bel.trans (C9.bel (fun b hb => by simp at hb;omega) HT1.out.bel.size)⟩
  subst hx0;have HOK:Hid (OkWorld d):=WldAns.ok HX.out;have h2:d.tapes.1 = 2:=HOK.out.form.2.2;have hn0:(d.tapes.2 0).recs.1 ≤ 400000:=Nat.le_trans (HOK.out.few 0 (by omega)) (by decide);have hn1:(d.tapes.2 1).recs.1 ≤ 400000:=Nat.le_trans (HOK.out.few 1 (by omega)) (by decide);have CC:=l6Counted_any d [.int .i64 (d.shape 0),.int .i64 (d.shape 1),.int .i64 (d.shape 2),.int .i64 (d.shape 3),.int .i64 (d.shape 4),.int .i64 (d.shape 5),.int .i64 (d.shape 6),.int .i64 (d.shape 7),.int .i64 (d.shape 8),.slice ao1 d.groups.1 cap1,.slice ao2 d.on.1 cap2,.slice ao3 d.tapes.1 cap3,.int .i64 d.writes,.int .i64 d.stop,.bool d.down] hi w.heap.size w1 (layWorld.rd_below HRD.out HT1.out.bel hhi) (Nat.le_trans hhi HT1.out.bel.size) HT1.out.b1 h2 hn0 hn1;have HH2:Hid (d.tapes.1 = 2):=h2;clear h2
  go_wp2_with fail
  refine CC.mono ?_;rintro e w2 ⟨v2,l,ce0,lo2,rfl,hCt,hlo2,V,b2⟩;have HL:Hid (Cnt (recT d.tapes.2 2) (lenT d.tapes.2 2) l):=hCt;have HT2:Hid (Two w w2 #[.int .i64 (d.shape 0),.int .i64 (d.shape 1),.int .i64 (d.shape 2),.int .i64 (d.shape 3),.int .i64 (d.shape 4),.int .i64 (d.shape 5),.int .i64 (d.shape 6),.int .i64 (d.shape 7),.int .i64 (d.shape 8),.slice ao1 d.groups.1 cap1,.slice ao2 d.on.1 cap2,.slice ao3 d.tapes.1 cap3,.int .i64 d.writes,.int .i64 d.stop,.bool d.down] #[.int .i64 0,.int .i64 0] 37 31):=HT1.out.call b2;have z2:w1.heap.size ≤ w2.heap.size:=b2.size
  have hlen:l.length ≤ 800000:=by
    have h1:=(hCt.sum (fun _ => 0)).2
    have e2:lenT d.tapes.2 2 = (d.tapes.2 0).recs.1 + (d.tapes.2 1).recs.1:=by simp [lenT]
    omega
  have CN:=l6Waiting_any v2 l.length (fun i => recT d.tapes.2 2 (l.getD i 0)) w2.heap.size w2 (V.rd (by omega)) (Nat.le_refl _) (by omega) (fun m hm => wsum_le HH2.out HSZ.out hCt hm);obtain ⟨a2,c2,rfl⟩:=V.form;clear CC b2 HT1 V
  go_wp2_with fail
  refine CN.mono ?_;rintro e w5 ⟨m,rfl,hLM,b5⟩;have HLM:Hid (Live (fun i => recT d.tapes.2 2 (l.getD i 0)) l.length m):=hLM;have HT5:Hid (Two w w5 #[.int .i64 (d.shape 0),.int .i64 (d.shape 1),.int .i64 (d.shape 2),.int .i64 (d.shape 3),.int .i64 (d.shape 4),.int .i64 (d.shape 5),.int .i64 (d.shape 6),.int .i64 (d.shape 7),.int .i64 (d.shape 8),.slice ao1 d.groups.1 cap1,.slice ao2 d.on.1 cap2,.slice ao3 d.tapes.1 cap3,.int .i64 d.writes,.int .i64 d.stop,.bool d.down] #[.int .i64 0,.int .i64 0] 37 31):=HT2.out.call b5;obtain ⟨q,hq⟩:∃ q,q = wsum (fun i => recT d.tapes.2 2 (l.getD i 0)) m m.length:=⟨_,rfl⟩;have HQ:Hid (q = wsum (fun i => recT d.tapes.2 2 (l.getD i 0)) m m.length):=hq;rw [← hq];clear CN b5 HT2 hCt hLM hq
  go_wp2_with (refine wp_storeBox 31 _ _ rfl rfl (w.heap.size + 1) rfl (cs:=[.int .i64 0,.int .i64 (q:Int)]) (old:=[.int .i64 0,.int .i64 0]) rfl (HT5.out.b2) size_Ir rfl rfl (two_one _ _) ?_;intro w9 X9 C9 z9)
  refine ret_box Tryz.results6 rfl X9 Tryz.underlying31 size_Ir rfl rfl ?_;have zz:=C9.size;exact ⟨0,(q:Int),rfl,.inr ⟨HX.out,rfl,l,m,HL.out,HLM.out,by rw [HQ.out]⟩,HT5.out.bel.trans (C9.bel (fun b hb => by simp at hb;omega) HT5.out.bel.size)⟩
set_option maxHeartbeats 16000000 in
set_option maxRecDepth 20000 in
theorem implWt_any (d:WorldD) (cs:List Value) (hi:Nat) (w:World) (h:layWorld.rd w hi d cs) (hhi:hi ≤ w.heap.size) (hsz:szWorldD d ≤ 1048576) :
    Calls Tryz.prog 8 #[.agg cs.toArray] w (WtPost d w):=by
  have h':=h;obtain ⟨ao1,cap1,ao2,cap2,ao3,cap3,rfl,g1,g2,g3,k0,k4,k5⟩:=World_rd h';have HRD:Hid (layWorld.rd w hi d [.int .i64 (d.shape 0),.int .i64 (d.shape 1),.int .i64 (d.shape 2),.int .i64 (d.shape 3),.int .i64 (d.shape 4),.int .i64 (d.shape 5),.int .i64 (d.shape 6),.int .i64 (d.shape 7),.int .i64 (d.shape 8),.slice ao1 d.groups.1 cap1,.slice ao2 d.on.1 cap2,.slice ao3 d.tapes.1 cap3,.int .i64 d.writes,.int .i64 d.stop,.bool d.down]):=h;have HG3:Hid ((layTape.slice 87).rd w hi d.tapes [.slice ao3 d.tapes.1 cap3]):=g3;have HSZ:Hid (szWorldD d ≤ 1048576):=hsz;clear h h' hsz g1 g2 g3 k0 k4 k5;have T0:=two_newb w #[.int .i64 (d.shape 0),.int .i64 (d.shape 1),.int .i64 (d.shape 2),.int .i64 (d.shape 3),.int .i64 (d.shape 4),.int .i64 (d.shape 5),.int .i64 (d.shape 6),.int .i64 (d.shape 7),.int .i64 (d.shape 8),.slice ao1 d.groups.1 cap1,.slice ao2 d.on.1 cap2,.slice ao3 d.tapes.1 cap3,.int .i64 d.writes,.int .i64 d.stop,.bool d.down] #[.int .i64 0,.int .i64 0] 37 31
  go_enter Tryz.func8,Tryz.ntmps8
  go_wp2_with (refine wp_loadBox 37 (.tmp 1) rfl rfl (w.heap.size) rfl (cs:=[.int .i64 (d.shape 0),.int .i64 (d.shape 1),.int .i64 (d.shape 2),.int .i64 (d.shape 3),.int .i64 (d.shape 4),.int .i64 (d.shape 5),.int .i64 (d.shape 6),.int .i64 (d.shape 7),.int .i64 (d.shape 8),.slice ao1 d.groups.1 cap1,.slice ao2 d.on.1 cap2,.slice ao3 d.tapes.1 cap3,.int .i64 d.writes,.int .i64 d.stop,.bool d.down]) (T0.b1) Tryz.underlying37 size_W rfl ?_)
  refine (implWorld_any d _ hi _ (layWorld.rd_below HRD.out T0.bel hhi) (Nat.le_trans hhi T0.bel.size) (wld_ok_names HSZ.out)).mono ?_;rintro e w1 ⟨x,rfl,hx,b1⟩;have HT1:Hid (Two w w1 #[.int .i64 (d.shape 0),.int .i64 (d.shape 1),.int .i64 (d.shape 2),.int .i64 (d.shape 3),.int .i64 (d.shape 4),.int .i64 (d.shape 5),.int .i64 (d.shape 6),.int .i64 (d.shape 7),.int .i64 (d.shape 8),.slice ao1 d.groups.1 cap1,.slice ao2 d.on.1 cap2,.slice ao3 d.tapes.1 cap3,.int .i64 d.writes,.int .i64 d.stop,.bool d.down] #[.int .i64 0,.int .i64 0] 37 31):=T0.call b1;have HX:Hid (WldAns d x):=hx;have z1:w.heap.size + 1 < w1.heap.size:=HT1.out.b2.lt;clear b1 T0 hx
  by_cases hx0:x = 0
  case neg =>
    have hne:(x != 0) = true:=by simp [hx0]
    go_wp2_with (refine wp_storeBox 31 _ _ rfl rfl (w.heap.size + 1) rfl (cs:=[.int .i64 x,.int .i64 0]) (old:=[.int .i64 0,.int .i64 0]) rfl (HT1.out.b2) size_Ir rfl rfl (two_one _ _) ?_;intro w9 X9 C9 z9)
    refine ret_box Tryz.results8 rfl X9 Tryz.underlying31 size_Ir rfl rfl ?_;have zz:=C9.size;exact ⟨x,0,rfl,.inl ⟨hx0,HX.out,rfl⟩,HT1.out.bel.trans (C9.bel (fun b hb => by simp at hb;omega) HT1.out.bel.size)⟩
  subst hx0;have HOK:Hid (OkWorld d):=WldAns.ok HX.out;have h2:d.tapes.1 = 2:=HOK.out.form.2.2;have hn0:(d.tapes.2 0).recs.1 ≤ 400000:=Nat.le_trans (HOK.out.few 0 (by omega)) (by decide);have hn1:(d.tapes.2 1).recs.1 ≤ 400000:=Nat.le_trans (HOK.out.few 1 (by omega)) (by decide);have HH2:Hid (d.tapes.1 = 2):=h2;clear h2;have CR:=readTapes_any d [.int .i64 (d.shape 0),.int .i64 (d.shape 1),.int .i64 (d.shape 2),.int .i64 (d.shape 3),.int .i64 (d.shape 4),.int .i64 (d.shape 5),.int .i64 (d.shape 6),.int .i64 (d.shape 7),.int .i64 (d.shape 8),.slice ao1 d.groups.1 cap1,.slice ao2 d.on.1 cap2,.slice ao3 d.tapes.1 cap3,.int .i64 d.writes,.int .i64 d.stop,.bool d.down] hi w1 (layWorld.rd_below HRD.out HT1.out.bel hhi) (Nat.le_trans hhi HT1.out.bel.size) HOK.out
  go_wp2_with (refine wp_loadBox 37 (.tmp 1) rfl rfl (w.heap.size) rfl (cs:=[.int .i64 (d.shape 0),.int .i64 (d.shape 1),.int .i64 (d.shape 2),.int .i64 (d.shape 3),.int .i64 (d.shape 4),.int .i64 (d.shape 5),.int .i64 (d.shape 6),.int .i64 (d.shape 7),.int .i64 (d.shape 8),.slice ao1 d.groups.1 cap1,.slice ao2 d.on.1 cap2,.slice ao3 d.tapes.1 cap3,.int .i64 d.writes,.int .i64 d.stop,.bool d.down]) (HT1.out.b1) Tryz.underlying37 size_W rfl ?_)
  refine CR.mono ?_;rintro e w2 ⟨B,l,ce,v,b1,b2,b3,b4,b5,rfl,hCt,hLd,hRd,bb2⟩;have HL:Hid (Cnt (recT d.tapes.2 2) (lenT d.tapes.2 2) l):=hCt;have HT2:Hid (Two w w2 #[.int .i64 (d.shape 0),.int .i64 (d.shape 1),.int .i64 (d.shape 2),.int .i64 (d.shape 3),.int .i64 (d.shape 4),.int .i64 (d.shape 5),.int .i64 (d.shape 6),.int .i64 (d.shape 7),.int .i64 (d.shape 8),.slice ao1 d.groups.1 cap1,.slice ao2 d.on.1 cap2,.slice ao3 d.tapes.1 cap3,.int .i64 d.writes,.int .i64 d.stop,.bool d.down] #[.int .i64 0,.int .i64 0] 37 31):=HT1.out.call bb2;have z2:w1.heap.size ≤ w2.heap.size:=bb2.size
  have hlen:l.length ≤ 800000:=by
    have h1:=(hCt.sum (fun _ => 0)).2
    have e2:lenT d.tapes.2 2 = (d.tapes.2 0).recs.1 + (d.tapes.2 1).recs.1:=by simp [lenT]
    omega
  have CU:=items_any hLd (by omega) (by omega) hRd (fun i hi' hk1 => item_len (l_kind HOK.out hCt hi') hk1);clear hLd hRd bb2 CR HT1
  go_wp2_with fail
  refine CU.mono ?_;rintro e w5 ⟨u,cu,m,rfl,hLM,V,b5'⟩;have HLM:Hid (Live (fun i => recT d.tapes.2 2 (l.getD i 0)) l.length m):=hLM;have HT5:Hid (Two w w5 #[.int .i64 (d.shape 0),.int .i64 (d.shape 1),.int .i64 (d.shape 2),.int .i64 (d.shape 3),.int .i64 (d.shape 4),.int .i64 (d.shape 5),.int .i64 (d.shape 6),.int .i64 (d.shape 7),.int .i64 (d.shape 8),.slice ao1 d.groups.1 cap1,.slice ao2 d.on.1 cap2,.slice ao3 d.tapes.1 cap3,.int .i64 d.writes,.int .i64 d.stop,.bool d.down] #[.int .i64 0,.int .i64 0] 37 31):=HT2.out.call b5';have z5:w2.heap.size ≤ w5.heap.size:=b5'.size;have hsm:=wsum_le HH2.out HSZ.out hCt hLM;have HKI:Hid (∀ i,i < l.length → KindP d.shape (recT d.tapes.2 2 (l.getD i 0))):=fun i hi' => l_kind HOK.out hCt hi';obtain ⟨n,hn⟩:∃ n,n = m.length:=⟨_,rfl⟩;have HN:Hid (n = m.length):=hn
  have hnl:n ≤ 800000:=by
    have:=(live_sum hLM (fun _ => 0)).2;omega
  obtain ⟨x0,hx0⟩:∃ x,x = (fun i => recT d.tapes.2 2 (l.getD i 0)):=⟨_,rfl⟩;have HX0:Hid (x0 = (fun i => recT d.tapes.2 2 (l.getD i 0))):=hx0
  have HKD:Hid (∀ k,k < n → ¬ (x0 (m.getD k 0)).length < 0 ∧ (0 < (x0 (m.getD k 0)).data.1 → ((x0 (m.getD k 0)).data.1:Int) = (x0 (m.getD k 0)).length)):=fun k hk => by
    have hmm:=(hLM.1 _).1 (getD_memL (l:=m) (i:=k) (by rw [← hn];exact hk));have hK:=HKI.out _ hmm.1;rw [hx0];exact ⟨hmm.2.2.1,fun hd => item_data hK hmm.2.1 hmm.2.2.1 hd⟩
  rw [← hn] at V hsm;rw [← hx0] at hsm
  have HV:Hid (View layRec 66 w5 w2.heap.size hi u n (fun i => x0 (m.getD i 0)) cu):=by
    show View layRec 66 w5 w2.heap.size hi u n (fun i => x0 (m.getD i 0)) cu
    rw [hx0];exact V
  obtain ⟨ao,cap,hv⟩:=V.form;subst hv;clear V b5' CU HT2 hCt hLM hn hx0;go_wp2
  go_loopw [4,17] (fun s i wr => ∃ k:Nat,k ≤ n ∧ i = .int .i64 k ∧ s = .int .i64 (wsum x0 m k:Int) ∧ Below w5.heap.size w5 wr) (fun _ i _ => n - (intOf i).toNat)
  case atStart => exact ⟨0,Nat.zero_le _,rfl,rfl,Below.refl _ _⟩
  case round =>
    obtain ⟨k,hk,rfl,rfl,hb⟩:=hrel;have HB:Hid (Below w5.heap.size w5 wr):=hb;have zr:w5.heap.size ≤ wr.heap.size:=hb.size
    by_cases hlt:k < n
    · have Vr:=HV.out.below hb (by omega)
      obtain ⟨g,c0,hg⟩:=Vr.form0 (by omega);have hg2:=hg
      obtain ⟨rfl,rfl⟩:ao = some ⟨g,0,none⟩ ∧ cap = c0:=by simpa using hg2
      have rg:=Vr.range hlt;have hcl:=Vr.lens k hlt;have hone:=layRec_one (Vr.each k hlt);obtain ⟨r,hr⟩:∃ r,r = x0 (m.getD k 0):=⟨_,rfl⟩;have hkd:=HKD.out k hlt;rw [← hr] at hkd;obtain ⟨cR,hcR⟩:∃ c,c = cu k:=⟨_,rfl⟩;obtain ⟨ao6,cap6,ao7,cap7,ao8,cap8,hce,-⟩:=Rec_rd (Vr.each k hlt);rw [← hcR] at rg hcl hone hce;have rg9:wr.rangeAt g (k * 9) cR:=rg;have hcl9:cR.length = 9:=hcl;have bA:Below wr.heap.size wr (wr.alloc (.cells cR.toArray 66)):=(Below.refl _ _).alloc (Nat.le_refl _) _;have XA:Box (wr.alloc (.cells cR.toArray 66)) wr.heap.size cR.toArray 66:=box_new _ _ _;obtain ⟨W,hW⟩:∃ y,y = wr.alloc (.cells cR.toArray 66):=⟨_,rfl⟩;rw [← hW] at bA XA
      have y7:W.cell? ⟨wr.heap.size,7,none⟩ = some (.slice ao7 r.data.1 cap7):=by rw [XA.cell 7,hce,hr];rfl
      have y3:W.cell? ⟨wr.heap.size,3,none⟩ = some (.int .i64 r.length):=by rw [XA.cell 3,hce,hr];rfl
      have HBA:Hid (Below w5.heap.size w5 W):=HB.out.trans (bA.mono zr)
      have HW:Hid (wsum x0 m (k + 1) = wsum x0 m k + r.data.1):=by
        show wsum x0 m (k + 1) = wsum x0 m k + r.data.1
        rw [wsum_succ,hr]
      have hle:=Nat.le_trans (wsum_mono x0 m (show k + 1 ≤ n from hlt)) hsm;rw [HW.out] at hle;obtain ⟨q,hq⟩:∃ q,q = wsum x0 m k:=⟨_,rfl⟩;have HQ:Hid (q = wsum x0 m k):=hq;rw [← hq] at hle ⊢
      have i1:(0:Int) ≤ (k:Int):=by omega
      have i2:(k:Int) < (n:Int):=by omega
      clear Vr hg hg2 rg hce hr hq hb bA XA hcl hcR
      by_cases hd:0 < r.data.1
      · have e1:=hkd.2 hd
        have HE1:Hid ((r.data.1:Int) = r.length):=e1
        have wz:IntKind.i64.wrap ((q:Int) + r.length) = (q:Int) + r.length:=by rw [IntKind.wrap_i64];omega
        have hd1:(0:Int) < (r.data.1:Int):=by omega
        clear e1 hkd
        go_wp2_with (first | (refine wpList_load_mid rfl 66 (.tmp 19) rfl g (k * 9) (by simp [Act.eval,Act.put]) cR _ rg9 Tryz.underlying66 rfl (info_Rec9 hcl9) ?_) | (refine wp_allocStore 66 6 (.tmp 20) cR _ 9 rfl rfl rfl rfl rfl rfl (by simp [Act.eval,Act.put]) (by simp [Act.eval,Act.put]) info_RecZ rfl hcl9 hone ?_;rw [← hW];clear hW))
        go_roundw
        case rel => exact ⟨k + 1,by omega,by go_num,(by rw [HW.out,← HQ.out,Int.natCast_add,HE1.out]),HBA.out⟩
        case measure => simp [intOf];omega
      · have HD0:Hid (r.data.1 = 0):=(by omega:r.data.1 = 0)
        have hd1:¬ (0:Int) < (r.data.1:Int):=by omega
        clear hkd
        go_wp2_with (first | (refine wpList_load_mid rfl 66 (.tmp 19) rfl g (k * 9) (by simp [Act.eval,Act.put]) cR _ rg9 Tryz.underlying66 rfl (info_Rec9 hcl9) ?_) | (refine wp_allocStore 66 6 (.tmp 20) cR _ 9 rfl rfl rfl rfl rfl rfl (by simp [Act.eval,Act.put]) (by simp [Act.eval,Act.put]) info_RecZ rfl hcl9 hone ?_;rw [← hW];clear hW))
        go_roundw
        case rel => exact ⟨k + 1,by omega,by go_num,(by rw [HW.out,HD0.out,Nat.add_zero,← HQ.out]),HBA.out⟩
        case measure => simp [intOf];omega
    · obtain rfl:k = n:=by omega
      have HT9:Hid (Two w wr #[.int .i64 (d.shape 0),.int .i64 (d.shape 1),.int .i64 (d.shape 2),.int .i64 (d.shape 3),.int .i64 (d.shape 4),.int .i64 (d.shape 5),.int .i64 (d.shape 6),.int .i64 (d.shape 7),.int .i64 (d.shape 8),.slice ao1 d.groups.1 cap1,.slice ao2 d.on.1 cap2,.slice ao3 d.tapes.1 cap3,.int .i64 d.writes,.int .i64 d.stop,.bool d.down] #[.int .i64 0,.int .i64 0] 37 31):=HT5.out.call hb;obtain ⟨q,hq⟩:∃ q,q = wsum x0 m k:=⟨_,rfl⟩
      have HQ:Hid (q = wsum (fun i => recT d.tapes.2 2 (l.getD i 0)) m m.length):=by rw [hq,← HX0.out,← HN.out];exact rfl
      rw [← hq];clear hq hb
      go_wp2_with (refine wp_storeBox 31 _ _ rfl rfl (w.heap.size + 1) rfl (cs:=[.int .i64 0,.int .i64 (q:Int)]) (old:=[.int .i64 0,.int .i64 0]) rfl (HT9.out.b2) size_Ir rfl rfl (two_one _ _) ?_;intro w9 X9 C9 z9)
      refine ret_box Tryz.results8 rfl X9 Tryz.underlying31 size_Ir rfl rfl ?_;have zz:=C9.size;exact ⟨0,(q:Int),rfl,.inr ⟨HX.out,rfl,l,m,HL.out,HLM.out,by rw [HQ.out]⟩,HT9.out.bel.trans (C9.bel (fun b hb => by simp at hb;omega) HT9.out.bel.size)⟩
end Go.Proofs.YtfoidpcoiankoaaGreat
namespace Go.Proofs.YtfoidpcoiankoaaGreat
open Go.ChangeShapes Go.WideShapes Go.ChangeAt Go.RowKit F256
theorem wt_ex (d:WorldD):∃ c v,WtAns d c v:=by
  obtain ⟨x,hx⟩:=world_ex d
  by_cases h:x = 0
  · subst h
    obtain ⟨l,hl⟩:=cnt_ex (recT d.tapes.2 2) (lenT d.tapes.2 2);obtain ⟨m,hm⟩:=live_ex (fun i => recT d.tapes.2 2 (l.getD i 0)) l.length;exact ⟨_,_,.inr ⟨hx,rfl,l,m,hl,hm,rfl⟩⟩
  · exact ⟨x,0,.inl ⟨h,hx,rfl⟩⟩
theorem wt_det {d:WorldD} {c v:Int} {w:World} {f:Nat} {args:Array Value} (hq:WtAns d c v) (h:Calls Tryz.prog f args w (WtPost d w)):Calls Tryz.prog f args w fun e w' => e = .returned (.agg #[.int .i64 c,.int .i64 v]) ∧ Below w.heap.size w w' :=
  h.mono fun e w' ⟨c',v',h1,h2,h3⟩ => ⟨by rw [h1,(hq.one h2).1,(hq.one h2).2],h3⟩
theorem info_Ir:(Tryz.prog.info? 31).map (fun i => (i.zero.map (·.cells),i.size)) = some (some #[.int .i64 0,.int .i64 0],2):=by kernel_rfl
set_option maxHeartbeats 16000000 in
set_option maxRecDepth 20000 in
theorem fnExactWaitingBytes_walk (d:WorldD) (cs:List Value)  (w:World) (rd0:layWorld.rd w w.heap.size d cs)  :
    Calls Tryz.prog 3 #[.agg cs.toArray] w fun e w' => e = .returned (.bool true) ∧ Below w.heap.size w w':=by
  obtain ⟨v0,v1,v2,v3,v4,v5,v6,v7,v8,vp0,vl0,vq0,vp1,vl1,vq1,vp2,vl2,vq2,v9,v10,vb,rfl⟩:=world15 rd0;have HR:Hid (layWorld.rd w w.heap.size d [.int .i64 v0,.int .i64 v1,.int .i64 v2,.int .i64 v3,.int .i64 v4,.int .i64 v5,.int .i64 v6,.int .i64 v7,.int .i64 v8,.slice vp0 vl0 vq0,.slice vp1 vl1 vq1,.slice vp2 vl2 vq2,.int .i64 v9,.int .i64 v10,.bool vb]):=rd0;clear rd0;have T0:=one_new w #[.int .i64 v0,.int .i64 v1,.int .i64 v2,.int .i64 v3,.int .i64 v4,.int .i64 v5,.int .i64 v6,.int .i64 v7,.int .i64 v8,.slice vp0 vl0 vq0,.slice vp1 vl1 vq1,.slice vp2 vl2 vq2,.int .i64 v9,.int .i64 v10,.bool vb] 28
  go_enter Tryz.func3,Tryz.ntmps3
  go_wp2_with (refine wp_loadBox 28 (.tmp 1) rfl rfl (w.heap.size) rfl (cs:=[.int .i64 v0,.int .i64 v1,.int .i64 v2,.int .i64 v3,.int .i64 v4,.int .i64 v5,.int .i64 v6,.int .i64 v7,.int .i64 v8,.slice vp0 vl0 vq0,.slice vp1 vl1 vq1,.slice vp2 vl2 vq2,.int .i64 v9,.int .i64 v10,.bool vb]) T0.b1 Tryz.underlying28 size_LW rfl ?_)
  refine (szWorld_is _ d w.heap.size 1048576 _ (layWorld.rd_below HR.out T0.bel (Nat.le_refl _)) T0.bel.size (by omega)).mono ?_;rintro e w1 ⟨x,rfl,hx,b1⟩;have T1:=T0.call b1;have HT1:Hid (One w w1 #[.int .i64 v0,.int .i64 v1,.int .i64 v2,.int .i64 v3,.int .i64 v4,.int .i64 v5,.int .i64 v6,.int .i64 v7,.int .i64 v8,.slice vp0 vl0 vq0,.slice vp1 vl1 vq1,.slice vp2 vl2 vq2,.int .i64 v9,.int .i64 v10,.bool vb] 28):=T1;clear b1 T0
  rcases hx with rfl | ⟨hsz,hx⟩
  · clear T1
    go_wp2;go_ret;exact ⟨rfl,HT1.out.bel⟩
  have hx0:¬ x < 0:=by omega
  clear hx;obtain ⟨cc,vv,hq⟩:=wt_ex d
  have CT:∀ w',Below w1.heap.size w1 w' → Calls Tryz.prog 7 #[.agg #[.int .i64 v0,.int .i64 v1,.int .i64 v2,.int .i64 v3,.int .i64 v4,.int .i64 v5,.int .i64 v6,.int .i64 v7,.int .i64 v8,.slice vp0 vl0 vq0,.slice vp1 vl1 vq1,.slice vp2 vl2 vq2,.int .i64 v9,.int .i64 v10,.bool vb]] w' fun e w'' => ∃ cs',e = .returned (.agg cs'.toArray) ∧ OwnT layWorld w'' w'.heap.size w''.heap.size d cs' ∧ Below w'.heap.size w' w'':=fun w' hb =>
    toWorld_is _ d w.heap.size w' (layWorld.rd_below (layWorld.rd_below HR.out HT1.out.bel (Nat.le_refl _)) hb HT1.out.bel.size) (Nat.le_trans HT1.out.bel.size hb.size) hsz
  have CS:=fun (cs':List Value) (hi:Nat) (w':World) (h1:layWorld.rd w' hi d cs') (h2:hi ≤ w'.heap.size) => wt_det hq (specWt_any d  cs' hi w' h1 h2 hsz);have CI:=fun (cs':List Value) (hi:Nat) (w':World) (h1:layWorld.rd w' hi d cs') (h2:hi ≤ w'.heap.size) => wt_det hq (implWt_any d  cs' hi w' h1 h2 hsz);have CE:=fun w' => eqInt_same cc vv w';unfold intR at CE;have CW:=fun c1 c2 h1 h2 w' => eqWorld_is c1 c2 d h1 h2 w';clear hq hsz
  go_wp2_with (refine wp_loadBox 28 (.tmp 1) rfl rfl (w.heap.size) rfl (cs:=[.int .i64 v0,.int .i64 v1,.int .i64 v2,.int .i64 v3,.int .i64 v4,.int .i64 v5,.int .i64 v6,.int .i64 v7,.int .i64 v8,.slice vp0 vl0 vq0,.slice vp1 vl1 vq1,.slice vp2 vl2 vq2,.int .i64 v9,.int .i64 v10,.bool vb]) T1.b1 Tryz.underlying28 size_LW rfl ?_)
  refine (CT _ (Below.refl _ _)).mono ?_;rintro e w2 ⟨c2,rfl,o2,b2⟩;have z1:w.heap.size < w1.heap.size:=T1.b1.lt;clear T1
  go_wp2_with fail
  refine (CS _ _ _ o2.rd (Nat.le_refl _)).mono ?_;rintro e w3 ⟨rfl,b3⟩;have z2:w1.heap.size ≤ w2.heap.size:=b2.size;have z3:w2.heap.size ≤ w3.heap.size:=b3.size;have B3:Below w1.heap.size w1 w3:=b2.trans (b3.mono b2.size);clear o2 b2 b3
  go_upto_region 6 with (refine wp_allocStore 31 4 (.tmp 14) [.int .i64 cc,.int .i64 vv] _ 2 rfl rfl rfl rfl rfl rfl rfl rfl info_Ir rfl rfl (two_one _ _) ?_)
  have bA:Below w3.heap.size w3 (w3.alloc (.cells #[.int .i64 cc,.int .i64 vv] 31)):=(Below.refl _ _).alloc (Nat.le_refl _) _;have S4:Box (w3.alloc (.cells #[.int .i64 cc,.int .i64 vv] 31)) w3.heap.size #[.int .i64 cc,.int .i64 vv] 31:=box_new _ _ _;obtain ⟨W4,hW4⟩:∃ x,x = w3.alloc (.cells #[.int .i64 cc,.int .i64 vv] 31):=⟨_,rfl⟩;rw [← hW4] at bA S4 ⊢;have B4:=B3.trans (bA.mono (by omega));have P4:=HT1.out.call B4;have z4:w3.heap.size < W4.heap.size:=S4.lt;clear bA hW4 B3
  go_wp2_with (refine wp_loadBox 28 (.tmp 1) rfl rfl (w.heap.size) rfl (cs:=[.int .i64 v0,.int .i64 v1,.int .i64 v2,.int .i64 v3,.int .i64 v4,.int .i64 v5,.int .i64 v6,.int .i64 v7,.int .i64 v8,.slice vp0 vl0 vq0,.slice vp1 vl1 vq1,.slice vp2 vl2 vq2,.int .i64 v9,.int .i64 v10,.bool vb]) P4.b1 Tryz.underlying28 size_LW rfl ?_)
  refine (CT _ B4).mono ?_;rintro e w5 ⟨cX,rfl,oX,b5⟩;obtain ⟨x0,x1,x2,x3,x4,x5,x6,x7,x8,xp0,xl0,xq0,xp1,xl1,xq1,xp2,xl2,xq2,x9,x10,xb,rfl⟩:=world15O oX;have z5:W4.heap.size ≤ w5.heap.size:=b5.size;have B5:=B4.trans (b5.mono (by omega));have S5:=S4.call b5;clear P4 b5 B4 S4
  go_upto_region 7 with (refine wp_allocStore 37 5 (.tmp 16) [.int .i64 x0,.int .i64 x1,.int .i64 x2,.int .i64 x3,.int .i64 x4,.int .i64 x5,.int .i64 x6,.int .i64 x7,.int .i64 x8,.slice xp0 xl0 xq0,.slice xp1 xl1 xq1,.slice xp2 xl2 xq2,.int .i64 x9,.int .i64 x10,.bool xb] _ 15 rfl rfl rfl rfl rfl rfl rfl rfl info_W rfl rfl oX.one ?_)
  have bA:Below w5.heap.size w5 (w5.alloc (.cells #[.int .i64 x0,.int .i64 x1,.int .i64 x2,.int .i64 x3,.int .i64 x4,.int .i64 x5,.int .i64 x6,.int .i64 x7,.int .i64 x8,.slice xp0 xl0 xq0,.slice xp1 xl1 xq1,.slice xp2 xl2 xq2,.int .i64 x9,.int .i64 x10,.bool xb] 37)):=(Below.refl _ _).alloc (Nat.le_refl _) _;have X6:Box (w5.alloc (.cells #[.int .i64 x0,.int .i64 x1,.int .i64 x2,.int .i64 x3,.int .i64 x4,.int .i64 x5,.int .i64 x6,.int .i64 x7,.int .i64 x8,.slice xp0 xl0 xq0,.slice xp1 xl1 xq1,.slice xp2 xl2 xq2,.int .i64 x9,.int .i64 x10,.bool xb] 37)) w5.heap.size #[.int .i64 x0,.int .i64 x1,.int .i64 x2,.int .i64 x3,.int .i64 x4,.int .i64 x5,.int .i64 x6,.int .i64 x7,.int .i64 x8,.slice xp0 xl0 xq0,.slice xp1 xl1 xq1,.slice xp2 xl2 xq2,.int .i64 x9,.int .i64 x10,.bool xb] 37:=box_new _ _ _;obtain ⟨W6,hW6⟩:∃ x,x = w5.alloc (.cells #[.int .i64 x0,.int .i64 x1,.int .i64 x2,.int .i64 x3,.int .i64 x4,.int .i64 x5,.int .i64 x6,.int .i64 x7,.int .i64 x8,.slice xp0 xl0 xq0,.slice xp1 xl1 xq1,.slice xp2 xl2 xq2,.int .i64 x9,.int .i64 x10,.bool xb] 37):=⟨_,rfl⟩;rw [← hW6] at bA X6 ⊢;have B6:=B5.trans (bA.mono (by omega));have S6:=S5.call bA;have OX6:=oX.call bA;have z6:w5.heap.size < W6.heap.size:=X6.lt;clear bA hW6 oX B5 S5
  go_wp2_with (refine wp_loadBox 37 (.tmp 5) rfl rfl (w5.heap.size) rfl (cs:=[.int .i64 x0,.int .i64 x1,.int .i64 x2,.int .i64 x3,.int .i64 x4,.int .i64 x5,.int .i64 x6,.int .i64 x7,.int .i64 x8,.slice xp0 xl0 xq0,.slice xp1 xl1 xq1,.slice xp2 xl2 xq2,.int .i64 x9,.int .i64 x10,.bool xb]) X6 Tryz.underlying37 size_W rfl ?_)
  refine (CI _ _ _ OX6.rd (by omega)).mono ?_;rintro e w7 ⟨rfl,b7⟩;have z7:W6.heap.size ≤ w7.heap.size:=b7.size;have B7:=B6.trans (b7.mono (by omega));have S7:=S6.call b7;have X7:=X6.call b7;have OX7:=OX6.call b7;clear b7 B6 S6 X6 OX6
  go_upto_region 8 with (refine wp_allocStore 31 6 (.tmp 18) [.int .i64 cc,.int .i64 vv] _ 2 rfl rfl rfl rfl rfl rfl rfl rfl info_Ir rfl rfl (two_one _ _) ?_)
  have bA:Below w7.heap.size w7 (w7.alloc (.cells #[.int .i64 cc,.int .i64 vv] 31)):=(Below.refl _ _).alloc (Nat.le_refl _) _;have G8:Box (w7.alloc (.cells #[.int .i64 cc,.int .i64 vv] 31)) w7.heap.size #[.int .i64 cc,.int .i64 vv] 31:=box_new _ _ _;obtain ⟨W8,hW8⟩:∃ x,x = w7.alloc (.cells #[.int .i64 cc,.int .i64 vv] 31):=⟨_,rfl⟩;rw [← hW8] at bA G8 ⊢;have B8:=B7.trans (bA.mono (by omega));have S8:=S7.call bA;have X8:=X7.call bA;have OX8:=OX7.call bA;have z8:w7.heap.size < W8.heap.size:=G8.lt;clear bA hW8 B7 S7 X7 OX7
  go_wp2_with (first | (refine wp_loadBox 31 (.tmp 6) rfl rfl (w7.heap.size) rfl (cs:=[.int .i64 cc,.int .i64 vv]) G8 Tryz.underlying31 size_Ir rfl ?_) | (refine wp_loadBox 31 (.tmp 4) rfl rfl (w3.heap.size) rfl (cs:=[.int .i64 cc,.int .i64 vv]) S8 Tryz.underlying31 size_Ir rfl ?_))
  refine (CE _).mono ?_;rintro e w9 ⟨rfl,b9⟩;have z9:W8.heap.size ≤ w9.heap.size:=b9.size;have B9:=B8.trans (b9.mono (by omega));have X9:Hid (Box w9 w5.heap.size #[.int .i64 x0,.int .i64 x1,.int .i64 x2,.int .i64 x3,.int .i64 x4,.int .i64 x5,.int .i64 x6,.int .i64 x7,.int .i64 x8,.slice xp0 xl0 xq0,.slice xp1 xl1 xq1,.slice xp2 xl2 xq2,.int .i64 x9,.int .i64 x10,.bool xb] 37):=X8.call b9;have OX9:Hid (OwnT layWorld w9 W4.heap.size w5.heap.size d [.int .i64 x0,.int .i64 x1,.int .i64 x2,.int .i64 x3,.int .i64 x4,.int .i64 x5,.int .i64 x6,.int .i64 x7,.int .i64 x8,.slice xp0 xl0 xq0,.slice xp1 xl1 xq1,.slice xp2 xl2 xq2,.int .i64 x9,.int .i64 x10,.bool xb]):=OX8.call b9;have HB9:Hid (Below w1.heap.size w1 w9):=B9;have P9:Hid (One w w9 #[.int .i64 v0,.int .i64 v1,.int .i64 v2,.int .i64 v3,.int .i64 v4,.int .i64 v5,.int .i64 v6,.int .i64 v7,.int .i64 v8,.slice vp0 vl0 vq0,.slice vp1 vl1 vq1,.slice vp2 vl2 vq2,.int .i64 v9,.int .i64 v10,.bool vb] 28):=HT1.out.call B9;have CTc:=fun w' (hb:Below w9.heap.size w9 w') => CT w' (HB9.out.trans (hb.mono (by omega)));clear b9 B8 S8 X8 OX8 G8 B9
  go_upto_region 10 with fail
  go_cut [27] (fun v wx => v = .bool false ∧ Below w9.heap.size w9 wx)
  case first =>
    have KS:∀ w',Below w9.heap.size w9 w' → (Box w' (w5.heap.size) #[.int .i64 x0,.int .i64 x1,.int .i64 x2,.int .i64 x3,.int .i64 x4,.int .i64 x5,.int .i64 x6,.int .i64 x7,.int .i64 x8,.slice xp0 xl0 xq0,.slice xp1 xl1 xq1,.slice xp2 xl2 xq2,.int .i64 x9,.int .i64 x10,.bool xb] 37 ∧ Box w' (w.heap.size) #[.int .i64 v0,.int .i64 v1,.int .i64 v2,.int .i64 v3,.int .i64 v4,.int .i64 v5,.int .i64 v6,.int .i64 v7,.int .i64 v8,.slice vp0 vl0 vq0,.slice vp1 vl1 vq1,.slice vp2 vl2 vq2,.int .i64 v9,.int .i64 v10,.bool vb] 28):=fun w' hb => ⟨(X9.out).call hb,(P9.out.b1).call hb⟩;have B0:Below w9.heap.size w9 w9.drew:=below_drew _;refine wp_region_L 4 (fun w' => Box w' (w5.heap.size) #[.int .i64 x0,.int .i64 x1,.int .i64 x2,.int .i64 x3,.int .i64 x4,.int .i64 x5,.int .i64 x6,.int .i64 x7,.int .i64 x8,.slice xp0 xl0 xq0,.slice xp1 xl1 xq1,.slice xp2 xl2 xq2,.int .i64 x9,.int .i64 x10,.bool xb] 37 ∧ Box w' (w.heap.size) #[.int .i64 v0,.int .i64 v1,.int .i64 v2,.int .i64 v3,.int .i64 v4,.int .i64 v5,.int .i64 v6,.int .i64 v7,.int .i64 v8,.slice vp0 vl0 vq0,.slice vp1 vl1 vq1,.slice vp2 vl2 vq2,.int .i64 v9,.int .i64 v10,.bool vb] 28) (by kernel_rfl) (KS _ B0) (fun hHeld => ?_);refine wpAnyL_take (i:=0) (oi:=_) (v:=.agg #[.int .i64 x0,.int .i64 x1,.int .i64 x2,.int .i64 x3,.int .i64 x4,.int .i64 x5,.int .i64 x6,.int .i64 x7,.int .i64 x8,.slice xp0 xl0 xq0,.slice xp1 xl1 xq1,.slice xp2 xl2 xq2,.int .i64 x9,.int .i64 x10,.bool xb]) 16 rfl (by kernel_rfl) (fun _ _ _ h => h) (load_yield 37 (.tmp 5) rfl rfl (w5.heap.size) rfl (cs:=[.int .i64 x0,.int .i64 x1,.int .i64 x2,.int .i64 x3,.int .i64 x4,.int .i64 x5,.int .i64 x6,.int .i64 x7,.int .i64 x8,.slice xp0 xl0 xq0,.slice xp1 xl1 xq1,.slice xp2 xl2 xq2,.int .i64 x9,.int .i64 x10,.bool xb]) (fun w' h => h.1) Tryz.underlying37 size_W rfl) (by assumption) ?_
    try simp only [Act.put,SL]
    refine wpAnyL_take (i:=1) (oi:=_) (v:=.agg #[.int .i64 v0,.int .i64 v1,.int .i64 v2,.int .i64 v3,.int .i64 v4,.int .i64 v5,.int .i64 v6,.int .i64 v7,.int .i64 v8,.slice vp0 vl0 vq0,.slice vp1 vl1 vq1,.slice vp2 vl2 vq2,.int .i64 v9,.int .i64 v10,.bool vb]) 16 rfl (by kernel_rfl) (fun _ _ _ h => h) (load_yield 28 (.tmp 1) rfl rfl (w.heap.size) rfl (cs:=[.int .i64 v0,.int .i64 v1,.int .i64 v2,.int .i64 v3,.int .i64 v4,.int .i64 v5,.int .i64 v6,.int .i64 v7,.int .i64 v8,.slice vp0 vl0 vq0,.slice vp1 vl1 vq1,.slice vp2 vl2 vq2,.int .i64 v9,.int .i64 v10,.bool vb]) (fun w' h => h.2) Tryz.underlying28 size_LW rfl) (by assumption) ?_
    try simp only [Act.put,SL]
    refine wpAnyL_one (i:=2) (o:=_) rfl (by kernel_rfl) (fun KC hKC => ?_);refine step_call rfl 7 _ _ rfl #[.agg #[.int .i64 v0,.int .i64 v1,.int .i64 v2,.int .i64 v3,.int .i64 v4,.int .i64 v5,.int .i64 v6,.int .i64 v7,.int .i64 v8,.slice vp0 vl0 vq0,.slice vp1 vl1 vq1,.slice vp2 vl2 vq2,.int .i64 v9,.int .i64 v10,.bool vb]] ?_ Tryz.func7 (by kernel_rfl) (by kernel_rfl) (CTc _ B0) ?_
    · simp [Act.eval,Act.put]
    rintro ee wb ⟨cs',rfl,oR,bb⟩;have bR:Below w9.heap.size w9 wb:=B0.trans (bb.mono B0.size);refine ⟨_,rfl,?_⟩;refine hKC.out _ _ (KS _ bR) (fun hHeld => ?_);clear hKC KC
    try simp only [Act.put,SL]
    refine wpAnyL_one (i:=3) (o:=_) rfl (by kernel_rfl) (fun KC hKC => ?_);refine step_call rfl 10 _ _ rfl #[.agg #[.int .i64 x0,.int .i64 x1,.int .i64 x2,.int .i64 x3,.int .i64 x4,.int .i64 x5,.int .i64 x6,.int .i64 x7,.int .i64 x8,.slice xp0 xl0 xq0,.slice xp1 xl1 xq1,.slice xp2 xl2 xq2,.int .i64 x9,.int .i64 x10,.bool xb],.agg cs'.toArray] ?_ Tryz.func10 (by kernel_rfl) (by kernel_rfl) (CW _ _ _ _ _ ((OX9.out).call bR).rd oR.rd (Nat.le_trans (by omega) bR.size) (Nat.le_refl _)) ?_
    · simp [Act.eval,Act.put]
    rintro ee wc' ⟨rfl,bc⟩;have bC:Below w9.heap.size w9 wc':=bR.trans (bc.mono bR.size);refine ⟨_,rfl,?_⟩;refine hKC.out _ _ (KS _ bC) (fun hHeld => ?_);clear hKC KC
    try simp only [Act.put,SL]
    refine wpAnyL_last (o:=_) rfl (by kernel_rfl) (fun KC hKC => ?_);go_simp;refine hKC.out _ _ ?_;clear hKC KC
    try simp only [Act.put,SL]
    refine wpAnyL_done (by kernel_rfl) ?_ _;go_wp2
    go_meet
    exact ⟨rfl,bC⟩
  case rest =>
  obtain ⟨rfl,b10⟩:=hcut;have HB:Hid (Below w.heap.size w wc):=(P9.out.call b10).bel;clear b10 CTc;go_wp2;go_ret;exact ⟨rfl,HB.out⟩
set_option maxRecDepth 100000 in
theorem fnExactWaitingBytes_lifted (os:Os) (started:os.Started) (H:Type) (enc:TypeId × Value → H) :
    ReturnsInHanded {} Tryz.checked os 3 .any (Rows.fnExactWaitingBytesSpec.pre6 enc Tryz.prog Tryz.f3 Rows.fnExactWaitingBytesRow.domain false) (Rows.fnExactWaitingBytesSpec.post enc Tryz.prog Tryz.f3 false true false false):=by
  refine returnsInHanded_of_change (C:=Tryz.checked) frame_own started (by kernel_rfl) Tryz.func3
    (ChangeSpec.witness6 (enc:=enc) (C:=Tryz.checked) false ⟨#[],#[.agg #[.int .i64 0,.int .i64 0,.int .i64 0,.int .i64 0,.int .i64 0,.int .i64 0,.int .i64 0,.int .i64 0,.int .i64 0,.slice none 0 0,.slice none 0 0,.slice none 0 0,.int .i64 0,.int .i64 0,.bool false]],[]⟩ 8 (by kernel_rfl) (by kernel_rfl) (by kernel_rfl) (by kernel_rfl)) ?_
  intro W base args ds gs before hval0 hW hcnd _;have hval:∀ (j:Nat) t v,Tryz.f3.params[j]? = some t → args[j]? = some v → Value.okWide Tryz.prog W .any base t v:=hval0;have hW':=hW;obtain ⟨p,q,hA0,hV,rfl,hfz,hnd⟩:=hW;have hA:DataW.TrodAll enc Tryz.prog W 0 (fun _ => true) true Tryz.f3.params.toList args.toList ds p:=hA0;rw [Tryz.params3] at hA hval;obtain ⟨v0,vs0,d0,ds0,p0,q0,hargs,rfl,rfl,h0,r0⟩:=trodAll_cons hA;obtain ⟨rfl,rfl,rfl⟩:=trodAll_nil r0
  obtain rfl:args = #[v0]:=by cases args;simp_all
  obtain ⟨rfl,rfl⟩:=trodVars_none hV;have k0:=h0
  have lt0:∀ x ∈ p0,x.block < W.heap.size:=by obtain ⟨m,hm⟩:=k0;exact DataW.trod_lt m _ _ _ hm
  obtain ⟨cs0,a0,rfl,rd0⟩:=struct_of_trod opensWorld Tryz.underlying28 (hval 0 28 v0 rfl rfl) h0;clear hA0 hval0;refine (fnExactWaitingBytes_walk a0 cs0 W rd0).mono fun e W' ⟨he,bel⟩ => ?_;subst he;exact ⟨_,rfl,_,_,_,[],_,[],hW',trodAll_mk1 (shut_bool Tryz.underlying4 _),(trodAll_cons_mk (Below.trod frame_laid (by kernel_rfl) (of_decide_eq_true (by kernel_rfl)) k0 bel lt0) trodAll_mk0),rfl,bel.frame _,fun h => by cases h⟩
end Go.Proofs.YtfoidpcoiankoaaGreat