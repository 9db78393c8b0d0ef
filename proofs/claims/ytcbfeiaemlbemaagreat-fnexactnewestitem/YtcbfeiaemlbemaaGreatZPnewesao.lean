/- NewestItem of both sides. -/
import Derived.Test.YtcbfeiaemlbemaaGreatZPnewesah
import Derived.Test.YtcbfeiaemlbemaaGreatZPnewesan
import Derived.Deep.DeepCutAuto
import Derived.Test.YtcbfeiaemlbemaaGreatZPnewesaf
import Derived.Test.YtcbfeiaemlbemaaGreatZPnewesad
import Derived.Test.YtcbfeiaemlbemaaGreatZPnewesak
import Derived.Test.YtcbfeiaemlbemaaGreatZPnewesae
import Derived.Test.YtcbfeiaemlbemaaGreatRows
import Derived.Test.YtcbfeiaemlbemaaGreatZPnewesaa
import Derived.Deep.RegionLaw
set_option linter.unusedVariables false
set_option linter.unusedSimpArgs false
namespace Go.Proofs.YtcbfeiaemlbemaaGreat
open Go.RowKit F256
def NwP (x:Nat → RecD) (n:Nat) (nm:ByteArray) (q:RecsResultD):Prop:=(lastI (itm x nm) n = -1 ∧ q = ⟨4,(0,fun _ => rec0)⟩) ∨ ∃ i:Nat,i < n ∧ lastI (itm x nm) n = (i:Int) ∧ (((x i).length < 0 ∧ q = ⟨4,(0,fun _ => rec0)⟩) ∨ (¬ (x i).length < 0 ∧ q = ⟨0,(1,fun _ => x i)⟩))
theorem NwP.one {x:Nat → RecD} {n:Nat} {nm:ByteArray} {p q:RecsResultD} (h:NwP x n nm p) (k:NwP x n nm q):p = q:=by
  rcases h with ⟨h1,h2⟩ | ⟨i,hi,h1,h2⟩ <;> rcases k with ⟨k1,k2⟩ | ⟨j,hj,k1,k2⟩
  · rw [h2,k2]
  · omega
  · omega
  · obtain rfl:i = j:=by omega
    rcases h2 with ⟨a,h2⟩ | ⟨a,h2⟩ <;> rcases k2 with ⟨b,k2⟩ | ⟨b,k2⟩
    · rw [h2,k2]
    · exact absurd a b
    · exact absurd b a
    · rw [h2,k2]
theorem nwP_ex (x:Nat → RecD) (n:Nat) (nm:ByteArray):∃ q,NwP x n nm q:=by
  rcases lastI_cases (itm x nm) n with e | ⟨i,h1,h2,h3⟩
  · exact ⟨_,.inl ⟨e,rfl⟩⟩
  · by_cases c:(x i).length < 0
    · exact ⟨_,.inr ⟨i,h1,h2,.inl ⟨c,rfl⟩⟩⟩
    · exact ⟨_,.inr ⟨i,h1,h2,.inr ⟨c,rfl⟩⟩⟩
def NwAns (d:WorldD) (nm:ByteArray) (q:RecsResultD):Prop:=(∃ x,x ≠ 0 ∧ WldAns d x ∧ q = ⟨x,(0,fun _ => rec0)⟩) ∨ (WldAns d 0 ∧ ∃ l,Cnt (recT d.tapes.2 2) (lenT d.tapes.2 2) l ∧ NwP (fun i => recT d.tapes.2 2 (l.getD i 0)) l.length nm q)
theorem NwAns.one {d:WorldD} {nm:ByteArray} {p q:RecsResultD} (h:NwAns d nm p) (k:NwAns d nm q):p = q:=by
  rcases h with ⟨x,h1,h2,rfl⟩ | ⟨h1,l,hl,hp⟩ <;> rcases k with ⟨y,k1,k2,rfl⟩ | ⟨k1,m,hm,kp⟩
  · rw [h2.one k2]
  · exact absurd (h2.one k1) h1
  · exact absurd (k2.one h1) k1
  · obtain rfl:=hl.uniq hm
    exact hp.one kp
theorem rec_kind {s:Nat → Int} {r:RecD} (h:RecAns s r 0):KindP s r:=by
  rcases h with ⟨_,h⟩ | ⟨_,h⟩
  · cases h
  rcases h with ⟨_,h⟩ | ⟨_,h⟩
  · cases h
  rcases h with ⟨_,h⟩ | ⟨_,h⟩
  · cases h
  rcases h with ⟨_,h⟩ | ⟨_,h⟩
  · cases h
  rcases h with ⟨_,h⟩ | ⟨h,_⟩
  · cases h
  · exact h
theorem recT_kind {d:WorldD} (hok:OkWorld d) {i:Nat} (hi:i < lenT d.tapes.2 2):KindP d.shape (recT d.tapes.2 2 i):=by
  have h2:d.tapes.1 = 2:=hok.form.2.2;have key:∀ t j,t < 2 → j < (d.tapes.2 t).recs.1 → KindP d.shape ((d.tapes.2 t).recs.2 j):=fun t j ht hj => rec_kind (hok.recs t (by omega) j hj)
  have e1:lenT d.tapes.2 1 = (d.tapes.2 0).recs.1:=by simp [lenT]
  have e2:lenT d.tapes.2 2 = (d.tapes.2 0).recs.1 + (d.tapes.2 1).recs.1:=by simp [lenT]
  rw [e2] at hi
  show KindP d.shape (cat2 (recT d.tapes.2 1) (lenT d.tapes.2 1) (d.tapes.2 1).recs.2 i)
  unfold cat2
  split
  · rename_i c
    rw [e1] at c
    show KindP d.shape (cat2 (recT d.tapes.2 0) (lenT d.tapes.2 0) (d.tapes.2 0).recs.2 i)
    unfold cat2;rw [if_neg (by show ¬ i < 0;omega)];exact key 0 (i - 0) (by omega) (by omega)
  · rename_i c
    rw [e1] at c ⊢;exact key 1 _ (by omega) (by omega)
theorem item_len {s:Nat → Int} {r:RecD} (h:KindP s r) (hk:r.kind = 1):r.length < 0 ↔ r.length = -1:=by
  rcases h with ⟨_,h⟩ | ⟨h,_⟩ | ⟨h,_⟩ | ⟨h,_⟩
  · rcases h with ⟨h,_⟩ | ⟨_,h,_⟩ <;> omega
  · omega
  · omega
  · omega
theorem slice1_rd {W:World} {g hi hi2:Nat} {r:RecD} {cs:List Value} (hB:Box W g cs.toArray 56) (hr:layRec.rd W hi r cs) (hg:g < hi2) (hh:hi ≤ hi2):(layRec.slice 56).rd W hi2 (1,fun _ => r) [.slice (some ⟨g,0,none⟩) 1 1]:=by
  refine ⟨_,1,rfl,by unfold maxLen;simp,fun _ => ⟨g,0,rfl,hg,fun i hi' => ⟨cs,layRec.rd_mono hr hh,fun j hj => ?_⟩⟩⟩
  obtain rfl:i = 0:=by simp only at hi';omega
  simp only [Nat.zero_mul,Nat.zero_add]
  rw [hB.cell j]
  simp
theorem slice1_own {W:World} {lo g:Nat} {r:RecD} {cs:List Value} (hr:OwnT layRec W lo g r cs) (hg:g = W.heap.size) (hlo:lo ≤ g):OwnT (layRec.slice 56) (W.alloc (.cells cs.toArray 56)) lo (g + 1) (1,fun _ => r) [.slice (some ⟨g,0,none⟩) 1 1]:=by
  have hB:Box (W.alloc (.cells cs.toArray 56)) g cs.toArray 56:=by rw [hg];exact box_new _ _ _
  have hr2:=hr.call (w':=W.alloc (.cells cs.toArray 56)) ((Below.refl _ _).alloc (Nat.le_refl _) _);have hl:cs.length = 9:=hr.len;obtain ⟨M,h1,h2,h3⟩:=hr2
  have so:SlO layRec 56 (W.alloc (.cells cs.toArray 56)) g 1 1 (fun _ => r) (fun _ => cs) (fun _ => M):=by
    refine ⟨⟨?_,.inr ⟨g,1,cs.toArray,rfl,Nat.zero_le _,hB,Nat.le_refl _,by unfold maxLen;simp,?_,?_⟩⟩,fun i _ => h1⟩
    · rw [catN_succ,catN_zero,List.nil_append,hl];rfl
    · simp [hl];rfl
    · rw [catN_succ,catN_zero,List.nil_append]
      have e:(1:Nat) * layRec.sz = cs.length:=by rw [hl];rfl
      rw [e]
      simp
  refine ⟨_,so.own,?_,?_⟩
  · rw [catN_succ,catN_zero,List.nil_append]
    exact List.nodup_cons.2 ⟨fun h => by have:=h3 _ h;omega,h2⟩
  · intro b hb
    rw [catN_succ,catN_zero,List.nil_append] at hb
    rcases List.mem_cons.1 hb with rfl | hb
    · omega
    · have:=h3 _ hb;omega
theorem one_size {d:WorldD} (h2:d.tapes.1 = 2) (hsz:szWorldD d ≤ 1048576) {l:List Nat} (h:Cnt (recT d.tapes.2 2) (lenT d.tapes.2 2) l) {i:Nat} (hi:i < l.length):(szSl szRecD) (1,fun _ => recT d.tapes.2 2 (l.getD i 0)) ≤ 1048576 ∧ szRecD (recT d.tapes.2 2 (l.getD i 0)) ≤ 1048576:=by
  have h1:=cnt_size h2 hsz h;have e1:(szSl szRecD) (l.length,(fun i => recT d.tapes.2 2 (l.getD i 0))) = l.length + sumN (fun i => szRecD (recT d.tapes.2 2 (l.getD i 0))) l.length:=rfl;have e2:(szSl szRecD) (1,fun _ => recT d.tapes.2 2 (l.getD i 0)) = 1 + (0 + szRecD (recT d.tapes.2 2 (l.getD i 0))):=rfl;have h3:=szSl_at (s:=szRecD) (p:=(l.length,(fun i => recT d.tapes.2 2 (l.getD i 0)))) h1 hi
  have h4:szRecD (recT d.tapes.2 2 (l.getD i 0)) ≤ sumN (fun i => szRecD (recT d.tapes.2 2 (l.getD i 0))) l.length:=by
    have h5:=sumN_mono (fun i => szRecD (recT d.tapes.2 2 (l.getD i 0))) (show i + 1 ≤ l.length from hi);rw [sumN_succ] at h5;omega
  rw [e1] at h1;rw [e2];exact ⟨by omega,h3⟩
theorem l_kind {d:WorldD} (hok:OkWorld d) {l:List Nat} (hCt:Cnt (recT d.tapes.2 2) (lenT d.tapes.2 2) l) {i:Nat} (hi:i < l.length):KindP d.shape (recT d.tapes.2 2 (l.getD i 0)) :=
  recT_kind hok ((hCt.mem _).1 (by rw [getD_at hi];exact List.getElem_mem hi)).1
set_option maxHeartbeats 16000000 in
set_option maxRecDepth 20000 in
theorem implNw_any (d:WorldD) (nm:ByteArray) (cs:List Value) (hi:Nat) (w:World) (h:layWorld.rd w hi d cs) (hhi:hi ≤ w.heap.size) (hsz:szWorldD d ≤ 1048576) (hnm:nm.size ≤ 1048576) :
    Calls Tryz.prog 8 #[.agg cs.toArray,.string nm] w (RcPost (NwAns d nm) w):=by
  have h':=h;obtain ⟨ao1,cap1,ao2,cap2,ao3,cap3,rfl,g1,g2,g3,k0,k4,k5⟩:=World_rd h';have HRD:Hid (layWorld.rd w hi d [.int .i64 (d.shape 0),.int .i64 (d.shape 1),.int .i64 (d.shape 2),.int .i64 (d.shape 3),.int .i64 (d.shape 4),.int .i64 (d.shape 5),.int .i64 (d.shape 6),.int .i64 (d.shape 7),.int .i64 (d.shape 8),.slice ao1 d.groups.1 cap1,.slice ao2 d.on.1 cap2,.slice ao3 d.tapes.1 cap3,.int .i64 d.writes,.int .i64 d.stop,.bool d.down]):=h;have HG3:Hid ((layTape.slice 88).rd w hi d.tapes [.slice ao3 d.tapes.1 cap3]):=g3;have HSZ:Hid (szWorldD d ≤ 1048576):=hsz;clear h h' hsz g1 g2 g3 k0 k4 k5;have T0:=two_newb w #[.int .i64 (d.shape 0),.int .i64 (d.shape 1),.int .i64 (d.shape 2),.int .i64 (d.shape 3),.int .i64 (d.shape 4),.int .i64 (d.shape 5),.int .i64 (d.shape 6),.int .i64 (d.shape 7),.int .i64 (d.shape 8),.slice ao1 d.groups.1 cap1,.slice ao2 d.on.1 cap2,.slice ao3 d.tapes.1 cap3,.int .i64 d.writes,.int .i64 d.stop,.bool d.down] #[.int .i64 0,.slice none 0 0] 38 32
  go_enter Tryz.func8,Tryz.ntmps8
  go_wp2_with (refine wp_loadBox 38 (.tmp 2) rfl rfl (w.heap.size) rfl (cs:=[.int .i64 (d.shape 0),.int .i64 (d.shape 1),.int .i64 (d.shape 2),.int .i64 (d.shape 3),.int .i64 (d.shape 4),.int .i64 (d.shape 5),.int .i64 (d.shape 6),.int .i64 (d.shape 7),.int .i64 (d.shape 8),.slice ao1 d.groups.1 cap1,.slice ao2 d.on.1 cap2,.slice ao3 d.tapes.1 cap3,.int .i64 d.writes,.int .i64 d.stop,.bool d.down]) (T0.b1) Tryz.underlying38 size_W rfl ?_)
  refine (implWorld_any d _ hi _ (layWorld.rd_below HRD.out T0.bel hhi) (Nat.le_trans hhi T0.bel.size) (wld_ok_names HSZ.out)).mono ?_;rintro e w1 ⟨x,rfl,hx,b1⟩;have HT1:Hid (Two w w1 #[.int .i64 (d.shape 0),.int .i64 (d.shape 1),.int .i64 (d.shape 2),.int .i64 (d.shape 3),.int .i64 (d.shape 4),.int .i64 (d.shape 5),.int .i64 (d.shape 6),.int .i64 (d.shape 7),.int .i64 (d.shape 8),.slice ao1 d.groups.1 cap1,.slice ao2 d.on.1 cap2,.slice ao3 d.tapes.1 cap3,.int .i64 d.writes,.int .i64 d.stop,.bool d.down] #[.int .i64 0,.slice none 0 0] 38 32):=T0.call b1;have HX:Hid (WldAns d x):=hx;have z1:w.heap.size + 1 < w1.heap.size:=HT1.out.b2.lt;clear b1 T0 hx
  by_cases hx0:x = 0
  case neg =>
    have hne:(x != 0) = true:=by simp [hx0]
    go_wp2_with (refine wp_storeBox 32 _ _ rfl rfl (w.heap.size + 1) rfl (cs:=[.int .i64 x,.slice none 0 0]) (old:=[.int .i64 0,.slice none 0 0]) rfl (HT1.out.b2) size_Rc rfl rfl ((rcode_own w1 x (wld_small HX.out) 0 0).one) ?_;intro w9 X9 C9 z9)
    refine ret_box Tryz.results8 rfl X9 Tryz.underlying32 size_Rc rfl rfl ?_;have zz:=C9.size;exact ⟨⟨x,(0,fun _ => rec0)⟩,[.int .i64 x,.slice none 0 0],rfl,.inl ⟨x,hx0,HX.out,rfl⟩,rcode_own w9 x (wld_small HX.out) _ _,HT1.out.bel.trans (C9.bel (fun b hb => by simp at hb;omega) HT1.out.bel.size)⟩
  subst hx0;have HOK:Hid (OkWorld d):=WldAns.ok HX.out;have h2:d.tapes.1 = 2:=HOK.out.form.2.2;have hn0:(d.tapes.2 0).recs.1 ≤ 400000:=Nat.le_trans (HOK.out.few 0 (by omega)) (by decide);have hn1:(d.tapes.2 1).recs.1 ≤ 400000:=Nat.le_trans (HOK.out.few 1 (by omega)) (by decide);have HH2:Hid (d.tapes.1 = 2):=h2;clear h2;have CR:=readTapes_any d [.int .i64 (d.shape 0),.int .i64 (d.shape 1),.int .i64 (d.shape 2),.int .i64 (d.shape 3),.int .i64 (d.shape 4),.int .i64 (d.shape 5),.int .i64 (d.shape 6),.int .i64 (d.shape 7),.int .i64 (d.shape 8),.slice ao1 d.groups.1 cap1,.slice ao2 d.on.1 cap2,.slice ao3 d.tapes.1 cap3,.int .i64 d.writes,.int .i64 d.stop,.bool d.down] hi w1 (layWorld.rd_below HRD.out HT1.out.bel hhi) (Nat.le_trans hhi HT1.out.bel.size) HOK.out
  go_wp2_with (refine wp_loadBox 38 (.tmp 2) rfl rfl (w.heap.size) rfl (cs:=[.int .i64 (d.shape 0),.int .i64 (d.shape 1),.int .i64 (d.shape 2),.int .i64 (d.shape 3),.int .i64 (d.shape 4),.int .i64 (d.shape 5),.int .i64 (d.shape 6),.int .i64 (d.shape 7),.int .i64 (d.shape 8),.slice ao1 d.groups.1 cap1,.slice ao2 d.on.1 cap2,.slice ao3 d.tapes.1 cap3,.int .i64 d.writes,.int .i64 d.stop,.bool d.down]) (HT1.out.b1) Tryz.underlying38 size_W rfl ?_)
  refine CR.mono ?_;rintro e w2 ⟨B,l,ce,v,b1,b2,b3,b4,b5,rfl,hCt,hLd,hRd,bb2⟩;have HL:Hid (Cnt (recT d.tapes.2 2) (lenT d.tapes.2 2) l):=hCt;have HT2:Hid (Two w w2 #[.int .i64 (d.shape 0),.int .i64 (d.shape 1),.int .i64 (d.shape 2),.int .i64 (d.shape 3),.int .i64 (d.shape 4),.int .i64 (d.shape 5),.int .i64 (d.shape 6),.int .i64 (d.shape 7),.int .i64 (d.shape 8),.slice ao1 d.groups.1 cap1,.slice ao2 d.on.1 cap2,.slice ao3 d.tapes.1 cap3,.int .i64 d.writes,.int .i64 d.stop,.bool d.down] #[.int .i64 0,.slice none 0 0] 38 32):=HT1.out.call bb2;have z2:w1.heap.size ≤ w2.heap.size:=bb2.size
  have hlen:l.length ≤ 1000000:=by
    have h1:=(hCt.sum (fun _ => 0)).2
    have e2:lenT d.tapes.2 2 = (d.tapes.2 0).recs.1 + (d.tapes.2 1).recs.1:=by simp [lenT]
    omega
  have CU:=item_any hLd hRd nm (by unfold maxLen;omega);have HRd:Hid (∀ i,i < l.length → layRec.rd w2 hi (recT d.tapes.2 2 (l.getD i 0)) (ce i)):=hRd;clear hLd hRd bb2 CR HT1
  go_wp2_with fail
  refine CU.mono ?_;rintro e w5 ⟨he,b5'⟩;have HT5:Hid (Two w w5 #[.int .i64 (d.shape 0),.int .i64 (d.shape 1),.int .i64 (d.shape 2),.int .i64 (d.shape 3),.int .i64 (d.shape 4),.int .i64 (d.shape 5),.int .i64 (d.shape 6),.int .i64 (d.shape 7),.int .i64 (d.shape 8),.slice ao1 d.groups.1 cap1,.slice ao2 d.on.1 cap2,.slice ao3 d.tapes.1 cap3,.int .i64 d.writes,.int .i64 d.stop,.bool d.down] #[.int .i64 0,.slice none 0 0] 38 32):=HT2.out.call b5';have z5:w2.heap.size ≤ w5.heap.size:=b5'.size;have HB5:Hid (Below w2.heap.size w2 w5):=b5';clear b5' CU
  rcases he with ⟨hlast,rfl⟩ | ⟨i,hiN,hlast,rfl⟩
  · have HLA:Hid (lastI (itm (fun i => recT d.tapes.2 2 (l.getD i 0)) nm) l.length = -1):=hlast
    have bA:Below w5.heap.size w5 (w5.alloc (.cells #[.int .i64 0,.int .i64 0,.string ⟨#[]⟩,.int .i64 0,.int .i64 0,.int .i64 0,.slice none 0 0,.slice none 0 0,.slice none 0 0] 56)):=(Below.refl _ _).alloc (Nat.le_refl _) _;have HTZ:Hid (Two w (w5.alloc (.cells #[.int .i64 0,.int .i64 0,.string ⟨#[]⟩,.int .i64 0,.int .i64 0,.int .i64 0,.slice none 0 0,.slice none 0 0,.slice none 0 0] 56)) #[.int .i64 (d.shape 0),.int .i64 (d.shape 1),.int .i64 (d.shape 2),.int .i64 (d.shape 3),.int .i64 (d.shape 4),.int .i64 (d.shape 5),.int .i64 (d.shape 6),.int .i64 (d.shape 7),.int .i64 (d.shape 8),.slice ao1 d.groups.1 cap1,.slice ao2 d.on.1 cap2,.slice ao3 d.tapes.1 cap3,.int .i64 d.writes,.int .i64 d.stop,.bool d.down] #[.int .i64 0,.slice none 0 0] 38 32):=HT5.out.call bA;have zl:([.int .i64 0,.int .i64 0,.string ⟨#[]⟩,.int .i64 0,.int .i64 0,.int .i64 0,.slice none 0 0,.slice none 0 0,.slice none 0 0]:List Value).length = 9:=rfl
    have zo:∀ v,v ∈ ([.int .i64 0,.int .i64 0,.string ⟨#[]⟩,.int .i64 0,.int .i64 0,.int .i64 0,.slice none 0 0,.slice none 0 0,.slice none 0 0]:List Value) → v.oneCell' = true:=by decide
    clear hlast hCt HRd
    go_upto_region 5 with (refine wp_allocStore 56 6 (.tmp 19) [.int .i64 0,.int .i64 0,.string ⟨#[]⟩,.int .i64 0,.int .i64 0,.int .i64 0,.slice none 0 0,.slice none 0 0,.slice none 0 0] _ 9 rfl rfl rfl rfl rfl rfl (by simp [Act.eval,Act.put]) (by simp [Act.eval,Act.put]) info_RecZ rfl (by assumption) (by assumption) ?_)
    obtain ⟨w6,hw6⟩:∃ y,y = w5.alloc (.cells #[.int .i64 0,.int .i64 0,.string ⟨#[]⟩,.int .i64 0,.int .i64 0,.int .i64 0,.slice none 0 0,.slice none 0 0,.slice none 0 0] 56):=⟨_,rfl⟩;rw [← hw6] at HTZ bA ⊢;clear hw6
    go_wp2_with (refine wp_storeBox 32 _ _ rfl rfl (w.heap.size + 1) rfl (cs:=[.int .i64 4,.slice none 0 0]) (old:=[.int .i64 0,.slice none 0 0]) rfl (HTZ.out.b2) size_Rc rfl rfl ((rcode_own w1 4 (by decide) 0 0).one) ?_;intro w9 X9 C9 z9)
    refine ret_box Tryz.results8 rfl X9 Tryz.underlying32 size_Rc rfl rfl ?_;exact ⟨⟨4,(0,fun _ => rec0)⟩,[.int .i64 4,.slice none 0 0],rfl,.inr ⟨HX.out,l,HL.out,.inl ⟨HLA.out,rfl⟩⟩,rcode_own w9 4 (by decide) _ _,HTZ.out.bel.trans (C9.bel (fun b hb => by simp at hb;omega) HTZ.out.bel.size)⟩
  · have HLA:Hid (lastI (itm (fun i => recT d.tapes.2 2 (l.getD i 0)) nm) l.length = (i:Int)):=hlast
    obtain ⟨r,hr⟩:∃ r,r = recT d.tapes.2 2 (l.getD i 0):=⟨_,rfl⟩;have HRR:Hid (r = recT d.tapes.2 2 (l.getD i 0)):=hr
    have hk1:r.kind = 1:=by
      rcases lastI_cases (itm (fun i => recT d.tapes.2 2 (l.getD i 0)) nm) l.length with e | ⟨j,_,h2,h3⟩
      · rw [hlast] at e;omega
      · rw [hlast] at h2
        obtain rfl:i = j:=by omega
        rw [hr];exact h3.1
    have hneg:r.length < 0 ↔ r.length = -1:=item_len (by rw [hr];exact l_kind HOK.out hCt hiN) hk1
    have rd5:layRec.rd w5 hi r (ce i):=by rw [hr];exact layRec.rd_below (HRd.out i hiN) HB5.out (by omega)
    have zl:(ce i).length = 9:=layRec.rd_len rd5;have zo:=layRec_one rd5;have hsz1:=one_size HH2.out HSZ.out hCt hiN;rw [← hr] at hsz1;rw [show (recT d.tapes.2 2 (l.getD i 0)) = r from hr.symm];have HIN:Hid (i < l.length):=hiN;have bA:Below w5.heap.size w5 (w5.alloc (.cells (ce i).toArray 56)):=(Below.refl _ _).alloc (Nat.le_refl _) _;have HTZ:Hid (Two w (w5.alloc (.cells (ce i).toArray 56)) #[.int .i64 (d.shape 0),.int .i64 (d.shape 1),.int .i64 (d.shape 2),.int .i64 (d.shape 3),.int .i64 (d.shape 4),.int .i64 (d.shape 5),.int .i64 (d.shape 6),.int .i64 (d.shape 7),.int .i64 (d.shape 8),.slice ao1 d.groups.1 cap1,.slice ao2 d.on.1 cap2,.slice ao3 d.tapes.1 cap3,.int .i64 d.writes,.int .i64 d.stop,.bool d.down] #[.int .i64 0,.slice none 0 0] 38 32):=HT5.out.call bA;have X6:Box (w5.alloc (.cells (ce i).toArray 56)) w5.heap.size (ce i).toArray 56:=box_new _ _ _;have rd6:=layRec.rd_below rd5 bA (by omega);have z6:w5.heap.size < (w5.alloc (.cells (ce i).toArray 56)).heap.size:=X6.lt;clear hlast hCt HRd hr hk1 hiN
    by_cases hm:r.length = -1
    · have dm:decide (r.length ≠ -1) = false:=by simp [hm]
      have HM:Hid (r.length < 0):=hneg.2 hm;rw [dm];clear hm dm hneg
      go_upto_region 5 with (refine wp_allocStore 56 6 (.tmp 19) (ce i) _ 9 rfl rfl rfl rfl rfl rfl (by simp [Act.eval,Act.put]) (by simp [Act.eval,Act.put]) info_RecZ rfl (by assumption) (by assumption) ?_)
      obtain ⟨w6,hw6⟩:∃ y,y = w5.alloc (.cells (ce i).toArray 56):=⟨_,rfl⟩;rw [← hw6] at HTZ ⊢;clear hw6
      go_wp2_with (refine wp_storeBox 32 _ _ rfl rfl (w.heap.size + 1) rfl (cs:=[.int .i64 4,.slice none 0 0]) (old:=[.int .i64 0,.slice none 0 0]) rfl (HTZ.out.b2) size_Rc rfl rfl ((rcode_own w1 4 (by decide) 0 0).one) ?_;intro w9 X9 C9 z9)
      refine ret_box Tryz.results8 rfl X9 Tryz.underlying32 size_Rc rfl rfl ?_;exact ⟨⟨4,(0,fun _ => rec0)⟩,[.int .i64 4,.slice none 0 0],rfl,.inr ⟨HX.out,l,HL.out,.inr ⟨i,HIN.out,HLA.out,.inl ⟨(show (recT d.tapes.2 2 (l.getD i 0)).length < 0 by rw [← HRR.out];exact HM.out),rfl⟩⟩⟩,rcode_own w9 4 (by decide) _ _,HTZ.out.bel.trans (C9.bel (fun b hb => by simp at hb;omega) HTZ.out.bel.size)⟩
    · have dm:decide (r.length ≠ -1) = true:=by simp [hm]
      have HM:Hid (¬ r.length < 0):=fun h => hm (hneg.1 h);rw [dm];clear hm dm hneg
      go_upto_region 5 with (refine wp_allocStore 56 6 (.tmp 19) (ce i) _ 9 rfl rfl rfl rfl rfl rfl (by simp [Act.eval,Act.put]) (by simp [Act.eval,Act.put]) info_RecZ rfl (by assumption) (by assumption) ?_)
      obtain ⟨w6,hw6⟩:∃ y,y = w5.alloc (.cells (ce i).toArray 56):=⟨_,rfl⟩;rw [← hw6] at HTZ X6 rd6 z6 ⊢;clear hw6;have bS:Below w6.heap.size w6 (w6.alloc (.cells (ce i).toArray 56)):=(Below.refl _ _).alloc (Nat.le_refl _) _;have XS:Box (w6.alloc (.cells (ce i).toArray 56)) w6.heap.size (ce i).toArray 56:=box_new _ _ _;have zS:w6.heap.size < (w6.alloc (.cells (ce i).toArray 56)).heap.size:=XS.lt;have HT7:Hid (Two w (w6.alloc (.cells (ce i).toArray 56)) #[.int .i64 (d.shape 0),.int .i64 (d.shape 1),.int .i64 (d.shape 2),.int .i64 (d.shape 3),.int .i64 (d.shape 4),.int .i64 (d.shape 5),.int .i64 (d.shape 6),.int .i64 (d.shape 7),.int .i64 (d.shape 8),.slice ao1 d.groups.1 cap1,.slice ao2 d.on.1 cap2,.slice ao3 d.tapes.1 cap3,.int .i64 d.writes,.int .i64 d.stop,.bool d.down] #[.int .i64 0,.slice none 0 0] 38 32):=HTZ.out.call bS;have sl:=slice1_rd XS (layRec.rd_below rd6 bS (by omega)) zS (by omega);have CT:=tellRecs_any _ (1,fun _ => r) _ _ sl (Nat.le_refl _) hsz1.1
      go_wp2_with (first | (refine wp_loadBox 56 (.tmp 6) rfl rfl (w5.heap.size) rfl (cs:=ce i) X6 Tryz.underlying56 size_Rec9 zl ?_) | (refine wp_build1R rfl (.tmp 24) rfl rd6 (by simp [Act.eval,Act.put]) ?_))
      obtain ⟨w7,hw7⟩:∃ y,y = w6.alloc (.cells (ce i).toArray 56):=⟨_,rfl⟩;rw [← hw7] at HT7 CT zS ⊢;clear hw7 bS XS sl;refine CT.mono ?_;rintro e w3 ⟨cs3,rfl,O3,bb3⟩;have HT3:Hid (Two w w3 #[.int .i64 (d.shape 0),.int .i64 (d.shape 1),.int .i64 (d.shape 2),.int .i64 (d.shape 3),.int .i64 (d.shape 4),.int .i64 (d.shape 5),.int .i64 (d.shape 6),.int .i64 (d.shape 7),.int .i64 (d.shape 8),.slice ao1 d.groups.1 cap1,.slice ao2 d.on.1 cap2,.slice ao3 d.tapes.1 cap3,.int .i64 d.writes,.int .i64 d.stop,.bool d.down] #[.int .i64 0,.slice none 0 0] 38 32):=HT7.out.call bb3;obtain ⟨a3,c3,rfl⟩:=RecsResult_cells O3;have HO3:Hid (OwnT layRecsResult w3 w7.heap.size w3.heap.size ⟨0,(1,fun _ => r)⟩ [.int .i64 0,.slice a3 1 c3]):=O3;clear O3 bb3 CT HT5 HT7 HTZ
      go_wp2_with (refine wp_storeBox 32 _ _ rfl rfl (w.heap.size + 1) rfl (cs:=[.int .i64 0,.slice a3 1 c3]) (old:=[.int .i64 0,.slice none 0 0]) rfl (HT3.out.b2) size_Rc rfl rfl (HO3.out.one) ?_;intro w9 X9 C9 z9)
      refine ret_box Tryz.results8 rfl X9 Tryz.underlying32 size_Rc rfl rfl ?_;have zz:=C9.size;have O9:=(HO3.out.chgk C9 (fun b hb => by simp at hb;omega)).weaken (lo':=w.heap.size) (hi':=w9.heap.size) (by omega) zz;exact ⟨_,_,rfl,.inr ⟨HX.out,l,HL.out,.inr ⟨i,HIN.out,HLA.out,.inr ⟨(show ¬ (recT d.tapes.2 2 (l.getD i 0)).length < 0 by rw [← HRR.out];have:=HM.out;omega),(show (⟨0,(1,fun _ => r)⟩:RecsResultD) = ⟨0,(1,fun _ => recT d.tapes.2 2 (l.getD i 0))⟩ by rw [← HRR.out])⟩⟩⟩,O9,HT3.out.bel.trans (C9.bel (fun b hb => by simp at hb;omega) HT3.out.bel.size)⟩
set_option maxHeartbeats 16000000 in
set_option maxRecDepth 20000 in
theorem specNw_any (d:WorldD) (nm:ByteArray) (cs:List Value) (hi:Nat) (w:World) (h:layWorld.rd w hi d cs) (hhi:hi ≤ w.heap.size) (hsz:szWorldD d ≤ 1048576) (hnm:nm.size ≤ 1048576) :
    Calls Tryz.prog 6 #[.agg cs.toArray,.string nm] w (RcPost (NwAns d nm) w):=by
  have h':=h;obtain ⟨ao1,cap1,ao2,cap2,ao3,cap3,rfl,g1,g2,g3,k0,k4,k5⟩:=World_rd h';have HRD:Hid (layWorld.rd w hi d [.int .i64 (d.shape 0),.int .i64 (d.shape 1),.int .i64 (d.shape 2),.int .i64 (d.shape 3),.int .i64 (d.shape 4),.int .i64 (d.shape 5),.int .i64 (d.shape 6),.int .i64 (d.shape 7),.int .i64 (d.shape 8),.slice ao1 d.groups.1 cap1,.slice ao2 d.on.1 cap2,.slice ao3 d.tapes.1 cap3,.int .i64 d.writes,.int .i64 d.stop,.bool d.down]):=h;have HG3:Hid ((layTape.slice 88).rd w hi d.tapes [.slice ao3 d.tapes.1 cap3]):=g3;have HSZ:Hid (szWorldD d ≤ 1048576):=hsz;clear h h' hsz g1 g2 g3 k0 k4 k5;have T0:=two_newb w #[.int .i64 (d.shape 0),.int .i64 (d.shape 1),.int .i64 (d.shape 2),.int .i64 (d.shape 3),.int .i64 (d.shape 4),.int .i64 (d.shape 5),.int .i64 (d.shape 6),.int .i64 (d.shape 7),.int .i64 (d.shape 8),.slice ao1 d.groups.1 cap1,.slice ao2 d.on.1 cap2,.slice ao3 d.tapes.1 cap3,.int .i64 d.writes,.int .i64 d.stop,.bool d.down] #[.int .i64 0,.slice none 0 0] 38 32
  go_enter Tryz.func6,Tryz.ntmps6
  go_wp2_with (refine wp_loadBox 38 (.tmp 2) rfl rfl (w.heap.size) rfl (cs:=[.int .i64 (d.shape 0),.int .i64 (d.shape 1),.int .i64 (d.shape 2),.int .i64 (d.shape 3),.int .i64 (d.shape 4),.int .i64 (d.shape 5),.int .i64 (d.shape 6),.int .i64 (d.shape 7),.int .i64 (d.shape 8),.slice ao1 d.groups.1 cap1,.slice ao2 d.on.1 cap2,.slice ao3 d.tapes.1 cap3,.int .i64 d.writes,.int .i64 d.stop,.bool d.down]) (T0.b1) Tryz.underlying38 size_W rfl ?_)
  refine (specWorld_any d _ hi _ (layWorld.rd_below HRD.out T0.bel hhi) (Nat.le_trans hhi T0.bel.size) (wld_ok_names HSZ.out)).mono ?_;rintro e w1 ⟨x,rfl,hx,b1⟩;have HT1:Hid (Two w w1 #[.int .i64 (d.shape 0),.int .i64 (d.shape 1),.int .i64 (d.shape 2),.int .i64 (d.shape 3),.int .i64 (d.shape 4),.int .i64 (d.shape 5),.int .i64 (d.shape 6),.int .i64 (d.shape 7),.int .i64 (d.shape 8),.slice ao1 d.groups.1 cap1,.slice ao2 d.on.1 cap2,.slice ao3 d.tapes.1 cap3,.int .i64 d.writes,.int .i64 d.stop,.bool d.down] #[.int .i64 0,.slice none 0 0] 38 32):=T0.call b1;have HX:Hid (WldAns d x):=hx;have z1:w.heap.size + 1 < w1.heap.size:=HT1.out.b2.lt;clear b1 T0 hx
  by_cases hx0:x = 0
  case neg =>
    have hne:(x != 0) = true:=by simp [hx0]
    go_wp2_with (refine wp_storeBox 32 _ _ rfl rfl (w.heap.size + 1) rfl (cs:=[.int .i64 x,.slice none 0 0]) (old:=[.int .i64 0,.slice none 0 0]) rfl (HT1.out.b2) size_Rc rfl rfl ((rcode_own w1 x (wld_small HX.out) 0 0).one) ?_;intro w9 X9 C9 z9)
    refine ret_box Tryz.results6 rfl X9 Tryz.underlying32 size_Rc rfl rfl ?_;have zz:=C9.size;exact ⟨⟨x,(0,fun _ => rec0)⟩,[.int .i64 x,.slice none 0 0],rfl,.inl ⟨x,hx0,HX.out,rfl⟩,rcode_own w9 x (wld_small HX.out) _ _,HT1.out.bel.trans (C9.bel (fun b hb => by simp at hb;omega) HT1.out.bel.size)⟩
  subst hx0;have HOK:Hid (OkWorld d):=WldAns.ok HX.out;have h2:d.tapes.1 = 2:=HOK.out.form.2.2;have hn0:(d.tapes.2 0).recs.1 ≤ 400000:=Nat.le_trans (HOK.out.few 0 (by omega)) (by decide);have hn1:(d.tapes.2 1).recs.1 ≤ 400000:=Nat.le_trans (HOK.out.few 1 (by omega)) (by decide);have CC:=l6Counted_any d [.int .i64 (d.shape 0),.int .i64 (d.shape 1),.int .i64 (d.shape 2),.int .i64 (d.shape 3),.int .i64 (d.shape 4),.int .i64 (d.shape 5),.int .i64 (d.shape 6),.int .i64 (d.shape 7),.int .i64 (d.shape 8),.slice ao1 d.groups.1 cap1,.slice ao2 d.on.1 cap2,.slice ao3 d.tapes.1 cap3,.int .i64 d.writes,.int .i64 d.stop,.bool d.down] hi w.heap.size w1 (layWorld.rd_below HRD.out HT1.out.bel hhi) (Nat.le_trans hhi HT1.out.bel.size) HT1.out.b1 h2 hn0 hn1;have HH2:Hid (d.tapes.1 = 2):=h2;clear h2
  go_wp2_with fail
  refine CC.mono ?_;rintro e w2 ⟨v2,l,ce0,lo2,rfl,hCt,hlo2,V,b2⟩;have HL:Hid (Cnt (recT d.tapes.2 2) (lenT d.tapes.2 2) l):=hCt;have HT2:Hid (Two w w2 #[.int .i64 (d.shape 0),.int .i64 (d.shape 1),.int .i64 (d.shape 2),.int .i64 (d.shape 3),.int .i64 (d.shape 4),.int .i64 (d.shape 5),.int .i64 (d.shape 6),.int .i64 (d.shape 7),.int .i64 (d.shape 8),.slice ao1 d.groups.1 cap1,.slice ao2 d.on.1 cap2,.slice ao3 d.tapes.1 cap3,.int .i64 d.writes,.int .i64 d.stop,.bool d.down] #[.int .i64 0,.slice none 0 0] 38 32):=HT1.out.call b2;have z2:w1.heap.size ≤ w2.heap.size:=b2.size
  have hlen:l.length ≤ 1000000:=by
    have h1:=(hCt.sum (fun _ => 0)).2
    have e2:lenT d.tapes.2 2 = (d.tapes.2 0).recs.1 + (d.tapes.2 1).recs.1:=by simp [lenT]
    omega
  have rdl:=V.rd (by omega);have CN:=l6Newest_any v2 l.length (fun i => recT d.tapes.2 2 (l.getD i 0)) nm w2.heap.size w2 rdl (Nat.le_refl _) (by omega);clear CC b2 HT1 V;obtain ⟨ao,cap,ev,hmm,hc⟩:=rdl
  obtain rfl:v2 = .slice ao l.length cap:=by simpa using ev
  have HC:Hid (l.length ≠ 0 → ∃ b off,ao = some ⟨b,off,none⟩ ∧ b < w2.heap.size ∧ ∀ i,i < l.length → ∃ ce,layRec.rd w2 w2.heap.size (recT d.tapes.2 2 (l.getD i 0)) ce ∧ ∀ j,j < layRec.sz → w2.cell? ⟨b,off + (i * layRec.sz + j),none⟩ = ce[j]?):=hc;clear hc hmm ev;obtain ⟨at_,hat⟩:∃ a,a = lastI (itm (fun i => recT d.tapes.2 2 (l.getD i 0)) nm) l.length:=⟨_,rfl⟩;rw [← hat] at CN;obtain ⟨n,hn⟩:∃ n,n = l.length:=⟨_,rfl⟩;have HN:Hid (n = l.length):=hn;rw [← hn] at CN ⊢;clear hn
  go_wp2_with fail
  refine CN.mono ?_;rintro e w5 ⟨rfl,b5⟩;have HTZ:Hid (Two w w5 #[.int .i64 (d.shape 0),.int .i64 (d.shape 1),.int .i64 (d.shape 2),.int .i64 (d.shape 3),.int .i64 (d.shape 4),.int .i64 (d.shape 5),.int .i64 (d.shape 6),.int .i64 (d.shape 7),.int .i64 (d.shape 8),.slice ao1 d.groups.1 cap1,.slice ao2 d.on.1 cap2,.slice ao3 d.tapes.1 cap3,.int .i64 d.writes,.int .i64 d.stop,.bool d.down] #[.int .i64 0,.slice none 0 0] 38 32):=HT2.out.call b5;have z5:w2.heap.size ≤ w5.heap.size:=b5.size
  rcases lastI_cases (itm (fun i => recT d.tapes.2 2 (l.getD i 0)) nm) l.length with e | ⟨i,hiN,hi2,hi3⟩
  · have HLA:Hid (lastI (itm (fun i => recT d.tapes.2 2 (l.getD i 0)) nm) l.length = -1):=e
    obtain rfl:at_ = -1:=hat.trans e;clear hat e hCt HC CN b5
    go_wp2_with (refine wp_storeBox 32 _ _ rfl rfl (w.heap.size + 1) rfl (cs:=[.int .i64 4,.slice none 0 0]) (old:=[.int .i64 0,.slice none 0 0]) rfl (HTZ.out.b2) size_Rc rfl rfl ((rcode_own w1 4 (by decide) 0 0).one) ?_;intro w9 X9 C9 z9)
    refine ret_box Tryz.results6 rfl X9 Tryz.underlying32 size_Rc rfl rfl ?_;exact ⟨⟨4,(0,fun _ => rec0)⟩,[.int .i64 4,.slice none 0 0],rfl,.inr ⟨HX.out,l,HL.out,.inl ⟨HLA.out,rfl⟩⟩,rcode_own w9 4 (by decide) _ _,HTZ.out.bel.trans (C9.bel (fun b hb => by simp at hb;omega) HTZ.out.bel.size)⟩
  · have HLA:Hid (lastI (itm (fun i => recT d.tapes.2 2 (l.getD i 0)) nm) l.length = (i:Int)):=hi2
    obtain rfl:at_ = (i:Int):=hat.trans hi2;obtain ⟨b,off,rfl,hbh,hel⟩:=HC.out (by omega);obtain ⟨ce,hy,hcell⟩:=elem_rd (t:=56) hel b5 (Nat.le_refl _) hbh hiN;obtain ⟨r,hr⟩:∃ r,r = recT d.tapes.2 2 (l.getD i 0):=⟨_,rfl⟩;have HRR:Hid (r = recT d.tapes.2 2 (l.getD i 0)):=hr;rw [← hr] at hy;have hsz1:=one_size HH2.out HSZ.out hCt hiN;rw [← hr] at hsz1;have hcl:ce.length = 9:=layRec.rd_len hy
    have rg:w5.rangeAt b (off + i * 9) ce:=fun j u hu => by
      have hj:j < 9:=by have:=(List.getElem?_eq_some_iff.1 hu).1;omega
      have h:=hcell j hj;rw [show off + i * 9 + j = off + (i * layRec.sz + j) from by show off + i * 9 + j = off + (i * 9 + j);omega,h];exact hu
    have y3:w5.cell? ⟨b,off + i * 9 + 3,none⟩ = some (.int .i64 r.length):=by
      obtain ⟨ao6,cap6,ao7,cap7,ao8,cap8,hce,-⟩:=Rec_rd hy;exact rg 3 _ (by rw [hce];rfl)
    have HIN:Hid (i < l.length):=hiN
    have i1:(0:Int) ≤ (i:Int):=by omega
    have i2:(i:Int) < (n:Int):=by have:=HN.out;omega
    have i3:¬ (i:Int) < 0:=by omega
    clear hat hi2 hi3 hCt HC CN b5 hel hcell hr hiN
    by_cases hm:r.length < 0
    · have HM:Hid (r.length < 0):=hm
      go_wp2_with (refine wp_storeBox 32 _ _ rfl rfl (w.heap.size + 1) rfl (cs:=[.int .i64 4,.slice none 0 0]) (old:=[.int .i64 0,.slice none 0 0]) rfl (HTZ.out.b2) size_Rc rfl rfl ((rcode_own w1 4 (by decide) 0 0).one) ?_;intro w9 X9 C9 z9)
      refine ret_box Tryz.results6 rfl X9 Tryz.underlying32 size_Rc rfl rfl ?_;exact ⟨⟨4,(0,fun _ => rec0)⟩,[.int .i64 4,.slice none 0 0],rfl,.inr ⟨HX.out,l,HL.out,.inr ⟨i,HIN.out,HLA.out,.inl ⟨(show (recT d.tapes.2 2 (l.getD i 0)).length < 0 by rw [← HRR.out];exact HM.out),rfl⟩⟩⟩,rcode_own w9 4 (by decide) _ _,HTZ.out.bel.trans (C9.bel (fun b hb => by simp at hb;omega) HTZ.out.bel.size)⟩
    · have HM:Hid (¬ r.length < 0):=hm
      have CP:=l5CopyRec_is ce r w2.heap.size w5 hy z5 hsz1.2
      go_wp2_with (refine wpList_load_mid rfl 56 (.tmp 31) rfl b (off + i * 9) (by simp [Act.eval,Act.put]) ce _ rg Tryz.underlying56 rfl (info_Rec9 hcl) ?_)
      refine CP.mono ?_;rintro e w6 ⟨cs6,rfl,O6,b6⟩;have HT6:Hid (Two w w6 #[.int .i64 (d.shape 0),.int .i64 (d.shape 1),.int .i64 (d.shape 2),.int .i64 (d.shape 3),.int .i64 (d.shape 4),.int .i64 (d.shape 5),.int .i64 (d.shape 6),.int .i64 (d.shape 7),.int .i64 (d.shape 8),.slice ao1 d.groups.1 cap1,.slice ao2 d.on.1 cap2,.slice ao3 d.tapes.1 cap3,.int .i64 d.writes,.int .i64 d.stop,.bool d.down] #[.int .i64 0,.slice none 0 0] 38 32):=HTZ.out.call b6;have z6:w5.heap.size ≤ w6.heap.size:=b6.size;have bS:Below w6.heap.size w6 (w6.alloc (.cells cs6.toArray 56)):=(Below.refl _ _).alloc (Nat.le_refl _) _;have HT3:Hid (Two w (w6.alloc (.cells cs6.toArray 56)) #[.int .i64 (d.shape 0),.int .i64 (d.shape 1),.int .i64 (d.shape 2),.int .i64 (d.shape 3),.int .i64 (d.shape 4),.int .i64 (d.shape 5),.int .i64 (d.shape 6),.int .i64 (d.shape 7),.int .i64 (d.shape 8),.slice ao1 d.groups.1 cap1,.slice ao2 d.on.1 cap2,.slice ao3 d.tapes.1 cap3,.int .i64 d.writes,.int .i64 d.stop,.bool d.down] #[.int .i64 0,.slice none 0 0] 38 32):=HT6.out.call bS;have OS:=slice1_own O6 rfl z6;have rd6:=O6.rd
      have e7:(w6.alloc (.cells cs6.toArray 56)).heap.size = w6.heap.size + 1:=by simp
      obtain ⟨w7,hw7⟩:∃ y,y = w6.alloc (.cells cs6.toArray 56):=⟨_,rfl⟩;rw [← hw7] at HT3 OS e7;have HO3:Hid (OwnT layRecsResult w7 w5.heap.size (w6.heap.size + 1) ⟨0,(1,fun _ => r)⟩ [.int .i64 0,.slice (some ⟨w6.heap.size,0,none⟩) 1 1]):=rres_own (n:=1) (f:=fun _ => r) OS 0 (by decide);clear O6 b6 CP OS bS rg y3 hm
      go_wp2_with (first | (refine wp_build1R rfl (.tmp 33) rfl rd6 (by simp [Act.eval,Act.put]) ?_;rw [← hw7];clear hw7) | (refine wp_storeBox 32 _ _ rfl rfl (w.heap.size + 1) rfl (cs:=[.int .i64 0,.slice (some ⟨w6.heap.size,0,none⟩) 1 1]) (old:=[.int .i64 0,.slice none 0 0]) rfl (HT3.out.b2) size_Rc rfl rfl (HO3.out.one) ?_;intro w9 X9 C9 z9))
      refine ret_box Tryz.results6 rfl X9 Tryz.underlying32 size_Rc rfl rfl ?_;have zz:=C9.size;have O9:=(HO3.out.chgk C9 (fun b hb => by simp at hb;omega)).weaken (lo':=w.heap.size) (hi':=w9.heap.size) (by omega) (by omega);exact ⟨_,_,rfl,.inr ⟨HX.out,l,HL.out,.inr ⟨i,HIN.out,HLA.out,.inr ⟨(show ¬ (recT d.tapes.2 2 (l.getD i 0)).length < 0 by rw [← HRR.out];have:=HM.out;omega),(show (⟨0,(1,fun _ => r)⟩:RecsResultD) = ⟨0,(1,fun _ => recT d.tapes.2 2 (l.getD i 0))⟩ by rw [← HRR.out])⟩⟩⟩,O9,HT3.out.bel.trans (C9.bel (fun b hb => by simp at hb;omega) HT3.out.bel.size)⟩
end Go.Proofs.YtcbfeiaemlbemaaGreat
namespace Go.Proofs.YtcbfeiaemlbemaaGreat
open Go.RowKit
section
variable {ops:Array Oper} {Q:Exit → Act → World → Prop} {md:Region.Mode} {S:World → Prop} {L:Nat}
theorem load_yield {o:Oper} {a:Act} (T:TypeId) (x:Operand) (ho:o.op = .load T x) (hg:o.guard = none) (b:Nat) (hx:a.eval x = .pointer (some ⟨b,0,none⟩)) {cs:List Value} (hB:∀ w,S w → Box w b cs.toArray T) {fs:Array Field} (hu:Tryz.prog.underlying T = some (.struct fs)) {n:Nat} (hi:(Tryz.prog.info? T).map (·.size) = some n) (hl:cs.length = n):YieldsIf Tryz.prog ops S o (.agg cs.toArray) a:=by
  refine .inl ⟨by simp [Region.wanted,hg],fun w hS => ?_⟩;unfold execOp
  simp only [ho,hx,Instr.loadAt,Instr.sureAddr,Sem.run_bind,Sem.run_pure,Result.andThen_ok,run_loadVar_row w b T T cs.toArray (0,0) (.struct fs) (hB w hS) hu rfl (by rw [hi];simp [hl])]
end
theorem below_drew (w:World):Below w.heap.size w w.drew:=⟨rfl,rfl,rfl,Nat.le_refl _,fun _ _ => rfl⟩
end Go.Proofs.YtcbfeiaemlbemaaGreat
namespace Go.Proofs.YtcbfeiaemlbemaaGreat
open Go.RowKit F256
set_option maxHeartbeats 8000000 in
set_option maxRecDepth 20000 in
theorem eqRecsResult_is:EqV layRecsResult 9:=fun c1 c2 d h1 h2 w r1 r2 u1 u2 => by
  obtain ⟨ao1,cap1,rfl,g1,-⟩:=RecsResult_rd r1;obtain ⟨bao1,bcap1,rfl,q1,-⟩:=RecsResult_rd r2;clear r1 r2;have G1:Hid ((layRec.slice 56).rd w h1 d.recs [.slice ao1 d.recs.1 cap1]):=g1;have E1:Hid ((layRec.slice 56).rd w h2 d.recs [.slice bao1 d.recs.1 bcap1]):=q1;clear g1 q1
  go_enter Tryz.func9,Tryz.ntmps9
  go_wp2_with fail
  have T0:=two_newb w #[.int .i64 d.code,.slice ao1 d.recs.1 cap1] #[.int .i64 d.code,.slice bao1 d.recs.1 bcap1] 32 32;refine (eqRecS_is _ _ d.recs h1 h2 _ ((layRec.slice 56).rd_below G1.out T0.bel u1) ((layRec.slice 56).rd_below E1.out T0.bel u2) (Nat.le_trans u1 T0.bel.size) (Nat.le_trans u2 T0.bel.size)).mono ?_;rintro e w1 ⟨rfl,b1⟩;have T1:Two w w1 #[.int .i64 d.code,.slice ao1 d.recs.1 cap1] #[.int .i64 d.code,.slice bao1 d.recs.1 bcap1] 32 32:=T0.call b1;clear T0 b1;have B:Hid (Below w.heap.size w w1):=T1.bel;clear T1;go_wp2;go_ret;exact ⟨rfl,B.out⟩
end Go.Proofs.YtcbfeiaemlbemaaGreat
namespace Go.Proofs.YtcbfeiaemlbemaaGreat
open Go.RowKit F256
set_option maxHeartbeats 4000000 in
theorem markRecsResult_is:MkV layRecsResult cvRecsResultD mkvRecsResultD 12:=fun cs d L j w h nd hj => by
  obtain ⟨ao1,cap1,K1,rfl,hLL,o1,k0⟩:=RecsResult_own h;clear h;have hLM:=hLL.symm;subst hLM;unfold cvRecsResultD at hj ⊢;have Z1:=(layRec.slice 56).own_lt o1;have bz:Below w.heap.size w (w.alloc (.cells #[.int .i64 d.code,.slice ao1 d.recs.1 cap1] 32)):=(Below.refl _ _).alloc (Nat.le_refl _) _;have B0:Hid (Box (w.alloc (.cells #[.int .i64 d.code,.slice ao1 d.recs.1 cap1] 32)) w.heap.size #[.int .i64 d.code,.slice ao1 d.recs.1 cap1] 32):=box_new _ _ _;have CH0:Hid (ChgL (K1) w (w.alloc (.cells #[.int .i64 d.code,.slice ao1 d.recs.1 cap1] 32))):=ChgL.of_below bz;have O0_1:Hid ((layRec.slice 56).own (w.alloc (.cells #[.int .i64 d.code,.slice ao1 d.recs.1 cap1] 32)) d.recs [.slice ao1 d.recs.1 cap1] K1):=(layRec.slice 56).own_kept o1 (fun b hb => bz.block b (Z1 b hb));clear bz o1
  go_enter Tryz.func12,Tryz.ntmps12
  go_wp2_with fail
  refine (markRecS_is _ d.recs K1 (j) _ O0_1.out nd (by omega)).mono ?_;rintro e w1 ⟨rfl,p1,q1⟩;have O1_1:Hid ((layRec.slice 56).own w1 ((mkSl cRecD mkRecD) (j) d.recs) [.slice ao1 d.recs.1 cap1] K1):=p1;have B1:Hid (Box w1 w.heap.size #[.int .i64 d.code,.slice ao1 d.recs.1 cap1] 32):=(q1.block w.heap.size B0.out.lt (fun hb => by have:=Z1 _ hb;omega)).trans B0.out;have CH1:Hid (ChgL (K1) w w1):=CH0.out.sub q1 (fun b hb => hb);clear p1 q1;go_wp2;go_ret;exact ⟨ret_eq (by omega),RecsResult_mk (mkvRecsResultD j d) O1_1.out k0,CH1.out⟩
end Go.Proofs.YtcbfeiaemlbemaaGreat
namespace Go.Proofs.YtcbfeiaemlbemaaGreat
open Go.RowKit F256
set_option maxHeartbeats 4000000 in
theorem heldRecsResult_is:HdV layRecsResult cvRecsResultD mkvRecsResultD 13:=fun cs d hi j w h hhi hj => by
  obtain ⟨ao1,cap1,rfl,r1,-⟩:=RecsResult_rd h;clear h;unfold cvRecsResultD at hj ⊢;have R1:Hid ((layRec.slice 56).rd w hi ((mkSl cRecD mkRecD) (j) d.recs) [.slice ao1 d.recs.1 cap1]):=r1;clear r1
  change Calls Tryz.prog 13 #[.agg #[.int .i64 d.code,.slice ao1 d.recs.1 cap1],.int .i64 j] w _
  go_enter Tryz.func13,Tryz.ntmps13
  go_wp2_with fail
  have T0:=one_new w #[.int .i64 d.code,.slice ao1 d.recs.1 cap1] 32;refine (heldRecS_is _ d.recs hi (j) _ ((layRec.slice 56).rd_below R1.out T0.bel hhi) (Nat.le_trans hhi T0.bel.size) (by omega)).mono ?_;rintro e w1 ⟨rfl,b1⟩;have T1:One w w1 #[.int .i64 d.code,.slice ao1 d.recs.1 cap1] 32:=T0.call b1
  have hz1:¬ (((j + (cSl cRecD) d.recs:Nat):Int) < 0):=by omega
  have HB:Hid (Below w.heap.size w w1):=T1.bel;clear b1 T1;go_wp2;go_ret;exact ⟨ret_eq (by omega),HB.out⟩
end Go.Proofs.YtcbfeiaemlbemaaGreat
namespace Go.Proofs.YtcbfeiaemlbemaaGreat
open Go.ChangeShapes Go.WideShapes Go.ChangeAt Go.RowKit F256
theorem res2_RecsResult {w:World} {hi:Nat} {d:RecsResultD} {cs:List Value} (h:layRecsResult.rd w hi d cs):∃ v0 vp vl vq,cs = [.int .i64 v0,.slice vp vl vq]:=by
  obtain ⟨p1,pc1,rfl,-⟩:=RecsResult_rd h;exact ⟨_,_,_,_,rfl⟩
theorem info_RecsResult:(Tryz.prog.info? 32).map (fun i => (i.zero.map (·.cells),i.size)) = some (some #[.int .i64 0,.slice none 0 0],2):=by kernel_rfl
theorem nw_ex (d:WorldD) (nm:ByteArray):∃ q,NwAns d nm q:=by
  obtain ⟨x,hx⟩:=world_ex d
  by_cases h:x = 0
  · subst h
    obtain ⟨l,hl⟩:=cnt_ex (recT d.tapes.2 2) (lenT d.tapes.2 2);obtain ⟨q,hq⟩:=nwP_ex (fun i => recT d.tapes.2 2 (l.getD i 0)) l.length nm;exact ⟨q,.inr ⟨hx,l,hl,hq⟩⟩
  · exact ⟨_,.inl ⟨x,h,hx,rfl⟩⟩
theorem nw_cv {d:WorldD} {nm:ByteArray} {q:RecsResultD} (hq:NwAns d nm q) (hsz:szWorldD d ≤ 1048576):cvRecsResultD q ≤ 90000000:=by
  rcases hq with ⟨x,_,_,rfl⟩ | ⟨h0,l,hl,hp⟩
  · exact Nat.zero_le _
  · rcases hp with ⟨_,rfl⟩ | ⟨i,hi,_,h⟩
    · exact Nat.zero_le _
    · rcases h with ⟨_,rfl⟩ | ⟨_,rfl⟩
      · exact Nat.zero_le _
      · have h1:=cRecs_le (1,fun _ => recT d.tapes.2 2 (l.getD i 0))
        have h2:=(one_size (WldAns.ok h0).form.2.2 hsz hl hi).1
        show (cSl cRecD) (1,fun _ => recT d.tapes.2 2 (l.getD i 0)) ≤ _
        omega
theorem nw_det {d:WorldD} {nm:ByteArray} {q:RecsResultD} {w:World} {f:Nat} {args:Array Value} (hq:NwAns d nm q) (h:Calls Tryz.prog f args w (RcPost (NwAns d nm) w)):Calls Tryz.prog f args w fun e w' => ∃ cs,e = .returned (.agg cs.toArray) ∧ OwnT layRecsResult w' w.heap.size w'.heap.size q cs ∧ Below w.heap.size w w' :=
  h.mono fun e w' ⟨d',cs,h1,h2,h3,h4⟩ => ⟨cs,h1,by rw [hq.one h2];exact h3,h4⟩
theorem size_RR:(Tryz.prog.info? 32).map (·.size) = some 2:=by kernel_rfl
set_option maxHeartbeats 16000000 in
set_option maxRecDepth 20000 in
theorem fnExactNewestItem_walk (d:WorldD) (cs:List Value) (i0:ByteArray) (w:World) (rd0:layWorld.rd w w.heap.size d cs) (hi0:i0.size ≤ maxLen) :
    Calls Tryz.prog 3 #[.agg cs.toArray,.string i0] w fun e w' => e = .returned (.bool true) ∧ Below w.heap.size w w':=by
  obtain ⟨v0,v1,v2,v3,v4,v5,v6,v7,v8,vp0,vl0,vq0,vp1,vl1,vq1,vp2,vl2,vq2,v9,v10,vb,rfl⟩:=world15 rd0;have HR:Hid (layWorld.rd w w.heap.size d [.int .i64 v0,.int .i64 v1,.int .i64 v2,.int .i64 v3,.int .i64 v4,.int .i64 v5,.int .i64 v6,.int .i64 v7,.int .i64 v8,.slice vp0 vl0 vq0,.slice vp1 vl1 vq1,.slice vp2 vl2 vq2,.int .i64 v9,.int .i64 v10,.bool vb]):=rd0;clear rd0;unfold maxLen at hi0;have T0:=one_new w #[.int .i64 v0,.int .i64 v1,.int .i64 v2,.int .i64 v3,.int .i64 v4,.int .i64 v5,.int .i64 v6,.int .i64 v7,.int .i64 v8,.slice vp0 vl0 vq0,.slice vp1 vl1 vq1,.slice vp2 vl2 vq2,.int .i64 v9,.int .i64 v10,.bool vb] 28
  by_cases hbig:1048576 < i0.size
  · have hb1:(1048576:Int) < (i0.size:Int):=by omega
    have HB0:Hid (Below w.heap.size w (w.alloc (.cells #[.int .i64 v0,.int .i64 v1,.int .i64 v2,.int .i64 v3,.int .i64 v4,.int .i64 v5,.int .i64 v6,.int .i64 v7,.int .i64 v8,.slice vp0 vl0 vq0,.slice vp1 vl1 vq1,.slice vp2 vl2 vq2,.int .i64 v9,.int .i64 v10,.bool vb] 28))):=T0.bel;clear T0 hbig
    go_enter Tryz.func3,Tryz.ntmps3
    go_wp2;go_ret;exact ⟨rfl,HB0.out⟩
  have hb1:¬ (1048576:Int) < (i0.size:Int):=by omega
  have HHi0:Hid (i0.size ≤ 1048576):=(by omega:i0.size ≤ 1048576);clear hbig hi0
  go_enter Tryz.func3,Tryz.ntmps3
  go_wp2_with (refine wp_loadBox 28 (.tmp 2) rfl rfl (w.heap.size) rfl (cs:=[.int .i64 v0,.int .i64 v1,.int .i64 v2,.int .i64 v3,.int .i64 v4,.int .i64 v5,.int .i64 v6,.int .i64 v7,.int .i64 v8,.slice vp0 vl0 vq0,.slice vp1 vl1 vq1,.slice vp2 vl2 vq2,.int .i64 v9,.int .i64 v10,.bool vb]) T0.b1 Tryz.underlying28 size_LW rfl ?_)
  refine (szWorld_is _ d w.heap.size 1048576 _ (layWorld.rd_below HR.out T0.bel (Nat.le_refl _)) T0.bel.size (by omega)).mono ?_;rintro e w1 ⟨x,rfl,hx,b1⟩;have T1:=T0.call b1;have HT1:Hid (One w w1 #[.int .i64 v0,.int .i64 v1,.int .i64 v2,.int .i64 v3,.int .i64 v4,.int .i64 v5,.int .i64 v6,.int .i64 v7,.int .i64 v8,.slice vp0 vl0 vq0,.slice vp1 vl1 vq1,.slice vp2 vl2 vq2,.int .i64 v9,.int .i64 v10,.bool vb] 28):=T1;clear b1 T0
  rcases hx with rfl | ⟨hsz,hx⟩
  · clear T1
    go_wp2;go_ret;exact ⟨rfl,HT1.out.bel⟩
  have hx0:¬ x < 0:=by omega
  clear hx;obtain ⟨q,hq⟩:=nw_ex d i0;obtain ⟨N,hN⟩:∃ N,N = 1 + cvRecsResultD q:=⟨_,rfl⟩
  have hj:1 + cvRecsResultD q ≤ 100000000:=by have:=nw_cv hq hsz;omega
  obtain ⟨M,hM⟩:∃ M,M = 1 + cvWorldD d:=⟨_,rfl⟩
  have hk:1 + cvWorldD d ≤ 100000000:=by have:=cvWorld_le d;omega
  have CT:∀ w',Below w1.heap.size w1 w' → Calls Tryz.prog 7 #[.agg #[.int .i64 v0,.int .i64 v1,.int .i64 v2,.int .i64 v3,.int .i64 v4,.int .i64 v5,.int .i64 v6,.int .i64 v7,.int .i64 v8,.slice vp0 vl0 vq0,.slice vp1 vl1 vq1,.slice vp2 vl2 vq2,.int .i64 v9,.int .i64 v10,.bool vb]] w' fun e w'' => ∃ cs',e = .returned (.agg cs'.toArray) ∧ OwnT layWorld w'' w'.heap.size w''.heap.size d cs' ∧ Below w'.heap.size w' w'':=fun w' hb =>
    toWorld_is _ d w.heap.size w' (layWorld.rd_below (layWorld.rd_below HR.out HT1.out.bel (Nat.le_refl _)) hb HT1.out.bel.size) (Nat.le_trans HT1.out.bel.size hb.size) hsz
  have CS:=fun (cs':List Value) (hi:Nat) (w':World) (h1:layWorld.rd w' hi d cs') (h2:hi ≤ w'.heap.size) => nw_det hq (specNw_any d i0 cs' hi w' h1 h2 hsz HHi0.out);have CI:=fun (cs':List Value) (hi:Nat) (w':World) (h1:layWorld.rd w' hi d cs') (h2:hi ≤ w'.heap.size) => nw_det hq (implNw_any d i0 cs' hi w' h1 h2 hsz HHi0.out);have CE:=fun c1 c2 h1 h2 w' => eqRecsResult_is c1 c2 q h1 h2 w';have CW:=fun c1 c2 h1 h2 w' => eqWorld_is c1 c2 d h1 h2 w';have CM:=fun {w':World} {lo hi:Nat} {cs:List Value} (h:OwnT layRecsResult w' lo hi q cs) => mark_T markRecsResult_is h 1 hj;have CK:=fun {w':World} {lo hi:Nat} {cs:List Value} (h:OwnT layWorld w' lo hi d cs) => mark_T markWorld_is h 1 hk;have CH:=fun (cs:List Value) (hi:Nat) (w':World) (h:layRecsResult.rd w' hi (mkvRecsResultD 1 q) cs) (hh:hi ≤ w'.heap.size) => heldRecsResult_is cs q hi 1 w' h hh hj;rw [← hN] at CM CH;rw [← hM] at CK;clear hN hM hj hk hq hsz
  go_wp2_with (refine wp_loadBox 28 (.tmp 2) rfl rfl (w.heap.size) rfl (cs:=[.int .i64 v0,.int .i64 v1,.int .i64 v2,.int .i64 v3,.int .i64 v4,.int .i64 v5,.int .i64 v6,.int .i64 v7,.int .i64 v8,.slice vp0 vl0 vq0,.slice vp1 vl1 vq1,.slice vp2 vl2 vq2,.int .i64 v9,.int .i64 v10,.bool vb]) T1.b1 Tryz.underlying28 size_LW rfl ?_)
  refine (CT _ (Below.refl _ _)).mono ?_;rintro e w2 ⟨c2,rfl,o2,b2⟩;have z1:w.heap.size < w1.heap.size:=T1.b1.lt;clear T1
  go_wp2_with fail
  refine (CS _ _ _ o2.rd (Nat.le_refl _)).mono ?_;rintro e w3 ⟨cS,rfl,oS,b3⟩;obtain ⟨s0,sp,sl,sq,rfl⟩:=res2_RecsResult oS.rd;have z2:w1.heap.size ≤ w2.heap.size:=b2.size;have z3:w2.heap.size ≤ w3.heap.size:=b3.size;have B3:Below w1.heap.size w1 w3:=b2.trans (b3.mono b2.size);clear o2 b2 b3
  go_upto_region 8 with (refine wp_allocStore 32 6 (.tmp 24) [.int .i64 s0,.slice sp sl sq] _ 2 rfl rfl rfl rfl rfl rfl rfl rfl info_RecsResult rfl rfl oS.one ?_)
  have bA:Below w3.heap.size w3 (w3.alloc (.cells #[.int .i64 s0,.slice sp sl sq] 32)):=(Below.refl _ _).alloc (Nat.le_refl _) _;have S4:Box (w3.alloc (.cells #[.int .i64 s0,.slice sp sl sq] 32)) w3.heap.size #[.int .i64 s0,.slice sp sl sq] 32:=box_new _ _ _;obtain ⟨W4,hW4⟩:∃ x,x = w3.alloc (.cells #[.int .i64 s0,.slice sp sl sq] 32):=⟨_,rfl⟩;rw [← hW4] at bA S4 ⊢;have B4:=B3.trans (bA.mono (by omega));have P4:=HT1.out.call B4;have OS4:=oS.call bA;have z4:w3.heap.size < W4.heap.size:=S4.lt;clear bA hW4 oS B3
  go_wp2_with (refine wp_loadBox 28 (.tmp 2) rfl rfl (w.heap.size) rfl (cs:=[.int .i64 v0,.int .i64 v1,.int .i64 v2,.int .i64 v3,.int .i64 v4,.int .i64 v5,.int .i64 v6,.int .i64 v7,.int .i64 v8,.slice vp0 vl0 vq0,.slice vp1 vl1 vq1,.slice vp2 vl2 vq2,.int .i64 v9,.int .i64 v10,.bool vb]) P4.b1 Tryz.underlying28 size_LW rfl ?_)
  refine (CT _ B4).mono ?_;rintro e w5 ⟨cX,rfl,oX,b5⟩;obtain ⟨x0,x1,x2,x3,x4,x5,x6,x7,x8,xp0,xl0,xq0,xp1,xl1,xq1,xp2,xl2,xq2,x9,x10,xb,rfl⟩:=world15O oX;have z5:W4.heap.size ≤ w5.heap.size:=b5.size;have B5:=B4.trans (b5.mono (by omega));have S5:=S4.call b5;have OS5:=OS4.call b5;clear P4 b5 B4 S4 OS4
  go_upto_region 9 with (refine wp_allocStore 38 7 (.tmp 26) [.int .i64 x0,.int .i64 x1,.int .i64 x2,.int .i64 x3,.int .i64 x4,.int .i64 x5,.int .i64 x6,.int .i64 x7,.int .i64 x8,.slice xp0 xl0 xq0,.slice xp1 xl1 xq1,.slice xp2 xl2 xq2,.int .i64 x9,.int .i64 x10,.bool xb] _ 15 rfl rfl rfl rfl rfl rfl rfl rfl info_W rfl rfl oX.one ?_)
  have bA:Below w5.heap.size w5 (w5.alloc (.cells #[.int .i64 x0,.int .i64 x1,.int .i64 x2,.int .i64 x3,.int .i64 x4,.int .i64 x5,.int .i64 x6,.int .i64 x7,.int .i64 x8,.slice xp0 xl0 xq0,.slice xp1 xl1 xq1,.slice xp2 xl2 xq2,.int .i64 x9,.int .i64 x10,.bool xb] 38)):=(Below.refl _ _).alloc (Nat.le_refl _) _;have X6:Box (w5.alloc (.cells #[.int .i64 x0,.int .i64 x1,.int .i64 x2,.int .i64 x3,.int .i64 x4,.int .i64 x5,.int .i64 x6,.int .i64 x7,.int .i64 x8,.slice xp0 xl0 xq0,.slice xp1 xl1 xq1,.slice xp2 xl2 xq2,.int .i64 x9,.int .i64 x10,.bool xb] 38)) w5.heap.size #[.int .i64 x0,.int .i64 x1,.int .i64 x2,.int .i64 x3,.int .i64 x4,.int .i64 x5,.int .i64 x6,.int .i64 x7,.int .i64 x8,.slice xp0 xl0 xq0,.slice xp1 xl1 xq1,.slice xp2 xl2 xq2,.int .i64 x9,.int .i64 x10,.bool xb] 38:=box_new _ _ _;obtain ⟨W6,hW6⟩:∃ x,x = w5.alloc (.cells #[.int .i64 x0,.int .i64 x1,.int .i64 x2,.int .i64 x3,.int .i64 x4,.int .i64 x5,.int .i64 x6,.int .i64 x7,.int .i64 x8,.slice xp0 xl0 xq0,.slice xp1 xl1 xq1,.slice xp2 xl2 xq2,.int .i64 x9,.int .i64 x10,.bool xb] 38):=⟨_,rfl⟩;rw [← hW6] at bA X6 ⊢;have B6:=B5.trans (bA.mono (by omega));have S6:=S5.call bA;have OS6:=OS5.call bA;have OX6:=oX.call bA;have z6:w5.heap.size < W6.heap.size:=X6.lt;clear bA hW6 oX B5 S5 OS5
  go_wp2_with (refine wp_loadBox 38 (.tmp 7) rfl rfl (w5.heap.size) rfl (cs:=[.int .i64 x0,.int .i64 x1,.int .i64 x2,.int .i64 x3,.int .i64 x4,.int .i64 x5,.int .i64 x6,.int .i64 x7,.int .i64 x8,.slice xp0 xl0 xq0,.slice xp1 xl1 xq1,.slice xp2 xl2 xq2,.int .i64 x9,.int .i64 x10,.bool xb]) X6 Tryz.underlying38 size_W rfl ?_)
  refine (CI _ _ _ OX6.rd (by omega)).mono ?_;rintro e w7 ⟨cG,rfl,oG,b7⟩;obtain ⟨g0,gp,gl,gq,rfl⟩:=res2_RecsResult oG.rd;have z7:W6.heap.size ≤ w7.heap.size:=b7.size;have B7:=B6.trans (b7.mono (by omega));have S7:=S6.call b7;have OS7:=OS6.call b7;have X7:=X6.call b7;have OX7:=OX6.call b7;clear b7 B6 S6 OS6 X6 OX6
  go_upto_region 10 with (refine wp_allocStore 32 8 (.tmp 29) [.int .i64 g0,.slice gp gl gq] _ 2 rfl rfl rfl rfl rfl rfl rfl rfl info_RecsResult rfl rfl oG.one ?_)
  have bA:Below w7.heap.size w7 (w7.alloc (.cells #[.int .i64 g0,.slice gp gl gq] 32)):=(Below.refl _ _).alloc (Nat.le_refl _) _;have G8:Box (w7.alloc (.cells #[.int .i64 g0,.slice gp gl gq] 32)) w7.heap.size #[.int .i64 g0,.slice gp gl gq] 32:=box_new _ _ _;obtain ⟨W8,hW8⟩:∃ x,x = w7.alloc (.cells #[.int .i64 g0,.slice gp gl gq] 32):=⟨_,rfl⟩;rw [← hW8] at bA G8 ⊢;have B8:=B7.trans (bA.mono (by omega));have S8:=S7.call bA;have OS8:=OS7.call bA;have X8:=X7.call bA;have OX8:=OX7.call bA;have OG8:=oG.call bA;have z8:w7.heap.size < W8.heap.size:=G8.lt;clear bA hW8 oG B7 S7 OS7 X7 OX7
  go_wp2_with (first | (refine wp_loadBox 32 (.tmp 8) rfl rfl (w7.heap.size) rfl (cs:=[.int .i64 g0,.slice gp gl gq]) G8 Tryz.underlying32 size_RR rfl ?_) | (refine wp_loadBox 32 (.tmp 6) rfl rfl (w3.heap.size) rfl (cs:=[.int .i64 s0,.slice sp sl sq]) S8 Tryz.underlying32 size_RR rfl ?_))
  refine (CE _ _ _ _ _ OG8.rd OS8.rd (by omega) (by omega)).mono ?_;rintro e w9 ⟨rfl,b9⟩;have z9:W8.heap.size ≤ w9.heap.size:=b9.size;have B9:=B8.trans (b9.mono (by omega));have S9:Hid (Box w9 w3.heap.size #[.int .i64 s0,.slice sp sl sq] 32):=S8.call b9;have OS9:Hid (OwnT layRecsResult w9 w2.heap.size w3.heap.size q [.int .i64 s0,.slice sp sl sq]):=OS8.call b9;have X9:Hid (Box w9 w5.heap.size #[.int .i64 x0,.int .i64 x1,.int .i64 x2,.int .i64 x3,.int .i64 x4,.int .i64 x5,.int .i64 x6,.int .i64 x7,.int .i64 x8,.slice xp0 xl0 xq0,.slice xp1 xl1 xq1,.slice xp2 xl2 xq2,.int .i64 x9,.int .i64 x10,.bool xb] 38):=X8.call b9;have OX9:Hid (OwnT layWorld w9 W4.heap.size w5.heap.size d [.int .i64 x0,.int .i64 x1,.int .i64 x2,.int .i64 x3,.int .i64 x4,.int .i64 x5,.int .i64 x6,.int .i64 x7,.int .i64 x8,.slice xp0 xl0 xq0,.slice xp1 xl1 xq1,.slice xp2 xl2 xq2,.int .i64 x9,.int .i64 x10,.bool xb]):=OX8.call b9;have G9:Hid (Box w9 w7.heap.size #[.int .i64 g0,.slice gp gl gq] 32):=G8.call b9;have OG9:Hid (OwnT layRecsResult w9 W6.heap.size w7.heap.size q [.int .i64 g0,.slice gp gl gq]):=OG8.call b9;have HB9:Hid (Below w1.heap.size w1 w9):=B9;have P9:Hid (One w w9 #[.int .i64 v0,.int .i64 v1,.int .i64 v2,.int .i64 v3,.int .i64 v4,.int .i64 v5,.int .i64 v6,.int .i64 v7,.int .i64 v8,.slice vp0 vl0 vq0,.slice vp1 vl1 vq1,.slice vp2 vl2 vq2,.int .i64 v9,.int .i64 v10,.bool vb] 28):=HT1.out.call B9;have CTc:=fun w' (hb:Below w9.heap.size w9 w') => CT w' (HB9.out.trans (hb.mono (by omega)));clear b9 B8 S8 OS8 X8 OX8 G8 OG8 B9
  go_upto_region 12 with fail
  go_cut [38] (fun v wx => v = .bool false ∧ Below w9.heap.size w9 wx)
  case first =>
    have KS:∀ w',Below w9.heap.size w9 w' → (Box w' (w5.heap.size) #[.int .i64 x0,.int .i64 x1,.int .i64 x2,.int .i64 x3,.int .i64 x4,.int .i64 x5,.int .i64 x6,.int .i64 x7,.int .i64 x8,.slice xp0 xl0 xq0,.slice xp1 xl1 xq1,.slice xp2 xl2 xq2,.int .i64 x9,.int .i64 x10,.bool xb] 38 ∧ Box w' (w.heap.size) #[.int .i64 v0,.int .i64 v1,.int .i64 v2,.int .i64 v3,.int .i64 v4,.int .i64 v5,.int .i64 v6,.int .i64 v7,.int .i64 v8,.slice vp0 vl0 vq0,.slice vp1 vl1 vq1,.slice vp2 vl2 vq2,.int .i64 v9,.int .i64 v10,.bool vb] 28):=fun w' hb => ⟨(X9.out).call hb,(P9.out.b1).call hb⟩;have B0:Below w9.heap.size w9 w9.drew:=below_drew _;refine wp_region_L 4 (fun w' => Box w' (w5.heap.size) #[.int .i64 x0,.int .i64 x1,.int .i64 x2,.int .i64 x3,.int .i64 x4,.int .i64 x5,.int .i64 x6,.int .i64 x7,.int .i64 x8,.slice xp0 xl0 xq0,.slice xp1 xl1 xq1,.slice xp2 xl2 xq2,.int .i64 x9,.int .i64 x10,.bool xb] 38 ∧ Box w' (w.heap.size) #[.int .i64 v0,.int .i64 v1,.int .i64 v2,.int .i64 v3,.int .i64 v4,.int .i64 v5,.int .i64 v6,.int .i64 v7,.int .i64 v8,.slice vp0 vl0 vq0,.slice vp1 vl1 vq1,.slice vp2 vl2 vq2,.int .i64 v9,.int .i64 v10,.bool vb] 28) (by kernel_rfl) (KS _ B0) (fun hHeld => ?_);refine wpAnyL_take (i:=0) (oi:=_) (v:=.agg #[.int .i64 x0,.int .i64 x1,.int .i64 x2,.int .i64 x3,.int .i64 x4,.int .i64 x5,.int .i64 x6,.int .i64 x7,.int .i64 x8,.slice xp0 xl0 xq0,.slice xp1 xl1 xq1,.slice xp2 xl2 xq2,.int .i64 x9,.int .i64 x10,.bool xb]) 16 rfl (by kernel_rfl) (fun _ _ _ h => h) (load_yield 38 (.tmp 7) rfl rfl (w5.heap.size) rfl (cs:=[.int .i64 x0,.int .i64 x1,.int .i64 x2,.int .i64 x3,.int .i64 x4,.int .i64 x5,.int .i64 x6,.int .i64 x7,.int .i64 x8,.slice xp0 xl0 xq0,.slice xp1 xl1 xq1,.slice xp2 xl2 xq2,.int .i64 x9,.int .i64 x10,.bool xb]) (fun w' h => h.1) Tryz.underlying38 size_W rfl) (by assumption) ?_
    try simp only [Act.put,SL]
    refine wpAnyL_take (i:=1) (oi:=_) (v:=.agg #[.int .i64 v0,.int .i64 v1,.int .i64 v2,.int .i64 v3,.int .i64 v4,.int .i64 v5,.int .i64 v6,.int .i64 v7,.int .i64 v8,.slice vp0 vl0 vq0,.slice vp1 vl1 vq1,.slice vp2 vl2 vq2,.int .i64 v9,.int .i64 v10,.bool vb]) 16 rfl (by kernel_rfl) (fun _ _ _ h => h) (load_yield 28 (.tmp 2) rfl rfl (w.heap.size) rfl (cs:=[.int .i64 v0,.int .i64 v1,.int .i64 v2,.int .i64 v3,.int .i64 v4,.int .i64 v5,.int .i64 v6,.int .i64 v7,.int .i64 v8,.slice vp0 vl0 vq0,.slice vp1 vl1 vq1,.slice vp2 vl2 vq2,.int .i64 v9,.int .i64 v10,.bool vb]) (fun w' h => h.2) Tryz.underlying28 size_LW rfl) (by assumption) ?_
    try simp only [Act.put,SL]
    refine wpAnyL_one (i:=2) (o:=_) rfl (by kernel_rfl) (fun KC hKC => ?_);refine step_call rfl 7 _ _ rfl #[.agg #[.int .i64 v0,.int .i64 v1,.int .i64 v2,.int .i64 v3,.int .i64 v4,.int .i64 v5,.int .i64 v6,.int .i64 v7,.int .i64 v8,.slice vp0 vl0 vq0,.slice vp1 vl1 vq1,.slice vp2 vl2 vq2,.int .i64 v9,.int .i64 v10,.bool vb]] ?_ Tryz.func7 (by kernel_rfl) (by kernel_rfl) (CTc _ B0) ?_
    · simp [Act.eval,Act.put]
    rintro ee wb ⟨cs',rfl,oR,bb⟩;have bR:Below w9.heap.size w9 wb:=B0.trans (bb.mono B0.size);refine ⟨_,rfl,?_⟩;refine hKC.out _ _ (KS _ bR) (fun hHeld => ?_);clear hKC KC
    try simp only [Act.put,SL]
    refine wpAnyL_one (i:=3) (o:=_) rfl (by kernel_rfl) (fun KC hKC => ?_);refine step_call rfl 10 _ _ rfl #[.agg #[.int .i64 x0,.int .i64 x1,.int .i64 x2,.int .i64 x3,.int .i64 x4,.int .i64 x5,.int .i64 x6,.int .i64 x7,.int .i64 x8,.slice xp0 xl0 xq0,.slice xp1 xl1 xq1,.slice xp2 xl2 xq2,.int .i64 x9,.int .i64 x10,.bool xb],.agg cs'.toArray] ?_ Tryz.func10 (by kernel_rfl) (by kernel_rfl) (CW _ _ _ _ _ ((OX9.out).call bR).rd oR.rd (Nat.le_trans (by omega) bR.size) (Nat.le_refl _)) ?_
    · simp [Act.eval,Act.put]
    rintro ee wc' ⟨rfl,bc⟩;have bC:Below w9.heap.size w9 wc':=bR.trans (bc.mono bR.size);refine ⟨_,rfl,?_⟩;refine hKC.out _ _ (KS _ bC) (fun hHeld => ?_);clear hKC KC
    try simp only [Act.put,SL]
    refine wpAnyL_last (o:=_) rfl (by kernel_rfl) (fun KC hKC => ?_);go_simp;refine hKC.out _ _ ?_;clear hKC KC
    try simp only [Act.put,SL]
    refine wpAnyL_done (by kernel_rfl) ?_ _;go_wp2
    go_meet
    exact ⟨rfl,bC⟩
  case rest =>
    obtain ⟨rfl,b10⟩:=hcut;obtain ⟨w10,rfl⟩:∃ x,x = wc:=⟨_,rfl⟩;clear CTc;have z10:w9.heap.size ≤ w10.heap.size:=b10.size;have B10:=HB9.out.trans (b10.mono (by omega));have S10:=S9.out.call b10;have OS10:=OS9.out.call b10;have X10:=X9.out.call b10;have OX10:=OX9.out.call b10;have G10:=G9.out.call b10;have OG10:=OG9.out.call b10;clear b10 HB9 S9 OS9 X9 OX9 G9 OG9 P9
    have hm0:¬ (M:Int) < 0:=by omega
    go_wp2_with (refine wp_loadBox 38 (.tmp 7) rfl rfl (w5.heap.size) rfl (cs:=[.int .i64 x0,.int .i64 x1,.int .i64 x2,.int .i64 x3,.int .i64 x4,.int .i64 x5,.int .i64 x6,.int .i64 x7,.int .i64 x8,.slice xp0 xl0 xq0,.slice xp1 xl1 xq1,.slice xp2 xl2 xq2,.int .i64 x9,.int .i64 x10,.bool xb]) X10 Tryz.underlying38 size_W rfl ?_)
    refine (CK OX10).mono ?_;rintro e w11 ⟨rfl,OX11,c11⟩;have z11:w10.heap.size ≤ w11.heap.size:=c11.size;have B11:=B10.trans (c11.bel (B:=w1.heap.size) (by omega) (by omega));have S11:=S10.chg c11 (.inl (by omega));have OS11:=OS10.chg c11 (.inl (by omega));have G11:=G10.chg c11 (.inr (by omega));have OG11:=OG10.chg c11 (.inr (by omega));have u_0:w11.cell? ⟨w7.heap.size,0,none⟩ = some (.int .i64 g0):=G11.cell 0;have u_1:w11.cell? ⟨w7.heap.size,1,none⟩ = some (.slice gp gl gq):=G11.cell 1;have y_0:w11.cell? ⟨w3.heap.size,0,none⟩ = some (.int .i64 s0):=S11.cell 0;have y_1:w11.cell? ⟨w3.heap.size,1,none⟩ = some (.slice sp sl sq):=S11.cell 1;clear OX11 c11 B10 S10 OS10 X10 OX10 G10 OG10
    go_wp2_with fail
    refine (CE _ _ _ _ _ OG11.rd OS11.rd (by omega) (by omega)).mono ?_;rintro e w12 ⟨rfl,b12⟩;have z12:w11.heap.size ≤ w12.heap.size:=b12.size;have B12:=B11.trans (b12.mono (by omega));have S12:=S11.call b12;have OS12:=OS11.call b12;have G12:=G11.call b12;have OG12:=OG11.call b12;clear b12 B11 S11 OS11 G11 OG11 u_0 u_1 y_0 y_1
    go_wp2_with (refine wp_loadBox 32 (.tmp 8) rfl rfl (w7.heap.size) rfl (cs:=[.int .i64 g0,.slice gp gl gq]) G12 Tryz.underlying32 size_RR rfl ?_)
    refine (CM OG12).mono ?_;rintro e w13 ⟨rfl,OG13,c13⟩;have z13:w12.heap.size ≤ w13.heap.size:=c13.size;have B13:=B12.trans (c13.bel (B:=w1.heap.size) (by omega) (by omega));have S13:=S12.chg c13 (.inl (by omega));have OS13:=OS12.chg c13 (.inl (by omega));have G13:=G12.chg c13 (.inr (by omega));clear c13 B12 S12 OS12 G12 OG12
    go_wp2_with (refine wp_loadBox 32 (.tmp 8) rfl rfl (w7.heap.size) rfl (cs:=[.int .i64 g0,.slice gp gl gq]) G13 Tryz.underlying32 size_RR rfl ?_)
    refine (CH _ _ _ OG13.rd (by omega)).mono ?_;rintro e w14 ⟨rfl,b14⟩;have z14:w13.heap.size ≤ w14.heap.size:=b14.size;have B14:=B13.trans (b14.mono (by omega));have S14:=S13.call b14;have OS14:=OS13.call b14;have G14:=G13.call b14;have OG14:=OG13.call b14;have P14:=HT1.out.call B14;clear b14 B13 S13 OS13 G13 OG13
    have hn0:¬ (N:Int) < 0:=by omega
    go_wp2_with (refine wp_loadBox 28 (.tmp 2) rfl rfl (w.heap.size) rfl (cs:=[.int .i64 v0,.int .i64 v1,.int .i64 v2,.int .i64 v3,.int .i64 v4,.int .i64 v5,.int .i64 v6,.int .i64 v7,.int .i64 v8,.slice vp0 vl0 vq0,.slice vp1 vl1 vq1,.slice vp2 vl2 vq2,.int .i64 v9,.int .i64 v10,.bool vb]) P14.b1 Tryz.underlying28 size_LW rfl ?_)
    refine (CT _ B14).mono ?_;rintro e w15 ⟨c15,rfl,o15,b15⟩
    go_wp2_with fail
    refine (CI _ _ _ o15.rd (Nat.le_refl _)).mono ?_;rintro e w16 ⟨cH,rfl,oH,b16⟩;obtain ⟨h0,hp,hl,hq,rfl⟩:=res2_RecsResult oH.rd;have z15:w14.heap.size ≤ w15.heap.size:=b15.size;have z16:w15.heap.size ≤ w16.heap.size:=b16.size;have B16:=(B14.trans (b15.mono (by omega))).trans (b16.mono (by omega));have S16:=(S14.call b15).call b16;have OS16:=(OS14.call b15).call b16;have G16:=(G14.call b15).call b16;have OG16:=(OG14.call b15).call b16;clear P14 o15 b15 b16 B14 S14 OS14 G14 OG14
    go_upto_region 27 with (refine wp_allocStore 32 12 (.tmp 64) [.int .i64 h0,.slice hp hl hq] _ 2 rfl rfl rfl rfl rfl rfl rfl rfl info_RecsResult rfl rfl oH.one ?_)
    have bA:Below w16.heap.size w16 (w16.alloc (.cells #[.int .i64 h0,.slice hp hl hq] 32)):=(Below.refl _ _).alloc (Nat.le_refl _) _;have H17:Box (w16.alloc (.cells #[.int .i64 h0,.slice hp hl hq] 32)) w16.heap.size #[.int .i64 h0,.slice hp hl hq] 32:=box_new _ _ _;obtain ⟨W17,hW17⟩:∃ x,x = w16.alloc (.cells #[.int .i64 h0,.slice hp hl hq] 32):=⟨_,rfl⟩;rw [← hW17] at bA H17 ⊢;have B17:=B16.trans (bA.mono (by omega));have S17:=S16.call bA;have OS17:=OS16.call bA;have G17:=G16.call bA;have OG17:=OG16.call bA;have OH17:=oH.call bA;have z17:w16.heap.size < W17.heap.size:=H17.lt;clear bA hW17 oH B16 S16 OS16 G16 OG16
    go_wp2_with (first | (refine wp_loadBox 32 (.tmp 12) rfl rfl (w16.heap.size) rfl (cs:=[.int .i64 h0,.slice hp hl hq]) H17 Tryz.underlying32 size_RR rfl ?_) | (refine wp_loadBox 32 (.tmp 6) rfl rfl (w3.heap.size) rfl (cs:=[.int .i64 s0,.slice sp sl sq]) S17 Tryz.underlying32 size_RR rfl ?_))
    refine (CE _ _ _ _ _ OH17.rd OS17.rd (by omega) (by omega)).mono ?_;rintro e w18 ⟨rfl,b18⟩;have z18:W17.heap.size ≤ w18.heap.size:=b18.size;have B18:=B17.trans (b18.mono (by omega));have G18:=G17.call b18;have OG18:=OG17.call b18;clear b18 B17 S17 OS17 G17 OG17 OH17 H17
    go_wp2_with (refine wp_loadBox 32 (.tmp 8) rfl rfl (w7.heap.size) rfl (cs:=[.int .i64 g0,.slice gp gl gq]) G18 Tryz.underlying32 size_RR rfl ?_)
    refine (CH _ _ _ OG18.rd (by omega)).mono ?_;rintro e w19 ⟨rfl,b19⟩;have HB:Hid (Below w.heap.size w w19):=(HT1.out.call (B18.trans (b19.mono (by omega)))).bel;clear b19 B18 G18 OG18;go_wp2;go_ret;exact ⟨rfl,HB.out⟩
set_option maxRecDepth 100000 in
theorem fnExactNewestItem_lifted (os:Os) (started:os.Started) (H:Type) (enc:TypeId × Value → H) :
    ReturnsInHanded {} Tryz.checked os 3 .any (Rows.fnExactNewestItemSpec.pre6 enc Tryz.prog Tryz.f3 Rows.fnExactNewestItemRow.domain false) (Rows.fnExactNewestItemSpec.post enc Tryz.prog Tryz.f3 false true false false):=by
  refine returnsInHanded_of_change (C:=Tryz.checked) frame_own started (by kernel_rfl) Tryz.func3
    (ChangeSpec.witness6 (enc:=enc) (C:=Tryz.checked) false ⟨#[],#[.agg #[.int .i64 0,.int .i64 0,.int .i64 0,.int .i64 0,.int .i64 0,.int .i64 0,.int .i64 0,.int .i64 0,.int .i64 0,.slice none 0 0,.slice none 0 0,.slice none 0 0,.int .i64 0,.int .i64 0,.bool false],.string ByteArray.empty],[]⟩ 8 (by kernel_rfl) (by kernel_rfl) (by kernel_rfl) (by kernel_rfl)) ?_
  intro W base args ds gs before hval0 hW hcnd _;have hval:∀ (j:Nat) t v,Tryz.f3.params[j]? = some t → args[j]? = some v → Value.okWide Tryz.prog W .any base t v:=hval0;have hW':=hW;obtain ⟨p,q,hA0,hV,rfl,hfz,hnd⟩:=hW;have hA:DataW.TrodAll enc Tryz.prog W 0 (fun _ => true) true Tryz.f3.params.toList args.toList ds p:=hA0;rw [Tryz.params3] at hA hval;obtain ⟨v0,vs0,d0,ds0,p0,q0,hargs,rfl,rfl,h0,r0⟩:=trodAll_cons hA;obtain ⟨v1,vs1,d1,ds1,p1,q1,rfl,rfl,rfl,h1,r1⟩:=trodAll_cons r0;obtain ⟨rfl,rfl,rfl⟩:=trodAll_nil r1
  obtain rfl:args = #[v0,v1]:=by cases args;simp_all
  obtain ⟨rfl,rfl⟩:=trodVars_none hV;have k0:=h0
  have lt0:∀ x ∈ p0,x.block < W.heap.size:=by obtain ⟨m,hm⟩:=k0;exact DataW.trod_lt m _ _ _ hm
  obtain ⟨cs0,a0,rfl,rd0⟩:=struct_of_trod opensWorld Tryz.underlying28 (hval 0 28 v0 rfl rfl) h0;obtain ⟨n1,rfl,rfl,rfl,hn1⟩:=ChangeMaps.open_string Tryz.underlying9 (hval 1 9 v1 rfl rfl) h1;clear hA0 hval0;refine (fnExactNewestItem_walk a0 cs0 n1 W rd0 hn1).mono fun e W' ⟨he,bel⟩ => ?_;subst he;exact ⟨_,rfl,_,_,_,[],_,[],hW',trodAll_mk1 (shut_bool Tryz.underlying4 _),(trodAll_cons_mk (Below.trod frame_laid (by kernel_rfl) (of_decide_eq_true (by kernel_rfl)) k0 bel lt0) (trodAll_cons_mk (ChangeMaps.shut_string Tryz.underlying9 hn1) trodAll_mk0)),rfl,bel.frame _,fun h => by cases h⟩
end Go.Proofs.YtcbfeiaemlbemaaGreat