/- Walk of the program's SplitObject. -/
import Derived.Defers
import Derived.Recover
import Derived.Laws.LoneSync
import Derived.Laws.Pointers
import Derived.RegionCalls
import Derived.Test.YtclclojenogpbaaGreatZPdropiao
set_option linter.unusedVariables false
set_option linter.unusedSimpArgs false
set_option maxHeartbeats 16000000
namespace Go.Proofs.YtclclojenogpbaaGreat
open Go.RowKit F256
structure BldQ (wr:World) (lo hi:Nat) (v:Value) (k:Nat) (n:Nat→Nat) (f:Mat) (e:Nat→Value):Prop where
 row:wr.ownsRow lo 30 1 v k (zfZ k e)
 low:∀ b,v.ownBlock=some b→b<hi
 each:∀ i,i<k→Own wr lo hi (e i) (n i) (f i)
 apart:∀ i j,i<k→j<k→i≠j→∀ b,(e i).ownBlock=some b→(e j).ownBlock≠some b
 le:lo≤hi
 le2:hi≤wr.heap.size
set_option maxRecDepth 20000 in
theorem zfB (d:WorldD) (nm:ByteArray) (cs:List Value) (hi:Nat) (w:World) (h:zad.rd w hi d cs) (hhi:hi≤w.heap.size) (hsz:zaS d≤1048576) (hnm:nm.size≤1048576) :
 Calls Tryz.prog 54 #[.agg cs.toArray,.string nm] w (CodeP (NfC d nm) w):=by
 have h':=h;obtain ⟨ao1,cap1,ao2,cap2,ao3,cap3,rfl,g1,g2,g3,k0,k4,k5⟩:=zaM h';have HRD:=hid h;clear h h' g1 g2 g3 k0 k4 k5;have T0:=zaI w (rwW d ao1 cap1 ao2 cap2 ao3 cap3).toArray 38
 go_enter Tryz.func54,Tryz.ntmps54
 go_wp2_with (refine zai 38 (.tmp 2) rfl rfl (w.heap.size) rfl (T0.b1) Tryz.underlying38 zbk rfl ?_)
 refine (zi6 d _ hi _ (zad.rd_below HRD.out T0.bel hhi) (Nat.le_trans hhi T0.bel.size) hsz).mono ?_;rintro e w1 ⟨x,rfl,hx,b1⟩;have HB:Hid (Below w.heap.size w w1):=(T0.call b1).bel;have HX:=hid hx;clear b1 T0 hx
 by_cases hx0:x=0
 case neg=>
  have hne:(x != 0)=true:=by simp [hx0]
  go_wp2;go_ret;exact ⟨x,rfl,.inl ⟨hx0,HX.out⟩,HB.out⟩
 subst hx0
 go_wp2_with fail
 refine (zeH nm hnm w1).mono ?_;rintro e w2 ⟨x,rfl,hx,rfl⟩;have HN:=hid hx;clear hx;go_wp2;go_ret;exact ⟨x,rfl,.inr ⟨HX.out,HN.out⟩,HB.out⟩
def NnAns (d:WorldD) (nm:ByteArray) (q:RecsResultD):Prop:=(∃ x,x≠0∧NfC d nm x∧q=⟨x,(0,fun _=>rec0)⟩)∨(NfC d nm 0∧NwAns d nm q)
set_option maxRecDepth 20000 in
theorem zfC (d:WorldD) (nm:ByteArray) (cs:List Value) (hi:Nat) (w:World) (h:zad.rd w hi d cs) (hhi:hi≤w.heap.size) (hsz:zaS d≤1048576) (hnm:nm.size≤1048576) :
 Calls Tryz.prog 35 #[.agg cs.toArray,.string nm] w (zmH (NnAns d nm) w):=by
 have h':=h;obtain ⟨ao1,cap1,ao2,cap2,ao3,cap3,rfl,g1,g2,g3,k0,k4,k5⟩:=zaM h';have HRD:=hid h;clear h h' g1 g2 g3 k0 k4 k5;have T0:=zax w (rwW d ao1 cap1 ao2 cap2 ao3 cap3).toArray #[.int .i64 0,.slice none 0 0] 38 69
 go_enter Tryz.func35,Tryz.ntmps35
 go_wp2_with (refine zai 38 (.tmp 2) rfl rfl (w.heap.size) rfl (T0.b1) Tryz.underlying38 zbk rfl ?_)
 refine (zfB d nm _ hi _ (zad.rd_below HRD.out T0.bel hhi) (Nat.le_trans hhi T0.bel.size) hsz hnm).mono ?_;rintro e w1 ⟨x,rfl,hx,b1⟩;have HT1:=hid (T0.call b1);have HX:=hid hx;have z1:w.heap.size+1<w1.heap.size:=HT1.out.b2.lt;clear b1 T0 hx
 by_cases hx0:x=0
 case neg=>
  have hne:(x != 0)=true:=by simp [hx0]
  go_wp2_with (refine zaF 69 _ _ rfl rfl (w.heap.size+1) rfl (cs:=[.int .i64 x,.slice none 0 0]) rfl (HT1.out.b2) zb5 rfl rfl ((zcn w1 x (zgX HX.out) 0 0).one) ?_;intro w9 X9 C9 z9)
  refine zbl Tryz.results35 rfl X9 Tryz.underlying69 zb5 rfl rfl ?_;have zz:=C9.size;exact ⟨⟨x,(0,fun _=>rec0)⟩,[.int .i64 x,.slice none 0 0],rfl,.inl ⟨x,hx0,HX.out,rfl⟩,zcn w9 x (zgX HX.out) _ _,HT1.out.bel.trans (C9.bel (fun b hb=>by simp at hb;omega) HT1.out.bel.size)⟩
 subst hx0
 go_wp2_with (refine zai 38 (.tmp 2) rfl rfl (w.heap.size) rfl (HT1.out.b1) Tryz.underlying38 zbk rfl ?_)
 refine (zkr d nm _ hi w1 (zad.rd_below HRD.out HT1.out.bel hhi) (Nat.le_trans hhi HT1.out.bel.size) hsz hnm).mono ?_;rintro e w2 ⟨q,cs2,rfl,hq,o2,b2⟩;obtain ⟨ar,cr,rfl,-⟩:=zd9 o2.rd;have HT2:=hid (HT1.out.call b2);have HQ:=hid hq;have HO:=hid o2;have z2:w1.heap.size≤w2.heap.size:=b2.size;clear b2 hq o2 HT1
 go_wp2_with (refine zaF 69 _ _ rfl rfl (w.heap.size+1) rfl (cs:=[.int .i64 q.code,.slice ar q.recs.1 cr]) rfl (HT2.out.b2) zb5 rfl rfl (HO.out.one) ?_;intro w9 X9 C9 z9)
 refine zbl Tryz.results35 rfl X9 Tryz.underlying69 zb5 rfl rfl ?_;have zz:=C9.size;exact ⟨q,_,rfl,.inr ⟨HX.out,HQ.out⟩,(HO.out.chgk C9 (fun b hb=>by simp at hb;omega)).weaken (by omega) zz,HT2.out.bel.trans (C9.bel (fun b hb=>by simp at hb;omega) HT2.out.bel.size)⟩
structure Turn {α:Type} (A:Lay α) (w:World) (K:List Nat) (w':World) (a:α) (cs:List Value) (K':List Nat):Prop where
 own:A.own w' a cs K'
 nd:K'.Nodup
 sub:∀ b,b∈K'→b∈K∨(w.heap.size≤b∧b<w'.heap.size)
 chg:ChgL K w w'
theorem zks {n:Nat} {F:Nat→List Nat} (h1:∀ k,k<n→(F k).Nodup) (h2:∀ k j,k<n→j<n→k≠j→∀ b,b∈F k→b∉F j):(catN n F).Nodup:=by
 induction n with
 | zero=>simp [catN]
 | succ n ih=>
  rw [zbi];refine List.nodup_append.2 ⟨ih (fun k hk=>h1 k (by omega)) (fun k j hk hj=>h2 k j (by omega) (by omega)),h1 n (by omega),fun b hb c hc hh=>?_⟩;subst hh;obtain ⟨k,hk,hbk⟩:=zaL.1 hb;exact h2 k n (by omega) (by omega) (by omega) b hbk hc
theorem zfD {n:Nat} {F:Nat→List Nat} (h:(catN n F).Nodup) {k:Nat} (hk:k<n):(F k).Nodup:=by
 induction n with
 | zero=>omega
 | succ n ih=>
  rw [zbi] at h;obtain ⟨h1,h2,_⟩:=List.nodup_append.1 h
  by_cases c:k=n
  ·subst c;exact h2
  ·exact ih h1 (by omega)
section
variable {α:Type} {E:Lay α} {t:TypeId} {w w':World} {g cap n:Nat} {x:Nat→α} {ce:Nat→List Value} {Ls:Nat→List Nat}
theorem zmr {i:Nat} (hi:i<n) {K':List Nat} {N M:Nat} (nd:(g::catN n Ls).Nodup) (hN:∀ b,b∈g::catN n Ls→b<N) (hn:K'.Nodup) (hs:∀ b,b∈K'→b∈Ls i∨(N≤b∧b<M)):(g::catN n (upd Ls i K')).Nodup:=by
 obtain ⟨n1,n2⟩:=List.nodup_cons.1 nd
 have ne:∀ k,k<n→k≠i→∀ b,b∈Ls k→b∉K':=fun k hk hne b hb hbK=>by
  rcases hs b hbK with h | h
  ·exact zdS n2 hi hk hne hb h
  ·have:=hN b (List.mem_cons_of_mem _ (zaL.2 ⟨k,hk,hb⟩));omega
 refine List.nodup_cons.2 ⟨fun hg=>?_,zks (fun k hk=>?_) (fun k j hk hj hne b hb=>?_)⟩
 ·obtain ⟨k,hk,hb⟩:=zaL.1 hg
  by_cases c:k=i
  ·subst c
   rw [zaY] at hb
   rcases hs g hb with h | h
   ·exact n1 (zaL.2 ⟨k,hk,h⟩)
   ·have:=hN g (List.mem_cons_self ..);omega
  ·rw [za5 Ls K' c] at hb
   exact n1 (zaL.2 ⟨k,hk,hb⟩)
 ·by_cases c:k=i
  ·subst c;rw [zaY];exact hn
  ·rw [za5 Ls K' c];exact zfD n2 hk
 ·by_cases c:k=i
  ·subst c
   rw [zaY] at hb;rw [za5 Ls K' (fun h=>hne h.symm)];exact fun hbj=>ne j hj (fun h=>hne h.symm) b hbj hb
  ·rw [za5 Ls K' c] at hb
   by_cases c2:j=i
   ·subst c2
    rw [zaY];exact ne k hk c b hb
   ·rw [za5 Ls K' c2]
    exact zdS n2 hj hk hne hb
theorem zm6 {i:Nat} (hi:i<n) {K':List Nat} {N M:Nat} (hs:∀ b,b∈K'→b∈Ls i∨(N≤b∧b<M)):∀ b,b∈g::catN n (upd Ls i K')→b∈g::catN n Ls∨(N≤b∧b<M):=fun b hb=>by
 rcases List.mem_cons.1 hb with rfl | hb
 ·exact .inl (List.mem_cons_self ..)
 ·obtain ⟨k,hk,hb⟩:=zaL.1 hb
  by_cases c:k=i
  ·subst c
   rw [zaY] at hb
   rcases hs b hb with h | h
   ·exact .inl (List.mem_cons_of_mem _ (zaL.2 ⟨k,hk,h⟩))
   ·exact .inr h
  ·rw [za5 Ls K' c] at hb
   exact .inl (List.mem_cons_of_mem _ (zaL.2 ⟨k,hk,hb⟩))
theorem SlO.turn_at {w1:World} (h:SlO E t w g cap n x ce Ls) (nd:(g::catN n Ls).Nodup) {i:Nat} (hi:i<n) {a':α} {cs':List Value} {K':List Nat} (ht:Turn E w (Ls i) w1 a' cs' K') (hw:w'=Go.Proofs.YtclclojenogpbaaGreat.stN w1 g (i*E.sz) cs') :
 Turn (E.slice t) w (g::catN n Ls) w' (n,upd x i a') [.slice (some ⟨g,0,none⟩) n cap] (g::catN n (upd Ls i K')):=by
 subst hw;have hgi:g∉Ls i:=fun hb=>(List.nodup_cons.1 nd).1 (zaL.2 ⟨i,hi,hb⟩);have nd':=zmr (g:=g) hi nd h.mem_lt ht.nd ht.sub;have hcs:=E.own_len ht.own
 have row1:w1.ownsRow 0 t E.sz (.slice (some ⟨g,0,none⟩) n cap) n (catN n ce):=by
  refine ⟨h.row.1,?_⟩
  rcases h.row.2 with ⟨hn,_⟩ | ⟨g',cap',cur,he,hbg,hgg,rest⟩
  ·cases hn
  ·cases he
   exact .inr ⟨g,cap,cur,rfl,hbg,(ht.chg.block g h.lt hgi).trans hgg,rest⟩
 have hgK:∀ b,b∈catN n (upd Ls i K')→b≠g:=fun b hb hh=>by
  subst hh;exact (List.nodup_cons.1 nd').1 hb
 have hO:SlO E t (Go.Proofs.YtclclojenogpbaaGreat.stN w1 g (i*E.sz) cs') g cap n (upd x i a') (upd ce i cs') (upd Ls i K'):=by
  refine ⟨?_,fun k hk=>?_⟩
  ·have:=zij cs' w1 (i*E.sz) _ row1
   rw [zhc h.lens hi hcs] at this;exact this
  ·have own1:E.own w1 (upd x i a' k) (upd ce i cs' k) (upd Ls i K' k):=by
    by_cases c:k=i
    ·subst c;rw [zaY,zaY,zaY];exact ht.own
    ·rw [za5 x a' c,za5 ce cs' c,za5 Ls K' c]
     exact E.own_chgL (h.each k hk) ht.chg (fun b hb=>zdS (List.nodup_cons.1 nd).2 hi hk c hb)
   exact E.own_kept own1 (fun b hb=>zbX g b (hgK b (zaL.2 ⟨k,hk,hb⟩)) cs' w1 _)
 have c1:ChgL (g::catN n Ls) w w1:=ht.chg.mono (SlO.sub i hi);refine ⟨hO.own,nd',fun b hb=>?_,?_⟩
 ·rw [zbP];exact zm6 hi ht.sub b hb
 ·exact c1.trans ⟨(zbp g cs' w1 _).1,(zbp g cs' w1 _).2.1,(zbp g cs' w1 _).2.2,Nat.le_of_eq (zbP g cs' w1 _).symm,fun b _ hb=>zbX g b (fun hh=>hb (by rw [hh];exact List.mem_cons_self ..)) cs' w1 _⟩
end
structure WOpen (w:World) (lo hi:Nat) (d:WorldD) (v1 v2 v3:Value) (K1 K2 K3:List Nat):Prop where
 g:((zae.slice 124).slice 109).own w d.groups [v1] K1
 o:zak.own w d.on [v2] K2
 t:(zah.slice 112).own w d.tapes [v3] K3
 nd:(K1++(K2++K3)).Nodup
 inn:∀ b,b∈K1++(K2++K3)→lo≤b∧b<hi
 k0:∀ i,-9223372036854775808≤d.shape i∧d.shape i≤9223372036854775807
 k4:-9223372036854775808≤d.writes∧d.writes≤9223372036854775807
 k5:-9223372036854775808≤d.stop∧d.stop≤9223372036854775807
theorem zkt {w:World} {lo hi:Nat} {d:WorldD} {cs:List Value} (h:OwnT zad w lo hi d cs):∃ p1 c1 p2 c2 p3 c3 K1 K2 K3,cs=[.int .i64 (d.shape 0),.int .i64 (d.shape 1),.int .i64 (d.shape 2),.int .i64 (d.shape 3),.int .i64 (d.shape 4),.int .i64 (d.shape 5),.int .i64 (d.shape 6),.int .i64 (d.shape 7),.int .i64 (d.shape 8),.slice p1 d.groups.1 c1,.slice p2 d.on.1 c2,.slice p3 d.tapes.1 c3,.int .i64 d.writes,.int .i64 d.stop,.bool d.down]∧WOpen w lo hi d (.slice p1 d.groups.1 c1) (.slice p2 d.on.1 c2) (.slice p3 d.tapes.1 c3) K1 K2 K3:=by
 obtain ⟨M,h1,h2,h3⟩:=h;obtain ⟨a1,b1,a2,b2,a3,b3,K1,K2,K3,e,hM,o1,o2,o3,k0,k4,k5⟩:=zb1 h1;subst hM
 simp only [List.append_nil] at h2 h3
 exact ⟨a1,b1,a2,b2,a3,b3,K1,K2,K3,e,o1,o2,o3,h2,h3,k0,k4,k5⟩
theorem zhX {A B C B':List Nat} {N M:Nat} (nd:(A++(B++C)).Nodup) (hN:∀ b,b∈A++(B++C)→b<N) (hn:B'.Nodup) (hs:∀ b,b∈B'→b∈B∨(N≤b∧b<M)):(A++(B'++C)).Nodup:=by
 obtain ⟨a1,a2,a3⟩:=List.nodup_append.1 nd;obtain ⟨b1,b2,b3⟩:=List.nodup_append.1 a2;refine List.nodup_append.2 ⟨a1,List.nodup_append.2 ⟨hn,b2,fun b hb c hc hh=>?_⟩,fun b hb c hc hh=>?_⟩
 ·subst hh
  rcases hs b hb with h | h
  ·exact b3 b h b hc rfl
  ·have:=hN b (List.mem_append_right _ (List.mem_append_right _ hc));omega
 ·subst hh
  rcases List.mem_append.1 hc with hc | hc
  ·rcases hs b hc with h | h
   ·exact a3 b hb b (List.mem_append_left _ h) rfl
   ·have:=hN b (List.mem_append_left _ hb);omega
  ·exact a3 b hb b (List.mem_append_right _ hc) rfl
section
variable {w w':World} {lo hi:Nat} {d:WorldD} {v1 v2 v3:Value} {K1 K2 K3:List Nat}
theorem WOpen.ap12 (h:WOpen w lo hi d v1 v2 v3 K1 K2 K3) {b:Nat} (hb:b∈K1):b∉K2:=fun h2=>(List.nodup_append.1 h.nd).2.2 b hb b (List.mem_append_left _ h2) rfl
theorem WOpen.ap13 (h:WOpen w lo hi d v1 v2 v3 K1 K2 K3) {b:Nat} (hb:b∈K1):b∉K3:=fun h2=>(List.nodup_append.1 h.nd).2.2 b hb b (List.mem_append_right _ h2) rfl
theorem WOpen.ap23 (h:WOpen w lo hi d v1 v2 v3 K1 K2 K3) {b:Nat} (hb:b∈K2):b∉K3:=fun h2=>(List.nodup_append.1 (List.nodup_append.1 h.nd).2.1).2.2 b hb b h2 rfl
theorem WOpen.on (h:WOpen w lo hi d v1 v2 v3 K1 K2 K3) (hhi:hi≤w.heap.size) (hlo:lo≤w.heap.size) {o':Nat×(Nat→Int)} {v':Value} {K':List Nat} (ht:Turn zak w K2 w' o' [v'] K'):WOpen w' lo w'.heap.size { d with on:=o' } v1 v' v3 K1 K' K3:=by
 have hN:∀ b,b∈K1++(K2++K3)→b<w.heap.size:=fun b hb=>by have:=(h.inn b hb).2;omega
 refine ⟨Lay.own_chgL _ h.g ht.chg (fun b hb=>h.ap12 hb),ht.own,Lay.own_chgL _ h.t ht.chg (fun b hb hb2=>h.ap23 hb2 hb),zhX h.nd hN ht.nd ht.sub,fun b hb=>?_,h.k0,h.k4,h.k5⟩;have hz:=ht.chg.size
 rcases List.mem_append.1 hb with hb | hb
 ·have:=h.inn b (List.mem_append_left _ hb);omega
 ·rcases List.mem_append.1 hb with hb | hb
  ·rcases ht.sub b hb with hb | hb
   ·have:=h.inn b (List.mem_append_right _ (List.mem_append_left _ hb));omega
   ·omega
  ·have:=h.inn b (List.mem_append_right _ (List.mem_append_right _ hb));omega
theorem WOpen.tapes (h:WOpen w lo hi d v1 v2 v3 K1 K2 K3) (hhi:hi≤w.heap.size) (hlo:lo≤w.heap.size) {o':Nat×(Nat→TapeD)} {v':Value} {K':List Nat} (ht:Turn (zah.slice 112) w K3 w' o' [v'] K'):WOpen w' lo w'.heap.size { d with tapes:=o' } v1 v2 v' K1 K2 K':=by
 have hN:∀ b,b∈(K1++K2)++(K3++[])→b<w.heap.size:=fun b hb=>by have:=(h.inn b (by simpa using hb)).2;omega
 have hnd:((K1++K2)++(K3++[])).Nodup:=by simpa using h.nd
 have n2:=zhX hnd hN ht.nd ht.sub;refine ⟨Lay.own_chgL _ h.g ht.chg (fun b hb=>h.ap13 hb),Lay.own_chgL _ h.o ht.chg (fun b hb=>h.ap23 hb),ht.own,by simpa using n2,fun b hb=>?_,h.k0,h.k4,h.k5⟩;have hz:=ht.chg.size
 rcases List.mem_append.1 hb with hb | hb
 ·have:=h.inn b (List.mem_append_left _ hb);omega
 ·rcases List.mem_append.1 hb with hb | hb
  ·have:=h.inn b (List.mem_append_right _ (List.mem_append_left _ hb));omega
  ·rcases ht.sub b hb with hb | hb
   ·have:=h.inn b (List.mem_append_right _ (List.mem_append_right _ hb));omega
   ·omega
theorem WOpen.below (h:WOpen w lo hi d v1 v2 v3 K1 K2 K3) {B:Nat} (hb:Below B w w') (hB:hi≤B):WOpen w' lo hi d v1 v2 v3 K1 K2 K3:=
 ⟨Lay.own_kept _ h.g (fun b hb'=>hb.block b (by have:=h.inn b (List.mem_append_left _ hb');omega)),Lay.own_kept _ h.o (fun b hb'=>hb.block b (by have:=h.inn b (List.mem_append_right _ (List.mem_append_left _ hb'));omega)),Lay.own_kept _ h.t (fun b hb'=>hb.block b (by have:=h.inn b (List.mem_append_right _ (List.mem_append_right _ hb'));omega)),h.nd,h.inn,h.k0,h.k4,h.k5⟩
end
theorem zfW {α:Type} {E:Lay α} {T e:TypeId} {by_:Nat} {zs:List Value} (I:ElInfo E T e by_ zs) (ty:TypeId) {w0 W:World} {n:Nat} {v:Value} {x:Nat→α} {L:List Nat} (h:(E.slice e).own w0 (n,x) [v] L) (nd:L.Nodup) (hW:Below w0.heap.size w0 W) {d:α} {cs:List Value} {La:List Nat} (ha:E.own W d cs La) (hnd:La.Nodup) (hLa:∀ b,b∈La→w0.heap.size≤b) (b c:Nat) (hcell:∀ j,j<E.sz→W.cell? ⟨b,j,none⟩=cs[j]?) (hn:n≤10000000) :
 ∃ v' w' L',(Builtin.append_ #[T,T] ty #[v,.slice (some ⟨b,0,none⟩) 1 c]).run Tryz.prog W=.ok v' w'∧Turn (E.slice e) w0 L w' (n+1,upd x n d) [v'] L':=by
 obtain ⟨hs,hzs,hu,hi,few⟩:=I
 obtain ⟨i0,hi0⟩:∃ i0,Tryz.prog.info? e=some i0:=by
  cases h:Tryz.prog.info? e with
  | none=>rw [h] at hi;cases hi
  | some i0=>exact ⟨i0,rfl⟩
 rw [hi0] at hi
 simp only [Option.map_some,Option.some.injEq,Prod.mk.injEq] at hi
 obtain ⟨h1,h2,h3⟩:=hi
 obtain ⟨z,hz,hzc⟩:∃ z,i0.zero=some z∧z.cells=zs.toArray:=by
  cases h:i0.zero with
  | none=>rw [h] at h1;cases h1
  | some z=>rw [h] at h1;exact ⟨z,rfl,by simpa using h1⟩
 have hlt:=Lay.own_lt _ h;obtain ⟨_,ce,Ls,ev,rfl,hrow,heach⟩:=h
 cases ev
 have hG1:SlG E e w0 0 v n x ce Ls:=⟨hrow,heach,nd,fun _ _=>Nat.zero_le _⟩;have hG2:SlG E e W 0 v n x ce Ls:=hG1.below hW;have hcs:=E.own_len ha
 obtain ⟨v',w',hr,r1,r2,r3,r4⟩:=run_append_own_at (P:=Tryz.prog) W 0 T ty e i0 z E.sz by_ hu hi0 hz h2 h3 (by rw [hzc];simpa using hzs) hs v n (catN n ce) hG2.row ⟨b,0,none⟩ 1 c cs (by rw [hcs,Nat.one_mul])
  (fun j u hj=>by
   have hlt:j<cs.length:=(List.getElem?_eq_some_iff.1 hj).1;have:=hcell j (by omega);rw [hj] at this;rw [zni]
   exact this) (E.own_one ha) (by unfold maxLen;omega) (by
    have:(n+1)*by_≤10000001*1000:=Nat.mul_le_mul (by omega) few
    omega) (Nat.zero_le _)
 have hG3:=hG2.grown ha hnd (fun k hk=>⟨Nat.zero_le _,fun hh=>by have:=hlt k hh;have:=hLa k hk;omega⟩) r1 r2 r4;have hz':=hW.size;refine ⟨v',w',v'.ownBlock.toList++catN (n+1) (upd Ls n La),hr,⟨v',_,_,rfl,rfl,hG3.row,hG3.each⟩,hG3.nd,fun k hk=>?_,?_⟩
 ·have hkl:k<w'.heap.size:=Lay.own_lt (E.slice e) (⟨v',_,_,rfl,rfl,hG3.row,hG3.each⟩:(E.slice e).own w' (n+1,upd x n d) [v'] _) k hk
  rcases List.mem_append.1 hk with hk | hk
  ·have hk':v'.ownBlock=some k:=by simpa using hk
   rcases r4 with r4 | r4
   ·exact .inl (List.mem_append_left _ (by rw [← r4];exact hk))
   ·rw [r4] at hk'
    cases hk'
    exact .inr ⟨hz',hkl⟩
  ·obtain ⟨i,hi,hki⟩:=zaL.1 hk
   by_cases c:i=n
   ·subst c
    rw [zaY] at hki;exact .inr ⟨hLa k hki,hkl⟩
   ·rw [za5 Ls La c] at hki
    exact .inl (List.mem_append_right _ (zaL.2 ⟨i,by omega,hki⟩))
 ·exact ⟨r2.os.trans hW.os,r2.tape.trans hW.tape,r2.output.trans hW.output,Nat.le_trans hW.size r2.size,fun k hk hn'=>(r2.block k (by omega) (fun he=>hn' (List.mem_append_left _ (by rw [← he];simp)))).trans (hW.block k hk)⟩
theorem zm7 {w:World} {hi:Nat} {d:WorldD} {c0 c1 c2 c3 c4 c5 c6 c7 c8 c9 c10 c11 c12 c13:Value} {b:Bool} (h:zad.rd w hi d [c0,c1,c2,c3,c4,c5,c6,c7,c8,c9,c10,c11,c12,c13,.bool b]):b=d.down:=by
 obtain ⟨p1,pc1,p2,pc2,p3,pc3,e,-⟩:=zaM h
 simp only [List.cons.injEq,Value.bool.injEq,and_true] at e
 exact e.2.2.2.2.2.2.2.2.2.2.2.2.2.2
end Go.Proofs.YtclclojenogpbaaGreat
namespace Go.Proofs.YtclclojenogpbaaGreat
open Go.RowKit
theorem zeJ (w:World):(callFunc 282 #[]).run Tryz.prog w=.ok (.value (.tuple #[])) w:=run_call_mark0 Tryz.func282 (by kernel_rfl) (by kernel_rfl) (by kernel_rfl) .disable (by kernel_rfl) w
theorem zfE (w:World):(callFunc 284 #[]).run Tryz.prog w=.ok (.value (.tuple #[])) w:=run_call_mark0 Tryz.func284 (by kernel_rfl) (by kernel_rfl) (by kernel_rfl) .enable (by kernel_rfl) w
theorem zhY (a:Addr) (w:World):(callFunc 285 #[.pointer (some a)]).run Tryz.prog w=.ok (.value (.tuple #[])) w:=run_call_marked Tryz.func285 (by kernel_rfl) (by kernel_rfl) (by kernel_rfl) .acquire (by kernel_rfl) a w
theorem zhZ (a:Addr) (w:World):(callFunc 287 #[.pointer (some a)]).run Tryz.prog w=.ok (.value (.tuple #[])) w:=run_call_marked Tryz.func287 (by kernel_rfl) (by kernel_rfl) (by kernel_rfl) .releaseMerge (by kernel_rfl) a w
set_option maxRecDepth 100000 in
theorem zeU (a:Addr) (w:World) (hc:w.cell? a=some (.int .i32 0)) (hz:w.frozen? a=false) :
 Calls Tryz.prog 240 #[.pointer (some a)] w fun e w'=>e=.returned (.tuple #[])∧w'=w.setCell a (.int .i32 1):=by
 have hd:=zeJ;have he:=zfE;have ha:=zhY;have hcas:=run_call_cas_hit (P:=Tryz.prog) Tryz.func283 (by kernel_rfl) (by kernel_rfl) (by kernel_rfl) .i32 (by kernel_rfl) (y:=1) hc hz;have hc':(w.setCell a (.int .i32 1)).cell? a=some (.int .i32 1):=World.cell?_setCell_same w a _ hc;have hcv:=run_convert_to_unsafe (P:=Tryz.prog) (src:=306) (dst:=310) Tryz.underlying306 Tryz.underlying310 (by kernel_rfl) hc'
 go_enter Tryz.func240,Tryz.ntmps240
 go_wp2
 first | go_end0 | (simp only [Exit.inBlock,Exit.then];refine bodyPost_ret (results_none rfl _ _ _) rfl ?_) | refine bodyPost_ret (results_none rfl _ _ _) rfl ?_
 go_wp2
 go_end0
 exact ⟨rfl,rfl⟩
set_option maxRecDepth 100000 in
theorem zc2 (a:Addr) (u:FrameMode) (w:World) (hc:w.cell? a=some (.int .i32 1)) (hz:w.frozen? a=false) :
 CallsD Tryz.prog 241 #[.pointer (some a)] u w fun e u' w'=>u'=u∧(e=.returned (.tuple #[])∧w'=w.setCell a (.int .i32 0)):=by
 have hd:=zeJ;have he:=zfE;have hr:=zhZ;have hadd:=run_call_add (P:=Tryz.prog) Tryz.func288 (by kernel_rfl) (by kernel_rfl) (by kernel_rfl) .i32 (by kernel_rfl) (y:=-1) (s:=0) hc hz (by simp [go_sem];rfl);have hcv:=run_convert_to_unsafe (P:=Tryz.prog) (src:=306) (dst:=310) Tryz.underlying306 Tryz.underlying310 (by kernel_rfl) hc
 go_enter_d Tryz.func241,Tryz.ntmps241
 go_wp2
 go_end0
 go_wp2
 go_end0
 exact ⟨rfl,rfl⟩
set_option maxRecDepth 100000 in
theorem zku (a:Addr) (x:Value) (u:FrameMode) (w:World) (hc:w.cell? a=some x) (hz:w.frozen? a=false) :
 CallsD Tryz.prog 291 #[.pointer (some a),.bool true] u w fun e u' w'=>u'=u∧(e=.returned (.tuple #[])∧w'=w.drew.setCell a (.int .u32 1)):=by
 have hc':w.drew.cell? a=some x:=by go_simp
 have hz':w.drew.frozen? a=false:=by go_simp
 have hst:=run_call_store (P:=Tryz.prog) Tryz.func310 (by kernel_rfl) (by kernel_rfl) (by kernel_rfl) (by kernel_rfl) (k:=.u32) (y:=1) hc' hz'
 go_enter_d Tryz.func291,Tryz.ntmps291
 go_wp2
 go_region_calls
 all_goals (go_end0;exact ⟨rfl,rfl⟩)
end Go.Proofs.YtclclojenogpbaaGreat
namespace Go.Proofs.YtclclojenogpbaaGreat
open Go.RowKit F256
structure EncO (w:World) (E:Nat) (d:WorldD) (cs:List Value) (K:List Nat):Prop where
 own:zad.own w d cs K
 nd:K.Nodup
 ne:E∉K
theorem zbQ {w:World} {d:WorldD} {cs:List Value} {K:List Nat} (h:zad.own w d cs K):∃ v0 v1 v2 v3 v4 v5 v6 v7 v8 vp0 vl0 vq0 vp1 vl1 vq1 vp2 vl2 vq2 v9 v10 vb,cs=[.int .i64 v0,.int .i64 v1,.int .i64 v2,.int .i64 v3,.int .i64 v4,.int .i64 v5,.int .i64 v6,.int .i64 v7,.int .i64 v8,.slice vp0 vl0 vq0,.slice vp1 vl1 vq1,.slice vp2 vl2 vq2,.int .i64 v9,.int .i64 v10,.bool vb]:=by
 obtain ⟨p1,pc1,p2,pc2,p3,pc3,K1,K2,K3,rfl,-⟩:=zb1 h;exact ⟨_,_,_,_,_,_,_,_,_,_,_,_,_,_,_,_,_,_,_,_,_,rfl⟩
theorem EncO.T {w:World} {E:Nat} {d:WorldD} {cs:List Value} {K:List Nat} (h:EncO w E d cs K):OwnT zad w 0 w.heap.size d cs:=⟨K,h.own,h.nd,fun b hb=>⟨Nat.zero_le _,zad.own_lt h.own b hb⟩⟩
theorem zjB {w:World} {d:WorldD} {c0 c1 c2 c3 c4 c5 c6 c7 c8 c9 c10 c11 c12 c13 c14:Value} {K:List Nat} (h:zad.own w d [c0,c1,c2,c3,c4,c5,c6,c7,c8,c9,c10,c11,c12,c13,c14] K) (nd:K.Nodup):∃ K',zad.own w (cutW d) [c0,c1,c2,c3,c4,c5,c6,c7,c8,c9,.slice none 0 0,c11,c12,c13,.bool true] K'∧K'.Nodup∧∀ b,b∈K'→b∈K:=by
 obtain ⟨a1,b1,a2,b2,a3,b3,K1,K2,K3,e,hM,o1,o2,o3,k0,k4,k5⟩:=zb1 h
 simp only [List.cons.injEq,and_true] at e
 obtain ⟨rfl,rfl,rfl,rfl,rfl,rfl,rfl,rfl,rfl,rfl,rfl,rfl,rfl,rfl,rfl⟩:=e;subst hM;refine ⟨K1++([]++(K3++[])),zd0 (cutW d) o1 (zf5 w _ (fun _=>show (-9223372036854775808≤(0:Int)∧(0:Int)≤9223372036854775807) by decide)) o3 k0 k4 k5,?_,fun b hb=>?_⟩
 ·obtain ⟨n1,n2,n3⟩:=List.nodup_append.1 nd
  obtain ⟨_,n4,_⟩:=List.nodup_append.1 n2;exact List.nodup_append.2 ⟨n1,n4,fun b hb c hc=>n3 b hb c (List.mem_append_right _ hc)⟩
 ·rcases List.mem_append.1 hb with h | h
  ·exact List.mem_append_left _ h
  ·exact List.mem_append_right _ (List.mem_append_right _ h)
set_option maxRecDepth 20000 in
theorem zef (v0 v1 v2 v3 v4 v5 v6 v7 v8 vp0 vl0 vq0 vp1 vl1 vq1 vp2 vl2 vq2 v9 v10 vb:_) (w:World) (h1:∀ x,x∈([.int .i64 v0,.int .i64 v1,.int .i64 v2,.int .i64 v3,.int .i64 v4,.int .i64 v5,.int .i64 v6,.int .i64 v7,.int .i64 v8,.slice vp0 vl0 vq0,.slice none 0 0,.slice vp2 vl2 vq2,.int .i64 v9,.int .i64 v10,.bool true]:List Value)→x.oneCell'=true) :
 Calls Tryz.prog 244 #[.agg #[.int .i64 v0,.int .i64 v1,.int .i64 v2,.int .i64 v3,.int .i64 v4,.int .i64 v5,.int .i64 v6,.int .i64 v7,.int .i64 v8,.slice vp0 vl0 vq0,.slice vp1 vl1 vq1,.slice vp2 vl2 vq2,.int .i64 v9,.int .i64 v10,.bool vb]] w fun e w'=>e=.returned (.agg #[.int .i64 v0,.int .i64 v1,.int .i64 v2,.int .i64 v3,.int .i64 v4,.int .i64 v5,.int .i64 v6,.int .i64 v7,.int .i64 v8,.slice vp0 vl0 vq0,.slice none 0 0,.slice vp2 vl2 vq2,.int .i64 v9,.int .i64 v10,.bool true])∧Below w.heap.size w w':=by
 have T0:=zax w (rwV v0 v1 v2 v3 v4 v5 v6 v7 v8 vp0 vl0 vq0 vp1 vl1 vq1 vp2 vl2 vq2 v9 v10 vb).toArray (rwV 0 0 0 0 0 0 0 0 0 none 0 0 none 0 0 none 0 0 0 0 false).toArray 38 38
 go_enter Tryz.func244,Tryz.ntmps244
 go_upto_region 1 with fail
 obtain ⟨W,hW⟩:∃ x,x=(w.alloc (.cells (rwV v0 v1 v2 v3 v4 v5 v6 v7 v8 vp0 vl0 vq0 vp1 vl1 vq1 vp2 vl2 vq2 v9 v10 vb).toArray 38)).alloc (.cells (rwV 0 0 0 0 0 0 0 0 0 none 0 0 none 0 0 none 0 0 0 0 false).toArray 38):=⟨_,rfl⟩;rw [← hW] at T0 ⊢;clear hW;have y0:W.cell? ⟨w.heap.size,14,none⟩=some (.bool vb):=T0.b1.cell 14;have yf0:W.frozen? ⟨w.heap.size,14,none⟩=false:=T0.b1.frozen 14;have X0:Box (W.setCell ⟨w.heap.size,14,none⟩ (.bool true)) w.heap.size (rwV v0 v1 v2 v3 v4 v5 v6 v7 v8 vp0 vl0 vq0 vp1 vl1 vq1 vp2 vl2 vq2 v9 v10 true).toArray 38:=T0.b1.setc 14 _;have y1:(W.setCell ⟨w.heap.size,14,none⟩ (.bool true)).cell? ⟨w.heap.size,10,none⟩=some (.slice vp1 vl1 vq1):=X0.cell 10;have yf1:(W.setCell ⟨w.heap.size,14,none⟩ (.bool true)).frozen? ⟨w.heap.size,10,none⟩=false:=X0.frozen 10;have X1:Box ((W.setCell ⟨w.heap.size,14,none⟩ (.bool true)).setCell ⟨w.heap.size,10,none⟩ (.slice none 0 0)) w.heap.size (rwV v0 v1 v2 v3 v4 v5 v6 v7 v8 vp0 vl0 vq0 none 0 0 vp2 vl2 vq2 v9 v10 true).toArray 38:=X0.setc 10 _;have CC:ChgL [w.heap.size] W ((W.setCell ⟨w.heap.size,14,none⟩ (.bool true)).setCell ⟨w.heap.size,10,none⟩ (.slice none 0 0)):=((ChgL.refl _ _).st _ 14 (.bool true) (by simp)).st _ 10 (.slice none 0 0) (by simp);have R1:=T0.b2.chgl CC (by simp);have B1:=T0.bel.trans (CC.bel (fun b hb=>by simp at hb;omega) T0.bel.size);have HH1:=hid h1;clear h1
 go_wp2_with (first | (refine zai 38 (.tmp 1) rfl rfl (w.heap.size) rfl (X1) Tryz.underlying38 zbk rfl ?_) | (refine zaF 38 _ _ rfl rfl (w.heap.size+1) rfl (cs:=(rwV v0 v1 v2 v3 v4 v5 v6 v7 v8 vp0 vl0 vq0 none 0 0 vp2 vl2 vq2 v9 v10 true)) rfl R1 zbk rfl rfl HH1.out ?_;intro w9 X9 C9 z9))
 refine zbl Tryz.results244 rfl X9 Tryz.underlying38 zbk rfl rfl ?_;exact ⟨rfl,B1.trans (C9.bel (fun b hb=>by simp at hb;omega) B1.size)⟩
set_option maxRecDepth 20000 in
theorem zms (E pe:Nat) (l o m:Int) (v0 v1 v2 v3 v4 v5 v6 v7 v8 vp0 vl0 vq0 vp1 vl1 vq1 vp2 vl2 vq2 v9 v10 vb:_) (w:World) (hp:w.cell? ⟨pe,0,none⟩=some (.pointer (some ⟨E,0,none⟩))) (hpe:pe<w.heap.size) (hX:Box w E #[.int .i32 l,.int .u32 0,.int .u32 o,.int .i32 m,.int .u32 0,.int .i64 v0,.int .i64 v1,.int .i64 v2,.int .i64 v3,.int .i64 v4,.int .i64 v5,.int .i64 v6,.int .i64 v7,.int .i64 v8,.slice vp0 vl0 vq0,.slice vp1 vl1 vq1,.slice vp2 vl2 vq2,.int .i64 v9,.int .i64 v10,.bool vb] 149) (h1:∀ x,x∈([.int .i64 v0,.int .i64 v1,.int .i64 v2,.int .i64 v3,.int .i64 v4,.int .i64 v5,.int .i64 v6,.int .i64 v7,.int .i64 v8,.slice vp0 vl0 vq0,.slice none 0 0,.slice vp2 vl2 vq2,.int .i64 v9,.int .i64 v10,.bool true]:List Value)→x.oneCell'=true) :
 Calls Tryz.prog 243 #[.pointer (some ⟨pe,0,none⟩)] w fun e w'=>e=.returned (.tuple #[])∧Box w' E #[.int .i32 l,.int .u32 0,.int .u32 o,.int .i32 m,.int .u32 0,.int .i64 v0,.int .i64 v1,.int .i64 v2,.int .i64 v3,.int .i64 v4,.int .i64 v5,.int .i64 v6,.int .i64 v7,.int .i64 v8,.slice vp0 vl0 vq0,.slice none 0 0,.slice vp2 vl2 vq2,.int .i64 v9,.int .i64 v10,.bool true] 149∧ChgL [E] w w':=by
 have hE:E<w.heap.size:=hX.lt;have HX:=hid hX;have x_5:w.cell? ⟨E,5,none⟩=some (.int .i64 v0):=hX.cell 5;have x_6:w.cell? ⟨E,6,none⟩=some (.int .i64 v1):=hX.cell 6;have x_7:w.cell? ⟨E,7,none⟩=some (.int .i64 v2):=hX.cell 7;have x_8:w.cell? ⟨E,8,none⟩=some (.int .i64 v3):=hX.cell 8;have x_9:w.cell? ⟨E,9,none⟩=some (.int .i64 v4):=hX.cell 9;have x_10:w.cell? ⟨E,10,none⟩=some (.int .i64 v5):=hX.cell 10;have x_11:w.cell? ⟨E,11,none⟩=some (.int .i64 v6):=hX.cell 11;have x_12:w.cell? ⟨E,12,none⟩=some (.int .i64 v7):=hX.cell 12;have x_13:w.cell? ⟨E,13,none⟩=some (.int .i64 v8):=hX.cell 13;have x_14:w.cell? ⟨E,14,none⟩=some (.slice vp0 vl0 vq0):=hX.cell 14;have x_15:w.cell? ⟨E,15,none⟩=some (.slice vp1 vl1 vq1):=hX.cell 15;have x_16:w.cell? ⟨E,16,none⟩=some (.slice vp2 vl2 vq2):=hX.cell 16;have x_17:w.cell? ⟨E,17,none⟩=some (.int .i64 v9):=hX.cell 17;have x_18:w.cell? ⟨E,18,none⟩=some (.int .i64 v10):=hX.cell 18;have x_19:w.cell? ⟨E,19,none⟩=some (.bool vb):=hX.cell 19;have KS:∀ w',Below w.heap.size w w'→(w'.cell? ⟨pe,0,none⟩=some (.pointer (some ⟨E,0,none⟩))∧w'.cell? ⟨E,5,none⟩=some (.int .i64 v0)∧w'.cell? ⟨E,6,none⟩=some (.int .i64 v1)∧w'.cell? ⟨E,7,none⟩=some (.int .i64 v2)∧w'.cell? ⟨E,8,none⟩=some (.int .i64 v3)∧w'.cell? ⟨E,9,none⟩=some (.int .i64 v4)∧w'.cell? ⟨E,10,none⟩=some (.int .i64 v5)∧w'.cell? ⟨E,11,none⟩=some (.int .i64 v6)∧w'.cell? ⟨E,12,none⟩=some (.int .i64 v7)∧w'.cell? ⟨E,13,none⟩=some (.int .i64 v8)∧w'.cell? ⟨E,14,none⟩=some (.slice vp0 vl0 vq0)∧w'.cell? ⟨E,15,none⟩=some (.slice vp1 vl1 vq1)∧w'.cell? ⟨E,16,none⟩=some (.slice vp2 vl2 vq2)∧w'.cell? ⟨E,17,none⟩=some (.int .i64 v9)∧w'.cell? ⟨E,18,none⟩=some (.int .i64 v10)∧w'.cell? ⟨E,19,none⟩=some (.bool vb)):=fun w' hb=>⟨(hb.cell (p:=⟨pe,0,none⟩) hpe).trans hp,(hb.cell (p:=⟨E,5,none⟩) hE).trans x_5,(hb.cell (p:=⟨E,6,none⟩) hE).trans x_6,(hb.cell (p:=⟨E,7,none⟩) hE).trans x_7,(hb.cell (p:=⟨E,8,none⟩) hE).trans x_8,(hb.cell (p:=⟨E,9,none⟩) hE).trans x_9,(hb.cell (p:=⟨E,10,none⟩) hE).trans x_10,(hb.cell (p:=⟨E,11,none⟩) hE).trans x_11,(hb.cell (p:=⟨E,12,none⟩) hE).trans x_12,(hb.cell (p:=⟨E,13,none⟩) hE).trans x_13,(hb.cell (p:=⟨E,14,none⟩) hE).trans x_14,(hb.cell (p:=⟨E,15,none⟩) hE).trans x_15,(hb.cell (p:=⟨E,16,none⟩) hE).trans x_16,(hb.cell (p:=⟨E,17,none⟩) hE).trans x_17,(hb.cell (p:=⟨E,18,none⟩) hE).trans x_18,(hb.cell (p:=⟨E,19,none⟩) hE).trans x_19⟩;have CC:=zef v0 v1 v2 v3 v4 v5 v6 v7 v8 vp0 vl0 vq0 vp1 vl1 vq1 vp2 vl2 vq2 v9 v10 vb w.drew h1
 clear hX h1
 go_enter Tryz.func243,Tryz.ntmps243
 go_upto_region 0 with fail
 refine zbz 8 (fun w'=>w'.cell? ⟨pe,0,none⟩=some (.pointer (some ⟨E,0,none⟩))∧w'.cell? ⟨E,5,none⟩=some (.int .i64 v0)∧w'.cell? ⟨E,6,none⟩=some (.int .i64 v1)∧w'.cell? ⟨E,7,none⟩=some (.int .i64 v2)∧w'.cell? ⟨E,8,none⟩=some (.int .i64 v3)∧w'.cell? ⟨E,9,none⟩=some (.int .i64 v4)∧w'.cell? ⟨E,10,none⟩=some (.int .i64 v5)∧w'.cell? ⟨E,11,none⟩=some (.int .i64 v6)∧w'.cell? ⟨E,12,none⟩=some (.int .i64 v7)∧w'.cell? ⟨E,13,none⟩=some (.int .i64 v8)∧w'.cell? ⟨E,14,none⟩=some (.slice vp0 vl0 vq0)∧w'.cell? ⟨E,15,none⟩=some (.slice vp1 vl1 vq1)∧w'.cell? ⟨E,16,none⟩=some (.slice vp2 vl2 vq2)∧w'.cell? ⟨E,17,none⟩=some (.int .i64 v9)∧w'.cell? ⟨E,18,none⟩=some (.int .i64 v10)∧w'.cell? ⟨E,19,none⟩=some (.bool vb)) (by kernel_rfl) (KS _ ⟨rfl,rfl,rfl,Nat.le_refl _,fun _ _=>rfl⟩) (fun hHeld=>?_);refine wpAnyL_tv 0 rfl ?_
 try simp only [Act.put,SL]
 refine wpAnyL_tv 1 rfl ?_
 try simp only [Act.put,SL]
 refine wpAnyL_tv 2 rfl ?_
 try simp only [Act.put,SL]
 refine wpAnyL_tv 3 rfl ?_
 try simp only [Act.put,SL]
 refine wpAnyL_tv 4 rfl ?_
 try simp only [Act.put,SL]
 refine zav (i:=5) (o:=_) rfl (by kernel_rfl) (fun KC hKC=>?_)
 refine za9 rfl 244 _ _ rfl #[.agg (rwV v0 v1 v2 v3 v4 v5 v6 v7 v8 vp0 vl0 vq0 vp1 vl1 vq1 vp2 vl2 vq2 v9 v10 vb).toArray] ?_ Tryz.func244 (by kernel_rfl) (by kernel_rfl) CC ?_;(simp [Act.eval,Act.put]);rintro ee w5 ⟨rfl,b5'⟩;have b5w:Below w.heap.size w w5:=⟨b5'.os,b5'.tape,b5'.output,b5'.size,b5'.block⟩;have X5:=HX.out.below b5w hE;have z_5:w5.cell? ⟨E,5,none⟩=some (.int .i64 v0):=X5.cell 5;have zf_5:w5.frozen? ⟨E,5,none⟩=false:=X5.frozen 5;have z_6:w5.cell? ⟨E,6,none⟩=some (.int .i64 v1):=X5.cell 6;have zf_6:w5.frozen? ⟨E,6,none⟩=false:=X5.frozen 6;have z_7:w5.cell? ⟨E,7,none⟩=some (.int .i64 v2):=X5.cell 7;have zf_7:w5.frozen? ⟨E,7,none⟩=false:=X5.frozen 7;have z_8:w5.cell? ⟨E,8,none⟩=some (.int .i64 v3):=X5.cell 8;have zf_8:w5.frozen? ⟨E,8,none⟩=false:=X5.frozen 8;have z_9:w5.cell? ⟨E,9,none⟩=some (.int .i64 v4):=X5.cell 9;have zf_9:w5.frozen? ⟨E,9,none⟩=false:=X5.frozen 9;have z_10:w5.cell? ⟨E,10,none⟩=some (.int .i64 v5):=X5.cell 10;have zf_10:w5.frozen? ⟨E,10,none⟩=false:=X5.frozen 10;have z_11:w5.cell? ⟨E,11,none⟩=some (.int .i64 v6):=X5.cell 11;have zf_11:w5.frozen? ⟨E,11,none⟩=false:=X5.frozen 11;have z_12:w5.cell? ⟨E,12,none⟩=some (.int .i64 v7):=X5.cell 12;have zf_12:w5.frozen? ⟨E,12,none⟩=false:=X5.frozen 12;have z_13:w5.cell? ⟨E,13,none⟩=some (.int .i64 v8):=X5.cell 13;have zf_13:w5.frozen? ⟨E,13,none⟩=false:=X5.frozen 13;have z_14:w5.cell? ⟨E,14,none⟩=some (.slice vp0 vl0 vq0):=X5.cell 14;have zf_14:w5.frozen? ⟨E,14,none⟩=false:=X5.frozen 14;have z_15:w5.cell? ⟨E,15,none⟩=some (.slice vp1 vl1 vq1):=X5.cell 15;have zf_15:w5.frozen? ⟨E,15,none⟩=false:=X5.frozen 15;have z_16:w5.cell? ⟨E,16,none⟩=some (.slice vp2 vl2 vq2):=X5.cell 16;have zf_16:w5.frozen? ⟨E,16,none⟩=false:=X5.frozen 16;have z_17:w5.cell? ⟨E,17,none⟩=some (.int .i64 v9):=X5.cell 17;have zf_17:w5.frozen? ⟨E,17,none⟩=false:=X5.frozen 17;have z_18:w5.cell? ⟨E,18,none⟩=some (.int .i64 v10):=X5.cell 18;have zf_18:w5.frozen? ⟨E,18,none⟩=false:=X5.frozen 18;have z_19:w5.cell? ⟨E,19,none⟩=some (.bool vb):=X5.cell 19;have zf_19:w5.frozen? ⟨E,19,none⟩=false:=X5.frozen 19;refine ⟨_,rfl,?_⟩
 refine hKC.out _ _ (KS _ b5w) (fun hHeld=>?_);clear hKC KC
 try simp only [Act.put,SL]
 refine wpAnyL_tv 6 rfl ?_
 try simp only [Act.put,SL]
 refine wpAnyL_tv 7 rfl ?_
 try simp only [Act.put,SL]
 refine zbx (o:=_) rfl (by kernel_rfl) (fun KC hKC=>?_);go_simp;refine hKC.out _ _ ?_;clear hKC KC
 try simp only [Act.put,SL]
 refine zby (by kernel_rfl) ?_ _;have X6:Box (stN w5 E 5 (rwV v0 v1 v2 v3 v4 v5 v6 v7 v8 vp0 vl0 vq0 none 0 0 vp2 vl2 vq2 v9 v10 true)) E #[.int .i32 l,.int .u32 0,.int .u32 o,.int .i32 m,.int .u32 0,.int .i64 v0,.int .i64 v1,.int .i64 v2,.int .i64 v3,.int .i64 v4,.int .i64 v5,.int .i64 v6,.int .i64 v7,.int .i64 v8,.slice vp0 vl0 vq0,.slice none 0 0,.slice vp2 vl2 vq2,.int .i64 v9,.int .i64 v10,.bool true] 149:=X5.stL (rwV v0 v1 v2 v3 v4 v5 v6 v7 v8 vp0 vl0 vq0 none 0 0 vp2 vl2 vq2 v9 v10 true) 5;have C6:ChgL [E] w (stN w5 E 5 (rwV v0 v1 v2 v3 v4 v5 v6 v7 v8 vp0 vl0 vq0 none 0 0 vp2 vl2 vq2 v9 v10 true)):=(ChgL.of_below b5w).trans ⟨(zbp E _ w5 5).1,(zbp E _ w5 5).2.1,(zbp E _ w5 5).2.2,Nat.le_of_eq (zbP E _ w5 5).symm,fun b _ hb=>zbX E b (fun hh=>hb (by simp [hh])) _ w5 5⟩;go_wp2
 go_end0
 exact ⟨rfl,X6,C6⟩
theorem Box.drew {w:World} {b:Nat} {cs:Array Value} {t:TypeId} (h:Box w b cs t):Box w.drew b cs t:=h
theorem ChgL.drew {K:List Nat} {w w':World} (h:ChgL K w w'):ChgL K w w'.drew:=⟨h.os,h.tape,h.output,h.size,h.block⟩
set_option maxRecDepth 100000 in
theorem zlC (E pe:Nat) (l:Int) (v0 v1 v2 v3 v4 v5 v6 v7 v8 vp0 vl0 vq0 vp1 vl1 vq1 vp2 vl2 vq2 v9 v10 vb:_) (w:World) (hp:w.cell? ⟨pe,0,none⟩=some (.pointer (some ⟨E,0,none⟩))) (hpe:pe<w.heap.size) (hne:pe≠E) (hX:Box w E #[.int .i32 l,.int .u32 0,.int .u32 0,.int .i32 0,.int .u32 0,.int .i64 v0,.int .i64 v1,.int .i64 v2,.int .i64 v3,.int .i64 v4,.int .i64 v5,.int .i64 v6,.int .i64 v7,.int .i64 v8,.slice vp0 vl0 vq0,.slice vp1 vl1 vq1,.slice vp2 vl2 vq2,.int .i64 v9,.int .i64 v10,.bool vb] 149) (h1:∀ x,x∈([.int .i64 v0,.int .i64 v1,.int .i64 v2,.int .i64 v3,.int .i64 v4,.int .i64 v5,.int .i64 v6,.int .i64 v7,.int .i64 v8,.slice vp0 vl0 vq0,.slice none 0 0,.slice vp2 vl2 vq2,.int .i64 v9,.int .i64 v10,.bool true]:List Value)→x.oneCell'=true) :
 Calls Tryz.prog 264 #[.pointer (some ⟨E,2,none⟩),.func (.func 243) #[] #[.pointer (some ⟨pe,0,none⟩)]] w fun e w'=>e=.returned (.tuple #[])∧Box w' E #[.int .i32 l,.int .u32 0,.int .u32 1,.int .i32 0,.int .u32 0,.int .i64 v0,.int .i64 v1,.int .i64 v2,.int .i64 v3,.int .i64 v4,.int .i64 v5,.int .i64 v6,.int .i64 v7,.int .i64 v8,.slice vp0 vl0 vq0,.slice none 0 0,.slice vp2 vl2 vq2,.int .i64 v9,.int .i64 v10,.bool true] 149∧ChgL [E] w w':=by
 have X1:Box (w.setCell ⟨E,3,none⟩ (.int .i32 1)) E #[.int .i32 l,.int .u32 0,.int .u32 0,.int .i32 1,.int .u32 0,.int .i64 v0,.int .i64 v1,.int .i64 v2,.int .i64 v3,.int .i64 v4,.int .i64 v5,.int .i64 v6,.int .i64 v7,.int .i64 v8,.slice vp0 vl0 vq0,.slice vp1 vl1 vq1,.slice vp2 vl2 vq2,.int .i64 v9,.int .i64 v10,.bool vb] 149:=hX.setc 3 _;have c3:w.cell? ⟨E,3,none⟩=some (.int .i32 0):=hX.cell 3;have f3:w.frozen? ⟨E,3,none⟩=false:=hX.frozen 3;have c2:(w.setCell ⟨E,3,none⟩ (.int .i32 1)).cell? ⟨E,2,none⟩=some (.int .u32 0):=X1.cell 2;have C1:ChgL [E] w (w.setCell ⟨E,3,none⟩ (.int .i32 1)):=(ChgL.refl _ _).st _ 3 _ (by simp);have hl:=run_call_load (P:=Tryz.prog) Tryz.func290 (by kernel_rfl) (by kernel_rfl) (by kernel_rfl) .u32 (by kernel_rfl) c2;have hnot:∀ (x:Bool) (w:World),(Op.unary .not (.bool x)).run Tryz.prog w=.ok (.bool (!x)) w:=fun _ _=>rfl;have hp1:(w.setCell ⟨E,3,none⟩ (.int .i32 1)).cell? ⟨pe,0,none⟩=some (.pointer (some ⟨E,0,none⟩)):=(World.cell?_of_block (C1.block pe hpe (by simpa using hne))).trans hp;have CF:=zms E pe l 0 1 v0 v1 v2 v3 v4 v5 v6 v7 v8 vp0 vl0 vq0 vp1 vl1 vq1 vp2 vl2 vq2 v9 v10 vb _ hp1 (by simpa using hpe) X1 h1;have HC1:=hid C1;have HCF:=CF;clear C1 X1 hX h1 hp hp1 CF
 go_enter_defers Tryz.func264,Tryz.ntmps264
 go_wp2_with (first | (go_at_call 240;refine (zeU ⟨E,3,none⟩ _ c3 f3).mono ?_;rintro e w' ⟨rfl,rfl⟩) | (go_at_call 243;refine HCF.mono ?_;rintro e w5 ⟨rfl,X5,C5⟩) | (go_at_call 263;go_in))
 refine leaves_cons (f:=291) (args:=#[.pointer (some ⟨E,2,none⟩),.bool true]) (by simp) (by simp [go_sem]) ?_;refine (zku ⟨E,2,none⟩ (.int .u32 0) .returning _ (X5.cell 2) (X5.frozen 2)).mono ?_;rintro e u' w'' ⟨rfl,rfl,rfl⟩;have X6:Box (w5.drew.setCell ⟨E,2,none⟩ (.int .u32 1)) E #[.int .i32 l,.int .u32 0,.int .u32 1,.int .i32 1,.int .u32 0,.int .i64 v0,.int .i64 v1,.int .i64 v2,.int .i64 v3,.int .i64 v4,.int .i64 v5,.int .i64 v6,.int .i64 v7,.int .i64 v8,.slice vp0 vl0 vq0,.slice none 0 0,.slice vp2 vl2 vq2,.int .i64 v9,.int .i64 v10,.bool true] 149:=X5.drew.setc 2 _;refine leaves_cons (f:=241) (args:=#[.pointer (some ⟨E,3,none⟩)]) (by simp [settle]) (by simp [go_sem]) ?_;refine (zc2 ⟨E,3,none⟩ _ _ (X6.cell 3) (X6.frozen 3)).mono ?_;rintro e u' w'' ⟨rfl,rfl,rfl⟩;have X7:Box ((w5.drew.setCell ⟨E,2,none⟩ (.int .u32 1)).setCell ⟨E,3,none⟩ (.int .i32 0)) E #[.int .i32 l,.int .u32 0,.int .u32 1,.int .i32 0,.int .u32 0,.int .i64 v0,.int .i64 v1,.int .i64 v2,.int .i64 v3,.int .i64 v4,.int .i64 v5,.int .i64 v6,.int .i64 v7,.int .i64 v8,.slice vp0 vl0 vq0,.slice none 0 0,.slice vp2 vl2 vq2,.int .i64 v9,.int .i64 v10,.bool true] 149:=X6.setc 3 _;have C7:ChgL [E] w ((w5.drew.setCell ⟨E,2,none⟩ (.int .u32 1)).setCell ⟨E,3,none⟩ (.int .i32 0)):=(((HC1.out.trans C5).drew.st _ 2 _ (by simp)).st _ 3 _ (by simp))
 simp only [Leaves,settle]
 exact ⟨_,results_none rfl _ _ _,rfl,X7,C7⟩
set_option maxRecDepth 100000 in
theorem zlD (E pe:Nat) (l:Int) (v0 v1 v2 v3 v4 v5 v6 v7 v8 vp0 vl0 vq0 vp1 vl1 vq1 vp2 vl2 vq2 v9 v10 vb:_) (w:World) (hp:w.cell? ⟨pe,0,none⟩=some (.pointer (some ⟨E,0,none⟩))) (hpe:pe<w.heap.size) (hne:pe≠E) (hX:Box w E #[.int .i32 l,.int .u32 0,.int .u32 0,.int .i32 0,.int .u32 0,.int .i64 v0,.int .i64 v1,.int .i64 v2,.int .i64 v3,.int .i64 v4,.int .i64 v5,.int .i64 v6,.int .i64 v7,.int .i64 v8,.slice vp0 vl0 vq0,.slice vp1 vl1 vq1,.slice vp2 vl2 vq2,.int .i64 v9,.int .i64 v10,.bool vb] 149) (h1:∀ x,x∈([.int .i64 v0,.int .i64 v1,.int .i64 v2,.int .i64 v3,.int .i64 v4,.int .i64 v5,.int .i64 v6,.int .i64 v7,.int .i64 v8,.slice vp0 vl0 vq0,.slice none 0 0,.slice vp2 vl2 vq2,.int .i64 v9,.int .i64 v10,.bool true]:List Value)→x.oneCell'=true) :
 Calls Tryz.prog 242 #[.pointer (some ⟨E,2,none⟩),.func (.func 243) #[] #[.pointer (some ⟨pe,0,none⟩)]] w fun e w'=>e=.returned (.tuple #[])∧Box w' E #[.int .i32 l,.int .u32 0,.int .u32 1,.int .i32 0,.int .u32 0,.int .i64 v0,.int .i64 v1,.int .i64 v2,.int .i64 v3,.int .i64 v4,.int .i64 v5,.int .i64 v6,.int .i64 v7,.int .i64 v8,.slice vp0 vl0 vq0,.slice none 0 0,.slice vp2 vl2 vq2,.int .i64 v9,.int .i64 v10,.bool true] 149∧ChgL [E] w w':=by
 have CS:=zlC E pe l v0 v1 v2 v3 v4 v5 v6 v7 v8 vp0 vl0 vq0 vp1 vl1 vq1 vp2 vl2 vq2 v9 v10 vb w hp hpe hne hX h1;have c2:w.cell? ⟨E,2,none⟩=some (.int .u32 0):=hX.cell 2;have hl:=run_call_load (P:=Tryz.prog) Tryz.func290 (by kernel_rfl) (by kernel_rfl) (by kernel_rfl) .u32 (by kernel_rfl) c2;have hnot:∀ (x:Bool) (w:World),(Op.unary .not (.bool x)).run Tryz.prog w=.ok (.bool (!x)) w:=fun _ _=>rfl;clear hX h1 hp
 go_enter Tryz.func242,Tryz.ntmps242
 go_wp2_with (first | (go_at_call 264;refine CS.mono ?_;rintro e w5 ⟨rfl,X5,C5⟩) | (go_at_call 263;go_in))
 go_end0
 exact ⟨rfl,X5,C5⟩
set_option maxRecDepth 100000 in
theorem zgZ (E:Nat) (v0 v1 v2 v3 v4 v5 v6 v7 v8 vp0 vl0 vq0 vp1 vl1 vq1 vp2 vl2 vq2 v9 v10 vb:_) (fv:Value) (w:World) (hX:Box w E #[.int .i32 0,.int .u32 0,.int .u32 0,.int .i32 0,.int .u32 0,.int .i64 v0,.int .i64 v1,.int .i64 v2,.int .i64 v3,.int .i64 v4,.int .i64 v5,.int .i64 v6,.int .i64 v7,.int .i64 v8,.slice vp0 vl0 vq0,.slice vp1 vl1 vq1,.slice vp2 vl2 vq2,.int .i64 v9,.int .i64 v10,.bool vb] 149) (h1:∀ x,x∈([.int .i64 v0,.int .i64 v1,.int .i64 v2,.int .i64 v3,.int .i64 v4,.int .i64 v5,.int .i64 v6,.int .i64 v7,.int .i64 v8,.slice vp0 vl0 vq0,.slice none 0 0,.slice vp2 vl2 vq2,.int .i64 v9,.int .i64 v10,.bool true]:List Value)→x.oneCell'=true) (hs:v10≠-1) (hw:v10≤v9) :
 Calls Tryz.prog 217 #[.pointer (some ⟨E,0,none⟩),fv] w fun e w'=>e=.panicked [{ v:=.iface 275 (.agg #[]),recovered:=false }]∧Box w' E #[.int .i32 0,.int .u32 0,.int .u32 1,.int .i32 0,.int .u32 0,.int .i64 v0,.int .i64 v1,.int .i64 v2,.int .i64 v3,.int .i64 v4,.int .i64 v5,.int .i64 v6,.int .i64 v7,.int .i64 v8,.slice vp0 vl0 vq0,.slice none 0 0,.slice vp2 vl2 vq2,.int .i64 v9,.int .i64 v10,.bool true] 149∧ChgL [E] w w':=by
 have d1:(v10 != -1)=true:=by simpa using hs
 have d2:decide (v10≤v9)=true:=by simpa using hw
 have H1:=hid h1;clear hs hw h1;have hE:E<w.heap.size:=hX.lt;have hmf:∀ (fn:Fn) (first cap:Array Value) (w:World),(Instr.makeFunc fn first cap).run Tryz.prog w=.ok (.func fn first cap) w:=fun _ _ _ _=>rfl;have bA:=bAl w (.cells #[.pointer (some ⟨E,0,none⟩)] 132);have P1:=zaq w #[.pointer (some ⟨E,0,none⟩)] 132;have X1:=hX.below bA hE
 go_enter_defers Tryz.func217,Tryz.ntmps217
 go_upto_region 1 with fail
 obtain ⟨W1,hW1⟩:∃ x,x=w.alloc (.cells #[.pointer (some ⟨E,0,none⟩)] 132):=⟨_,rfl⟩;rw [← hW1] at bA P1 X1 ⊢
 have zW:W1.heap.size=w.heap.size+1:=by rw [hW1];simp
 clear hW1;have hp1:W1.cell? ⟨w.heap.size,0,none⟩=some (.pointer (some ⟨E,0,none⟩)):=P1.cell 0;have c0:W1.cell? ⟨E,0,none⟩=some (.int .i32 0):=X1.cell 0;have f0:W1.frozen? ⟨E,0,none⟩=false:=X1.frozen 0;have X2:Box (W1.setCell ⟨E,0,none⟩ (.int .i32 1)) E #[.int .i32 1,.int .u32 0,.int .u32 0,.int .i32 0,.int .u32 0,.int .i64 v0,.int .i64 v1,.int .i64 v2,.int .i64 v3,.int .i64 v4,.int .i64 v5,.int .i64 v6,.int .i64 v7,.int .i64 v8,.slice vp0 vl0 vq0,.slice vp1 vl1 vq1,.slice vp2 vl2 vq2,.int .i64 v9,.int .i64 v10,.bool vb] 149:=X1.setc 0 _;have P2:Box (W1.setCell ⟨E,0,none⟩ (.int .i32 1)) w.heap.size #[.pointer (some ⟨E,0,none⟩)] 132:=P1.seto 0 _ (by omega);have C2':ChgL [E] w (W1.setCell ⟨E,0,none⟩ (.int .i32 1)):=(ChgL.of_below bA).st _ 0 _ (by simp)
 go_upto_region 2 with (go_at_call 240;refine (zeU ⟨E,0,none⟩ _ c0 f0).mono ?_;rintro e w' ⟨rfl,rfl⟩)
 obtain ⟨W2,hW2⟩:∃ x,x=W1.setCell ⟨E,0,none⟩ (.int .i32 1):=⟨_,rfl⟩;rw [← hW2] at X2 P2 C2' ⊢
 have z2:W2.heap.size=w.heap.size+1:=by rw [hW2];simpa using zW
 clear hW2 hp1 c0 f0 X1 P1 bA hX;have hp2:W2.cell? ⟨w.heap.size,0,none⟩=some (.pointer (some ⟨E,0,none⟩)):=P2.cell 0;have x17:W2.cell? ⟨E,17,none⟩=some (.int .i64 v9):=X2.cell 17;have x18:W2.cell? ⟨E,18,none⟩=some (.int .i64 v10):=X2.cell 18
 go_upto_region 3 with fail
 go_quiet (fail)
 go_upto_region 4 with fail
 obtain ⟨W3,hW3⟩:∃ x,x=W2.drewN nq:=⟨_,rfl⟩;rw [← hW3]
 have X3:Box W3 E #[.int .i32 1,.int .u32 0,.int .u32 0,.int .i32 0,.int .u32 0,.int .i64 v0,.int .i64 v1,.int .i64 v2,.int .i64 v3,.int .i64 v4,.int .i64 v5,.int .i64 v6,.int .i64 v7,.int .i64 v8,.slice vp0 vl0 vq0,.slice vp1 vl1 vq1,.slice vp2 vl2 vq2,.int .i64 v9,.int .i64 v10,.bool vb] 149:=by rw [hW3];exact X2
 have P3:Box W3 w.heap.size #[.pointer (some ⟨E,0,none⟩)] 132:=by rw [hW3];exact P2
 have C3':ChgL [E] w W3:=by rw [hW3];exact ⟨C2'.os,C2'.tape,C2'.output,C2'.size,C2'.block⟩
 have z3:W3.heap.size=w.heap.size+1:=by rw [hW3];exact z2
 have hp3:W3.cell? ⟨w.heap.size,0,none⟩=some (.pointer (some ⟨E,0,none⟩)):=P3.cell 0;clear hW3 X2 P2 C2' z2 hp2 x17 x18
 go_wp2_with (go_at_call 242;refine (zlD E w.heap.size 1 v0 v1 v2 v3 v4 v5 v6 v7 v8 vp0 vl0 vq0 vp1 vl1 vq1 vp2 vl2 vq2 v9 v10 vb _ hp3 (by omega) (by omega) X3 H1.out).mono ?_;rintro e w5 ⟨rfl,X5,C5⟩)
 refine leaves_cons (f:=241) (args:=#[.pointer (some ⟨E,0,none⟩)]) (by simp) (by simp [go_sem]) ?_;refine (zc2 ⟨E,0,none⟩ _ _ (X5.cell 0) (X5.frozen 0)).mono ?_;rintro e u' w'' ⟨rfl,rfl,rfl⟩;have X6:Box (w5.setCell ⟨E,0,none⟩ (.int .i32 0)) E #[.int .i32 0,.int .u32 0,.int .u32 1,.int .i32 0,.int .u32 0,.int .i64 v0,.int .i64 v1,.int .i64 v2,.int .i64 v3,.int .i64 v4,.int .i64 v5,.int .i64 v6,.int .i64 v7,.int .i64 v8,.slice vp0 vl0 vq0,.slice none 0 0,.slice vp2 vl2 vq2,.int .i64 v9,.int .i64 v10,.bool true] 149:=X5.setc 0 _;have C6:ChgL [E] w (w5.setCell ⟨E,0,none⟩ (.int .i32 0)):=(C3'.trans C5).st _ 0 _ (by simp)
 simp only [Leaves,settle]
 exact ⟨trivial,X6,C6⟩
theorem zdQ {w:World} {d:WorldD} {c0 c1 c2 c3 c4 c5 c6 c7 c8 c9 c10 c11 c12 c13 c14:Value} {K:List Nat} (n:Int) (hn:-9223372036854775808≤n∧n≤9223372036854775807) (h:zad.own w d [c0,c1,c2,c3,c4,c5,c6,c7,c8,c9,c10,c11,c12,c13,c14] K):zad.own w { d with writes:=n } [c0,c1,c2,c3,c4,c5,c6,c7,c8,c9,c10,c11,.int .i64 n,c13,c14] K:=by
 obtain ⟨a1,b1,a2,b2,a3,b3,K1,K2,K3,e,hM,o1,o2,o3,k0,k4,k5⟩:=zb1 h
 simp only [List.cons.injEq,and_true] at e
 obtain ⟨rfl,rfl,rfl,rfl,rfl,rfl,rfl,rfl,rfl,rfl,rfl,rfl,rfl,rfl,rfl⟩:=e;subst hM;exact zd0 { d with writes:=n } o1 o2 o3 k0 hn k5
theorem zeg {w:World} {d:WorldD} {c0 c1 c2 c3 c4 c5 c6 c7 c8 c9 c10 c11 c13 c14:Value} {n:Int} {K:List Nat} (h:zad.own w d [c0,c1,c2,c3,c4,c5,c6,c7,c8,c9,c10,c11,.int .i64 n,c13,c14] K):n=d.writes:=by
 obtain ⟨a1,b1,a2,b2,a3,b3,K1,K2,K3,e,_⟩:=zb1 h
 simp only [List.cons.injEq,Value.int.injEq,true_and,and_true] at e
 exact e.2.2.2.2.2.2.2.2.2.2.2.2.1
theorem zlE {w:World} {d:WorldD} {c0 c1 c2 c3 c4 c5 c6 c7 c8 c9 c10 c11 c12 c14:Value} {n:Int} {K:List Nat} (h:zad.own w d [c0,c1,c2,c3,c4,c5,c6,c7,c8,c9,c10,c11,c12,.int .i64 n,c14] K):n=d.stop:=by
 obtain ⟨a1,b1,a2,b2,a3,b3,K1,K2,K3,e,_⟩:=zb1 h
 simp only [List.cons.injEq,Value.int.injEq,true_and,and_true] at e
 exact e.2.2.2.2.2.2.2.2.2.2.2.2.2.1
theorem EncO.chg {w w':World} {E:Nat} {d:WorldD} {cs:List Value} {K:List Nat} (h:EncO w E d cs K) (hc:ChgL [E] w w'):EncO w' E d cs K:=⟨Lay.own_chgL _ h.own hc (fun b hb hbE=>by simp only [List.mem_singleton] at hbE;subst hbE;exact h.ne hb),h.nd,h.ne⟩
theorem Two.chgK {w wc w':World} {c1 c2:Array Value} {t1 t2:TypeId} {K:List Nat} (h:Two w wc c1 c2 t1 t2) (hc:ChgL K wc w') (hK:∀ b,b∈K→w.heap.size+1<b):Two w w' c1 c2 t1 t2:=
 ⟨h.b1.chgl hc (fun hb=>by have:=hK _ hb;omega),h.b2.chgl hc (fun hb=>by have:=hK _ hb;omega),h.bel.trans (hc.bel (fun b hb=>by have:=hK b hb;omega) h.bel.size)⟩
section
variable {α:Type} {E:Lay α} {t:TypeId} {w w':World} {g cap n:Nat} {x:Nat→α} {ce:Nat→List Value} {Ls:Nat→List Nat}
end
theorem EncO.open {w:World} {E:Nat} {d:WorldD} {cs:List Value} {K:List Nat} (h:EncO w E d cs K):∃ p1 c1 p2 c2 p3 c3 K1 K2 K3,cs=[.int .i64 (d.shape 0),.int .i64 (d.shape 1),.int .i64 (d.shape 2),.int .i64 (d.shape 3),.int .i64 (d.shape 4),.int .i64 (d.shape 5),.int .i64 (d.shape 6),.int .i64 (d.shape 7),.int .i64 (d.shape 8),.slice p1 d.groups.1 c1,.slice p2 d.on.1 c2,.slice p3 d.tapes.1 c3,.int .i64 d.writes,.int .i64 d.stop,.bool d.down]∧K=K1++(K2++K3)∧WOpen w 0 w.heap.size d (.slice p1 d.groups.1 c1) (.slice p2 d.on.1 c2) (.slice p3 d.tapes.1 c3) K1 K2 K3:=by
 obtain ⟨a1,b1,a2,b2,a3,b3,K1,K2,K3,e,hM,o1,o2,o3,k0,k4,k5⟩:=zb1 h.own;have hl:=fun b hb=>zad.own_lt h.own b hb;have nd:=h.nd;subst hM
 simp only [List.append_nil] at nd hl
 exact ⟨a1,b1,a2,b2,a3,b3,K1,K2,K3,e,by simp,o1,o2,o3,nd,fun b hb=>⟨Nat.zero_le _,hl b hb⟩,k0,k4,k5⟩
theorem WOpen.encO {w:World} {lo hi E:Nat} {d:WorldD} {p1 p2 p3:Option Addr} {c1 c2 c3:Nat} {K1 K2 K3:List Nat} (h:WOpen w lo hi d (.slice p1 d.groups.1 c1) (.slice p2 d.on.1 c2) (.slice p3 d.tapes.1 c3) K1 K2 K3) (hE:E∉K1++(K2++K3)):EncO w E d [.int .i64 (d.shape 0),.int .i64 (d.shape 1),.int .i64 (d.shape 2),.int .i64 (d.shape 3),.int .i64 (d.shape 4),.int .i64 (d.shape 5),.int .i64 (d.shape 6),.int .i64 (d.shape 7),.int .i64 (d.shape 8),.slice p1 d.groups.1 c1,.slice p2 d.on.1 c2,.slice p3 d.tapes.1 c3,.int .i64 d.writes,.int .i64 d.stop,.bool d.down] (K1++(K2++(K3++[]))):=
 ⟨zd0 d h.g h.o h.t h.k0 h.k4 h.k5,by simpa using h.nd,by simpa using hE⟩
def keptI (p:Nat→Bool) (n:Nat):List Nat:=(List.range n).filter p
section
variable {α:Type} {E:Lay α} {t:TypeId} {w w':World} {g cap n:Nat} {x:Nat→α} {ce:Nat→List Value} {Ls:Nat→List Nat}
end
end Go.Proofs.YtclclojenogpbaaGreat
