/- What RedoMove answers; groupFault and redoing of the program. -/
import Derived.Deep.RegionHeld3
import Derived.Test.YtlpbohnadenacaaGreatZPredoman
set_option linter.unusedVariables false
set_option linter.unusedSimpArgs false
set_option maxHeartbeats 16000000
namespace Go.Proofs.YtlpbohnadenacaaGreat
open Go.RowKit F256
theorem zll {s:Nat→Int} {r:RecD} (h:RecAns s r 0):zby s r:=by
 rcases h with ⟨_,h⟩ | ⟨_,h⟩
 ·cases h
 rcases h with ⟨_,h⟩ | ⟨_,h⟩
 ·cases h
 rcases h with ⟨_,h⟩ | ⟨_,h⟩
 ·cases h
 rcases h with ⟨_,h⟩ | ⟨_,h⟩
 ·cases h
 rcases h with ⟨_,h⟩ | ⟨h,_⟩
 ·cases h
 ·exact h
def zet (s:Nat→Int) (g:Int) (mv:RecD):Prop:=RecAns s mv 0∧mv.kind=2∧(g<s 0→g=mv.group)
def RmAns (d:WorldD) (g:Int) (mv:RecD) (q:WorldResultD):Prop:=(∃ x,x≠0∧WhereAns d g 0 x∧q=⟨x,zgj⟩)∨(WhereAns d g 0 0∧((¬ zet d.shape g mv∧q=⟨1,zgj⟩)∨(zet d.shape g mv∧q=(zcj d.shape g.toNat (d.groups.2 g.toNat).1 mv d).final)))
theorem RmAns.one {d:WorldD} {g:Int} {mv:RecD} {p q:WorldResultD} (h:RmAns d g mv p) (l:RmAns d g mv q):p=q:=by
 rcases h with ⟨x,h1,h2,rfl⟩ | ⟨h1,h⟩<;>rcases l with ⟨y,k1,k2,rfl⟩ | ⟨k1,l⟩
 ·rw [h2.one k2]
 ·exact absurd (h2.one k1) h1
 ·exact absurd (k2.one h1) k1
 ·rcases h with ⟨h3,rfl⟩ | ⟨h3,rfl⟩<;>rcases l with ⟨k3,rfl⟩ | ⟨k3,rfl⟩
  ·rfl
  ·exact absurd k3 h3
  ·exact absurd h3 k3
  ·rfl
theorem zei {d:WorldD} {g r:Int} (h:WhereAns d g r 0):AskAns d 0∧WhP d.shape g r:=by
 rcases h with ⟨h1,_⟩ | ⟨h1,⟨_,h2⟩ | ⟨h2,_⟩⟩
 ·exact absurd rfl h1
 ·cases h2
 ·exact ⟨h1,h2⟩
theorem zk0 {s:Nat→Int} {G:Nat} {mv:RecD} {k:Nat} {d d2:WorldD} {c:Int} (h:zao s G mv k d=.done c d2):c=0:=by
 unfold zao rawO at h
 split at h
 ·split at h
  ·cases h
  ·cases h;rfl
 ·cases h;rfl
theorem zdE {s:Nat→Int} {G:Nat} {mv:RecD}:∀ (m k:Nat) (d d2:WorldD) (c:Int),runO (zao s G mv) m k d=.done c d2→c=0
 | 0,k,d,d2,c,h=>by cases h;rfl
 | m+1,k,d,d2,c,h=>by
  have h':(zao s G mv k d).next (runO (zao s G mv) m (k+1))=.done c d2:=h
  cases e:zao s G mv k d with
  | cut x=>rw [e] at h';cases h'
  | done c1 x=>
   have:=zk0 e;subst this;rw [e] at h';exact zdE m (k+1) x d2 c h'
theorem zjV {s:Nat→Int} {G n:Nat} {mv:RecD} {d:WorldD}:-9223372036854775808≤(zcj s G n mv d).code∧(zcj s G n mv d).code≤9223372036854775807:=by
 cases e:zcj s G n mv d with
 | cut x=>exact ⟨show (-9223372036854775808:Int)≤0 by decide,show (0:Int)≤9223372036854775807 by decide⟩
 | done c x=>
  rw [zdE _ _ _ _ _ e];exact ⟨show (-9223372036854775808:Int)≤0 by decide,show (0:Int)≤9223372036854775807 by decide⟩
theorem zi8 {d:WorldD} {g:Int} {mv:RecD} (h:WhereAns d g 0 0) (hm:zet d.shape g mv):∃ G:Nat,g=(G:Int)∧MvOk d.shape (d.groups.2 G).1 G mv∧FitR d.shape (d.groups.2 G).1 G mv d∧d.writes+((d.groups.2 G).1:Int)≤9223372036854775807∧d.down=false∧mv.data.1=4*(d.shape 2).toNat∧mv.delta.1=4*(d.shape 2).toNat:=by
 obtain ⟨ha,hw⟩:=zei h;have hok:=zhx ha;have hsb:=okB hok.shape;obtain ⟨hg,-⟩:=hw;unfold InP at hg;obtain ⟨G,rfl⟩:∃ G:Nat,g=(G:Int):=⟨g.toNat,by omega⟩;have hb:=hok.form.1
 have hG:G<d.groups.1:=by have:=hb.1;omega
 have hD:=hb.2 G hG
 have hmp:zk7 d.shape mv:=by
  have hk:=hm.2.1
  rcases zll hm.1 with ⟨h1,_⟩ | ⟨_,h1⟩ | ⟨h1,_⟩ | ⟨h1,_⟩
  ·omega
  ·exact h1
  ·omega
  ·omega
 obtain ⟨m1,m2,m3,m4⟩:=hmp;have m2':=m2;unfold InP at m2';obtain ⟨hc,-⟩:=hok.count;unfold InP at hc
 have e7:mv.data.1=4*(d.shape 2).toNat:=by omega
 have e8:mv.delta.1=4*(d.shape 2).toNat:=by omega
 have hDn:=hD.1;refine ⟨G,rfl,⟨hok.shape,by omega,hDn,m2'.1,m1,fun _=>e7,fun _=>e8⟩,⟨rfl,hG,rfl,fun k hk=>?_,fun k hk=>?_,by omega⟩,by omega,zl9 ha,e7,e8⟩
 ·have:=(hD.2 k hk).1
  omega
 ·have hbl:=hD.2 k hk
  exact (hbl.2 mv.row.toNat (by have:=hbl.1;omega)).2
theorem zhA (s:Nat→Int) (hok:zar s) (r:RecD) (ao6 ao7 ao8:Option Addr) (cap6 cap7 cap8:Nat) (g:Int) (w:World) :
 Calls Tryz.prog 33 #[zak s,.agg #[.int .i64 r.kind,.int .i64 r.seq,.string r.name,.int .i64 r.length,.int .i64 r.group,.int .i64 r.row,.slice ao6 r.rows.1 cap6,.slice ao7 r.data.1 cap7,.slice ao8 r.delta.1 cap8],.int .i64 g] w (zbI (r.group=g∨¬ InP g 0 (s 0-1)) w):=by
 obtain ⟨t,ht⟩:=exB (InP g 0 (s 0-1));have CI:=zcn hok ht;have T0:=zaC w (rwS s).toArray (rwR r ao6 cap6 ao7 cap7 ao8 cap8).toArray 34 43;have Ht:=hid ht
 unfold zak at *
 clear ht hok
 by_cases hg:r.group=g
 ·have HG:=hid hg
  have hd:(r.group==g)=true:=by simp [hg]
  obtain ⟨rg,hrg⟩:∃ y,y=r.group:=⟨_,rfl⟩;clear hg;have HB:=hid T0.bel;clear T0 hrg
  go_enter Tryz.func33,Tryz.ntmps33
  go_wp2;go_ret;exact ⟨true,rfl,⟨fun _=>.inl HG.out,fun _=>rfl⟩,HB.out⟩
 ·have hd:(r.group==g)=false:=by simp [hg]
  have HG:=hid hg;clear hg
  go_enter Tryz.func33,Tryz.ntmps33
  go_wp2_with fail
  refine (CI _).mono ?_;rintro e w1 ⟨rfl,b1⟩;have HB:Hid (Below w.heap.size w w1):=(T0.call b1).bel;clear T0 b1 CI
  cases t with
  | true=>
   have HP:Hid (InP g 0 (s 0-1)):=Ht.out.1 rfl;go_wp2;go_ret;exact ⟨false,rfl,⟨(fun h=>by cases h),fun h=>h.elim (fun e=>absurd e HG.out) (fun e=>absurd HP.out e)⟩,HB.out⟩
  | false=>
   have HP:Hid (¬ InP g 0 (s 0-1)):=fun h=>by have:=Ht.out.2 h;cases this
   go_wp2;go_ret;exact ⟨true,rfl,⟨fun _=>.inr HP.out,fun _=>rfl⟩,HB.out⟩
set_option maxRecDepth 20000 in
theorem zfA (d:WorldD) (g:Int) (cs:List Value) (hi:Nat) (w:World) (h:zab.rd w hi d cs) (hhi:hi≤w.heap.size) (hsz:zaW d≤1048576) :
 Calls Tryz.prog 31 #[.agg cs.toArray,.int .i64 g] w (zlK (WhereAns d g 0) w):=by
 have h':=h;obtain ⟨ao1,cap1,ao2,cap2,ao3,cap3,rfl,g1,g2,g3,k0,k4,k5⟩:=zaK h';have HRD:=hid h;clear h h' g1 g2 g3 k0 k4 k5;have T0:=zaI w (rwW d ao1 cap1 ao2 cap2 ao3 cap3).toArray 38;have HSZ:=hid hsz;clear hsz
 go_enter Tryz.func31,Tryz.ntmps31
 go_wp2_with (refine zaj 38 (.tmp 2) rfl rfl (w.heap.size) rfl (T0.b1) Tryz.underlying38 zbd rfl ?_)
 refine (ziv d _ hi _ (zab.rd_below HRD.out T0.bel hhi) (Nat.le_trans hhi T0.bel.size) HSZ.out).mono ?_;rintro e w1 ⟨x,rfl,hx,b1⟩;have HT1:=hid (T0.call b1);have HX:=hid hx;clear b1 T0 hx
 by_cases hx0:x=0
 case neg=>
  have hne:(x != 0)=true:=by simp [hx0]
  go_wp2;go_ret;exact ⟨x,rfl,.inl ⟨hx0,HX.out⟩,HT1.out.bel⟩
 subst hx0;have HOK:=hid (zhx HX.out)
 go_wp2_with (refine zaj 38 (.tmp 2) rfl rfl (w.heap.size) rfl (HT1.out.b1) Tryz.underlying38 zbd rfl ?_)
 refine (zix d g _ hi _ (zab.rd_below HRD.out HT1.out.bel hhi) (Nat.le_trans hhi HT1.out.bel.size) HOK.out.shape).mono ?_;rintro e w3 ⟨x,rfl,hx,b3⟩;have HB:Hid (Below w.heap.size w w3):=(HT1.out.call b3).bel;have HXX:=hid hx;clear hx b3 HT1;go_wp2;go_ret;refine ⟨x,rfl,.inr ⟨HX.out,?_⟩,HB.out⟩
 have hr:InP 0 0 (d.shape 4-1):=by have:=okB HOK.out.shape;unfold InP;omega
 rcases HXX.out with ⟨h1,h2⟩ | ⟨h1,⟨h2,h3⟩ | ⟨h2,h3⟩⟩
 ·exact .inl ⟨fun h=>h1 h.1,h2⟩
 ·exact .inr ⟨⟨h1,hr⟩,.inl ⟨h2,h3⟩⟩
 ·exact .inr ⟨⟨h1,hr⟩,.inr ⟨h2,h3⟩⟩
theorem zjW (c0 c1 c2 c3 c4 c5 c6 c7 c8:Value) (g:Int) (w:World):Calls Tryz.prog 35 #[.int .i64 g,.agg #[c0,c1,c2,c3,c4,c5,c6,c7,c8]] w fun e w'=>e=.returned (.func (.func 81) #[] #[.pointer (some ⟨w.heap.size,0,none⟩),.pointer (some ⟨w.heap.size+1,0,none⟩)])∧Box w' w.heap.size #[.int .i64 g] 2∧Box w' (w.heap.size+1) #[c0,c1,c2,c3,c4,c5,c6,c7,c8] 43∧Below w.heap.size w w':=by
 have hmf:∀ (fn:Fn) (first cap:Array Value) (w:World),(Instr.makeFunc fn first cap).run Tryz.prog w=.ok (.func fn first cap) w:=fun _ _ _ _=>rfl;have T0:=zaC w #[.int .i64 g] #[c0,c1,c2,c3,c4,c5,c6,c7,c8] 2 43
 go_enter Tryz.func35,Tryz.ntmps35
 go_wp2;go_ret;exact ⟨rfl,T0.b1,T0.b2,T0.bel⟩
structure TurnF {α:Type} (F:List Nat) (A:Lay α) (w:World) (K:List Nat) (w':World) (a:α) (cs:List Value) (K':List Nat):Prop where
 own:A.own w' a cs K'
 nd:K'.Nodup
 sub:∀ b,b∈K'→b∈K∨b∈F
 chg:ChgL K w w'
section
variable {α:Type} {E:Lay α} {t:TypeId} {w w':World} {g cap n:Nat} {x:Nat→α} {ce:Nat→List Value} {Ls:Nat→List Nat} {F:List Nat}
theorem zhB {i:Nat} (hi:i<n) {K':List Nat} (nd:(g::catN n Ls).Nodup) (hN:∀ b,b∈g::catN n Ls→b∉F) (hn:K'.Nodup) (hs:∀ b,b∈K'→b∈Ls i∨b∈F):(g::catN n (upd Ls i K')).Nodup:=by
 obtain ⟨n1,n2⟩:=List.nodup_cons.1 nd
 have ne:∀ k,k<n→k≠i→∀ b,b∈Ls k→b∉K':=fun k hk hne b hb hbK=>by
  rcases hs b hbK with h | h
  ·exact zbS n2 hi hk hne hb h
  ·exact hN b (List.mem_cons_of_mem _ (zaz.2 ⟨k,hk,hb⟩)) h
 refine List.nodup_cons.2 ⟨fun hg=>?_,zfP (fun k hk=>?_) (fun k j hk hj hne b hb=>?_)⟩
 ·obtain ⟨k,hk,hb⟩:=zaz.1 hg
  by_cases c:k=i
  ·subst c
   rw [zaH] at hb
   rcases hs g hb with h | h
   ·exact n1 (zaz.2 ⟨k,hk,h⟩)
   ·exact hN g (List.mem_cons_self ..) h
  ·rw [zaN Ls K' c] at hb
   exact n1 (zaz.2 ⟨k,hk,hb⟩)
 ·by_cases c:k=i
  ·subst c;rw [zaH];exact hn
  ·rw [zaN Ls K' c];exact zcL n2 hk
 ·by_cases c:k=i
  ·subst c
   rw [zaH] at hb;rw [zaN Ls K' (fun h=>hne h.symm)];exact fun hbj=>ne j hj (fun h=>hne h.symm) b hbj hb
  ·rw [zaN Ls K' c] at hb
   by_cases c2:j=i
   ·subst c2
    rw [zaH];exact ne k hk c b hb
   ·rw [zaN Ls K' c2]
    exact zbS n2 hj hk hne hb
theorem zi9 {i:Nat} (hi:i<n) {K':List Nat} (hs:∀ b,b∈K'→b∈Ls i∨b∈F):∀ b,b∈g::catN n (upd Ls i K')→b∈g::catN n Ls∨b∈F:=fun b hb=>by
 rcases List.mem_cons.1 hb with rfl | hb
 ·exact .inl (List.mem_cons_self ..)
 ·obtain ⟨k,hk,hb⟩:=zaz.1 hb
  by_cases c:k=i
  ·subst c
   rw [zaH] at hb
   rcases hs b hb with h | h
   ·exact .inl (List.mem_cons_of_mem _ (zaz.2 ⟨k,hk,h⟩))
   ·exact .inr h
  ·rw [zaN Ls K' c] at hb
   exact .inl (List.mem_cons_of_mem _ (zaz.2 ⟨k,hk,hb⟩))
theorem SlO.turn_inF (h:SlO E t w g cap n x ce Ls) (nd:(g::catN n Ls).Nodup) (hF:∀ b,b∈g::catN n Ls→b∉F) {i:Nat} (hi:i<n) {a':α} {K':List Nat} (ht:TurnF F E w (Ls i) w' a' (ce i) K') :
 TurnF F (E.slice t) w (g::catN n Ls) w' (n,upd x i a') [.slice (some ⟨g,0,none⟩) n cap] (g::catN n (upd Ls i K')):=by
 have hgi:g∉Ls i:=fun hb=>(List.nodup_cons.1 nd).1 (zaz.2 ⟨i,hi,hb⟩)
 have hO:SlO E t w' g cap n (upd x i a') ce (upd Ls i K'):=by
  refine ⟨⟨h.row.1,?_⟩,fun k hk=>?_⟩
  ·rcases h.row.2 with ⟨hn,_⟩ | ⟨g',cap',cur,he,hbg,hgg,rest⟩
   ·cases hn
   ·cases he
    exact .inr ⟨g,cap,cur,rfl,hbg,(ht.chg.block g h.lt hgi).trans hgg,rest⟩
  ·by_cases c:k=i
   ·subst c;rw [zaH,zaH];exact ht.own
   ·rw [zaN x a' c,zaN Ls K' c]
    exact E.own_chgL (h.each k hk) ht.chg (fun b hb=>zbS (List.nodup_cons.1 nd).2 hi hk c hb)
 exact ⟨hO.own,zhB hi nd hF ht.nd ht.sub,zi9 hi ht.sub,ht.chg.mono (SlO.sub i hi)⟩
theorem SlO.turn_atF {w1:World} (h:SlO E t w g cap n x ce Ls) (nd:(g::catN n Ls).Nodup) (hF:∀ b,b∈g::catN n Ls→b∉F) {i:Nat} (hi:i<n) {a':α} {cs':List Value} {K':List Nat} (ht:TurnF F E w (Ls i) w1 a' cs' K') (hw:w'=Go.Proofs.YtlpbohnadenacaaGreat.stN w1 g (i*E.sz) cs') :
 TurnF F (E.slice t) w (g::catN n Ls) w' (n,upd x i a') [.slice (some ⟨g,0,none⟩) n cap] (g::catN n (upd Ls i K')):=by
 subst hw;have hgi:g∉Ls i:=fun hb=>(List.nodup_cons.1 nd).1 (zaz.2 ⟨i,hi,hb⟩);have nd':=zhB (g:=g) hi nd hF ht.nd ht.sub;have hcs:=E.own_len ht.own
 have row1:w1.ownsRow 0 t E.sz (.slice (some ⟨g,0,none⟩) n cap) n (catN n ce):=by
  refine ⟨h.row.1,?_⟩
  rcases h.row.2 with ⟨hn,_⟩ | ⟨g',cap',cur,he,hbg,hgg,rest⟩
  ·cases hn
  ·cases he
   exact .inr ⟨g,cap,cur,rfl,hbg,(ht.chg.block g h.lt hgi).trans hgg,rest⟩
 have hgK:∀ b,b∈catN n (upd Ls i K')→b≠g:=fun b hb hh=>by
  subst hh;exact (List.nodup_cons.1 nd').1 hb
 have hO:SlO E t (Go.Proofs.YtlpbohnadenacaaGreat.stN w1 g (i*E.sz) cs') g cap n (upd x i a') (upd ce i cs') (upd Ls i K'):=by
  refine ⟨?_,fun k hk=>?_⟩
  ·have:=zf4 cs' w1 (i*E.sz) _ row1
   rw [zeV h.lens hi hcs] at this;exact this
  ·have own1:E.own w1 (upd x i a' k) (upd ce i cs' k) (upd Ls i K' k):=by
    by_cases c:k=i
    ·subst c;rw [zaH,zaH,zaH];exact ht.own
    ·rw [zaN x a' c,zaN ce cs' c,zaN Ls K' c]
     exact E.own_chgL (h.each k hk) ht.chg (fun b hb=>zbS (List.nodup_cons.1 nd).2 hi hk c hb)
   exact E.own_kept own1 (fun b hb=>zbo g b (hgK b (zaz.2 ⟨k,hk,hb⟩)) cs' w1 _)
 have c1:ChgL (g::catN n Ls) w w1:=ht.chg.mono (SlO.sub i hi);refine ⟨hO.own,nd',fun b hb=>?_,?_⟩
 ·exact zi9 hi ht.sub b hb
 ·exact c1.trans ⟨(za1 g cs' w1 _).1,(za1 g cs' w1 _).2.1,(za1 g cs' w1 _).2.2,Nat.le_of_eq (zbj g cs' w1 _).symm,fun b _ hb=>zbo g b (fun hh=>hb (by rw [hh];exact List.mem_cons_self ..)) cs' w1 _⟩
end
theorem zjX {A B C B':List Nat} {F:List Nat} (nd:(A++(B++C)).Nodup) (hN:∀ b,b∈A++(B++C)→b∉F) (hn:B'.Nodup) (hs:∀ b,b∈B'→b∈B∨b∈F):(A++(B'++C)).Nodup:=by
 obtain ⟨a1,a2,a3⟩:=List.nodup_append.1 nd;obtain ⟨b1,b2,b3⟩:=List.nodup_append.1 a2;refine List.nodup_append.2 ⟨a1,List.nodup_append.2 ⟨hn,b2,fun b hb c hc hh=>?_⟩,fun b hb c hc hh=>?_⟩
 ·subst hh
  rcases hs b hb with h | h
  ·exact b3 b h b hc rfl
  ·exact hN b (List.mem_append_right _ (List.mem_append_right _ hc)) h
 ·subst hh
  rcases List.mem_append.1 hc with hc | hc
  ·rcases hs b hc with h | h
   ·exact a3 b hb b (List.mem_append_left _ h) rfl
   ·exact hN b (List.mem_append_left _ hb) h
  ·exact a3 b hb b (List.mem_append_right _ hc) rfl
theorem WOpen.groupsF {F:List Nat} {w w':World} {lo hi:Nat} {d:WorldD} {v1 v2 v3:Value} {K1 K2 K3:List Nat} (h:WOpen w lo hi d v1 v2 v3 K1 K2 K3) (hhi:hi≤w.heap.size) (hF:∀ b,b∈K1++(K2++K3)→b∉F) (hFl:∀ b,b∈F→lo≤b∧b<w'.heap.size) {o':Nat×(Nat→Nat×(Nat→DriveD))} {v':Value} {K':List Nat} (ht:TurnF F ((zaa.slice 97).slice 94) w K1 w' o' [v'] K'):WOpen w' lo w'.heap.size { d with groups:=o' } v' v2 v3 K' K2 K3:=by
 have hN:∀ b,b∈[]++(K1++(K2++K3))→b∉F:=fun b hb=>hF b (by simpa using hb)
 have hnd:([]++(K1++(K2++K3))).Nodup:=by simpa using h.nd
 have n2:=zjX hnd hN ht.nd ht.sub;refine ⟨ht.own,Lay.own_chgL _ h.o ht.chg (fun b hb hb1=>h.ap12 hb1 hb),Lay.own_chgL _ h.t ht.chg (fun b hb hb1=>h.ap13 hb1 hb),by simpa using n2,fun b hb=>?_,h.k0,h.k4,h.k5⟩;have hz:=ht.chg.size
 rcases List.mem_append.1 hb with hb | hb
 ·rcases ht.sub b hb with hb | hb
  ·have:=h.inn b (List.mem_append_left _ hb);omega
  ·exact hFl b hb
 ·have:=h.inn b (List.mem_append_right _ hb);omega
theorem WOpen.drives2F {w:World} {lo hi:Nat} {d:WorldD} {v1 v2 v3:Value} {K1 K2 K3:List Nat} (h:WOpen w lo hi d v1 v2 v3 K1 K2 K3) (hhi:hi≤w.heap.size) (F:List Nat) (hF:∀ b,b∈K1++(K2++K3)→b∉F) {G:Nat} (hG:G<d.groups.1) (hD:(d.groups.2 G).1≠0) :
 ∃ g1 c1 g cap ce Ls,v1=.slice (some ⟨g1,0,none⟩) d.groups.1 c1∧w.cell? ⟨g1,G,none⟩=some (.slice (some ⟨g,0,none⟩) (d.groups.2 G).1 cap)∧SlO zaa 97 w g cap (d.groups.2 G).1 (d.groups.2 G).2 ce Ls∧(g::catN (d.groups.2 G).1 Ls).Nodup∧(∀ b,b∈g::catN (d.groups.2 G).1 Ls→b∈K1)∧g1∈K1∧g1∉g::catN (d.groups.2 G).1 Ls∧
  ∀ (w':World) (p:Nat×(Nat→DriveD)) (K':List Nat),TurnF F (zaa.slice 97) w (g::catN (d.groups.2 G).1 Ls) w' p [.slice (some ⟨g,0,none⟩) (d.groups.2 G).1 cap] K'→(∀ b,b∈F→lo≤b∧b<w'.heap.size)→∃ K1',WOpen w' lo w'.heap.size { d with groups:=(d.groups.1,upd d.groups.2 G p) } v1 v2 v3 K1' K2 K3∧(∀ b,b∈K1'→b∈K1∨b∈F)∧ChgL K1 w w':=by
 obtain ⟨g1,c1,ce1,Ls1,e1,eL1,S1⟩:=zbc h.g (by omega)
 cases e1
 subst eL1;have nd1:(g1::catN d.groups.1 Ls1).Nodup:=(List.nodup_append.1 h.nd).1;obtain ⟨g,cap,ce,Ls,e2,eL2,S2⟩:=zbc (S1.each G hG) hD
 have nd2:(g::catN (d.groups.2 G).1 Ls).Nodup:=by rw [← eL2];exact zcL (List.nodup_cons.1 nd1).2 hG
 have sub2:∀ b,b∈g::catN (d.groups.2 G).1 Ls→b∈g1::catN d.groups.1 Ls1:=fun b hb=>SlO.sub G hG b (by rw [eL2];exact hb);refine ⟨g1,c1,g,cap,ce,Ls,rfl,?_,S2,nd2,sub2,List.mem_cons_self ..,fun hb=>(List.nodup_cons.1 nd1).1 (zaz.2 ⟨G,hG,by rw [eL2];exact hb⟩),fun w' p K' ht hFl=>?_⟩
 ·have:=S1.cell hG (j:=0) (by decide)
  have e:G*(zaa.slice 97).sz+0=G:=by show G*1+0=G;omega
  rw [e,e2] at this;exact this
 ·rw [← eL2,← e2] at ht
  have T1:=S1.turn_inF nd1 (fun b hb=>hF b (List.mem_append_left _ hb)) hG ht;exact ⟨_,h.groupsF hhi hF hFl T1,T1.sub,T1.chg⟩
theorem zfB {F:List Nat} {w w':World} {x:DriveD} {cs:List Value} {gb cap9 R:Nat} {b:BlockD} {K K':List Nat} (hc:cs=[.bool x.wiped,.slice (some ⟨gb,0,none⟩) x.blocks.1 cap9]) (ht:TurnF F (zaf.slice 99) w K w' (x.blocks.1,upd x.blocks.2 R b) [.slice (some ⟨gb,0,none⟩) x.blocks.1 cap9] K'):TurnF F zaa w K w' (zbf x R b) cs K':=by
 subst hc;exact ⟨zeN (zbf x R b) ht.own,ht.nd,ht.sub,ht.chg⟩
theorem zfX {w:World} {B:Nat} {d:WorldD} {cs:List Value} {K:List Nat} {G k R g c:Nat} {st:Int} {f:Nat→Nat} (hO:EncO w B d cs K) (hG:G<d.groups.1) (hk:k<(d.groups.2 G).1) (hR:R<((d.groups.2 G).2 k).blocks.1) (hg:g∉K) (hgB:g≠B) (hst:-9223372036854775808≤st∧st≤9223372036854775807) (hw:Own w 0 w.heap.size (.slice (some ⟨g,0,none⟩) 4 c) 4 f) (hf:∀ i,f i<256) :
 ∃ g1 c1 gg cap gb cap9,cs[9]?=some (.slice (some ⟨g1,0,none⟩) d.groups.1 c1)∧w.cell? ⟨g1,G,none⟩=some (.slice (some ⟨gg,0,none⟩) (d.groups.2 G).1 cap)∧w.cell? ⟨gg,k*2+1,none⟩=some (.slice (some ⟨gb,0,none⟩) ((d.groups.2 G).2 k).blocks.1 cap9)∧gb∈K∧(∃ u0 u1,w.cell? ⟨gb,R*2,none⟩=some u0∧w.cell? ⟨gb,R*2+1,none⟩=some u1)∧w.frozen? ⟨gb,R*2,none⟩=false∧w.frozen? ⟨gb,R*2+1,none⟩=false∧
  ∃ K',EncO (stN w gb (R*2) [.int .i64 st,.slice (some ⟨g,0,none⟩) 4 c]) B (zch d G k R ⟨st,(4,f)⟩) cs K'∧∀ b,b∈K'→b∈K∨b=g:=by
 obtain ⟨p1,c1,p2,c2,p3,c3,K1,K2,K3,rfl,rfl,WO⟩:=hO.open
 have hF:∀ b,b∈K1++(K2++K3)→b∉[g]:=fun b hb h=>by
  simp at h
  exact hg (h ▸ hb)
 obtain ⟨g1,cc1,gg,cap,ce,Ls,e1,c0,S2,nd2,in2,in1,ng1,back⟩:=WO.drives2F (Nat.le_refl _) [g] hF hG (by omega)
 simp only [Value.slice.injEq,true_and] at e1
 obtain ⟨rfl,rfl⟩:=e1;obtain ⟨ao9,cap9,K9,e9,eK9,o9⟩:=zdh (S2.each k hk)
 have nd9:K9.Nodup:=by rw [← eK9];exact zcL (List.nodup_cons.1 nd2).2 hk
 obtain ⟨gb,cp9,cb,Lb,eb,eLb,SB⟩:=zbc o9 (by omega)
 simp only [List.cons.injEq,Value.slice.injEq,and_true,true_and] at eb
 obtain ⟨rfl,rfl⟩:=eb;subst eLb;have sub9:∀ b,b∈gb::catN ((d.groups.2 G).2 k).blocks.1 Lb→b∈K1:=fun b hb=>in2 b (SlO.sub k hk b (by rw [eK9];exact hb));obtain ⟨a0,ca0,KR,eR,-⟩:=zcJ (SB.each R hR);have hgl:g<w.heap.size:=(hw.1.lt g rfl).2;have TB:TurnF [g] zaf w (Lb R) w ⟨st,(4,f)⟩ [.int .i64 st,.slice (some ⟨g,0,none⟩) 4 c] [g]:=⟨zf7 ⟨st,(4,f)⟩ (ao1:=some ⟨g,0,none⟩) (cap1:=c) (K1:=[g]) ⟨_,rfl,rfl,hw,hf⟩ hst,by simp,fun b hb=>.inr hb,ChgL.refl _ _⟩;have T6:=SB.turn_atF nd9 (fun b hb=>hF b (List.mem_append_left _ (sub9 b hb))) hR TB (w':=stN w gb (R*zaf.sz) [.int .i64 st,.slice (some ⟨g,0,none⟩) 4 c]) rfl;have T7:=zfB e9 T6;rw [← eK9] at T7;have T8:=S2.turn_inF nd2 (fun b hb=>hF b (List.mem_append_left _ (in2 b hb))) hk T7
 obtain ⟨K1',WO7,sb7,ch7⟩:=back _ _ _ T8 (fun b hb=>by
  simp at hb
  subst hb;refine ⟨Nat.zero_le _,?_⟩;rw [zbj]
  exact hgl)
 have hE1:B∉K1'++(K2++K3):=fun h=>by
  rcases List.mem_append.1 h with h | h
  ·rcases sb7 B h with h | h
   ·exact hO.ne (List.mem_append_left _ h)
   ·simp at h
    exact hgB h.symm
  ·exact hO.ne (List.mem_append_right _ h)
 refine ⟨g1,c1,gg,cap,gb,cap9,rfl,c0,(S2.cell hk (j:=1) (by decide)).trans (by rw [e9];rfl),List.mem_append_left _ (sub9 gb (List.mem_cons_self ..)),⟨_,_,(SB.cell hR (j:=0) (by decide)).trans (by rw [eR];rfl),(SB.cell hR (j:=1) (by decide)).trans (by rw [eR];rfl)⟩,SB.frozen _,SB.frozen _,_,WO7.encO hE1,fun b hb=>?_⟩
 simp only [List.append_nil] at hb
 rcases List.mem_append.1 hb with h | h
 ·rcases sb7 b h with h | h
  ·exact .inl (List.mem_append_left _ h)
  ·simp at h
   exact .inr h
 ·exact .inl (List.mem_append_right _ h)
theorem drive_of' {w:World} {lo hi:Nat} {d:DriveD} {ao:Option Addr} {cap:Nat} (h:OwnT (zaf.slice 99) w lo hi d.blocks [.slice ao d.blocks.1 cap]):OwnT zaa w lo hi d [.bool d.wiped,.slice ao d.blocks.1 cap]:=
 OwnT.conv (OwnT.pre (A:=layB) (a:=d.wiped) (c:=[.bool d.wiped]) ⟨rfl,trivial,rfl⟩ h)
theorem tape_of' {w:World} {lo hi:Nat} {d:TapeD} {ao:Option Addr} {cap:Nat} (h:OwnT (zae.slice 43) w lo hi d.recs [.slice ao d.recs.1 cap]):OwnT zan w lo hi d [.bool d.wiped,.slice ao d.recs.1 cap]:=
 OwnT.conv (OwnT.pre (A:=layB) (a:=d.wiped) (c:=[.bool d.wiped]) ⟨rfl,trivial,rfl⟩ h)
theorem Three.chgl3 {w wc w':World} {c1 c2 c3:Array Value} {t1 t2 t3:TypeId} (h:Three w wc c1 c2 c3 t1 t2 t3) (c3':Array Value) (hb:Box w' (w.heap.size+1+1) c3' t3) (hc:ChgL [w.heap.size+1+1] wc w'):Three w w' c1 c2 c3' t1 t2 t3:=
 ⟨h.b1.chgl hc (by simp only [List.mem_singleton];omega),h.b2.chgl hc (by simp only [List.mem_singleton];omega),hb,h.bel.trans (hc.bel (fun b hb=>by simp only [List.mem_singleton] at hb;omega) h.bel.size)⟩
theorem OwnT.chgl {α:Type} {A:Lay α} {w w':World} {lo hi:Nat} {a:α} {cs:List Value} {K:List Nat} (h:OwnT A w lo hi a cs) (hc:ChgL K w w') (hK:∀ b,b∈K→b<lo):OwnT A w' lo hi a cs:=by
 obtain ⟨M,h1,h2,h3⟩:=h;exact ⟨M,A.own_kept h1 (fun b hb=>hc.block b (A.own_lt h1 b hb) (fun hh=>by have:=hK b hh;have:=(h3 b hb).1;omega)),h2,h3⟩
set_option maxRecDepth 20000 in
theorem zhC:ToV zab zaW 23:=fun cs d hi w r hhi hn=>by
 obtain ⟨ao1,cap1,ao2,cap2,ao3,cap3,rfl,g1,g2,g3,k0,k4,k5⟩:=zaK r;clear r;unfold zaW lenD at hn
 have hnG:szSl (szSl zav) d.groups≤1048576:=by omega
 have hnO:d.on.1≤1048576:=by omega
 have hnT:szSl za0 d.tapes≤1048576:=by omega
 clear hn;have Q0:=hid k0;have Q4:=hid k4;have Q5:=hid k5;have HG2:=hid g2;obtain ⟨_,_,e1,hm1,hc1⟩:=g1
 cases e1
 obtain ⟨_,_,e3,hm3,hc3⟩:=g3
 cases e3
 have HC1:=hid hc1;have HC3:=hid hc3;have hgn:=zcv hnG;have htn:=zcv hnT;have HNG:Hid (∀ i,i<d.groups.1→szSl zav (d.groups.2 i)≤1048576):=fun i hi=>zbB hnG hi;have HNT:Hid (∀ i,i<d.tapes.1→za0 (d.tapes.2 i)≤1048576):=fun i hi=>zbB hnT hi;clear k0 k4 k5 g2 hc1 hc3 hnG hnT hm1 hm3;have T0:=zbD w (rwW d ao1 cap1 ao2 cap2 ao3 cap3).toArray (rwV 0 0 0 0 0 0 0 0 0 none 0 0 none 0 0 none 0 0 0 0 false).toArray #[.int .i64 (d.shape 0),.int .i64 (d.shape 1),.int .i64 (d.shape 2),.int .i64 (d.shape 3),.int .i64 (d.shape 4),.int .i64 (d.shape 5),.int .i64 (d.shape 6),.int .i64 (d.shape 7),.int .i64 (d.shape 8),.slice none 0 0,.slice ao2 d.on.1 cap2,.slice ao3 d.tapes.1 cap3,.int .i64 d.writes,.int .i64 d.stop,.bool d.down] 38 38 38
 go_enter Tryz.func23,Tryz.ntmps23
 go_wp2
 go_loopw [4] (fun i wr=>∃ (g:Nat) (ga:Option Addr) (gc:Nat),g≤d.groups.1∧i=.int .i64 g∧Three w wr (rwW d ao1 cap1 ao2 cap2 ao3 cap3).toArray (rwV 0 0 0 0 0 0 0 0 0 none 0 0 none 0 0 none 0 0 0 0 false).toArray #[.int .i64 (d.shape 0),.int .i64 (d.shape 1),.int .i64 (d.shape 2),.int .i64 (d.shape 3),.int .i64 (d.shape 4),.int .i64 (d.shape 5),.int .i64 (d.shape 6),.int .i64 (d.shape 7),.int .i64 (d.shape 8),.slice ga g gc,.slice ao2 d.on.1 cap2,.slice ao3 d.tapes.1 cap3,.int .i64 d.writes,.int .i64 d.stop,.bool d.down] 38 38 38∧Gat (zaa.slice 97) 94 wr (w.heap.size+1+1+1) (.slice ga g gc) g d.groups.2) (fun i _=>d.groups.1-(intOf i).toNat)
 case atStart=>exact ⟨0,none,0,Nat.zero_le _,rfl,T0,Gat.nil _ _ _⟩
 case round=>
  clear T0;obtain ⟨g,ga,gc,hg,rfl,T1,G1⟩:=hrel;obtain ⟨wo,rfl⟩:∃ x,x=wr:=⟨_,rfl⟩;have HT1:=hid T1;have HG1:=hid G1;have zo:w.heap.size+1+1+1≤wo.heap.size:=T1.lt;have x9:wo.cell? ⟨w.heap.size,9,none⟩=some (.slice ao1 d.groups.1 cap1):=T1.b1.cell 9
  by_cases hlg:g<d.groups.1
  ·obtain ⟨b1,off1,he1,hb1,hel1⟩:=HC1.out (by omega)
   subst he1;obtain ⟨cg,hrg,hcg⟩:=zaB (t:=0) hel1 T1.bel hhi hb1 hlg;obtain ⟨ao9,cap9,rfl⟩:=zbH hrg
   have c0:wo.cell? ⟨b1,off1+g,none⟩=some (.slice ao9 (d.groups.2 g).1 cap9):=by
    have:=hcg 0 (by decide)
    have e:off1+(g*(zaa.slice 97).sz+0)=off1+g:=by show off1+(g*1+0)=off1+g;omega
    rw [e] at this;exact this
   have HC0:=hid c0;have hnD:=HNG.out g hlg;have hdn:=zcv hnD;have HND:Hid (∀ i,i<(d.groups.2 g).1→zav ((d.groups.2 g).2 i)≤1048576):=fun i hi=>zbB hnD hi;obtain ⟨_,_,e9,hm9,hc9⟩:=hrg
   cases e9
   have HC9:=hid hc9;clear hel1 hcg T1 G1 hc9 hnD hm9;go_wp2
   go_loopw [5,6] (fun v i wx=>∃ (k:Nat) (da:Option Addr) (dc:Nat),k≤(d.groups.2 g).1∧i=.int .i64 k∧v=.slice da k dc∧Gat zaa 97 wx wo.heap.size (.slice da k dc) k (d.groups.2 g).2∧Below wo.heap.size wo wx) (fun _ i _=>(d.groups.2 g).1-(intOf i).toNat)
   case atStart=>exact ⟨0,_,_,Nat.zero_le _,rfl,rfl,ziX _ _,(Below.refl _ _).alloc (Nat.le_refl _) _⟩
   case round=>
    clear x9 c0;obtain ⟨k,da,dc,hk,rfl,rfl,G2,B2⟩:=hrel;obtain ⟨wx,rfl⟩:∃ x,x=wr:=⟨_,rfl⟩;have HG2':=hid G2;have HB2:=hid B2;have zx:wo.heap.size≤wx.heap.size:=B2.size;have x9:wx.cell? ⟨w.heap.size,9,none⟩=some (.slice (some ⟨b1,off1,none⟩) d.groups.1 cap1):=(HT1.out.call B2).b1.cell 9;have c0:wx.cell? ⟨b1,off1+g,none⟩=some (.slice ao9 (d.groups.2 g).1 cap9):=(B2.cell (p:=⟨b1,off1+g,none⟩) (by show b1<wo.heap.size;omega)).trans HC0.out
    by_cases hlk:k<(d.groups.2 g).1
    ·obtain ⟨b9,off9,he9,hb9,hel9⟩:=HC9.out (by omega)
     subst he9;obtain ⟨cd,hrd,hcd⟩:=zaB (t:=0) hel9 B2 (by omega) hb9 hlk;obtain ⟨ao5,cap5,rfl,g5⟩:=zbz hrd;obtain ⟨D,hD⟩:∃ x,x=(d.groups.2 g).2 k:=⟨_,rfl⟩;rw [← hD] at hcd g5;have HD:=hid hD
     have hnB:szSl zaG D.blocks≤1048576:=by rw [hD];exact HND.out k hlk
     have hbn:=zcv hnB;have HNB:Hid (∀ i,i<D.blocks.1→zaG (D.blocks.2 i)≤1048576):=fun i hi=>zbB hnB hi;have c2:wx.cell? ⟨b9,off9+k*2,none⟩=some (.bool D.wiped):=hcd 0 (by decide);have c3:wx.cell? ⟨b9,off9+k*2+1,none⟩=some (.slice ao5 D.blocks.1 cap5):=hcd 1 (by decide);have HC3':=hid c3;have HC0':=hid c0;obtain ⟨_,_,e5,hm5,hc5⟩:=g5
     cases e5
     have HC5:=hid hc5;clear hel9 hcd hrd G2 B2 hD hnB hc5 hm5;go_wp2;have bA:=bAl wx (.cells #[.bool D.wiped,.slice none 0 0] 97);have XA:=zay wx #[.bool D.wiped,.slice none 0 0] 97
     go_loopw [8] (fun i wz=>∃ (q:Nat) (ba:Option Addr) (bc:Nat),q≤D.blocks.1∧i=.int .i64 q∧Box wz wx.heap.size #[.bool D.wiped,.slice ba q bc] 97∧Gat zaf 99 wz (wx.heap.size+1) (.slice ba q bc) q D.blocks.2∧Below wx.heap.size wx wz) (fun i _=>D.blocks.1-(intOf i).toNat)
     case atStart=>exact ⟨0,none,0,Nat.zero_le _,rfl,XA,Gat.nil _ _ _,bA⟩
     case round=>
      clear x9 c0 c2 c3 bA XA;obtain ⟨q,ba,bc,hq,rfl,X3,G3,B3⟩:=hrel;obtain ⟨wz,rfl⟩:∃ x,x=wr:=⟨_,rfl⟩;have HX3:=hid X3;have HG3:=hid G3;have HB3:=hid B3;have zz:wx.heap.size<wz.heap.size:=X3.lt;have x9:wz.cell? ⟨w.heap.size,9,none⟩=some (.slice (some ⟨b1,off1,none⟩) d.groups.1 cap1):=((HT1.out.call HB2.out).call B3).b1.cell 9;have c0:wz.cell? ⟨b1,off1+g,none⟩=some (.slice (some ⟨b9,off9,none⟩) (d.groups.2 g).1 cap9):=(B3.cell (p:=⟨b1,off1+g,none⟩) (by show b1<wx.heap.size;omega)).trans HC0'.out;have c3:wz.cell? ⟨b9,off9+k*2+1,none⟩=some (.slice ao5 D.blocks.1 cap5):=(B3.cell (p:=⟨b9,off9+k*2+1,none⟩) (by show b9<wx.heap.size;omega)).trans HC3'.out;have y0:wz.cell? ⟨wx.heap.size,0,none⟩=some (.bool D.wiped):=X3.cell 0;have y1:wz.cell? ⟨wx.heap.size,1,none⟩=some (.slice ba q bc):=X3.cell 1
      by_cases hlq:q<D.blocks.1
      ·obtain ⟨b5,off5,he5,hb5,hel5⟩:=HC5.out (by omega)
       subst he5;obtain ⟨cb,hrb,hcb⟩:=zaB (t:=0) hel5 B3 (by omega) hb5 hlq;obtain ⟨ao0,cap0,rfl,-⟩:=za6 hrb;have s0:wz.cell? ⟨b5,off5+q*2,none⟩=some (.int .i64 (D.blocks.2 q).stamp):=hcb 0 (by decide);have s1:wz.cell? ⟨b5,off5+q*2+1,none⟩=some (.slice ao0 (D.blocks.2 q).bytes.1 cap0):=hcb 1 (by decide);have CC:=zfy _ (D.blocks.2 q) hi wz.drew (zaf.rd_below (B:=hi) hrb ⟨rfl,rfl,rfl,Nat.le_refl _,fun _ _=>rfl⟩ (Nat.le_refl _)) (show hi≤wz.heap.size by omega) (HNB.out q hlq)
       have CC:=CC.mono (R':=fun e w'=>∃ bo bcc,e=.returned (.agg #[.int .i64 (D.blocks.2 q).stamp,.slice bo (D.blocks.2 q).bytes.1 bcc])∧OwnT zaf w' wz.drew.heap.size w'.heap.size (D.blocks.2 q) [.int .i64 (D.blocks.2 q).stamp,.slice bo (D.blocks.2 q).bytes.1 bcc]∧Below wz.drew.heap.size wz.drew w') (fun e w' ⟨c5,he,o5,b5'⟩=>by
        obtain ⟨bo,bcc,rfl⟩:=zdP o5
        exact ⟨bo,bcc,he,o5,b5'⟩)
       clear hel5 hcb hrb X3 G3 B3;have KS:∀ w',Below (wx.heap.size+1) wz w'→(w'.cell? ⟨w.heap.size,9,none⟩=some (.slice (some ⟨b1,off1,none⟩) d.groups.1 cap1)∧w'.cell? ⟨b1,off1+g,none⟩=some (.slice (some ⟨b9,off9,none⟩) (d.groups.2 g).1 cap9)∧w'.cell? ⟨b9,off9+k*2+1,none⟩=some (.slice (some ⟨b5,off5,none⟩) D.blocks.1 cap5)∧w'.cell? ⟨b5,off5+q*2,none⟩=some (.int .i64 (D.blocks.2 q).stamp)∧w'.cell? ⟨b5,off5+q*2+1,none⟩=some (.slice ao0 (D.blocks.2 q).bytes.1 cap0)∧w'.cell? ⟨wx.heap.size,1,none⟩=some (.slice ba q bc)):=fun w' hb=>⟨(hb.cell (p:=⟨w.heap.size,9,none⟩) (by show w.heap.size<wx.heap.size+1;omega)).trans x9,(hb.cell (p:=⟨b1,off1+g,none⟩) (by show b1<wx.heap.size+1;omega)).trans c0,(hb.cell (p:=⟨b9,off9+k*2+1,none⟩) (by show b9<wx.heap.size+1;omega)).trans c3,(hb.cell (p:=⟨b5,off5+q*2,none⟩) (by show b5<wx.heap.size+1;omega)).trans s0,(hb.cell (p:=⟨b5,off5+q*2+1,none⟩) (by show b5<wx.heap.size+1;omega)).trans s1,(hb.cell (p:=⟨wx.heap.size,1,none⟩) (Nat.lt_succ_self _)).trans y1⟩
       have i1:(0:Int)≤(g:Int):=by omega
       have i2:(g:Int)<(d.groups.1:Int):=by omega
       have i3:(0:Int)≤(k:Int):=by omega
       have i4:(k:Int)<((d.groups.2 g).1:Int):=by omega
       have i5:(0:Int)≤(q:Int):=by omega
       have i6:(q:Int)<(D.blocks.1:Int):=by omega
       go_upto_region 14 with fail
       refine zbs 18 (fun w'=>w'.cell? ⟨w.heap.size,9,none⟩=some (.slice (some ⟨b1,off1,none⟩) d.groups.1 cap1)∧w'.cell? ⟨b1,off1+g,none⟩=some (.slice (some ⟨b9,off9,none⟩) (d.groups.2 g).1 cap9)∧w'.cell? ⟨b9,off9+k*2+1,none⟩=some (.slice (some ⟨b5,off5,none⟩) D.blocks.1 cap5)∧w'.cell? ⟨b5,off5+q*2,none⟩=some (.int .i64 (D.blocks.2 q).stamp)∧w'.cell? ⟨b5,off5+q*2+1,none⟩=some (.slice ao0 (D.blocks.2 q).bytes.1 cap0)∧w'.cell? ⟨wx.heap.size,1,none⟩=some (.slice ba q bc)) (by kernel_rfl) (KS _ ⟨rfl,rfl,rfl,Nat.le_refl _,fun _ _=>rfl⟩) (fun hHeld=>?_);refine zl2 0 rfl ?_
       try simp only [Act.put,SL]
       refine zl2 1 rfl ?_
       try simp only [Act.put,SL]
       refine zl2 2 rfl ?_
       try simp only [Act.put,SL]
       refine zl2 3 rfl ?_
       try simp only [Act.put,SL]
       refine zl2 4 rfl ?_
       try simp only [Act.put,SL]
       refine zl2 5 rfl ?_
       try simp only [Act.put,SL]
       refine zl2 6 rfl ?_
       try simp only [Act.put,SL]
       refine zl2 7 rfl ?_
       try simp only [Act.put,SL]
       refine zl2 8 rfl ?_
       try simp only [Act.put,SL]
       refine zl2 9 rfl ?_
       try simp only [Act.put,SL]
       refine zl2 10 rfl ?_
       try simp only [Act.put,SL]
       refine zl2 11 rfl ?_
       try simp only [Act.put,SL]
       refine zl2 12 rfl ?_
       try simp only [Act.put,SL]
       refine zl2 13 rfl ?_
       try simp only [Act.put,SL]
       refine zat (i:=14) (o:=_) rfl (by kernel_rfl) (fun K hK=>?_)
       refine zaE rfl 60 _ _ rfl #[.agg #[.int .i64 (D.blocks.2 q).stamp,.slice ao0 (D.blocks.2 q).bytes.1 cap0]] ?_ Tryz.func60 (by kernel_rfl) (by kernel_rfl) CC ?_;(simp [Act.eval,Act.put]);rintro ee w5 ⟨bo,bcc,rfl,o5,b5'⟩;have b5w:Below wz.heap.size wz w5:=⟨b5'.os,b5'.tape,b5'.output,b5'.size,b5'.block⟩;have q1:w5.cell? ⟨wx.heap.size,1,none⟩=some (.slice ba q bc):=(HX3.out.call b5w).cell 1;have q3:=(zb8 w5 (.cells #[.int .i64 (D.blocks.2 q).stamp,.slice bo (D.blocks.2 q).bytes.1 bcc] 99) wx.heap.size 1 (by have:=b5w.size;omega)).trans q1;refine ⟨_,rfl,?_⟩
       refine hK.out _ _ (KS _ (b5w.mono (Nat.succ_le_of_lt zz))) (fun hHeld=>?_);clear hK K
       try simp only [Act.put,SL]
       refine zat (i:=15) (o:=_) rfl (by kernel_rfl) (fun K hK=>?_);go_simp;refine hK.out _ _ (KS _ ((b5w.mono (Nat.succ_le_of_lt zz)).alloc (by have:=b5w.size;omega) _)) (fun hHeld=>?_);clear hK K
       try simp only [Act.put,SL]
       refine zat (i:=16) (o:=_) rfl (by kernel_rfl) (fun K hK=>?_)
       refine zey zgh rfl (.tmp 55) (.tmp 69) rfl (lo:=wx.heap.size+1) (n:=q) (v:=.slice ba q bc) (x:=D.blocks.2) ?_ HG3.out b5w o5 ?_ w5.heap.size 1 ?_ (fun j _=>zdo w5 _ _ j) (by omega) (by omega) ?_;(simp [Act.eval,Act.put]);(exact (Below.refl _ _).alloc (Nat.le_refl _) _);(simp [Act.eval,Act.put]);intro v4 w4 g4 b4;obtain ⟨ba4,bc4,rfl⟩:=g4.form;have X4:=HX3.out.below b4 (Nat.lt_succ_self _);have p1:w4.cell? ⟨wx.heap.size,1,none⟩=some (.slice ba q bc):=X4.cell 1;have p2:w4.frozen? ⟨wx.heap.size,1,none⟩=false:=X4.frozen 1
       refine hK.out _ _ (KS _ b4) (fun hHeld=>?_);clear hK K
       try simp only [Act.put,SL]
       refine zat (i:=17) (o:=_) rfl (by kernel_rfl) (fun K hK=>?_);go_simp;refine hK.out _ _ (KS _ b4) (fun hHeld=>?_);clear hK K
       try simp only [Act.put,SL]
       refine zbJ (o:=_) rfl (by kernel_rfl) (fun K hK=>?_);go_simp;refine hK.out _ _ ?_;clear hK K
       try simp only [Act.put,SL]
       refine zbK (by kernel_rfl) ?_ _;go_wp2
       go_roundw
       case rel=>exact ⟨q+1,ba4,bc4,by omega,by go_num,X4.setc 1 (.slice ba4 (q+1) bc4),(g4.set _ _ _ (Nat.lt_succ_self _)).congr (fun i _=>by rw [zcz]),(HB3.out.trans (b4.mono (Nat.le_succ _))).setCell (Nat.le_refl _) _⟩
       case measure=>simp [intOf];omega
      ·obtain rfl:q=D.blocks.1:=by omega
       have OD:OwnT zaa wz wx.heap.size wz.heap.size D [.bool D.wiped,.slice ba D.blocks.1 bc]:=drive_of' (HG3.out.own.weaken (Nat.le_succ _) (Nat.le_refl _));clear X3 G3 B3
       go_wp2_with (at_builtin;refine zeq zgi rfl (.tmp 72) (.tmp 74) rfl (lo:=wo.heap.size) (n:=k) (v:=.slice da k dc) (x:=(d.groups.2 g).2) ?_ HG2'.out HB3.out OD ?_ wz.heap.size 1 ?_ (fun j _=>zdo wz _ _ j) (by omega) (by omega) ?_;(simp [Act.eval]);(exact (Below.refl _ _).alloc (Nat.le_refl _) _);(simp [Act.eval]);intro v4 w4 g4 b4;obtain ⟨da4,dc4,rfl⟩:=g4.form)
       go_roundw
       case rel=>exact ⟨k+1,da4,dc4,by omega,by go_num,rfl,g4.congr (fun i _=>by rw [HD.out,zcz]),HB2.out.trans b4⟩
       case measure=>simp [intOf];omega
    ·obtain rfl:k=(d.groups.2 g).1:=by omega
     have OG:OwnT (zaa.slice 97) wx wo.heap.size wx.heap.size (d.groups.2 g) [.slice da (d.groups.2 g).1 dc]:=HG2'.out.own;have T2:=HT1.out.call B2;have e9:wx.cell? ⟨w.heap.size+1+1,9,none⟩=some (.slice ga g gc):=T2.b3.cell 9;have e9':=(zb8 wx (.cells #[.slice da (d.groups.2 g).1 dc] 94) (w.heap.size+1+1) 9 (by omega)).trans e9;clear T2 G2 B2
     go_wp2_with (at_builtin;refine zeq zfb rfl (.tmp 77) (.tmp 79) rfl (lo:=w.heap.size+1+1+1) (n:=g) (v:=.slice ga g gc) (x:=d.groups.2) ?_ HG1.out HB2.out OG ?_ wx.heap.size 1 ?_ (fun j _=>zdo wx _ _ j) (by omega) (by omega) ?_;(simp [Act.eval]);(exact (Below.refl _ _).alloc (Nat.le_refl _) _);(simp [Act.eval]);intro v4 w4 g4 b4;obtain ⟨ga4,gc4,rfl⟩:=g4.form;have T4:=HT1.out.low b4;have p1:w4.cell? ⟨w.heap.size+1+1,9,none⟩=some (.slice ga g gc):=T4.b3.cell 9;have p2:w4.frozen? ⟨w.heap.size+1+1,9,none⟩=false:=T4.b3.frozen 9)
     go_roundw
     case rel=>exact ⟨g+1,ga4,gc4,by omega,by go_num,T4.st3 9 [.slice ga4 (g+1) gc4] rfl,(g4.set _ _ _ (by omega)).congr (fun i _=>by rw [zcz])⟩
     case measure=>simp [intOf];omega
  ·obtain rfl:g=d.groups.1:=by omega
   have bA:=bAl wo (.cells #[] 2);have TA:=T1.call bA;obtain ⟨v',w2,hrun,o2,b2⟩:=zeG 25 (wo.alloc (.cells #[] 2)) wo.heap.size (zfk wo 2) (zal.rd_below HG2.out TA.bel hhi) (show d.on.1≤10000000 by omega);obtain ⟨oa,oc,hv⟩:=zcp o2;obtain rfl:=zaU hv;clear hv;have T2:Three w w2 (rwW d ao1 cap1 ao2 cap2 ao3 cap3).toArray (rwV 0 0 0 0 0 0 0 0 0 none 0 0 none 0 0 none 0 0 0 0 false).toArray (rwW d ga gc ao2 cap2 ao3 cap3).toArray 38 38 38:=TA.low (b2.mono zo)
   have G2:Gat (zaa.slice 97) 94 w2 (w.heap.size+1+1+1) (.slice ga d.groups.1 gc) d.groups.1 d.groups.2:=by
    have h1:Below wo.heap.size wo w2:=bA.trans b2;exact G1.below h1
   have xa:(wo.alloc (.cells #[] 2)).cell? ⟨w.heap.size,10,none⟩=some (.slice ao2 d.on.1 cap2):=TA.b1.cell 10;have xb:w2.cell? ⟨w.heap.size+1+1,10,none⟩=some (.slice ao2 d.on.1 cap2):=T2.b3.cell 10;have xf:w2.frozen? ⟨w.heap.size+1+1,10,none⟩=false:=T2.b3.frozen 10;have T3:=T2.st3 10 [.slice oa d.on.1 oc] (c3':=(rwW d ga gc oa oc ao3 cap3)) rfl;have T4:Three w (stN (stN w2 (w.heap.size+1+1) 10 [.slice oa d.on.1 oc]) (w.heap.size+1+1) 11 [.slice none 0 0]) (rwW d ao1 cap1 ao2 cap2 ao3 cap3).toArray (rwV 0 0 0 0 0 0 0 0 0 none 0 0 none 0 0 none 0 0 0 0 false).toArray #[.int .i64 (d.shape 0),.int .i64 (d.shape 1),.int .i64 (d.shape 2),.int .i64 (d.shape 3),.int .i64 (d.shape 4),.int .i64 (d.shape 5),.int .i64 (d.shape 6),.int .i64 (d.shape 7),.int .i64 (d.shape 8),.slice ga d.groups.1 gc,.slice oa d.on.1 oc,.slice none 0 0,.int .i64 d.writes,.int .i64 d.stop,.bool d.down] 38 38 38:=T3.st3 11 [.slice none 0 0] (c3':=[.int .i64 (d.shape 0),.int .i64 (d.shape 1),.int .i64 (d.shape 2),.int .i64 (d.shape 3),.int .i64 (d.shape 4),.int .i64 (d.shape 5),.int .i64 (d.shape 6),.int .i64 (d.shape 7),.int .i64 (d.shape 8),.slice ga d.groups.1 gc,.slice oa d.on.1 oc,.slice none 0 0,.int .i64 d.writes,.int .i64 d.stop,.bool d.down]) rfl;have O4:=(o2.stN (w.heap.size+1+1) 10 [.slice oa d.on.1 oc] (by omega)).stN (w.heap.size+1+1) 11 [.slice none 0 0] (by omega);have G4:Gat (zaa.slice 97) 94 (stN (stN w2 (w.heap.size+1+1) 10 [.slice oa d.on.1 oc]) (w.heap.size+1+1) 11 [.slice none 0 0]) (w.heap.size+1+1+1) (.slice ga d.groups.1 gc) d.groups.1 d.groups.2:=(G2.set _ 10 _ (by omega)).set _ 11 _ (by omega);have xc:(w2.setCell ⟨w.heap.size+1+1,10,none⟩ (.slice oa d.on.1 oc)).cell? ⟨w.heap.size+1+1,11,none⟩=some (.slice ao3 d.tapes.1 cap3):=T3.b3.cell 11;have xg:(w2.setCell ⟨w.heap.size+1+1,10,none⟩ (.slice oa d.on.1 oc)).frozen? ⟨w.heap.size+1+1,11,none⟩=false:=T3.b3.frozen 11;have z2:wo.heap.size≤w2.heap.size:=Nat.le_trans bA.size b2.size
   have ez:(stN (stN w2 (w.heap.size+1+1) 10 [.slice oa d.on.1 oc]) (w.heap.size+1+1) 11 [.slice none 0 0]).heap.size=w2.heap.size:=by rw [zbj,zbj]
   have GO:OwnT ((zaa.slice 97).slice 94) wo (w.heap.size+1+1+1) wo.heap.size d.groups [.slice ga d.groups.1 gc]:=G1.own;have GO4:=((GO.call (bA.trans b2)).stN (w.heap.size+1+1) 10 [.slice oa d.on.1 oc] (by omega)).stN (w.heap.size+1+1) 11 [.slice none 0 0] (by omega);clear T1 TA T2 T3 G1 G2 G4 o2 b2 bA GO
   go_upto_region 19 with (at_builtin;refine zgz rfl (.tmp 82) (.tmp 84) rfl ?_ ?_ hrun ?_;(simp [Act.eval]);(simp [Act.eval]))
   obtain ⟨W4,hW4⟩:∃ x,x=stN (stN w2 (w.heap.size+1+1) 10 [.slice oa d.on.1 oc]) (w.heap.size+1+1) 11 [.slice none 0 0]:=⟨_,rfl⟩
   change Code.wp Tryz.prog _ _ _ (stN (stN w2 (w.heap.size+1+1) 10 [.slice oa d.on.1 oc]) (w.heap.size+1+1) 11 [.slice none 0 0])
   rw [← hW4] at T4 O4 GO4 ez ⊢;have HT4:=hid T4;have HO4:=hid O4;have HGO:=hid GO4;clear T4 O4 GO4 hW4 xa xb xf xc xg hrun x9;go_wp2
   go_loopw [9] (fun i wr=>∃ (t:Nat) (ta:Option Addr) (tc:Nat),t≤d.tapes.1∧i=.int .i64 t∧Box wr (w.heap.size+1+1) #[.int .i64 (d.shape 0),.int .i64 (d.shape 1),.int .i64 (d.shape 2),.int .i64 (d.shape 3),.int .i64 (d.shape 4),.int .i64 (d.shape 5),.int .i64 (d.shape 6),.int .i64 (d.shape 7),.int .i64 (d.shape 8),.slice ga d.groups.1 gc,.slice oa d.on.1 oc,.slice ta t tc,.int .i64 d.writes,.int .i64 d.stop,.bool d.down] 38∧Gat zan 103 wr W4.heap.size (.slice ta t tc) t d.tapes.2∧ChgL [w.heap.size+1+1] W4 wr) (fun i _=>d.tapes.1-(intOf i).toNat)
   case atStart=>exact ⟨0,none,0,Nat.zero_le _,rfl,HT4.out.b3,Gat.nil _ _ _,ChgL.refl _ _⟩
   case round=>
    obtain ⟨t,ta,tc,ht,rfl,X5,G5,C5⟩:=hrel;obtain ⟨wx,rfl⟩:∃ x,x=wr:=⟨_,rfl⟩;have T5:Three w wx (rwW d ao1 cap1 ao2 cap2 ao3 cap3).toArray (rwV 0 0 0 0 0 0 0 0 0 none 0 0 none 0 0 none 0 0 0 0 false).toArray #[.int .i64 (d.shape 0),.int .i64 (d.shape 1),.int .i64 (d.shape 2),.int .i64 (d.shape 3),.int .i64 (d.shape 4),.int .i64 (d.shape 5),.int .i64 (d.shape 6),.int .i64 (d.shape 7),.int .i64 (d.shape 8),.slice ga d.groups.1 gc,.slice oa d.on.1 oc,.slice ta t tc,.int .i64 d.writes,.int .i64 d.stop,.bool d.down] 38 38 38:=HT4.out.chgl3 _ X5 C5;have HT5:=hid T5;have HG5:=hid G5;have HC5:=hid C5;have zx:W4.heap.size≤wx.heap.size:=C5.size;have x11:wx.cell? ⟨w.heap.size,11,none⟩=some (.slice ao3 d.tapes.1 cap3):=T5.b1.cell 11;have e11:wx.cell? ⟨w.heap.size+1+1,11,none⟩=some (.slice ta t tc):=T5.b3.cell 11
    by_cases hlt:t<d.tapes.1
    ·obtain ⟨b3,off3,he3,hb3,hel3⟩:=HC3.out (by omega)
     subst he3;obtain ⟨ct,hrt,hct⟩:=zaB (t:=0) hel3 T5.bel hhi hb3 hlt;obtain ⟨ao7,cap7,rfl,g7⟩:=zbq hrt;have c0:wx.cell? ⟨b3,off3+t*2,none⟩=some (.bool (d.tapes.2 t).wiped):=hct 0 (by decide);have c1:wx.cell? ⟨b3,off3+t*2+1,none⟩=some (.slice ao7 (d.tapes.2 t).recs.1 cap7):=hct 1 (by decide);have HCA:=hid c0;have CC:=zgA _ (d.tapes.2 t).recs hi wx.drew ((zae.slice 43).rd_below (B:=hi) g7 ⟨rfl,rfl,rfl,Nat.le_refl _,fun _ _=>rfl⟩ (Nat.le_refl _)) (show hi≤wx.heap.size by omega) (HNT.out t hlt)
     have CC:=CC.mono (R':=fun e w'=>∃ ra rc,e=.returned (.slice ra (d.tapes.2 t).recs.1 rc)∧OwnT (zae.slice 43) w' wx.drew.heap.size w'.heap.size (d.tapes.2 t).recs [.slice ra (d.tapes.2 t).recs.1 rc]∧Below wx.drew.heap.size wx.drew w') (fun e w' ⟨v5,he,o5,b5'⟩=>by
      obtain ⟨ra,rc,hv5⟩:=zbT o5;obtain rfl:=zaU hv5
      exact ⟨ra,rc,he,o5,b5'⟩)
     clear hel3 hct hrt g7 X5 G5 C5 T5;have KS:∀ w',Below (w.heap.size+1+1+1) wx w'→(w'.cell? ⟨w.heap.size,11,none⟩=some (.slice (some ⟨b3,off3,none⟩) d.tapes.1 cap3)∧w'.cell? ⟨b3,off3+t*2,none⟩=some (.bool (d.tapes.2 t).wiped)∧w'.cell? ⟨b3,off3+t*2+1,none⟩=some (.slice ao7 (d.tapes.2 t).recs.1 cap7)∧w'.cell? ⟨w.heap.size+1+1,11,none⟩=some (.slice ta t tc)):=fun w' hb=>⟨(hb.cell (p:=⟨w.heap.size,11,none⟩) (by show w.heap.size<w.heap.size+1+1+1;omega)).trans x11,(hb.cell (p:=⟨b3,off3+t*2,none⟩) (by show b3<w.heap.size+1+1+1;omega)).trans c0,(hb.cell (p:=⟨b3,off3+t*2+1,none⟩) (by show b3<w.heap.size+1+1+1;omega)).trans c1,(hb.cell (p:=⟨w.heap.size+1+1,11,none⟩) (Nat.lt_succ_self _)).trans e11⟩
     have i1:(0:Int)≤(t:Int):=by omega
     have i2:(t:Int)<(d.tapes.1:Int):=by omega
     go_upto_region 22 with fail
     refine zbs 19 (fun w'=>w'.cell? ⟨w.heap.size,11,none⟩=some (.slice (some ⟨b3,off3,none⟩) d.tapes.1 cap3)∧w'.cell? ⟨b3,off3+t*2,none⟩=some (.bool (d.tapes.2 t).wiped)∧w'.cell? ⟨b3,off3+t*2+1,none⟩=some (.slice ao7 (d.tapes.2 t).recs.1 cap7)∧w'.cell? ⟨w.heap.size+1+1,11,none⟩=some (.slice ta t tc)) (by kernel_rfl) (KS _ ⟨rfl,rfl,rfl,Nat.le_refl _,fun _ _=>rfl⟩) (fun hHeld=>?_);refine zl2 0 rfl ?_
     try simp only [Act.put,SL]
     refine zl2 1 rfl ?_
     try simp only [Act.put,SL]
     refine zl2 2 rfl ?_
     try simp only [Act.put,SL]
     refine zl2 3 rfl ?_
     try simp only [Act.put,SL]
     refine zl2 4 rfl ?_
     try simp only [Act.put,SL]
     refine zl2 5 rfl ?_
     try simp only [Act.put,SL]
     refine zl2 6 rfl ?_
     try simp only [Act.put,SL]
     refine zl2 7 rfl ?_
     try simp only [Act.put,SL]
     refine zl2 8 rfl ?_
     try simp only [Act.put,SL]
     refine zl2 9 rfl ?_
     try simp only [Act.put,SL]
     refine zl2 10 rfl ?_
     try simp only [Act.put,SL]
     refine zl2 11 rfl ?_
     try simp only [Act.put,SL]
     refine zl2 12 rfl ?_
     try simp only [Act.put,SL]
     refine zl2 13 rfl ?_
     try simp only [Act.put,SL]
     refine zat (i:=14) (o:=_) rfl (by kernel_rfl) (fun K hK=>?_)
     refine zaE rfl 61 _ _ rfl #[.slice ao7 (d.tapes.2 t).recs.1 cap7] ?_ Tryz.func61 (by kernel_rfl) (by kernel_rfl) CC ?_;(simp [Act.eval,Act.put]);rintro ee w5 ⟨ra,rc,rfl,o5,b5'⟩;have b5w:Below wx.heap.size wx w5:=⟨b5'.os,b5'.tape,b5'.output,b5'.size,b5'.block⟩;have T6:=HT5.out.call b5w;have q1:w5.cell? ⟨w.heap.size+1+1,11,none⟩=some (.slice ta t tc):=T6.b3.cell 11;have q3:=(zb8 w5 (.cells #[.bool (d.tapes.2 t).wiped,.slice ra (d.tapes.2 t).recs.1 rc] 103) (w.heap.size+1+1) 11 (by have:=b5w.size;omega)).trans q1;clear T6;refine ⟨_,rfl,?_⟩
     refine hK.out _ _ (KS _ (b5w.mono (by omega))) (fun hHeld=>?_);clear hK K
     try simp only [Act.put,SL]
     refine zl2 15 rfl ?_
     try simp only [Act.put,SL]
     refine zat (i:=16) (o:=_) rfl (by kernel_rfl) (fun K hK=>?_);go_simp;refine hK.out _ _ (KS _ ((b5w.mono (by omega)).alloc (by have:=b5w.size;omega) _)) (fun hHeld=>?_);clear hK K
     try simp only [Act.put,SL]
     refine zat (i:=17) (o:=_) rfl (by kernel_rfl) (fun K hK=>?_)
     refine zey zid rfl (.tmp 96) (.tmp 111) rfl (lo:=W4.heap.size) (n:=t) (v:=.slice ta t tc) (x:=d.tapes.2) ?_ HG5.out b5w (tape_of' o5) ?_ w5.heap.size 1 ?_ (fun j _=>zdo w5 _ _ j) (by omega) (by omega) ?_;(simp [Act.eval,Act.put]);(exact (Below.refl _ _).alloc (Nat.le_refl _) _);(simp [Act.eval,Act.put]);intro v4 w4 g4 b4;obtain ⟨ta4,tc4,rfl⟩:=g4.form;have X4:=HT5.out.b3.below b4 (by omega);have p1:w4.cell? ⟨w.heap.size+1+1,11,none⟩=some (.slice ta t tc):=X4.cell 11;have p2:w4.frozen? ⟨w.heap.size+1+1,11,none⟩=false:=X4.frozen 11
     refine hK.out _ _ (KS _ (b4.mono (by omega))) (fun hHeld=>?_);clear hK K
     try simp only [Act.put,SL]
     refine zat (i:=18) (o:=_) rfl (by kernel_rfl) (fun K hK=>?_);go_simp;refine hK.out _ _ (KS _ (b4.mono (by omega))) (fun hHeld=>?_);clear hK K
     try simp only [Act.put,SL]
     refine zbJ (o:=_) rfl (by kernel_rfl) (fun K hK=>?_);go_simp;refine hK.out _ _ ?_;clear hK K
     try simp only [Act.put,SL]
     refine zbK (by kernel_rfl) ?_ _;go_wp2
     go_roundw
     case rel=>exact ⟨t+1,ta4,tc4,by omega,by go_num,X4.stL [.slice ta4 (t+1) tc4] 11,(g4.set _ _ _ (by omega)).congr (fun i _=>by rw [zcz]),(HC5.out.after b4).st (w.heap.size+1+1) 11 _ (by simp)⟩
     case measure=>simp [intOf];omega
    ·obtain rfl:t=d.tapes.1:=by omega
     clear X5 e11
     have F0:OwnT zab wx (w.heap.size+1+1+1) wx.heap.size d (rwW d ga gc oa oc ta tc):=by
      have C5':=C5;clear T5 G5 C5;have F:OwnT zab wx (w.heap.size+1+1+1) wx.heap.size d ((rwS d.shape)++([.slice ga d.groups.1 gc]++([.slice oa d.on.1 oc]++([.slice ta d.tapes.1 tc]++([.int .i64 d.writes]++([.int .i64 d.stop]++[.bool d.down])))))):=OwnT.conv (OwnT.pre (A:=(zel 9)) (a:=d.shape) (c:=(rwS d.shape)) ⟨rfl,Q0.out,rfl⟩ (OwnT.two (HGO.out.chgl HC5.out (fun b hb=>by simp at hb;omega)) (OwnT.two (HO4.out.chgl HC5.out (fun b hb=>by simp at hb;omega)) (OwnT.two (HG5.out.own.weaken (show w2.heap.size≤W4.heap.size by omega) (Nat.le_refl _)) (OwnT.pre (A:=layI) (a:=d.writes) (c:=[.int .i64 d.writes]) ⟨rfl,Q4.out,rfl⟩ (OwnT.pre (A:=layI) (a:=d.stop) (c:=[.int .i64 d.stop]) ⟨rfl,Q5.out,rfl⟩ (OwnT.nil (A:=layB) (a:=d.down) (c:=[.bool d.down]) ⟨rfl,trivial,rfl⟩ wx.heap.size wx.heap.size))) (Nat.le_refl _) (by omega) (Nat.le_refl _)) (by omega) (by omega) (by omega)) (by omega) (by omega) (by omega)));exact F
     have HF:=hid F0;clear G5 C5
     go_wp2_with (first | (refine zaj 38 (.tmp 3) rfl rfl (w.heap.size+1+1) rfl T5.b3 Tryz.underlying38 zbd rfl ?_) | (refine zaF 38 _ _ rfl rfl (w.heap.size+1) rfl (cs:=(rwW d ga gc oa oc ta tc)) rfl T5.b2 zbd rfl rfl F0.one ?_;intro w9 X9 C9 z9))
     refine zbh Tryz.results23 rfl X9 Tryz.underlying38 zbd rfl rfl ?_;refine ⟨(rwW d ga gc oa oc ta tc),rfl,?_,?_⟩
     ·exact (HF.out.chgk C9 (fun b hb=>by simp at hb;omega)).weaken (by omega) C9.size
     ·exact T5.bel.trans (C9.bel (fun b hb=>by simp at hb;omega) T5.bel.size)
set_option maxRecDepth 20000 in
theorem zej (v0 v1 v2 v3 v4 v5 v6 v7 v8 vp0 vl0 vq0 vp1 vl1 vq1 vp2 vl2 vq2 v9 v10 vb:_) (b:Bool) (w:World) (h1:∀ x,x∈([.int .i64 v0,.int .i64 v1,.int .i64 v2,.int .i64 v3,.int .i64 v4,.int .i64 v5,.int .i64 v6,.int .i64 v7,.int .i64 v8,.slice vp0 vl0 vq0,.slice vp1 vl1 vq1,.slice vp2 vl2 vq2,.int .i64 v9,.int .i64 v10,.bool vb]:List Value)→x.oneCell'=true) :
 Calls Tryz.prog 25 #[.agg #[.int .i64 v0,.int .i64 v1,.int .i64 v2,.int .i64 v3,.int .i64 v4,.int .i64 v5,.int .i64 v6,.int .i64 v7,.int .i64 v8,.slice vp0 vl0 vq0,.slice vp1 vl1 vq1,.slice vp2 vl2 vq2,.int .i64 v9,.int .i64 v10,.bool vb],.bool b] w fun e w'=>e=.returned (.agg #[.int .i64 (if b=true then 0 else 9),.int .i64 v0,.int .i64 v1,.int .i64 v2,.int .i64 v3,.int .i64 v4,.int .i64 v5,.int .i64 v6,.int .i64 v7,.int .i64 v8,.slice vp0 vl0 vq0,.slice vp1 vl1 vq1,.slice vp2 vl2 vq2,.int .i64 v9,.int .i64 v10,.bool vb])∧Below w.heap.size w w':=by
 have T0:=zaC w (rwV v0 v1 v2 v3 v4 v5 v6 v7 v8 vp0 vl0 vq0 vp1 vl1 vq1 vp2 vl2 vq2 v9 v10 vb).toArray rwZ.toArray 38 40
 have o0:∀ c:Int,∀ x,x∈((.int .i64 c::rwV v0 v1 v2 v3 v4 v5 v6 v7 v8 vp0 vl0 vq0 vp1 vl1 vq1 vp2 vl2 vq2 v9 v10 vb):List Value)→x.oneCell'=true:=fun c x hx=>by
  rcases List.mem_cons.1 hx with rfl | h
  ·rfl
  ·exact h1 x h
 clear h1
 cases b with
 | true=>
  go_enter Tryz.func25,Tryz.ntmps25
  go_wp2_with (first | (refine zaj 38 (.tmp 2) rfl rfl (w.heap.size) rfl (T0.b1) Tryz.underlying38 zbd rfl ?_) | (refine zaF 40 _ _ rfl rfl (w.heap.size+1) rfl (cs:=(.int .i64 0::rwV v0 v1 v2 v3 v4 v5 v6 v7 v8 vp0 vl0 vq0 vp1 vl1 vq1 vp2 vl2 vq2 v9 v10 vb)) rfl T0.b2 zau rfl rfl (o0 0) ?_;intro w9 X9 C9 z9))
  refine zbh Tryz.results25 rfl X9 Tryz.underlying40 zau rfl rfl ?_;exact ⟨rfl,T0.bel.trans (C9.bel (fun b hb=>by simp at hb;omega) T0.bel.size)⟩
 | false=>
  go_enter Tryz.func25,Tryz.ntmps25
  go_wp2_with (first | (refine zaj 38 (.tmp 2) rfl rfl (w.heap.size) rfl (T0.b1) Tryz.underlying38 zbd rfl ?_) | (refine zaF 40 _ _ rfl rfl (w.heap.size+1) rfl (cs:=(.int .i64 9::rwV v0 v1 v2 v3 v4 v5 v6 v7 v8 vp0 vl0 vq0 vp1 vl1 vq1 vp2 vl2 vq2 v9 v10 vb)) rfl T0.b2 zau rfl rfl (o0 9) ?_;intro w9 X9 C9 z9))
  refine zbh Tryz.results25 rfl X9 Tryz.underlying40 zau rfl rfl ?_;exact ⟨rfl,T0.bel.trans (C9.bel (fun b hb=>by simp at hb;omega) T0.bel.size)⟩
theorem SpB.below {w w':World} {B:Nat} {d:WorldD} {K:List Nat} (h:SpB w B d K) (hb:Below w.heap.size w w'):SpB w' B d K:=by
 obtain ⟨cs,h1,h2⟩:=h;exact ⟨cs,h1.below hb h1.lt,Lay.own_kept _ h2.own (fun b hk=>hb.block b (zab.own_lt h2.own b hk)),h2.nd,h2.ne⟩
theorem SpB.Klt {w:World} {B:Nat} {d:WorldD} {K:List Nat} (h:SpB w B d K):∀ b,b∈K→b<w.heap.size:=by
 obtain ⟨cs,_,h2⟩:=h;exact fun b hb=>zab.own_lt h2.own b hb
end Go.Proofs.YtlpbohnadenacaaGreat
