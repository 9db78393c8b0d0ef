/- A raw write at which power fails. -/
import Derived.Test.YtaccmgakckpofaaGreatZPstrikah
set_option linter.unusedVariables false
set_option linter.unusedSimpArgs false
set_option maxHeartbeats 16000000
namespace Go.Proofs.YtaccmgakckpofaaGreat
open Go.RowKit F256
set_option maxRecDepth 100000 in
theorem zeZ (E:Nat) (v0 v1 v2 v3 v4 v5 v6 v7 v8 vp0 vl0 vq0 vp1 vl1 vq1 vp2 vl2 vq2 v9 v10 vb:_) (fv:Value) (w:World) (hX:Box w E #[.int .i32 0,.int .u32 0,.int .u32 0,.int .i32 0,.int .u32 0,.int .i64 v0,.int .i64 v1,.int .i64 v2,.int .i64 v3,.int .i64 v4,.int .i64 v5,.int .i64 v6,.int .i64 v7,.int .i64 v8,.slice vp0 vl0 vq0,.slice vp1 vl1 vq1,.slice vp2 vl2 vq2,.int .i64 v9,.int .i64 v10,.bool vb] 129) (h1:∀ x,x∈([.int .i64 v0,.int .i64 v1,.int .i64 v2,.int .i64 v3,.int .i64 v4,.int .i64 v5,.int .i64 v6,.int .i64 v7,.int .i64 v8,.slice vp0 vl0 vq0,.slice none 0 0,.slice vp2 vl2 vq2,.int .i64 v9,.int .i64 v10,.bool true]:List Value)→x.oneCell'=true) (hs:v10≠-1) (hw:v10≤v9) :
 Calls Tryz.prog 129 #[.pointer (some ⟨E,0,none⟩),fv] w fun e w'=>e=.panicked [{ v:=.iface 177 (.agg #[]),recovered:=false }]∧Box w' E #[.int .i32 0,.int .u32 0,.int .u32 1,.int .i32 0,.int .u32 0,.int .i64 v0,.int .i64 v1,.int .i64 v2,.int .i64 v3,.int .i64 v4,.int .i64 v5,.int .i64 v6,.int .i64 v7,.int .i64 v8,.slice vp0 vl0 vq0,.slice none 0 0,.slice vp2 vl2 vq2,.int .i64 v9,.int .i64 v10,.bool true] 129∧ChgL [E] w w':=by
 have d1:(v10 != -1)=true:=by simpa using hs
 have d2:decide (v10≤v9)=true:=by simpa using hw
 have H1:=hid h1;clear hs hw h1;have hE:E<w.heap.size:=hX.lt;have hmf:∀ (fn:Fn) (first cap:Array Value) (w:World),(Instr.makeFunc fn first cap).run Tryz.prog w=.ok (.func fn first cap) w:=fun _ _ _ _=>rfl;have bA:=bAl w (.cells #[.pointer (some ⟨E,0,none⟩)] 112);have P1:=zaA w #[.pointer (some ⟨E,0,none⟩)] 112;have X1:=hX.below bA hE
 go_enter_defers Tryz.func129,Tryz.ntmps129
 go_upto_region 1 with fail
 obtain ⟨W1,hW1⟩:∃ x,x=w.alloc (.cells #[.pointer (some ⟨E,0,none⟩)] 112):=⟨_,rfl⟩;rw [← hW1] at bA P1 X1 ⊢
 have zW:W1.heap.size=w.heap.size+1:=by rw [hW1];simp
 clear hW1;have hp1:W1.cell? ⟨w.heap.size,0,none⟩=some (.pointer (some ⟨E,0,none⟩)):=P1.cell 0;have c0:W1.cell? ⟨E,0,none⟩=some (.int .i32 0):=X1.cell 0;have f0:W1.frozen? ⟨E,0,none⟩=false:=X1.frozen 0;have X2:Box (W1.setCell ⟨E,0,none⟩ (.int .i32 1)) E #[.int .i32 1,.int .u32 0,.int .u32 0,.int .i32 0,.int .u32 0,.int .i64 v0,.int .i64 v1,.int .i64 v2,.int .i64 v3,.int .i64 v4,.int .i64 v5,.int .i64 v6,.int .i64 v7,.int .i64 v8,.slice vp0 vl0 vq0,.slice vp1 vl1 vq1,.slice vp2 vl2 vq2,.int .i64 v9,.int .i64 v10,.bool vb] 129:=X1.setc 0 _;have P2:Box (W1.setCell ⟨E,0,none⟩ (.int .i32 1)) w.heap.size #[.pointer (some ⟨E,0,none⟩)] 112:=P1.seto 0 _ (by omega);have C2':ChgL [E] w (W1.setCell ⟨E,0,none⟩ (.int .i32 1)):=(ChgL.of_below bA).st _ 0 _ (by simp)
 go_upto_region 2 with (go_at_call 156;refine (zdL ⟨E,0,none⟩ _ c0 f0).mono ?_;rintro e w' ⟨rfl,rfl⟩)
 obtain ⟨W2,hW2⟩:∃ x,x=W1.setCell ⟨E,0,none⟩ (.int .i32 1):=⟨_,rfl⟩;rw [← hW2] at X2 P2 C2' ⊢
 have z2:W2.heap.size=w.heap.size+1:=by rw [hW2];simpa using zW
 clear hW2 hp1 c0 f0 X1 P1 bA hX;have hp2:W2.cell? ⟨w.heap.size,0,none⟩=some (.pointer (some ⟨E,0,none⟩)):=P2.cell 0;have x17:W2.cell? ⟨E,17,none⟩=some (.int .i64 v9):=X2.cell 17;have x18:W2.cell? ⟨E,18,none⟩=some (.int .i64 v10):=X2.cell 18
 go_upto_region 3 with fail
 go_quiet (fail)
 go_upto_region 4 with fail
 obtain ⟨W3,hW3⟩:∃ x,x=W2.drewN nq:=⟨_,rfl⟩;rw [← hW3]
 have X3:Box W3 E #[.int .i32 1,.int .u32 0,.int .u32 0,.int .i32 0,.int .u32 0,.int .i64 v0,.int .i64 v1,.int .i64 v2,.int .i64 v3,.int .i64 v4,.int .i64 v5,.int .i64 v6,.int .i64 v7,.int .i64 v8,.slice vp0 vl0 vq0,.slice vp1 vl1 vq1,.slice vp2 vl2 vq2,.int .i64 v9,.int .i64 v10,.bool vb] 129:=by rw [hW3];exact X2
 have P3:Box W3 w.heap.size #[.pointer (some ⟨E,0,none⟩)] 112:=by rw [hW3];exact P2
 have C3':ChgL [E] w W3:=by rw [hW3];exact ⟨C2'.os,C2'.tape,C2'.output,C2'.size,C2'.block⟩
 have z3:W3.heap.size=w.heap.size+1:=by rw [hW3];exact z2
 have hp3:W3.cell? ⟨w.heap.size,0,none⟩=some (.pointer (some ⟨E,0,none⟩)):=P3.cell 0;clear hW3 X2 P2 C2' z2 hp2 x17 x18
 go_wp2_with (go_at_call 158;refine (ziv E w.heap.size 1 v0 v1 v2 v3 v4 v5 v6 v7 v8 vp0 vl0 vq0 vp1 vl1 vq1 vp2 vl2 vq2 v9 v10 vb _ hp3 (by omega) (by omega) X3 H1.out).mono ?_;rintro e w5 ⟨rfl,X5,C5⟩)
 refine leaves_cons (f:=157) (args:=#[.pointer (some ⟨E,0,none⟩)]) (by simp) (by simp [go_sem]) ?_;refine (zcp ⟨E,0,none⟩ _ _ (X5.cell 0) (X5.frozen 0)).mono ?_;rintro e u' w'' ⟨rfl,rfl,rfl⟩;have X6:Box (w5.setCell ⟨E,0,none⟩ (.int .i32 0)) E #[.int .i32 0,.int .u32 0,.int .u32 1,.int .i32 0,.int .u32 0,.int .i64 v0,.int .i64 v1,.int .i64 v2,.int .i64 v3,.int .i64 v4,.int .i64 v5,.int .i64 v6,.int .i64 v7,.int .i64 v8,.slice vp0 vl0 vq0,.slice none 0 0,.slice vp2 vl2 vq2,.int .i64 v9,.int .i64 v10,.bool true] 129:=X5.setc 0 _;have C6:ChgL [E] w (w5.setCell ⟨E,0,none⟩ (.int .i32 0)):=(C3'.trans C5).st _ 0 _ (by simp)
 simp only [Leaves,settle]
 exact ⟨trivial,X6,C6⟩
theorem zcY {w:World} {d:WorldD} {c0 c1 c2 c3 c4 c5 c6 c7 c8 c9 c10 c11 c12 c13 c14:Value} {K:List Nat} (n:Int) (hn:-9223372036854775808≤n∧n≤9223372036854775807) (h:zac.own w d [c0,c1,c2,c3,c4,c5,c6,c7,c8,c9,c10,c11,c12,c13,c14] K):zac.own w { d with writes:=n } [c0,c1,c2,c3,c4,c5,c6,c7,c8,c9,c10,c11,.int .i64 n,c13,c14] K:=by
 obtain ⟨a1,b1,a2,b2,a3,b3,K1,K2,K3,e,hM,o1,o2,o3,k0,k4,k5⟩:=zbH h
 simp only [List.cons.injEq,and_true] at e
 obtain ⟨rfl,rfl,rfl,rfl,rfl,rfl,rfl,rfl,rfl,rfl,rfl,rfl,rfl,rfl,rfl⟩:=e;subst hM;exact zc9 { d with writes:=n } o1 o2 o3 k0 hn k5
theorem zdh {w:World} {d:WorldD} {c0 c1 c2 c3 c4 c5 c6 c7 c8 c9 c10 c11 c13 c14:Value} {n:Int} {K:List Nat} (h:zac.own w d [c0,c1,c2,c3,c4,c5,c6,c7,c8,c9,c10,c11,.int .i64 n,c13,c14] K):n=d.writes:=by
 obtain ⟨a1,b1,a2,b2,a3,b3,K1,K2,K3,e,_⟩:=zbH h
 simp only [List.cons.injEq,Value.int.injEq,true_and,and_true] at e
 exact e.2.2.2.2.2.2.2.2.2.2.2.2.1
theorem ziw {w:World} {d:WorldD} {c0 c1 c2 c3 c4 c5 c6 c7 c8 c9 c10 c11 c12 c14:Value} {n:Int} {K:List Nat} (h:zac.own w d [c0,c1,c2,c3,c4,c5,c6,c7,c8,c9,c10,c11,c12,.int .i64 n,c14] K):n=d.stop:=by
 obtain ⟨a1,b1,a2,b2,a3,b3,K1,K2,K3,e,_⟩:=zbH h
 simp only [List.cons.injEq,Value.int.injEq,true_and,and_true] at e
 exact e.2.2.2.2.2.2.2.2.2.2.2.2.2.1
theorem EncO.chg {w w':World} {E:Nat} {d:WorldD} {cs:List Value} {K:List Nat} (h:EncO w E d cs K) (hc:ChgL [E] w w'):EncO w' E d cs K:=⟨Lay.own_chgL _ h.own hc (fun b hb hbE=>by simp only [List.mem_singleton] at hbE;subst hbE;exact h.ne hb),h.nd,h.ne⟩
theorem Two.chgK {w wc w':World} {c1 c2:Array Value} {t1 t2:TypeId} {K:List Nat} (h:Two w wc c1 c2 t1 t2) (hc:ChgL K wc w') (hK:∀ b,b∈K→w.heap.size+1<b):Two w w' c1 c2 t1 t2:=
 ⟨h.b1.chgl hc (fun hb=>by have:=hK _ hb;omega),h.b2.chgl hc (fun hb=>by have:=hK _ hb;omega),h.bel.trans (hc.bel (fun b hb=>by have:=hK b hb;omega) h.bel.size)⟩
section
variable {α:Type} {E:Lay α} {t:TypeId} {w w':World} {g cap n:Nat} {x:Nat→α} {ce:Nat→List Value} {Ls:Nat→List Nat}
theorem SlO.turn_cell {w1:World} (h:SlO E t w g cap n x ce Ls) (nd:(g::catN n Ls).Nodup) {i j:Nat} (hi:i<n) (hj:j<E.sz) {a':α} (u:Value) {K':List Nat} (ht:Turn E w (Ls i) w1 a' ((ce i).set j u) K') (hw:w'=w1.setCell ⟨g,i*E.sz+j,none⟩ u) :
 Turn (E.slice t) w (g::catN n Ls) w' (n,upd x i a') [.slice (some ⟨g,0,none⟩) n cap] (g::catN n (upd Ls i K'))∧SlO E t w' g cap n (upd x i a') (upd ce i ((ce i).set j u)) (upd Ls i K'):=by
 subst hw;have hgi:g∉Ls i:=fun hb=>(List.nodup_cons.1 nd).1 (zax.2 ⟨i,hi,hb⟩);have nd':=zi2 (g:=g) hi nd h.mem_lt ht.nd ht.sub
 have row1:w1.ownsRow 0 t E.sz (.slice (some ⟨g,0,none⟩) n cap) n (catN n ce):=by
  refine ⟨h.row.1,?_⟩
  rcases h.row.2 with ⟨hn,_⟩ | ⟨g',cap',cur,he,hbg,hgg,rest⟩
  ·cases hn
  ·cases he
   exact .inr ⟨g,cap,cur,rfl,hbg,(ht.chg.block g h.lt hgi).trans hgg,rest⟩
 have hgK:∀ b,b∈catN n (upd Ls i K')→b≠g:=fun b hb hh=>by
  subst hh;exact (List.nodup_cons.1 nd').1 hb
 have hO:SlO E t (w1.setCell ⟨g,i*E.sz+j,none⟩ u) g cap n (upd x i a') (upd ce i ((ce i).set j u)) (upd Ls i K'):=by
  refine ⟨?_,fun k hk=>?_⟩
  ·have:=(row1.stored (i*E.sz+j) u).1
   rw [zgX h.lens hi hj] at this;exact this
  ·have own1:E.own w1 (upd x i a' k) (upd ce i ((ce i).set j u) k) (upd Ls i K' k):=by
    by_cases c:k=i
    ·subst c;rw [zaT,zaT,zaT];exact ht.own
    ·rw [zaW x a' c,zaW ce _ c,zaW Ls K' c]
     exact E.own_chgL (h.each k hk) ht.chg (fun b hb=>zcy (List.nodup_cons.1 nd).2 hi hk c hb)
   exact E.own_kept own1 (fun b hb=>heap_setCell_other w1 _ b u (hgK b (zax.2 ⟨k,hk,hb⟩)))
 have c1:ChgL (g::catN n Ls) w w1:=ht.chg.mono (SlO.sub i hi);exact ⟨⟨hO.own,nd',fun b hb=>by simpa using zjz hi ht.sub b hb,c1.st g _ u (List.mem_cons_self ..)⟩,hO⟩
end
theorem EncO.open {w:World} {E:Nat} {d:WorldD} {cs:List Value} {K:List Nat} (h:EncO w E d cs K):∃ p1 c1 p2 c2 p3 c3 K1 K2 K3,cs=[.int .i64 (d.shape 0),.int .i64 (d.shape 1),.int .i64 (d.shape 2),.int .i64 (d.shape 3),.int .i64 (d.shape 4),.int .i64 (d.shape 5),.int .i64 (d.shape 6),.int .i64 (d.shape 7),.int .i64 (d.shape 8),.slice p1 d.groups.1 c1,.slice p2 d.on.1 c2,.slice p3 d.tapes.1 c3,.int .i64 d.writes,.int .i64 d.stop,.bool d.down]∧K=K1++(K2++K3)∧WOpen w 0 w.heap.size d (.slice p1 d.groups.1 c1) (.slice p2 d.on.1 c2) (.slice p3 d.tapes.1 c3) K1 K2 K3:=by
 obtain ⟨a1,b1,a2,b2,a3,b3,K1,K2,K3,e,hM,o1,o2,o3,k0,k4,k5⟩:=zbH h.own;have hl:=fun b hb=>zac.own_lt h.own b hb;have nd:=h.nd;subst hM
 simp only [List.append_nil] at nd hl
 exact ⟨a1,b1,a2,b2,a3,b3,K1,K2,K3,e,by simp,o1,o2,o3,nd,fun b hb=>⟨Nat.zero_le _,hl b hb⟩,k0,k4,k5⟩
theorem WOpen.encO {w:World} {lo hi E:Nat} {d:WorldD} {p1 p2 p3:Option Addr} {c1 c2 c3:Nat} {K1 K2 K3:List Nat} (h:WOpen w lo hi d (.slice p1 d.groups.1 c1) (.slice p2 d.on.1 c2) (.slice p3 d.tapes.1 c3) K1 K2 K3) (hE:E∉K1++(K2++K3)):EncO w E d [.int .i64 (d.shape 0),.int .i64 (d.shape 1),.int .i64 (d.shape 2),.int .i64 (d.shape 3),.int .i64 (d.shape 4),.int .i64 (d.shape 5),.int .i64 (d.shape 6),.int .i64 (d.shape 7),.int .i64 (d.shape 8),.slice p1 d.groups.1 c1,.slice p2 d.on.1 c2,.slice p3 d.tapes.1 c3,.int .i64 d.writes,.int .i64 d.stop,.bool d.down] (K1++(K2++(K3++[]))):=
 ⟨zc9 d h.g h.o h.t h.k0 h.k4 h.k5,by simpa using h.nd,by simpa using hE⟩
def zaz (kd sq:Int) (r:RecD):Bool:=!(r.kind==kd&&r.seq==sq)
def zav (p:Nat→Bool) (n:Nat):List Nat:=(List.range n).filter p
theorem zbu (p:Nat→Bool) (n:Nat):zav p (n+1)=zav p n++(if p n then [n] else []):=by
 unfold zav;rw [List.range_succ,List.filter_append]
 cases h:p n<;>simp [h]
theorem zjB {p:Nat→Bool} {n i:Nat} (h:i∈zav p n):i<n:=by
 unfold zav at h;exact List.mem_range.1 (List.mem_filter.1 h).1
theorem zgJ (p:Nat→Bool) (n:Nat):(zav p n).length≤n:=by
 have:=List.length_filter_le p (List.range n);unfold zav
 simpa using this
theorem zhK (p:Nat→Bool) (n:Nat):(zav p n).Nodup:=List.Pairwise.filter _ List.nodup_range
def selF (p:Nat→Bool) (n:Nat):Nat→Nat:=fun m=>(zav p n).getD m 0
theorem zi4 {p:Nat→Bool} {n m:Nat} (h:m<(zav p n).length):selF p n m∈zav p n:=by
 unfold selF;rw [List.getD_eq_getElem?_getD,List.getElem?_eq_getElem h];exact List.getElem_mem h
theorem zcZ {p:Nat→Bool} {n m:Nat} (h:m<(zav p n).length):selF p n m<n:=zjB (zi4 h)
theorem zi5 {p:Nat→Bool} {n a b:Nat} (ha:a<(zav p n).length) (hb:b<(zav p n).length) (h:selF p n a=selF p n b):a=b:=by
 unfold selF at h;rw [List.getD_eq_getElem?_getD,List.getD_eq_getElem?_getD,List.getElem?_eq_getElem ha,List.getElem?_eq_getElem hb] at h;have hp:=List.pairwise_iff_getElem.1 (zhK p n)
 rcases Nat.lt_trichotomy a b with c | c | c
 ·exact absurd h (hp a b ha hb c)
 ·exact c
 ·exact absurd h.symm (hp b a hb ha c)
theorem zce {p:Nat→Bool} {n m:Nat} (h:m<(zav p n).length):selF p (n+1) m=selF p n m:=by
 unfold selF;rw [zbu,List.getD_eq_getElem?_getD,List.getD_eq_getElem?_getD,List.getElem?_append_left h]
theorem zd9 {p:Nat→Bool} {n:Nat} (h:p n=true):selF p (n+1) (zav p n).length=n:=by
 unfold selF;rw [zbu,List.getD_eq_getElem?_getD,List.getElem?_append_right (Nat.le_refl _),Nat.sub_self,if_pos h];rfl
theorem zix {β:Type} {p:Nat→Bool} {n:Nat} {ce:Nat→List β} (h:p n=true):catN (zav p (n+1)).length (fun i=>ce (selF p (n+1) i))=catN (zav p n).length (fun i=>ce (selF p n i))++ce n:=by
 have e:(zav p (n+1)).length=(zav p n).length+1:=by rw [zbu,if_pos h];simp
 rw [e,za2,za9 (g:=fun i=>ce (selF p n i)) (fun i hi=>by rw [zce hi])];rw [zd9 h]
theorem zcf {p:Nat→Bool} {n:Nat} (h:p n=false):zav p (n+1)=zav p n:=by rw [zbu,if_neg (by simp [h])];simp
section
variable {α:Type} {E:Lay α} {t:TypeId} {w w':World} {g cap n:Nat} {x:Nat→α} {ce:Nat→List Value} {Ls:Nat→List Nat}
theorem SlO.select (h:SlO E t w g cap n x ce Ls) (nd:(g::catN n Ls).Nodup) {p:Nat→Bool} {v:Value} (hr:w'.ownsRow 0 t E.sz v (zav p n).length (catN (zav p n).length (fun i=>ce (selF p n i)))) (hv:∀ b,v.ownBlock=some b→b=g∨w.heap.size≤b) (hk:∀ b,b∈catN n Ls→w'.heap[b]?=w.heap[b]?) :
 (E.slice t).own w' ((zav p n).length,fun i=>x (selF p n i)) [v] (v.ownBlock.toList++catN (zav p n).length (fun i=>Ls (selF p n i)))∧(v.ownBlock.toList++catN (zav p n).length (fun i=>Ls (selF p n i))).Nodup∧∀ b,b∈v.ownBlock.toList++catN (zav p n).length (fun i=>Ls (selF p n i))→b∈g::catN n Ls∨(w.heap.size≤b∧b<w'.heap.size):=by
 obtain ⟨n1,n2⟩:=List.nodup_cons.1 nd
 have hin:∀ b,b∈catN (zav p n).length (fun i=>Ls (selF p n i))→b∈catN n Ls:=fun b hb=>by
  obtain ⟨i,hi,hb⟩:=zax.1 hb;exact zax.2 ⟨selF p n i,zcZ hi,hb⟩
 refine ⟨⟨v,fun i=>ce (selF p n i),fun i=>Ls (selF p n i),rfl,rfl,hr,fun i hi=>?_⟩,?_,fun b hb=>?_⟩
 ·exact E.own_kept (h.each _ (zcZ hi)) (fun b hb=>hk b (zax.2 ⟨_,zcZ hi,hb⟩))
 ·refine List.nodup_append.2 ⟨by cases v.ownBlock<;>simp,zex (fun k hk'=>zdf n2 (zcZ hk')) (fun k j hk' hj hne b hb=>zcy n2 (zcZ hj) (zcZ hk') (fun e=>hne (zi5 hk' hj e)) hb),fun a ha b hb hab=>?_⟩
  subst hab
  have ha':v.ownBlock=some a:=by simpa using ha
  rcases hv a ha' with e | e
  ·subst e;exact n1 (hin _ hb)
  ·have:=h.mem_lt a (List.mem_cons_of_mem _ (hin _ hb));omega
 ·rcases List.mem_append.1 hb with hb | hb
  ·have hb':v.ownBlock=some b:=by simpa using hb
   rcases hv b hb' with e | e
   ·exact .inl (by rw [e];exact List.mem_cons_self ..)
   ·exact .inr ⟨e,(hr.lt b hb').2⟩
  ·exact .inl (List.mem_cons_of_mem _ (hin b hb))
end
def za5 (p:Nat×(Nat→RecD)) (kd sq:Int):Nat×(Nat→RecD):=((zav (fun i=>zaz kd sq (p.2 i)) p.1).length,fun m=>p.2 (selF (fun i=>zaz kd sq (p.2 i)) p.1 m))
def zc0 (x:TapeD) (kd sq:Int):TapeD:={ x with recs:=za5 x.recs kd sq }
theorem OwnI.full {w:World} {lo hi g n:Nat} {f:Nat→Int} (h:OwnI w lo hi (.slice (some ⟨g,0,none⟩) n n) n f):w.heap[g]?=some (.cells (za1 n f).toArray 2 (0,0)):=by
 rcases h.1.2 with ⟨h',_⟩ | ⟨g',cap',cur,h',_,hg,_,_,hcs,htake⟩
 ·simp at h'
 ·simp only [Value.slice.injEq,Option.some.injEq,Addr.mk.injEq,and_true,true_and] at h'
  obtain ⟨rfl,rfl⟩:=h'
  have:cur=(za1 n f).toArray:=by
   rw [← htake,List.take_of_length_le (by simp;omega)]
  rw [← this];exact hg
theorem zfM {w:World} {lo g n:Nat} {f:Nat→Int} (hg:w.heap[g]?=some (.cells (za1 n f).toArray 2 (0,0))) (hlo:lo≤g) (hm:n≤maxLen):OwnI w lo w.heap.size (.slice (some ⟨g,0,none⟩) n n) n f:=
 ⟨⟨by rw [zao];omega,.inr ⟨g,n,_,rfl,hlo,hg,Nat.le_refl _,hm,by simp [zao],by simp [List.take_of_length_le,zao]⟩⟩,fun k hk=>by
  simp [Value.ownBlock] at hk
  subst hk
  exact (Array.getElem?_eq_some_iff.1 hg).1⟩
theorem zgK (N off m:Nat) (f t h:Nat→Int) (hm:off+m≤N) (hh:∀ i,i<N→h i=if off≤i∧i<off+m then t (i-off) else f i):splice (za1 N f) off (za1 m t)=za1 N h:=by
 unfold splice
 apply List.ext_getElem?
 intro i
 by_cases hi:i<N
 ·rw [za8 N h i hi,hh i hi]
  by_cases h1:i<off
  ·have e1:¬ (off≤i∧i<off+m):=by omega
   rw [if_neg e1,List.getElem?_append_left (by rw [List.length_take,zao];omega),List.getElem?_take,if_pos h1,za8 N f i hi]
  ·rw [List.getElem?_append_right (by rw [List.length_take,zao];omega)]
   have e0:(List.take off (za1 N f)).length=off:=by rw [List.length_take,zao];omega
   rw [e0]
   by_cases h2:i<off+m
   ·rw [if_pos ⟨by omega,h2⟩,List.getElem?_append_left (by rw [zao];omega),za8 m t _ (by omega)]
   ·have e1:¬ (off≤i∧i<off+m):=by omega
    rw [if_neg e1,List.getElem?_append_right (by rw [zao];omega),zao,List.getElem?_drop,show off+m+(i-off-m)=i by omega,za8 N f i hi]
 ·rw [List.getElem?_eq_none (by simp [zao];omega),List.getElem?_eq_none (by rw [zao];omega)]
theorem zfN {w:World} {hi n cap:Nat} {ao:Option Addr} {f:Nat→Int} (r:RdI w hi (.slice ao n cap) n f) (h:0<(za1 n f).length):∃ ad,ao=some ad∧∀ j v,(za1 n f)[j]?=some v→w.cell? (ad.add j)=some v:=by
 rw [zao] at h;obtain ⟨ao',cap',he,_,hc⟩:=r
 simp only [Value.slice.injEq,true_and] at he
 obtain ⟨rfl,rfl⟩:=he;obtain ⟨b,off,rfl,_,hcell⟩:=hc (by omega);refine ⟨_,rfl,fun j v hj=>?_⟩
 by_cases hjn:j<n
 ·rw [za8 n f j hjn] at hj
  rw [add_none',hcell j hjn];exact hj
 ·rw [List.getElem?_eq_none (by rw [zao];omega)] at hj
  cases hj
theorem zeA (n:Nat) (f:Nat→Int):∀ v∈za1 n f,v.oneCell'=true:=fun v hv=>by
 simp only [za1,List.mem_map] at hv
 obtain ⟨i,_,rfl⟩:=hv;rfl
theorem zi6:(Tryz.prog.info? 2).map (·.size)=some 1:=by kernel_rfl
theorem zjk {w:World} {lo hi n:Nat} {v:Value} {f:Nat→Int} (h:OwnI w lo hi v n f) (hh:hi≤w.heap.size) (kf:∀ i,-9223372036854775808≤f i∧f i≤9223372036854775807):OwnT zai w lo hi (n,f) [v]:=by
 refine ⟨v.ownBlock.toList,⟨v,rfl,rfl,h.weaken (Nat.zero_le _) hh,kf⟩,?_,fun b hb=>?_⟩
 ·cases v.ownBlock<;>simp
 ·have hb':v.ownBlock=some b:=by simpa using hb
  exact ⟨(h.1.lt b hb').1,h.2 b hb'⟩
def ToF {α:Type} (A:Lay α) (sz:α→Nat) (fn g:Nat):Prop:=∀ (v:Value) (d:α) (hi:Nat) (w:World),A.rd w hi d [v]→hi≤w.heap.size→sz d≤1048576→
 Calls Tryz.prog fn #[v,.func (.func g) #[] #[]] w fun e w'=>∃ v',e=.returned v'∧OwnT A w' w.heap.size w'.heap.size d [v']∧Below w.heap.size w w'
theorem zcJ:ToS zae lenD 169:=fun v d hi w h hhi hn=>by
 obtain ⟨n,f⟩:=d;obtain ⟨v',e1,r1,kf⟩:=h
 cases e1
 simp only at r1 kf
 skip
 have hn':n≤1048576:=hn;clear hn;have R1:=fun (w1:World) (hb:Below w.heap.size w w1)=>r1.below hb hhi;obtain ⟨ao,cap,rfl,hm1,hc1⟩:=r1;clear hc1;have HS:Hid (splice (cellsOf n fun _=>0) 0 (cellsOf n f)=cellsOf n f):=zfo n 0 n _ f f (by omega) (fun i hi=>by simp [hi])
 have L1:(cellsOf n f).length=Nat.min n n:=by rw [zal];exact (Nat.min_self n).symm
 have L2:0+(cellsOf n f).length≤(cellsOf n fun _=>0).length:=by simp [zal]
 have HL1:=hid L1;have HL2:=hid L2;clear L1 L2
 go_enter Tryz.func169,Tryz.ntmps169
 go_wp2_with (first | (at_make;refine zgU _ rfl _ _ rfl _ _ n rfl rfl (by simp) (by simp) (by omega) ?_;intro w1 hown1 hb1 hz1) | (refine wpList_copy_splice rfl (.tmp 7) (.tmp 8) 29 29 rfl 5 Tryz.underlying29 zjr (some ⟨w.heap.size,0,none⟩) ao n n n cap rfl rfl w.heap.size 0 (cellsOf n fun _=>0) 5 hown1.full (cellsOf n f) HL1.out (fun hp=>⟨rfl,zg3 (R1 w1 hb1) hp⟩) HL2.out (zdY n f) w.heap.size w hb1 (Nat.le_refl _) ?_;intro w2 hF2 hb2))
 go_ret;have F2:=hF2.out;rw [HS.out] at F2;exact ⟨_,rfl,zjh (zgf F2 (Nat.le_refl _) (by unfold maxLen;omega)) (Nat.le_refl _) kf,hb2⟩
theorem zea:ToS zai lenD 148:=fun v d hi w h hhi hn=>by
 obtain ⟨n,f⟩:=d;obtain ⟨v',e1,r1,kf⟩:=h
 cases e1
 simp only at r1 kf
 replace r1:=r1.1;have hn':n≤1048576:=hn;clear hn;have R1:=fun (w1:World) (hb:Below w.heap.size w w1)=>r1.below hb hhi;obtain ⟨ao,cap,rfl,hm1,hc1⟩:=r1;clear hc1;have HS:Hid (splice (za1 n fun _=>0) 0 (za1 n f)=za1 n f):=zgK n 0 n _ f f (by omega) (fun i hi=>by simp [hi])
 have L1:(za1 n f).length=Nat.min n n:=by rw [zao];exact (Nat.min_self n).symm
 have L2:0+(za1 n f).length≤(za1 n fun _=>0).length:=by simp [zao]
 have HL1:=hid L1;have HL2:=hid L2;clear L1 L2
 go_enter Tryz.func148,Tryz.ntmps148
 go_wp2_with (first | (at_make;refine zgW _ rfl _ _ rfl _ _ n rfl rfl (by simp) (by simp) (by omega) ?_;intro w1 hown1 hb1 hz1) | (refine wpList_copy_splice rfl (.tmp 7) (.tmp 8) 25 25 rfl 2 Tryz.underlying25 zi6 (some ⟨w.heap.size,0,none⟩) ao n n n cap rfl rfl w.heap.size 0 (za1 n fun _=>0) 2 hown1.full (za1 n f) HL1.out (fun hp=>⟨rfl,zfN (R1 w1 hb1) hp⟩) HL2.out (zeA n f) w.heap.size w hb1 (Nat.le_refl _) ?_;intro w2 hF2 hb2))
 go_ret;have F2:=hF2.out;rw [HS.out] at F2;exact ⟨_,rfl,zjk (zfM F2 (Nat.le_refl _) (by unfold maxLen;omega)) (Nat.le_refl _) kf,hb2⟩
theorem run_append_none' {P:Program} (w:World) (base:Nat) (t ty e:TypeId) (i:TypeInfo) (size:Nat) (ht:P.underlying t=some (.slice e)) (hi:P.info? e=some i) (v:Value) (n c:Nat) (xs:List Value) (hown:w.ownsRow base e size v n xs) :
 (Builtin.append_ #[t,t] ty #[v,.slice none 0 c]).run P w=.ok v w:=by
 rcases hown.2 with ⟨rfl,rfl⟩ | ⟨g,cap,cur,rfl,_,_,hnc,_⟩
 ·simp [Builtin.append_,run_underlying ht,sizeOf,typeInfo,hi,Builtin.lenOf,Builtin.firstCells]
 ·simp [Builtin.append_,run_underlying ht,sizeOf,typeInfo,hi,Builtin.lenOf,Builtin.firstCells,hnc,storeCells]
theorem zeb (w:World) (e:TypeId):(w.alloc (.cells #[] e)).ownsRow w.heap.size e 1 (.slice (some ⟨w.heap.size,0,none⟩) 0 0) 0 []:=World.ownsRow_lit (base:=w.heap.size) (e:=e) (size:=1) w #[] 0 (Nat.le_refl _) (Nat.zero_le _) rfl
theorem zec {T e:TypeId} {z:Value} {by_:Nat} (hu:Tryz.prog.underlying T=some (.slice e)) (hi:(Tryz.prog.info? e).map (fun i=>(i.zero,i.size,i.bytes))=some (some z,1,by_)) (hz:z.cells.size=1) (hby:by_≤100) (ty:TypeId) (W:World) (p:Nat) (hown:W.ownsRow p e 1 (.slice (some ⟨p,0,none⟩) 0 0) 0 [])
 (ao:Option Addr) (m cap:Nat) (cs:List Value) (hl:cs.length=m) (hsrc:0<cs.length→∃ ad,ao=some ad∧∀ j v,cs[j]?=some v→W.cell? (ad.add j)=some v) (h1:∀ v∈cs,v.oneCell'=true) (hm:m≤10000000) :
 ∃ v' w',(Builtin.append_ #[T,T] ty #[.slice (some ⟨p,0,none⟩) 0 0,.slice ao m cap]).run Tryz.prog W=.ok v' w'∧w'.ownsRow p e 1 v' m cs∧Below p W w':=by
 obtain ⟨i0,hi0,hz0,hz1,hz2⟩:=info_parts hi;have hlo:p≤W.heap.size:=Nat.le_of_lt (hown.lt p rfl).2
 have big:∀ ad,ao=some ad→(∀ j v,cs[j]?=some v→W.cell? (ad.add j)=some v)→∃ v' w',(Builtin.append_ #[T,T] ty #[.slice (some ⟨p,0,none⟩) 0 0,.slice ao m cap]).run Tryz.prog W=.ok v' w'∧w'.ownsRow p e 1 v' m cs∧Below p W w':=fun ad ha hc=>by
  subst ha
  have hb2:(0+m)*by_≤140737488355328:=by
   have:(0+m)*by_≤10000000*100:=Nat.mul_le_mul (by omega) hby;omega
  obtain ⟨v',w',hr,r1,r2,_⟩:=run_append_own_at (P:=Tryz.prog) W p T ty e i0 z 1 by_ hu hi0 hz0 hz1 hz2 hz (by decide) _ 0 [] hown ad m cap cs (by omega) hc h1 (by unfold maxLen;omega) hb2 hlo;refine ⟨v',w',hr,?_,(Below.refl _ _).grown r2 hlo (fun k hk=>(hown.lt k hk).1)⟩;rw [Nat.zero_add,List.nil_append] at r1;exact r1
 by_cases h0:0<cs.length
 ·obtain ⟨ad,ha,hc⟩:=hsrc h0
  exact big ad ha hc
 ·have hcs:cs=[]:=List.eq_nil_of_length_eq_zero (by omega)
  subst hcs
  cases ao with
  | some ad=>exact big ad rfl (fun j v hj=>by simp at hj)
  | none=>
   have hm0:m=0:=by simpa using hl.symm
   subst hm0;exact ⟨_,W,run_append_none' W p T ty e i0 1 hu hi0 _ 0 cap _ hown,hown,Below.refl _ _⟩
theorem one_i:(Value.int .i64 0).cells.size=1:=rfl
theorem one_b:(Value.int .u8 0).cells.size=1:=rfl
theorem zdD (ty:TypeId) (W:World) (p:Nat) (hown:W.ownsRow p 2 1 (.slice (some ⟨p,0,none⟩) 0 0) 0 []) {hi m cap:Nat} {ao:Option Addr} {f:Nat→Int} (r:zai.rd W hi (m,f) [.slice ao m cap]) (hm:m≤10000000) :
 ∃ v' w',(Builtin.append_ #[25,25] ty #[.slice (some ⟨p,0,none⟩) 0 0,.slice ao m cap]).run Tryz.prog W=.ok v' w'∧OwnT zai w' p w'.heap.size (m,f) [v']∧Below p W w':=by
 obtain ⟨v,e,⟨r1,_⟩,kf⟩:=r
 cases e
 obtain ⟨v',w',hr,h2,h3⟩:=zec Tryz.underlying25 zgV one_i (by decide) ty W p hown ao m cap (za1 m f) (zao m f) (fun hp=>zfN r1 hp) (zeA m f) hm;exact ⟨v',w',hr,zjk ⟨h2,fun k hk=>(h2.lt k hk).2⟩ (Nat.le_refl _) kf,h3⟩
theorem zcK (ty:TypeId) (W:World) (p:Nat) (hown:W.ownsRow p 5 1 (.slice (some ⟨p,0,none⟩) 0 0) 0 []) {hi m cap:Nat} {ao:Option Addr} {f:Nat→Nat} (r:zae.rd W hi (m,f) [.slice ao m cap]) (hm:m≤10000000) :
 ∃ v' w',(Builtin.append_ #[29,29] ty #[.slice (some ⟨p,0,none⟩) 0 0,.slice ao m cap]).run Tryz.prog W=.ok v' w'∧OwnT zae w' p w'.heap.size (m,f) [v']∧Below p W w':=by
 obtain ⟨v,e,r1,kf⟩:=r
 cases e
 obtain ⟨v',w',hr,h2,h3⟩:=zec Tryz.underlying29 zh1 one_b (by decide) ty W p hown ao m cap (cellsOf m f) (zal m f) (fun hp=>zg3 r1 hp) (zdY m f) hm;exact ⟨v',w',hr,zjh ⟨h2,fun k hk=>(h2.lt k hk).2⟩ (Nat.le_refl _) kf,h3⟩
theorem zdt {ops:Array Oper} {rest:List Oper} {o:Oper} {a:Act} {W w':World} {Q:Exit→Act→World→Prop} {T:TypeId} {v' x1 x2:Value} (hg:o.guard=none) (s y:Operand) (hop:o.op=Op.call { callee:=Callee.builtin Builtin.append,args:=#[s,y],argTypes:=#[T,T] })
 (h1:a.eval s=x1) (h2:a.eval y=x2) (hrun:(Builtin.append_ #[T,T] o.type #[x1,x2]).run Tryz.prog W=.ok v' w') (hK:wpList Tryz.prog ops Q rest (a.put o.dst v') w'):wpList Tryz.prog ops Q (o::rest) a W:=by
 refine wpList_plain hg fun K hK'=>?_;unfold Oper.wp
 simp [execOp,hop,resolve,invoke,builtin,h1,h2,hrun,Result.andThen]
 exact hK' _ _ hK
theorem ziy {ops:Array Oper} {o:Oper} {a:Act} {W w':World} {K:Act→World→Prop} {Q:Exit→Act→World→Prop} {F:Prop} {T:TypeId} {v' x1 x2:Value} (hg:o.guard=none) (s y:Operand) (hop:o.op=Op.call { callee:=Callee.builtin Builtin.append,args:=#[s,y],argTypes:=#[T,T] })
 (h1:a.eval s=x1) (h2:a.eval y=x2) (hrun:(Builtin.append_ #[T,T] o.type #[x1,x2]).run Tryz.prog W=.ok v' w') (hK:K (a.put o.dst v') w'):if Region.wanted o (yielded ops a.tmps)=true then Oper.wp Tryz.prog o a W K Q else F:=by
 have hw:Region.wanted o (yielded ops a.tmps)=true:=by simp [Region.wanted,hg]
 rw [if_pos hw];unfold Oper.wp
 simp [execOp,hop,resolve,invoke,builtin,h1,h2,hrun,Result.andThen]
 exact hK
theorem zfO:ElInfo zad 95 43 128 [.int .i64 0,.int .i64 0,.string ByteArray.empty,.int .i64 0,.int .i64 0,.int .i64 0,.slice none 0 0,.slice none 0 0,.slice none 0 0]:=⟨by decide,rfl,Tryz.underlying95,by kernel_rfl,by decide⟩
set_option maxRecDepth 20000 in
theorem zhL:ToV zad za3 152:=fun cs d hi w r hhi hn=>by
 obtain ⟨ao6,cap6,ao7,cap7,ao8,cap8,rfl,h6,h7,h8,k0,k1,k2,k3,k4,k5⟩:=zbp r;clear r;unfold za3 at hn;have R6:=hid h6;have R7:=hid h7;have R8:=hid h8;clear h6 h7 h8;have Q0:=hid k0;have Q1:=hid k1;have Q2:=hid k2;have Q3:=hid k3;have Q4:=hid k4;have Q5:=hid k5;clear k0 k1 k2 k3 k4 k5;have T0:=zay w (rwR d ao6 cap6 ao7 cap7 ao8 cap8).toArray #[.int .i64 0,.int .i64 0,.string ByteArray.empty,.int .i64 0,.int .i64 0,.int .i64 0,.slice none 0 0,.slice none 0 0,.slice none 0 0] 43 43
 go_enter Tryz.func152,Tryz.ntmps152
 go_wp2_with fail
 refine (zea _ d.rows hi _ (zai.rd_below R6.out T0.bel hhi) (Nat.le_trans hhi T0.bel.size) (by omega)).mono ?_;rintro e w1 ⟨v0,rfl,o0,b0⟩;obtain ⟨bo6,bcap6,hv⟩:=zbY o0;obtain rfl:=zaK hv;clear hv;have T0c:=T0.call b0;have z0:=T0.b2.lt;have y0:=b0.size;have c0_6:w1.cell? ⟨w.heap.size,6,none⟩=some (.slice ao6 d.rows.1 cap6):=T0c.b1.cell 6;have c0f_6:w1.frozen? ⟨w.heap.size,6,none⟩=false:=T0c.b1.frozen 6;have T1x:Two w (w1.setCell ⟨w.heap.size,6,none⟩ (.slice bo6 d.rows.1 bcap6)) (rwR d bo6 bcap6 ao7 cap7 ao8 cap8).toArray #[.int .i64 0,.int .i64 0,.string ByteArray.empty,.int .i64 0,.int .i64 0,.int .i64 0,.slice none 0 0,.slice none 0 0,.slice none 0 0] 43 43:=⟨T0c.b1.stL [.slice bo6 d.rows.1 bcap6] 6,T0c.b2.seto _ _ (by omega),T0c.bel.setCell (Nat.le_refl _) _⟩;have O6_0:=(o0.stN w.heap.size 6 [.slice bo6 d.rows.1 bcap6] (by omega))
 have e1:(w1.setCell ⟨w.heap.size,6,none⟩ (.slice bo6 d.rows.1 bcap6)).heap.size=w1.heap.size:=by simp
 clear o0 b0
 go_upto_region 2 with fail
 obtain ⟨W1,hW1⟩:∃ x,x=w1.setCell ⟨w.heap.size,6,none⟩ (.slice bo6 d.rows.1 bcap6):=⟨_,rfl⟩
 have O6:Hid (OwnT zai W1 (w.heap.size+1+1) (w1.heap.size) d.rows [.slice bo6 d.rows.1 bcap6]):=by rw [hW1];exact OwnT.weaken O6_0 (by simp) (Nat.le_refl _)
 rw [← hW1] at T1x e1 ⊢;clear hW1 O6_0 T0c c0_6 c0f_6;have a1_7:W1.cell? ⟨w.heap.size,7,none⟩=some (.slice ao7 d.data.1 cap7):=T1x.b1.cell 7
 go_wp2_with fail
 refine (zcJ _ d.data hi _ (zae.rd_below R7.out T1x.bel hhi) (Nat.le_trans hhi T1x.bel.size) (by omega)).mono ?_;rintro e w2 ⟨v1,rfl,o1,b1⟩;obtain ⟨bo7,bcap7,hv⟩:=zbb o1;obtain rfl:=zaK hv;clear hv;have T1c:=T1x.call b1;have z1:=T1x.b2.lt;have y1:=b1.size;have c1_7:w2.cell? ⟨w.heap.size,7,none⟩=some (.slice ao7 d.data.1 cap7):=T1c.b1.cell 7;have c1f_7:w2.frozen? ⟨w.heap.size,7,none⟩=false:=T1c.b1.frozen 7;have T2x:Two w (w2.setCell ⟨w.heap.size,7,none⟩ (.slice bo7 d.data.1 bcap7)) (rwR d bo6 bcap6 bo7 bcap7 ao8 cap8).toArray #[.int .i64 0,.int .i64 0,.string ByteArray.empty,.int .i64 0,.int .i64 0,.int .i64 0,.slice none 0 0,.slice none 0 0,.slice none 0 0] 43 43:=⟨T1c.b1.stL [.slice bo7 d.data.1 bcap7] 7,T1c.b2.seto _ _ (by omega),T1c.bel.setCell (Nat.le_refl _) _⟩;have O6_1:=(O6.out.call b1).stN w.heap.size 7 [.slice bo7 d.data.1 bcap7] (by omega);have O7_1:=(o1.stN w.heap.size 7 [.slice bo7 d.data.1 bcap7] (by omega))
 have e2:(w2.setCell ⟨w.heap.size,7,none⟩ (.slice bo7 d.data.1 bcap7)).heap.size=w2.heap.size:=by simp
 clear o1 b1 O6 T1x a1_7
 go_upto_region 3 with fail
 obtain ⟨W2,hW2⟩:∃ x,x=w2.setCell ⟨w.heap.size,7,none⟩ (.slice bo7 d.data.1 bcap7):=⟨_,rfl⟩
 have O6:Hid (OwnT zai W2 (w.heap.size+1+1) (w1.heap.size) d.rows [.slice bo6 d.rows.1 bcap6]):=by rw [hW2];exact O6_1
 have O7:Hid (OwnT zae W2 (W1.heap.size) (w2.heap.size) d.data [.slice bo7 d.data.1 bcap7]):=by rw [hW2];exact O7_1
 rw [← hW2] at T2x e2 ⊢;clear hW2 O6_1 O7_1 T1c c1_7 c1f_7;have a2_8:W2.cell? ⟨w.heap.size,8,none⟩=some (.slice ao8 d.delta.1 cap8):=T2x.b1.cell 8
 go_wp2_with fail
 refine (zcJ _ d.delta hi _ (zae.rd_below R8.out T2x.bel hhi) (Nat.le_trans hhi T2x.bel.size) (by omega)).mono ?_;rintro e w3 ⟨v2,rfl,o2,b2⟩;obtain ⟨bo8,bcap8,hv⟩:=zbb o2;obtain rfl:=zaK hv;clear hv;have T2c:=T2x.call b2;have z2:=T2x.b2.lt;have y2:=b2.size;have c2_8:w3.cell? ⟨w.heap.size,8,none⟩=some (.slice ao8 d.delta.1 cap8):=T2c.b1.cell 8;have c2f_8:w3.frozen? ⟨w.heap.size,8,none⟩=false:=T2c.b1.frozen 8;have T3x:Two w (w3.setCell ⟨w.heap.size,8,none⟩ (.slice bo8 d.delta.1 bcap8)) (rwR d bo6 bcap6 bo7 bcap7 bo8 bcap8).toArray #[.int .i64 0,.int .i64 0,.string ByteArray.empty,.int .i64 0,.int .i64 0,.int .i64 0,.slice none 0 0,.slice none 0 0,.slice none 0 0] 43 43:=⟨T2c.b1.stL [.slice bo8 d.delta.1 bcap8] 8,T2c.b2.seto _ _ (by omega),T2c.bel.setCell (Nat.le_refl _) _⟩;have O6_2:=(O6.out.call b2).stN w.heap.size 8 [.slice bo8 d.delta.1 bcap8] (by omega);have O7_2:=(O7.out.call b2).stN w.heap.size 8 [.slice bo8 d.delta.1 bcap8] (by omega);have O8_2:=(o2.stN w.heap.size 8 [.slice bo8 d.delta.1 bcap8] (by omega))
 have e3:(w3.setCell ⟨w.heap.size,8,none⟩ (.slice bo8 d.delta.1 bcap8)).heap.size=w3.heap.size:=by simp
 clear o2 b2 O6 O7 T2x a2_8
 go_upto_region 4 with fail
 obtain ⟨W3,hW3⟩:∃ x,x=w3.setCell ⟨w.heap.size,8,none⟩ (.slice bo8 d.delta.1 bcap8):=⟨_,rfl⟩
 have O6:Hid (OwnT zai W3 (w.heap.size+1+1) (w1.heap.size) d.rows [.slice bo6 d.rows.1 bcap6]):=by rw [hW3];exact O6_2
 have O7:Hid (OwnT zae W3 (W1.heap.size) (w2.heap.size) d.data [.slice bo7 d.data.1 bcap7]):=by rw [hW3];exact O7_2
 have O8:Hid (OwnT zae W3 (W2.heap.size) (w3.heap.size) d.delta [.slice bo8 d.delta.1 bcap8]):=by rw [hW3];exact O8_2
 rw [← hW3] at T3x e3 ⊢;clear hW3 O6_2 O7_2 O8_2 T2c c2_8 c2f_8;have y_0:W3.cell? ⟨w.heap.size,0,none⟩=some (.int .i64 d.kind):=T3x.b1.cell 0;have y_1:W3.cell? ⟨w.heap.size,1,none⟩=some (.int .i64 d.seq):=T3x.b1.cell 1;have y_2:W3.cell? ⟨w.heap.size,2,none⟩=some (.string d.name):=T3x.b1.cell 2;have y_3:W3.cell? ⟨w.heap.size,3,none⟩=some (.int .i64 d.length):=T3x.b1.cell 3;have y_4:W3.cell? ⟨w.heap.size,4,none⟩=some (.int .i64 d.group):=T3x.b1.cell 4;have y_5:W3.cell? ⟨w.heap.size,5,none⟩=some (.int .i64 d.row):=T3x.b1.cell 5;have y_6:W3.cell? ⟨w.heap.size,6,none⟩=some (.slice bo6 d.rows.1 bcap6):=T3x.b1.cell 6;have y_7:W3.cell? ⟨w.heap.size,7,none⟩=some (.slice bo7 d.data.1 bcap7):=T3x.b1.cell 7;have y_8:W3.cell? ⟨w.heap.size,8,none⟩=some (.slice bo8 d.delta.1 bcap8):=T3x.b1.cell 8;have r_0:W3.cell? ⟨w.heap.size+1,0,none⟩=some (.int .i64 0):=T3x.b2.cell 0;have rf_0:W3.frozen? ⟨w.heap.size+1,0,none⟩=false:=T3x.b2.frozen 0;have r_1:W3.cell? ⟨w.heap.size+1,1,none⟩=some (.int .i64 0):=T3x.b2.cell 1;have rf_1:W3.frozen? ⟨w.heap.size+1,1,none⟩=false:=T3x.b2.frozen 1;have r_2:W3.cell? ⟨w.heap.size+1,2,none⟩=some (.string ByteArray.empty):=T3x.b2.cell 2;have rf_2:W3.frozen? ⟨w.heap.size+1,2,none⟩=false:=T3x.b2.frozen 2;have r_3:W3.cell? ⟨w.heap.size+1,3,none⟩=some (.int .i64 0):=T3x.b2.cell 3;have rf_3:W3.frozen? ⟨w.heap.size+1,3,none⟩=false:=T3x.b2.frozen 3;have r_4:W3.cell? ⟨w.heap.size+1,4,none⟩=some (.int .i64 0):=T3x.b2.cell 4;have rf_4:W3.frozen? ⟨w.heap.size+1,4,none⟩=false:=T3x.b2.frozen 4;have r_5:W3.cell? ⟨w.heap.size+1,5,none⟩=some (.int .i64 0):=T3x.b2.cell 5;have rf_5:W3.frozen? ⟨w.heap.size+1,5,none⟩=false:=T3x.b2.frozen 5;have r_6:W3.cell? ⟨w.heap.size+1,6,none⟩=some (.slice none 0 0):=T3x.b2.cell 6;have rf_6:W3.frozen? ⟨w.heap.size+1,6,none⟩=false:=T3x.b2.frozen 6;have r_7:W3.cell? ⟨w.heap.size+1,7,none⟩=some (.slice none 0 0):=T3x.b2.cell 7;have rf_7:W3.frozen? ⟨w.heap.size+1,7,none⟩=false:=T3x.b2.frozen 7;have r_8:W3.cell? ⟨w.heap.size+1,8,none⟩=some (.slice none 0 0):=T3x.b2.cell 8;have rf_8:W3.frozen? ⟨w.heap.size+1,8,none⟩=false:=T3x.b2.frozen 8;have HB:=hid T3x.bel;have zz:=T3x.b2.lt;clear T3x;go_wp2;refine bodyPost_ret (v:=.agg (rwR d bo6 bcap6 bo7 bcap7 bo8 bcap8).toArray) (by simp [results,Tryz.results152,go_sem,r_0,y_0,r_1,y_1,r_2,y_2,r_3,y_3,r_4,y_4,r_5,y_5,r_6,y_6,r_7,y_7,r_8,y_8]) rfl ?_;have F:OwnT zad W3 (w.heap.size+1+1) w3.heap.size d ([.int .i64 d.kind]++([.int .i64 d.seq]++([.string d.name]++([.int .i64 d.length]++([.int .i64 d.group]++([.int .i64 d.row]++([.slice bo6 d.rows.1 bcap6]++([.slice bo7 d.data.1 bcap7]++[.slice bo8 d.delta.1 bcap8])))))))):=OwnT.conv (OwnT.pre (A:=layI) (a:=d.kind) (c:=[.int .i64 d.kind]) ⟨rfl,Q0.out,rfl⟩ (OwnT.pre (A:=layI) (a:=d.seq) (c:=[.int .i64 d.seq]) ⟨rfl,Q1.out,rfl⟩ (OwnT.pre (A:=layS) (a:=d.name) (c:=[.string d.name]) ⟨rfl,Q2.out,rfl⟩ (OwnT.pre (A:=layI) (a:=d.length) (c:=[.int .i64 d.length]) ⟨rfl,Q3.out,rfl⟩ (OwnT.pre (A:=layI) (a:=d.group) (c:=[.int .i64 d.group]) ⟨rfl,Q4.out,rfl⟩ (OwnT.pre (A:=layI) (a:=d.row) (c:=[.int .i64 d.row]) ⟨rfl,Q5.out,rfl⟩ (OwnT.two O6.out (OwnT.two O7.out O8.out (by omega) (by omega) (by omega)) (by omega) (by omega) (by omega))))))))
 refine ⟨(rwR d bo6 bcap6 bo7 bcap7 bo8 bcap8),rfl,?_,?_⟩
 ·exact OwnT.finb (F.weaken (Nat.le_refl _) (by omega)) (b:=w.heap.size+1) (by omega) (by omega) 0 (rwR d bo6 bcap6 bo7 bcap7 bo8 bcap8) _ rfl
 ·exact HB.out.trans (zaJ (by omega) (rwR d bo6 bcap6 bo7 bcap7 bo8 bcap8) 0)
set_option maxRecDepth 20000 in
theorem zgL:ToF (zad.slice 43) (szSl za3) 168 152:=fun v d hi w h hhi hn=>by
 obtain ⟨n,x⟩:=d;obtain ⟨ao,cap,hv,hm,hc⟩:=h
 cases hv
 have hn1:=zb1 hn;have hn2:∀ i,i<n→za3 (x i)≤1048576:=fun i hi=>zbl hn hi
 simp only at hn1 hm hc
 clear hn
 go_enter Tryz.func168,Tryz.ntmps168
 go_wp2_with (at_make;refine zbO zad [.int .i64 0,.int .i64 0,.string ByteArray.empty,.int .i64 0,.int .i64 0,.int .i64 0,.slice none 0 0,.slice none 0 0,.slice none 0 0] _ 43 128 (zfO).hs rfl Tryz.underlying95 (zfO).hi x (fun _=>[]) _ rfl _ _ rfl _ _ n rfl rfl rfl rfl (by omega) (by omega) ?_;intro w1 sp1 hb1)
 go_loopw [12] (fun i wr=>∃ k:Nat,k≤n∧i=.int .i64 k∧∃ ce Ls,SlP zad 43 wr w.heap.size w.heap.size n n k x ce Ls∧Below w.heap.size w wr) (fun i _=>n-(intOf i).toNat)
 case atStart=>exact ⟨0,Nat.zero_le _,rfl,_,_,sp1,hb1⟩
 case round=>
  clear sp1 hb1;obtain ⟨k,hk,rfl,ce,Ls,sp,hb⟩:=hrel
  by_cases hlt:k<n
  ·obtain ⟨b,off,rfl,hblt,hel⟩:=hc (by omega)
   obtain ⟨ck,hrk,hcell⟩:=zar (t:=0) hel hb hhi hblt hlt;obtain ⟨ao6,cap6,ao7,cap7,ao8,cap8,rfl,-⟩:=zbp hrk;have c0:wr.cell? ⟨b,off+k*9,none⟩=some (.int .i64 (x k).kind):=hcell 0 (by decide);have c1:wr.cell? ⟨b,off+k*9+1,none⟩=some (.int .i64 (x k).seq):=hcell 1 (by decide);have c2:wr.cell? ⟨b,off+k*9+2,none⟩=some (.string (x k).name):=hcell 2 (by decide);have c3:wr.cell? ⟨b,off+k*9+3,none⟩=some (.int .i64 (x k).length):=hcell 3 (by decide);have c4:wr.cell? ⟨b,off+k*9+4,none⟩=some (.int .i64 (x k).group):=hcell 4 (by decide);have c5:wr.cell? ⟨b,off+k*9+5,none⟩=some (.int .i64 (x k).row):=hcell 5 (by decide);have c6:wr.cell? ⟨b,off+k*9+6,none⟩=some (.slice ao6 (x k).rows.1 cap6):=hcell 6 (by decide);have c7:wr.cell? ⟨b,off+k*9+7,none⟩=some (.slice ao7 (x k).data.1 cap7):=hcell 7 (by decide);have c8:wr.cell? ⟨b,off+k*9+8,none⟩=some (.slice ao8 (x k).delta.1 cap8):=hcell 8 (by decide);clear hc hel hcell
   go_wp2_with fail
   refine (zhL _ (x k) hi wr hrk (Nat.le_trans hhi hb.size) (hn2 k hlt)).mono ?_;rintro e w2 ⟨cs',rfl,o2,hb2⟩;obtain ⟨bao6,bcap6,bao7,bcap7,bao8,bcap8,rfl⟩:=zdW o2;obtain ⟨z0,s0⟩:=sp.some hb2 hlt (show 0<zad.sz by decide);have s0:w2.cell? ⟨w.heap.size,k*9,none⟩=some z0:=s0;have sf0:=(sp.below hb2).frozen (k*9);obtain ⟨z1,s1⟩:=sp.some hb2 hlt (show 1<zad.sz by decide);have s1:w2.cell? ⟨w.heap.size,k*9+1,none⟩=some z1:=s1;have sf1:=(sp.below hb2).frozen (k*9+1);obtain ⟨z2,s2⟩:=sp.some hb2 hlt (show 2<zad.sz by decide);have s2:w2.cell? ⟨w.heap.size,k*9+2,none⟩=some z2:=s2;have sf2:=(sp.below hb2).frozen (k*9+2);obtain ⟨z3,s3⟩:=sp.some hb2 hlt (show 3<zad.sz by decide);have s3:w2.cell? ⟨w.heap.size,k*9+3,none⟩=some z3:=s3;have sf3:=(sp.below hb2).frozen (k*9+3);obtain ⟨z4,s4⟩:=sp.some hb2 hlt (show 4<zad.sz by decide);have s4:w2.cell? ⟨w.heap.size,k*9+4,none⟩=some z4:=s4;have sf4:=(sp.below hb2).frozen (k*9+4);obtain ⟨z5,s5⟩:=sp.some hb2 hlt (show 5<zad.sz by decide);have s5:w2.cell? ⟨w.heap.size,k*9+5,none⟩=some z5:=s5;have sf5:=(sp.below hb2).frozen (k*9+5);obtain ⟨z6,s6⟩:=sp.some hb2 hlt (show 6<zad.sz by decide);have s6:w2.cell? ⟨w.heap.size,k*9+6,none⟩=some z6:=s6;have sf6:=(sp.below hb2).frozen (k*9+6);obtain ⟨z7,s7⟩:=sp.some hb2 hlt (show 7<zad.sz by decide);have s7:w2.cell? ⟨w.heap.size,k*9+7,none⟩=some z7:=s7;have sf7:=(sp.below hb2).frozen (k*9+7);obtain ⟨z8,s8⟩:=sp.some hb2 hlt (show 8<zad.sz by decide);have s8:w2.cell? ⟨w.heap.size,k*9+8,none⟩=some z8:=s8;have sf8:=(sp.below hb2).frozen (k*9+8);have N:=sp.next hb2 hlt o2 hb.size;have N2:Below w.heap.size w (stN w2 w.heap.size (k*zad.sz) [.int .i64 (x k).kind,.int .i64 (x k).seq,.string (x k).name,.int .i64 (x k).length,.int .i64 (x k).group,.int .i64 (x k).row,.slice bao6 (x k).rows.1 bcap6,.slice bao7 (x k).data.1 bcap7,.slice bao8 (x k).delta.1 bcap8]):=(hb.trans (hb2.mono hb.size)).trans (zaJ (Nat.le_refl _) _ _);clear o2 hb2 sp hb
   go_wp2_with fail
   go_roundw
   case rel=>
    obtain ⟨ce',Ls',N⟩:=N;exact ⟨k+1,by omega,by go_num,ce',Ls',N,N2⟩
   case measure=>simp [intOf];omega
  ·obtain rfl:k=n:=by omega
   go_wp2;go_ret;exact ⟨_,rfl,sp.done (Nat.le_refl _),hb⟩
set_option maxRecDepth 20000 in
theorem zgM:ToV zag zaS 150:=fun cs d hi w r hhi hn=>by
 obtain ⟨ao1,cap1,rfl,h1⟩:=zbd r;clear r;unfold zaS at hn;have R1:=hid h1;clear h1;have T0:=zay w #[.bool d.wiped,.slice ao1 d.recs.1 cap1] #[.bool false,.slice none 0 0] 97 97
 go_enter Tryz.func150,Tryz.ntmps150
 go_wp2_with fail
 refine (zgL _ d.recs hi _ ((zad.slice 43).rd_below R1.out T0.bel hhi) (Nat.le_trans hhi T0.bel.size) (by omega)).mono ?_;rintro e w1 ⟨v0,rfl,o0,b0⟩;obtain ⟨bo1,bcap1,hv⟩:=zbF o0;obtain rfl:=zaK hv;clear hv;have T0c:=T0.call b0;have z0:=T0.b2.lt;have y0:=b0.size;have c0_1:w1.cell? ⟨w.heap.size,1,none⟩=some (.slice ao1 d.recs.1 cap1):=T0c.b1.cell 1;have c0f_1:w1.frozen? ⟨w.heap.size,1,none⟩=false:=T0c.b1.frozen 1;have T1x:Two w (w1.setCell ⟨w.heap.size,1,none⟩ (.slice bo1 d.recs.1 bcap1)) #[.bool d.wiped,.slice bo1 d.recs.1 bcap1] #[.bool false,.slice none 0 0] 97 97:=⟨T0c.b1.stL [.slice bo1 d.recs.1 bcap1] 1,T0c.b2.seto _ _ (by omega),T0c.bel.setCell (Nat.le_refl _) _⟩;have O1_0:=(o0.stN w.heap.size 1 [.slice bo1 d.recs.1 bcap1] (by omega))
 have e1:(w1.setCell ⟨w.heap.size,1,none⟩ (.slice bo1 d.recs.1 bcap1)).heap.size=w1.heap.size:=by simp
 clear o0 b0
 go_upto_region 2 with fail
 obtain ⟨W1,hW1⟩:∃ x,x=w1.setCell ⟨w.heap.size,1,none⟩ (.slice bo1 d.recs.1 bcap1):=⟨_,rfl⟩
 have O1:Hid (OwnT (zad.slice 43) W1 (w.heap.size+1+1) (w1.heap.size) d.recs [.slice bo1 d.recs.1 bcap1]):=by rw [hW1];exact OwnT.weaken O1_0 (by simp) (Nat.le_refl _)
 rw [← hW1] at T1x e1 ⊢;clear hW1 O1_0 T0c c0_1 c0f_1;have y_0:W1.cell? ⟨w.heap.size,0,none⟩=some (.bool d.wiped):=T1x.b1.cell 0;have y_1:W1.cell? ⟨w.heap.size,1,none⟩=some (.slice bo1 d.recs.1 bcap1):=T1x.b1.cell 1;have r_0:W1.cell? ⟨w.heap.size+1,0,none⟩=some (.bool false):=T1x.b2.cell 0;have rf_0:W1.frozen? ⟨w.heap.size+1,0,none⟩=false:=T1x.b2.frozen 0;have r_1:W1.cell? ⟨w.heap.size+1,1,none⟩=some (.slice none 0 0):=T1x.b2.cell 1;have rf_1:W1.frozen? ⟨w.heap.size+1,1,none⟩=false:=T1x.b2.frozen 1;have HB:=hid T1x.bel;have zz:=T1x.b2.lt;clear T1x;go_wp2;refine bodyPost_ret (v:=.agg #[.bool d.wiped,.slice bo1 d.recs.1 bcap1]) (by simp [results,Tryz.results150,go_sem,r_0,y_0,r_1,y_1]) rfl ?_;have F:OwnT zag W1 (w.heap.size+1+1) w1.heap.size d ([.bool d.wiped]++[.slice bo1 d.recs.1 bcap1]):=OwnT.conv (OwnT.pre (A:=layB) (a:=d.wiped) (c:=[.bool d.wiped]) ⟨rfl,trivial,rfl⟩ O1.out);refine ⟨[.bool d.wiped,.slice bo1 d.recs.1 bcap1],rfl,?_,?_⟩
 ·exact OwnT.finb (F.weaken (Nat.le_refl _) (by omega)) (b:=w.heap.size+1) (by omega) (by omega) 0 [.bool d.wiped,.slice bo1 d.recs.1 bcap1] _ rfl
 ·exact HB.out.trans (zaJ (by omega) [.bool d.wiped,.slice bo1 d.recs.1 bcap1] 0)
set_option maxRecDepth 20000 in
theorem zfP:ToF (zag.slice 97) (szSl zaS) 149 150:=fun v d hi w h hhi hn=>by
 obtain ⟨n,x⟩:=d;obtain ⟨ao,cap,hv,hm,hc⟩:=h
 cases hv
 have hn1:=zb1 hn;have hn2:∀ i,i<n→zaS (x i)≤1048576:=fun i hi=>zbl hn hi
 simp only at hn1 hm hc
 clear hn
 go_enter Tryz.func149,Tryz.ntmps149
 go_wp2_with (at_make;refine zbO zag [.bool false,.slice none 0 0] _ 97 32 (zgw).hs rfl Tryz.underlying36 (zgw).hi x (fun _=>[]) _ rfl _ _ rfl _ _ n rfl rfl rfl rfl (by omega) (by omega) ?_;intro w1 sp1 hb1)
 go_loopw [12] (fun i wr=>∃ k:Nat,k≤n∧i=.int .i64 k∧∃ ce Ls,SlP zag 97 wr w.heap.size w.heap.size n n k x ce Ls∧Below w.heap.size w wr) (fun i _=>n-(intOf i).toNat)
 case atStart=>exact ⟨0,Nat.zero_le _,rfl,_,_,sp1,hb1⟩
 case round=>
  clear sp1 hb1;obtain ⟨k,hk,rfl,ce,Ls,sp,hb⟩:=hrel
  by_cases hlt:k<n
  ·obtain ⟨b,off,rfl,hblt,hel⟩:=hc (by omega)
   obtain ⟨ck,hrk,hcell⟩:=zar (t:=0) hel hb hhi hblt hlt;obtain ⟨ao1,cap1,rfl,-⟩:=zbd hrk;have c0:wr.cell? ⟨b,off+k*2,none⟩=some (.bool (x k).wiped):=hcell 0 (by decide);have c1:wr.cell? ⟨b,off+k*2+1,none⟩=some (.slice ao1 (x k).recs.1 cap1):=hcell 1 (by decide);clear hc hel hcell
   go_wp2_with fail
   refine (zgM _ (x k) hi wr hrk (Nat.le_trans hhi hb.size) (hn2 k hlt)).mono ?_;rintro e w2 ⟨cs',rfl,o2,hb2⟩;obtain ⟨bao1,bcap1,rfl⟩:=zer o2;obtain ⟨z0,s0⟩:=sp.some hb2 hlt (show 0<zag.sz by decide);have s0:w2.cell? ⟨w.heap.size,k*2,none⟩=some z0:=s0;have sf0:=(sp.below hb2).frozen (k*2);obtain ⟨z1,s1⟩:=sp.some hb2 hlt (show 1<zag.sz by decide);have s1:w2.cell? ⟨w.heap.size,k*2+1,none⟩=some z1:=s1;have sf1:=(sp.below hb2).frozen (k*2+1);have N:=sp.next hb2 hlt o2 hb.size;have N2:Below w.heap.size w (stN w2 w.heap.size (k*zag.sz) [.bool (x k).wiped,.slice bao1 (x k).recs.1 bcap1]):=(hb.trans (hb2.mono hb.size)).trans (zaJ (Nat.le_refl _) _ _);clear o2 hb2 sp hb
   go_wp2_with fail
   go_roundw
   case rel=>
    obtain ⟨ce',Ls',N⟩:=N;exact ⟨k+1,by omega,by go_num,ce',Ls',N,N2⟩
   case measure=>simp [intOf];omega
  ·obtain rfl:k=n:=by omega
   go_wp2;go_ret;exact ⟨_,rfl,sp.done (Nat.le_refl _),hb⟩
set_option maxRecDepth 20000 in
theorem zeo:ToV zah zaC 63:=fun cs d hi w r hhi hn=>by
 obtain ⟨ao1,cap1,rfl,h1,k0⟩:=zbc r;clear r;unfold zaC lenD at hn;have Q0:=hid k0;clear k0;have T0:=zay w #[.int .i64 d.stamp,.slice ao1 d.bytes.1 cap1] #[.int .i64 0,.slice none 0 0] 103 103;obtain ⟨W0,hW0⟩:∃ x,x=(w.alloc (.cells #[.int .i64 d.stamp,.slice ao1 d.bytes.1 cap1] 103)).alloc (.cells #[.int .i64 0,.slice none 0 0] 103):=⟨_,rfl⟩;rw [← hW0] at T0;have bA:=bAl W0 (.cells #[] 5);have TA:=T0.call bA
 have z0:W0.heap.size=w.heap.size+1+1:=by rw [hW0];simp
 obtain ⟨v',w1,hrun,o1,b1'⟩:=zcK 29 (W0.alloc (.cells #[] 5)).drew W0.heap.size (zeb W0 5) (zae.rd_below (B:=hi) (zae.rd_below h1 TA.bel hhi) ⟨rfl,rfl,rfl,Nat.le_refl _,fun _ _=>rfl⟩ (Nat.le_refl _)) (show d.bytes.1≤10000000 by omega);have b1:Below W0.heap.size (W0.alloc (.cells #[] 5)) w1:=⟨b1'.os,b1'.tape,b1'.output,b1'.size,b1'.block⟩;obtain ⟨bo,bc,hv⟩:=zbb o1;obtain rfl:=zaK hv;have T1:Two w w1 #[.int .i64 d.stamp,.slice ao1 d.bytes.1 cap1] #[.int .i64 0,.slice none 0 0] 103 103:=⟨TA.b1.below b1 (by omega),TA.b2.below b1 (by omega),TA.bel.trans (b1.mono (by omega))⟩;have x0_0:W0.cell? ⟨w.heap.size,0,none⟩=some (.int .i64 d.stamp):=T0.b1.cell 0;have x0_1:W0.cell? ⟨w.heap.size,1,none⟩=some (.slice ao1 d.bytes.1 cap1):=T0.b1.cell 1;have xa_0:(W0.alloc (.cells #[] 5)).cell? ⟨w.heap.size,0,none⟩=some (.int .i64 d.stamp):=TA.b1.cell 0;have xa_1:(W0.alloc (.cells #[] 5)).cell? ⟨w.heap.size,1,none⟩=some (.slice ao1 d.bytes.1 cap1):=TA.b1.cell 1;have x1_0:w1.cell? ⟨w.heap.size,0,none⟩=some (.int .i64 d.stamp):=T1.b1.cell 0;have x1_1:w1.cell? ⟨w.heap.size,1,none⟩=some (.slice ao1 d.bytes.1 cap1):=T1.b1.cell 1;have r1_0:w1.cell? ⟨w.heap.size+1,0,none⟩=some (.int .i64 0):=T1.b2.cell 0;have r1f_0:w1.frozen? ⟨w.heap.size+1,0,none⟩=false:=T1.b2.frozen 0;have r1_1:w1.cell? ⟨w.heap.size+1,1,none⟩=some (.slice none 0 0):=T1.b2.cell 1;have r1f_1:w1.frozen? ⟨w.heap.size+1,1,none⟩=false:=T1.b2.frozen 1;have HO:=hid o1;have HT:=hid T1;have zw:W0.heap.size≤w1.heap.size:=Nat.le_trans bA.size b1.size;clear T0 TA T1 o1 b1 b1' bA h1 hv
 go_enter Tryz.func63,Tryz.ntmps63
 go_upto_region 1 with fail
 rw [← hW0];clear hW0
 go_region_law (refine ziy rfl (.tmp 5) (.tmp 7) rfl ?_ ?_ hrun ?_;(simp [Act.eval,Act.put]);(simp [Act.eval,Act.put]))
 all_goals
  go_wp2;refine bodyPost_ret (v:=.agg #[.int .i64 d.stamp,.slice bo d.bytes.1 bc]) (by simp [results,Tryz.results63,go_sem,r1_0,r1_1]) rfl ?_;have F:OwnT zah w1 (w.heap.size+1+1) w1.heap.size d ([.int .i64 d.stamp]++[.slice bo d.bytes.1 bc]):=OwnT.conv (OwnT.pre (A:=layI) (a:=d.stamp) (c:=[.int .i64 d.stamp]) ⟨rfl,Q0.out,rfl⟩ (HO.out.weaken (by omega) (Nat.le_refl _)));refine ⟨[.int .i64 d.stamp,.slice bo d.bytes.1 bc],rfl,?_,?_⟩
  ·exact OwnT.finb F (b:=w.heap.size+1) (by omega) (by omega) 0 [.int .i64 d.stamp,.slice bo d.bytes.1 bc] _ rfl
  ·exact HT.out.bel.trans (zaJ (by omega) [.int .i64 d.stamp,.slice bo d.bytes.1 bc] 0)
set_option maxRecDepth 20000 in
theorem zfQ:ToV zad za3 100:=fun cs d hi w r hhi hn=>by
 obtain ⟨ao6,cap6,ao7,cap7,ao8,cap8,rfl,h6,h7,h8,k0,k1,k2,k3,k4,k5⟩:=zbp r;clear r;unfold za3 lenD at hn;have Q0:=hid k0;have Q1:=hid k1;have Q3:=hid k3;have Q4:=hid k4;have Q5:=hid k5;have Q2:=hid k2;clear k0 k1 k2 k3 k4 k5;have T0:=zay w (rwR d ao6 cap6 ao7 cap7 ao8 cap8).toArray #[.int .i64 0,.int .i64 0,.string ⟨#[]⟩,.int .i64 0,.int .i64 0,.int .i64 0,.slice none 0 0,.slice none 0 0,.slice none 0 0] 43 43
 go_enter Tryz.func100,Tryz.ntmps100
 go_upto_region 1 with fail
 obtain ⟨W0,hW0⟩:∃ x,x=(w.alloc (.cells (rwR d ao6 cap6 ao7 cap7 ao8 cap8).toArray 43)).alloc (.cells #[.int .i64 0,.int .i64 0,.string ⟨#[]⟩,.int .i64 0,.int .i64 0,.int .i64 0,.slice none 0 0,.slice none 0 0,.slice none 0 0] 43):=⟨_,rfl⟩
 have z0:W0.heap.size=w.heap.size+1+1:=by rw [hW0];simp
 rw [← hW0] at T0 ⊢;clear hW0;have bA0:=bAl W0 (.cells #[] 2);have TA0:=T0.call bA0;obtain ⟨v',w1,hrun,o0,b0⟩:=zdD 25 (W0.alloc (.cells #[] 2)) W0.heap.size (zeb W0 2) (zai.rd_below h6 TA0.bel hhi) (show d.rows.1≤10000000 by omega);obtain ⟨bo6,bcap6,hv⟩:=zbY o0;obtain rfl:=zaK hv;clear hv;have zw0:W0.heap.size+1≤w1.heap.size:=Nat.le_trans (by simp) b0.size;have TB0:Two w w1 (rwR d ao6 cap6 ao7 cap7 ao8 cap8).toArray #[.int .i64 0,.int .i64 0,.string ⟨#[]⟩,.int .i64 0,.int .i64 0,.int .i64 0,.slice none 0 0,.slice none 0 0,.slice none 0 0] 43 43:=⟨TA0.b1.below b0 (by omega),TA0.b2.below b0 (by omega),TA0.bel.trans (b0.mono (by omega))⟩;have xa:(W0.alloc (.cells #[] 2)).cell? ⟨w.heap.size,6,none⟩=some (.slice ao6 d.rows.1 cap6):=TA0.b1.cell 6;have xb:w1.cell? ⟨w.heap.size,6,none⟩=some (.slice ao6 d.rows.1 cap6):=TB0.b1.cell 6;have xf:w1.frozen? ⟨w.heap.size,6,none⟩=false:=TB0.b1.frozen 6;have T1:Two w (w1.setCell ⟨w.heap.size,6,none⟩ (.slice bo6 d.rows.1 bcap6)) (rwR d bo6 bcap6 ao7 cap7 ao8 cap8).toArray #[.int .i64 0,.int .i64 0,.string ⟨#[]⟩,.int .i64 0,.int .i64 0,.int .i64 0,.slice none 0 0,.slice none 0 0,.slice none 0 0] 43 43:=⟨TB0.b1.stL [.slice bo6 d.rows.1 bcap6] 6,TB0.b2.seto _ _ (by omega),TB0.bel.setCell (Nat.le_refl _) _⟩;have O6x:=o0.stN w.heap.size 6 [.slice bo6 d.rows.1 bcap6] (by omega)
 have e0:(w1.setCell ⟨w.heap.size,6,none⟩ (.slice bo6 d.rows.1 bcap6)).heap.size=w1.heap.size:=by simp
 clear TA0 TB0 o0 b0 bA0 T0
 go_upto_region 2 with (at_builtin;refine zdt rfl (.tmp 3) (.tmp 5) rfl ?_ ?_ hrun ?_;(simp [Act.eval]);(simp [Act.eval]))
 obtain ⟨W1,hW1⟩:∃ x,x=w1.setCell ⟨w.heap.size,6,none⟩ (.slice bo6 d.rows.1 bcap6):=⟨_,rfl⟩
 have O6:Hid (OwnT zai W1 W0.heap.size w1.heap.size d.rows [.slice bo6 d.rows.1 bcap6]):=by rw [hW1];exact O6x
 rw [← hW1] at T1 e0 ⊢;clear hW1 hrun xa xb xf O6x;have bA1:=bAl W1 (.cells #[] 5);have TA1:=T1.call bA1;obtain ⟨v',w2,hrun,o1,b1⟩:=zcK 29 (W1.alloc (.cells #[] 5)) W1.heap.size (zeb W1 5) (zae.rd_below h7 TA1.bel hhi) (show d.data.1≤10000000 by omega);obtain ⟨bo7,bcap7,hv⟩:=zbb o1;obtain rfl:=zaK hv;clear hv;have zw1:W1.heap.size+1≤w2.heap.size:=Nat.le_trans (by simp) b1.size;have TB1:Two w w2 (rwR d bo6 bcap6 ao7 cap7 ao8 cap8).toArray #[.int .i64 0,.int .i64 0,.string ⟨#[]⟩,.int .i64 0,.int .i64 0,.int .i64 0,.slice none 0 0,.slice none 0 0,.slice none 0 0] 43 43:=⟨TA1.b1.below b1 (by omega),TA1.b2.below b1 (by omega),TA1.bel.trans (b1.mono (by omega))⟩;have xa:(W1.alloc (.cells #[] 5)).cell? ⟨w.heap.size,7,none⟩=some (.slice ao7 d.data.1 cap7):=TA1.b1.cell 7;have xb:w2.cell? ⟨w.heap.size,7,none⟩=some (.slice ao7 d.data.1 cap7):=TB1.b1.cell 7;have xf:w2.frozen? ⟨w.heap.size,7,none⟩=false:=TB1.b1.frozen 7;have T2:Two w (w2.setCell ⟨w.heap.size,7,none⟩ (.slice bo7 d.data.1 bcap7)) (rwR d bo6 bcap6 bo7 bcap7 ao8 cap8).toArray #[.int .i64 0,.int .i64 0,.string ⟨#[]⟩,.int .i64 0,.int .i64 0,.int .i64 0,.slice none 0 0,.slice none 0 0,.slice none 0 0] 43 43:=⟨TB1.b1.stL [.slice bo7 d.data.1 bcap7] 7,TB1.b2.seto _ _ (by omega),TB1.bel.setCell (Nat.le_refl _) _⟩;have O6x:=((O6.out.call bA1).below b1 (by omega)).stN w.heap.size 7 [.slice bo7 d.data.1 bcap7] (by omega);have O7x:=o1.stN w.heap.size 7 [.slice bo7 d.data.1 bcap7] (by omega)
 have e1:(w2.setCell ⟨w.heap.size,7,none⟩ (.slice bo7 d.data.1 bcap7)).heap.size=w2.heap.size:=by simp
 clear TA1 TB1 o1 b1 bA1 T1 O6
 go_upto_region 3 with (at_builtin;refine zdt rfl (.tmp 8) (.tmp 10) rfl ?_ ?_ hrun ?_;(simp [Act.eval]);(simp [Act.eval]))
 obtain ⟨W2,hW2⟩:∃ x,x=w2.setCell ⟨w.heap.size,7,none⟩ (.slice bo7 d.data.1 bcap7):=⟨_,rfl⟩
 have O6:Hid (OwnT zai W2 W0.heap.size w1.heap.size d.rows [.slice bo6 d.rows.1 bcap6]):=by rw [hW2];exact O6x
 have O7:Hid (OwnT zae W2 W1.heap.size w2.heap.size d.data [.slice bo7 d.data.1 bcap7]):=by rw [hW2];exact O7x
 rw [← hW2] at T2 e1 ⊢;clear hW2 hrun xa xb xf O6x O7x;have bA2:=bAl W2 (.cells #[] 5);have TA2:=T2.call bA2;obtain ⟨v',w3,hrun,o2,b2⟩:=zcK 29 (W2.alloc (.cells #[] 5)) W2.heap.size (zeb W2 5) (zae.rd_below h8 TA2.bel hhi) (show d.delta.1≤10000000 by omega);obtain ⟨bo8,bcap8,hv⟩:=zbb o2;obtain rfl:=zaK hv;clear hv;have zw2:W2.heap.size+1≤w3.heap.size:=Nat.le_trans (by simp) b2.size;have TB2:Two w w3 (rwR d bo6 bcap6 bo7 bcap7 ao8 cap8).toArray #[.int .i64 0,.int .i64 0,.string ⟨#[]⟩,.int .i64 0,.int .i64 0,.int .i64 0,.slice none 0 0,.slice none 0 0,.slice none 0 0] 43 43:=⟨TA2.b1.below b2 (by omega),TA2.b2.below b2 (by omega),TA2.bel.trans (b2.mono (by omega))⟩;have xa:(W2.alloc (.cells #[] 5)).cell? ⟨w.heap.size,8,none⟩=some (.slice ao8 d.delta.1 cap8):=TA2.b1.cell 8;have xb:w3.cell? ⟨w.heap.size,8,none⟩=some (.slice ao8 d.delta.1 cap8):=TB2.b1.cell 8;have xf:w3.frozen? ⟨w.heap.size,8,none⟩=false:=TB2.b1.frozen 8;have T3:Two w (w3.setCell ⟨w.heap.size,8,none⟩ (.slice bo8 d.delta.1 bcap8)) (rwR d bo6 bcap6 bo7 bcap7 bo8 bcap8).toArray #[.int .i64 0,.int .i64 0,.string ⟨#[]⟩,.int .i64 0,.int .i64 0,.int .i64 0,.slice none 0 0,.slice none 0 0,.slice none 0 0] 43 43:=⟨TB2.b1.stL [.slice bo8 d.delta.1 bcap8] 8,TB2.b2.seto _ _ (by omega),TB2.bel.setCell (Nat.le_refl _) _⟩;have O6x:=((O6.out.call bA2).below b2 (by omega)).stN w.heap.size 8 [.slice bo8 d.delta.1 bcap8] (by omega);have O7x:=((O7.out.call bA2).below b2 (by omega)).stN w.heap.size 8 [.slice bo8 d.delta.1 bcap8] (by omega);have O8x:=o2.stN w.heap.size 8 [.slice bo8 d.delta.1 bcap8] (by omega)
 have e2:(w3.setCell ⟨w.heap.size,8,none⟩ (.slice bo8 d.delta.1 bcap8)).heap.size=w3.heap.size:=by simp
 clear TA2 TB2 o2 b2 bA2 T2 O6 O7
 go_upto_region 4 with (at_builtin;refine zdt rfl (.tmp 13) (.tmp 15) rfl ?_ ?_ hrun ?_;(simp [Act.eval]);(simp [Act.eval]))
 obtain ⟨W3,hW3⟩:∃ x,x=w3.setCell ⟨w.heap.size,8,none⟩ (.slice bo8 d.delta.1 bcap8):=⟨_,rfl⟩
 have O6:Hid (OwnT zai W3 W0.heap.size w1.heap.size d.rows [.slice bo6 d.rows.1 bcap6]):=by rw [hW3];exact O6x
 have O7:Hid (OwnT zae W3 W1.heap.size w2.heap.size d.data [.slice bo7 d.data.1 bcap7]):=by rw [hW3];exact O7x
 have O8:Hid (OwnT zae W3 W2.heap.size w3.heap.size d.delta [.slice bo8 d.delta.1 bcap8]):=by rw [hW3];exact O8x
 rw [← hW3] at T3 e2 ⊢;clear hW3 hrun xa xb xf O6x O7x O8x;have y_0:W3.cell? ⟨w.heap.size,0,none⟩=some (.int .i64 d.kind):=T3.b1.cell 0;have y_1:W3.cell? ⟨w.heap.size,1,none⟩=some (.int .i64 d.seq):=T3.b1.cell 1;have y_2:W3.cell? ⟨w.heap.size,2,none⟩=some (.string d.name):=T3.b1.cell 2;have y_3:W3.cell? ⟨w.heap.size,3,none⟩=some (.int .i64 d.length):=T3.b1.cell 3;have y_4:W3.cell? ⟨w.heap.size,4,none⟩=some (.int .i64 d.group):=T3.b1.cell 4;have y_5:W3.cell? ⟨w.heap.size,5,none⟩=some (.int .i64 d.row):=T3.b1.cell 5;have y_6:W3.cell? ⟨w.heap.size,6,none⟩=some (.slice bo6 d.rows.1 bcap6):=T3.b1.cell 6;have y_7:W3.cell? ⟨w.heap.size,7,none⟩=some (.slice bo7 d.data.1 bcap7):=T3.b1.cell 7;have y_8:W3.cell? ⟨w.heap.size,8,none⟩=some (.slice bo8 d.delta.1 bcap8):=T3.b1.cell 8;have r_0:W3.cell? ⟨w.heap.size+1,0,none⟩=some (.int .i64 0):=T3.b2.cell 0;have rf_0:W3.frozen? ⟨w.heap.size+1,0,none⟩=false:=T3.b2.frozen 0;have r_1:W3.cell? ⟨w.heap.size+1,1,none⟩=some (.int .i64 0):=T3.b2.cell 1;have rf_1:W3.frozen? ⟨w.heap.size+1,1,none⟩=false:=T3.b2.frozen 1;have r_2:W3.cell? ⟨w.heap.size+1,2,none⟩=some (.string ⟨#[]⟩):=T3.b2.cell 2;have rf_2:W3.frozen? ⟨w.heap.size+1,2,none⟩=false:=T3.b2.frozen 2;have r_3:W3.cell? ⟨w.heap.size+1,3,none⟩=some (.int .i64 0):=T3.b2.cell 3;have rf_3:W3.frozen? ⟨w.heap.size+1,3,none⟩=false:=T3.b2.frozen 3;have r_4:W3.cell? ⟨w.heap.size+1,4,none⟩=some (.int .i64 0):=T3.b2.cell 4;have rf_4:W3.frozen? ⟨w.heap.size+1,4,none⟩=false:=T3.b2.frozen 4;have r_5:W3.cell? ⟨w.heap.size+1,5,none⟩=some (.int .i64 0):=T3.b2.cell 5;have rf_5:W3.frozen? ⟨w.heap.size+1,5,none⟩=false:=T3.b2.frozen 5;have r_6:W3.cell? ⟨w.heap.size+1,6,none⟩=some (.slice none 0 0):=T3.b2.cell 6;have rf_6:W3.frozen? ⟨w.heap.size+1,6,none⟩=false:=T3.b2.frozen 6;have r_7:W3.cell? ⟨w.heap.size+1,7,none⟩=some (.slice none 0 0):=T3.b2.cell 7;have rf_7:W3.frozen? ⟨w.heap.size+1,7,none⟩=false:=T3.b2.frozen 7;have r_8:W3.cell? ⟨w.heap.size+1,8,none⟩=some (.slice none 0 0):=T3.b2.cell 8;have rf_8:W3.frozen? ⟨w.heap.size+1,8,none⟩=false:=T3.b2.frozen 8;have HB:=hid T3.bel;clear T3;go_wp2;refine bodyPost_ret (v:=.agg (rwR d bo6 bcap6 bo7 bcap7 bo8 bcap8).toArray) (by simp [results,Tryz.results100,go_sem,r_0,y_0,r_1,y_1,r_2,y_2,r_3,y_3,r_4,y_4,r_5,y_5,r_6,y_6,r_7,y_7,r_8,y_8]) rfl ?_;have F:OwnT zad W3 (w.heap.size+1+1) W3.heap.size d ([.int .i64 d.kind]++([.int .i64 d.seq]++([.string d.name]++([.int .i64 d.length]++([.int .i64 d.group]++([.int .i64 d.row]++([.slice bo6 d.rows.1 bcap6]++([.slice bo7 d.data.1 bcap7]++[.slice bo8 d.delta.1 bcap8])))))))):=OwnT.conv (OwnT.pre (A:=layI) (a:=d.kind) (c:=[.int .i64 d.kind]) ⟨rfl,Q0.out,rfl⟩ (OwnT.pre (A:=layI) (a:=d.seq) (c:=[.int .i64 d.seq]) ⟨rfl,Q1.out,rfl⟩ (OwnT.pre (A:=layS) (a:=d.name) (c:=[.string d.name]) ⟨rfl,Q2.out,rfl⟩ (OwnT.pre (A:=layI) (a:=d.length) (c:=[.int .i64 d.length]) ⟨rfl,Q3.out,rfl⟩ (OwnT.pre (A:=layI) (a:=d.group) (c:=[.int .i64 d.group]) ⟨rfl,Q4.out,rfl⟩ (OwnT.pre (A:=layI) (a:=d.row) (c:=[.int .i64 d.row]) ⟨rfl,Q5.out,rfl⟩ (OwnT.two (O6.out.weaken (by omega) (Nat.le_refl _)) (OwnT.two O7.out (O8.out.weaken (Nat.le_refl _) (by omega)) (by omega) (by omega) (by omega)) (by omega) (by omega) (by omega))))))))
 refine ⟨(rwR d bo6 bcap6 bo7 bcap7 bo8 bcap8),rfl,?_,?_⟩
 ·exact OwnT.finb F (b:=w.heap.size+1) (by omega) (by omega) 0 (rwR d bo6 bcap6 bo7 bcap7 bo8 bcap8) _ rfl
 ·exact HB.out.trans (zaJ (by omega) (rwR d bo6 bcap6 bo7 bcap7 bo8 bcap8) 0)
set_option maxRecDepth 20000 in
theorem ze0:ToS (zad.slice 43) (szSl za3) 64:=fun v d hi w h hhi hn=>by
 obtain ⟨n,x⟩:=d;obtain ⟨ao,cap,hv,hm,hc⟩:=h
 cases hv
 have hn1:=zb1 hn;have hn2:∀ i,i<n→za3 (x i)≤1048576:=fun i hi=>zbl hn hi
 simp only at hn1 hm hc
 have HC:=hid hc;clear hn hc
 go_enter Tryz.func64,Tryz.ntmps64
 go_wp2
 go_loopw [3,4] (fun v i wr=>∃ (k:Nat) (ao':Option Addr) (cap':Nat),k≤n∧i=.int .i64 k∧v=.slice ao' k cap'∧Gat zad 43 wr w.heap.size (.slice ao' k cap') k x∧Below w.heap.size w wr) (fun _ i _=>n-(intOf i).toNat)
 case atStart=>exact ⟨0,_,_,Nat.zero_le _,rfl,rfl,zg7 _ _,(Below.refl _ _).alloc (Nat.le_refl _) _⟩
 case round=>
  obtain ⟨k,ao',cap',hk,rfl,rfl,G,hb⟩:=hrel;obtain ⟨wo,rfl⟩:∃ y,y=wr:=⟨_,rfl⟩;have HG:=hid G;have HB:=hid hb;have zo:w.heap.size≤wo.heap.size:=hb.size;clear G
  by_cases hlt:k<n
  ·obtain ⟨b,off,he,hblt,hel⟩:=HC.out (by omega)
   subst he;obtain ⟨ck,hrk,hcell⟩:=zar (t:=0) hel hb hhi hblt hlt;obtain ⟨ao6,cap6,ao7,cap7,ao8,cap8,rfl,-⟩:=zbp hrk;have c0:wo.cell? ⟨b,off+k*9,none⟩=some (.int .i64 (x k).kind):=hcell 0 (by decide);have c1:wo.cell? ⟨b,off+k*9+1,none⟩=some (.int .i64 (x k).seq):=hcell 1 (by decide);have c2:wo.cell? ⟨b,off+k*9+2,none⟩=some (.string (x k).name):=hcell 2 (by decide);have c3:wo.cell? ⟨b,off+k*9+3,none⟩=some (.int .i64 (x k).length):=hcell 3 (by decide);have c4:wo.cell? ⟨b,off+k*9+4,none⟩=some (.int .i64 (x k).group):=hcell 4 (by decide);have c5:wo.cell? ⟨b,off+k*9+5,none⟩=some (.int .i64 (x k).row):=hcell 5 (by decide);have c6:wo.cell? ⟨b,off+k*9+6,none⟩=some (.slice ao6 (x k).rows.1 cap6):=hcell 6 (by decide);have c7:wo.cell? ⟨b,off+k*9+7,none⟩=some (.slice ao7 (x k).data.1 cap7):=hcell 7 (by decide);have c8:wo.cell? ⟨b,off+k*9+8,none⟩=some (.slice ao8 (x k).delta.1 cap8):=hcell 8 (by decide);have C:=zfQ _ (x k) hi wo hrk (Nat.le_trans hhi zo) (hn2 k hlt);clear hel hcell hrk hb
   go_wp2_with fail
   refine C.mono ?_;rintro e w2 ⟨cs',rfl,o2,b2⟩;obtain ⟨bo6,bc6,bo7,bc7,bo8,bc8,rfl⟩:=zdW o2;clear C c0 c1 c2 c3 c4 c5 c6 c7 c8
   go_wp2_with (at_builtin;refine zdq zfO rfl (.tmp 12) (.tmp 18) rfl (lo:=w.heap.size) (n:=k) (v:=.slice ao' k cap') (x:=x) ?_ HG.out b2 o2 ?_ w2.heap.size 1 ?_ (fun j _=>zb4 w2 _ _ j) (by omega) (by omega) ?_;(simp [Act.eval]);(exact (Below.refl _ _).alloc (Nat.le_refl _) _);(simp [Act.eval]);intro v4 w4 g4 b4;obtain ⟨ao4,cap4,rfl⟩:=g4.form)
   go_roundw
   case rel=>exact ⟨k+1,ao4,cap4,by omega,by go_num,rfl,g4.congr (fun i _=>by rw [zb6]),HB.out.trans b4⟩
   case measure=>simp [intOf];omega
  ·obtain rfl:k=n:=by omega
   clear hb;go_wp2;go_ret;exact ⟨_,rfl,HG.out.own,HB.out⟩
theorem zdi {E:Lay RecD} {T e:TypeId} {by_:Nat} {zs:List Value} (I:ElInfo E T e by_ zs) (ty:TypeId) {w:World} {lo m:Nat} {v:Value} {xs cs:List Value} (hr:w.ownsRow lo e E.sz v m xs) (hcs:cs.length=E.sz) (h1:∀ u,u∈cs→u.oneCell'=true) (b c:Nat) (hcell:∀ j,j<E.sz→w.cell? ⟨b,j,none⟩=cs[j]?) (hn:m≤10000000) (hlo:lo≤w.heap.size) :
 ∃ ao cap w',(Builtin.append_ #[T,T] ty #[v,.slice (some ⟨b,0,none⟩) 1 c]).run Tryz.prog w=.ok (.slice ao (m+1) cap) w'∧w'.ownsRow lo e E.sz (.slice ao (m+1) cap) (m+1) (xs++cs)∧Below lo w w':=by
 obtain ⟨hs,hzs,hu,hi,few⟩:=I
 obtain ⟨i0,hi0⟩:∃ i0,Tryz.prog.info? e=some i0:=by
  cases h:Tryz.prog.info? e with
  | none=>rw [h] at hi;cases hi
  | some i0=>exact ⟨i0,rfl⟩
 rw [hi0] at hi
 simp only [Option.map_some,Option.some.injEq,Prod.mk.injEq] at hi
 obtain ⟨g1,g2,g3⟩:=hi
 obtain ⟨z,hz,hzc⟩:∃ z,i0.zero=some z∧z.cells=zs.toArray:=by
  cases h:i0.zero with
  | none=>rw [h] at g1;cases g1
  | some z=>rw [h] at g1;exact ⟨z,rfl,by simpa using g1⟩
 obtain ⟨v',w',hrun,r1,r2,r3,r4⟩:=run_append_own_at (P:=Tryz.prog) w lo T ty e i0 z E.sz by_ hu hi0 hz g2 g3 (by rw [hzc];simpa using hzs) hs v m xs hr ⟨b,0,none⟩ 1 c cs (by rw [hcs,Nat.one_mul])
  (fun j u hj=>by
   have hlt:j<cs.length:=(List.getElem?_eq_some_iff.1 hj).1;have:=hcell j (by omega);rw [hj] at this;rw [zjI]
   exact this) h1 (by unfold maxLen;omega) (by
    have:(m+1)*by_≤10000001*1000:=Nat.mul_le_mul (by omega) few
    omega) hlo
 have hf:∃ ao cap,v'=.slice ao (m+1) cap:=by
  rcases r1.2 with ⟨rfl,h0⟩ | ⟨g,cap,cur,rfl,_⟩
  ·omega
  ·exact ⟨_,_,rfl⟩
 obtain ⟨ao,cap,rfl⟩:=hf;exact ⟨ao,cap,w',hrun,r1,(Below.refl _ _).grown r2 hlo (fun k hk=>(hr.lt k hk).1)⟩
set_option maxRecDepth 20000 in
theorem zfR (g cap n:Nat) (x:Nat→RecD) (ce:Nat→List Value) (Ls:Nat→List Nat) (kd sq:Int) (w:World) (hO:SlO zad 43 w g cap n x ce Ls) (hn:n≤1048576) :
 Calls Tryz.prog 89 #[.slice (some ⟨g,0,none⟩) n cap,.int .i64 kd,.int .i64 sq] w fun e w'=>∃ ao c,e=.returned (.slice ao (zav (fun i=>zaz kd sq (x i)) n).length c)∧w'.ownsRow w.heap.size 43 zad.sz (.slice ao (zav (fun i=>zaz kd sq (x i)) n).length c) (zav (fun i=>zaz kd sq (x i)) n).length (catN (zav (fun i=>zaz kd sq (x i)) n).length (fun i=>ce (selF (fun i=>zaz kd sq (x i)) n i)))∧Below w.heap.size w w':=by
 have h:=hid hO;have hg:=hO.lt;clear hO
 go_enter Tryz.func89,Tryz.ntmps89
 go_wp2
 go_loopw [7,8] (fun v z wr=>∃ (k:Nat) (ao:Option Addr) (c:Nat),k≤n∧z=.int .i64 k∧v=.slice ao (zav (fun i=>zaz kd sq (x i)) k).length c∧wr.ownsRow w.heap.size 43 zad.sz (.slice ao (zav (fun i=>zaz kd sq (x i)) k).length c) (zav (fun i=>zaz kd sq (x i)) k).length (catN (zav (fun i=>zaz kd sq (x i)) k).length (fun i=>ce (selF (fun i=>zaz kd sq (x i)) k i)))∧Below w.heap.size w wr) (fun _ z _=>n-(intOf z).toNat)
 case atStart=>
  refine ⟨0,some ⟨w.heap.size,0,none⟩,0,Nat.zero_le _,rfl,rfl,?_,(Below.refl _ _).alloc (Nat.le_refl _) _⟩;have h0:=World.ownsRow_lit (base:=w.heap.size) (e:=43) (size:=zad.sz) w #[] 0 (Nat.le_refl _) (Nat.zero_le _) (by simp)
  simpa [zav,zbs] using h0
 case round=>
  obtain ⟨k,ao,c,hk,rfl,rfl,hrw,hbl⟩:=hrel;obtain ⟨wx,rfl⟩:∃ y,y=wr:=⟨_,rfl⟩;have HRW:=hid hrw;have HBL:=hid hbl;have zx:=hbl.size
  by_cases hlt:k<n
  ·obtain ⟨ao6,cap6,ao7,cap7,ao8,cap8,K6,K7,K8,eR,-⟩:=zdV (h.out.each k hlt)
   have HCE:=hid eR;have S5:=h.out.kept (w':=wx) (fun b hb=>hbl.block b (h.out.mem_lt b hb));have s_0:wx.cell? ⟨g,k*9,none⟩=some (.int .i64 (x k).kind):=(S5.cell hlt (j:=0) (by decide)).trans (by rw [eR];rfl);have s_1:wx.cell? ⟨g,k*9+1,none⟩=some (.int .i64 (x k).seq):=(S5.cell hlt (j:=1) (by decide)).trans (by rw [eR];rfl);have s_2:wx.cell? ⟨g,k*9+2,none⟩=some (.string (x k).name):=(S5.cell hlt (j:=2) (by decide)).trans (by rw [eR];rfl);have s_3:wx.cell? ⟨g,k*9+3,none⟩=some (.int .i64 (x k).length):=(S5.cell hlt (j:=3) (by decide)).trans (by rw [eR];rfl);have s_4:wx.cell? ⟨g,k*9+4,none⟩=some (.int .i64 (x k).group):=(S5.cell hlt (j:=4) (by decide)).trans (by rw [eR];rfl);have s_5:wx.cell? ⟨g,k*9+5,none⟩=some (.int .i64 (x k).row):=(S5.cell hlt (j:=5) (by decide)).trans (by rw [eR];rfl);have s_6:wx.cell? ⟨g,k*9+6,none⟩=some (.slice ao6 (x k).rows.1 cap6):=(S5.cell hlt (j:=6) (by decide)).trans (by rw [eR];rfl);have s_7:wx.cell? ⟨g,k*9+7,none⟩=some (.slice ao7 (x k).data.1 cap7):=(S5.cell hlt (j:=7) (by decide)).trans (by rw [eR];rfl);have s_8:wx.cell? ⟨g,k*9+8,none⟩=some (.slice ao8 (x k).delta.1 cap8):=(S5.cell hlt (j:=8) (by decide)).trans (by rw [eR];rfl)
   have i1:(0:Int)≤(k:Int):=by omega
   have i2:(k:Int)<(n:Int):=by omega
   clear hrw hbl S5 eR
   by_cases hkd:(x k).kind=kd
   ·by_cases hsq:(x k).seq=sq
    ·have te1:((x k).kind != kd)=false:=by simpa using hkd
     have te2:((x k).seq != sq)=false:=by simpa using hsq
     have hpk:(fun i=>zaz kd sq (x i)) k=false:=by show zaz kd sq (x k)=false;unfold zaz;simp [hkd,hsq]
     have HSK:Hid (zav (fun i=>zaz kd sq (x i)) (k+1)=zav (fun i=>zaz kd sq (x i)) k):=zcf hpk;have HSE:Hid (∀ i,i<(zav (fun i=>zaz kd sq (x i)) k).length→selF (fun i=>zaz kd sq (x i)) (k+1) i=selF (fun i=>zaz kd sq (x i)) k i):=fun i hi=>zce hi;clear hpk hkd hsq;go_wp2
     go_roundw
     case rel=>
      refine ⟨k+1,ao,c,by omega,by go_num,by rw [HSK.out],?_,HBL.out⟩;rw [HSK.out,za9 (g:=fun i=>ce (selF (fun i=>zaz kd sq (x i)) k i)) (fun i hi=>by rw [HSE.out i hi])];exact HRW.out
     case measure=>simp [intOf];omega
    ·have te1:((x k).kind != kd)=false:=by simpa using hkd
     have te2:((x k).seq != sq)=true:=by simpa using hsq
     have HS:=hid hsq;have HK:Hid True:=trivial;clear hkd hsq
     skip
     have hpk:(fun i=>zaz kd sq (x i)) k=true:=by show zaz kd sq (x k)=true;unfold zaz;simp only [Bool.not_eq_true',Bool.and_eq_false_iff];first | exact .inl (by simpa using HK.out) | exact .inr (by simpa using HS.out)
     have hnext:(zav (fun i=>zaz kd sq (x i)) (k+1)).length=(zav (fun i=>zaz kd sq (x i)) k).length+1:=by rw [zbu,if_pos hpk];simp
     have hcat:catN (zav (fun i=>zaz kd sq (x i)) (k+1)).length (fun i=>ce (selF (fun i=>zaz kd sq (x i)) (k+1) i))=catN (zav (fun i=>zaz kd sq (x i)) k).length (fun i=>ce (selF (fun i=>zaz kd sq (x i)) k i))++ce k:=zix hpk;have HNX:=hid hnext;have HCT:=hid hcat;have bB:Below w.heap.size w (wx.alloc (.cells #[.int .i64 (x k).kind,.int .i64 (x k).seq,.string (x k).name,.int .i64 (x k).length,.int .i64 (x k).group,.int .i64 (x k).row,.slice ao6 (x k).rows.1 cap6,.slice ao7 (x k).data.1 cap7,.slice ao8 (x k).delta.1 cap8] 43)):=HBL.out.alloc zx _;obtain ⟨ao',c',w4,hrun,r4,b4⟩:=zdi zfO 95 (HRW.out.alloc (.cells #[.int .i64 (x k).kind,.int .i64 (x k).seq,.string (x k).name,.int .i64 (x k).length,.int .i64 (x k).group,.int .i64 (x k).row,.slice ao6 (x k).rows.1 cap6,.slice ao7 (x k).data.1 cap7,.slice ao8 (x k).delta.1 cap8] 43)) (cs:=ce k) (by rw [HCE.out];rfl) (fun u hu=>zad.own_one (h.out.each k hlt) u hu) wx.heap.size 1 (fun j hj=>by rw [HCE.out];exact zb4 wx [.int .i64 (x k).kind,.int .i64 (x k).seq,.string (x k).name,.int .i64 (x k).length,.int .i64 (x k).group,.int .i64 (x k).row,.slice ao6 (x k).rows.1 cap6,.slice ao7 (x k).data.1 cap7,.slice ao8 (x k).delta.1 cap8] 43 j) (by have:=zgJ (fun i=>zaz kd sq (x i)) k;omega) (by simp;omega);clear hpk hnext hcat
     go_wp2_with (at_builtin;refine zdt rfl (.tmp 32) (.tmp 37) rfl ?_ ?_ hrun ?_;(simp [Act.eval]);(simp [Act.eval]))
     go_roundw
     case rel=>exact ⟨k+1,ao',c',by omega,by go_num,by rw [HNX.out],by rw [HCT.out,HNX.out];exact r4,bB.trans b4⟩
     case measure=>simp [intOf];omega
   ·have te1:((x k).kind != kd)=true:=by simpa using hkd
    have HK:=hid hkd;have HS:Hid True:=trivial;clear hkd
    skip
    have hpk:(fun i=>zaz kd sq (x i)) k=true:=by show zaz kd sq (x k)=true;unfold zaz;simp only [Bool.not_eq_true',Bool.and_eq_false_iff];first | exact .inl (by simpa using HK.out) | exact .inr (by simpa using HS.out)
    have hnext:(zav (fun i=>zaz kd sq (x i)) (k+1)).length=(zav (fun i=>zaz kd sq (x i)) k).length+1:=by rw [zbu,if_pos hpk];simp
    have hcat:catN (zav (fun i=>zaz kd sq (x i)) (k+1)).length (fun i=>ce (selF (fun i=>zaz kd sq (x i)) (k+1) i))=catN (zav (fun i=>zaz kd sq (x i)) k).length (fun i=>ce (selF (fun i=>zaz kd sq (x i)) k i))++ce k:=zix hpk;have HNX:=hid hnext;have HCT:=hid hcat;have bB:Below w.heap.size w (wx.alloc (.cells #[.int .i64 (x k).kind,.int .i64 (x k).seq,.string (x k).name,.int .i64 (x k).length,.int .i64 (x k).group,.int .i64 (x k).row,.slice ao6 (x k).rows.1 cap6,.slice ao7 (x k).data.1 cap7,.slice ao8 (x k).delta.1 cap8] 43)):=HBL.out.alloc zx _;obtain ⟨ao',c',w4,hrun,r4,b4⟩:=zdi zfO 95 (HRW.out.alloc (.cells #[.int .i64 (x k).kind,.int .i64 (x k).seq,.string (x k).name,.int .i64 (x k).length,.int .i64 (x k).group,.int .i64 (x k).row,.slice ao6 (x k).rows.1 cap6,.slice ao7 (x k).data.1 cap7,.slice ao8 (x k).delta.1 cap8] 43)) (cs:=ce k) (by rw [HCE.out];rfl) (fun u hu=>zad.own_one (h.out.each k hlt) u hu) wx.heap.size 1 (fun j hj=>by rw [HCE.out];exact zb4 wx [.int .i64 (x k).kind,.int .i64 (x k).seq,.string (x k).name,.int .i64 (x k).length,.int .i64 (x k).group,.int .i64 (x k).row,.slice ao6 (x k).rows.1 cap6,.slice ao7 (x k).data.1 cap7,.slice ao8 (x k).delta.1 cap8] 43 j) (by have:=zgJ (fun i=>zaz kd sq (x i)) k;omega) (by simp;omega);clear hpk hnext hcat
    go_wp2_with (at_builtin;refine zdt rfl (.tmp 32) (.tmp 37) rfl ?_ ?_ hrun ?_;(simp [Act.eval]);(simp [Act.eval]))
    go_roundw
    case rel=>exact ⟨k+1,ao',c',by omega,by go_num,by rw [HNX.out],by rw [HCT.out,HNX.out];exact r4,bB.trans b4⟩
    case measure=>simp [intOf];omega
  ·obtain rfl:k=n:=by omega
   clear hrw hbl;go_wp2;go_ret;exact ⟨ao,c,rfl,HRW.out,HBL.out⟩
set_option maxRecDepth 20000 in
theorem zeB (a0 a1:Nat) (kd sq:Int) (r0 r1:Int) (r2:ByteArray) (r3 r4 r5:Int) (r6:Option Addr) (r7 r8:Nat) (r9:Option Addr) (r10 r11:Nat) (r12:Option Addr) (r13 r14:Nat) (w:World) (h0:w.cell? ⟨a0,0,none⟩=some (.int .i64 kd)) (h1:w.cell? ⟨a1,0,none⟩=some (.int .i64 sq)) (hl0:a0<w.heap.size) (hl1:a1<w.heap.size) :
 Calls Tryz.prog 132 #[.agg #[.int .i64 r0,.int .i64 r1,.string r2,.int .i64 r3,.int .i64 r4,.int .i64 r5,.slice r6 r7 r8,.slice r9 r10 r11,.slice r12 r13 r14],.pointer (some ⟨a0,0,none⟩),.pointer (some ⟨a1,0,none⟩)] w fun e w'=>e=.returned (.bool (r0==kd&&r1==sq))∧Below w.heap.size w w':=by
 have B:=zaL w #[.int .i64 r0,.int .i64 r1,.string r2,.int .i64 r3,.int .i64 r4,.int .i64 r5,.slice r6 r7 r8,.slice r9 r10 r11,.slice r12 r13 r14] 43;have x0:(w.alloc (.cells #[.int .i64 r0,.int .i64 r1,.string r2,.int .i64 r3,.int .i64 r4,.int .i64 r5,.slice r6 r7 r8,.slice r9 r10 r11,.slice r12 r13 r14] 43)).cell? ⟨w.heap.size,0,none⟩=some (.int .i64 r0):=B.b1.cell 0;have x1:(w.alloc (.cells #[.int .i64 r0,.int .i64 r1,.string r2,.int .i64 r3,.int .i64 r4,.int .i64 r5,.slice r6 r7 r8,.slice r9 r10 r11,.slice r12 r13 r14] 43)).cell? ⟨w.heap.size,1,none⟩=some (.int .i64 r1):=B.b1.cell 1;have c0:(w.alloc (.cells #[.int .i64 r0,.int .i64 r1,.string r2,.int .i64 r3,.int .i64 r4,.int .i64 r5,.slice r6 r7 r8,.slice r9 r10 r11,.slice r12 r13 r14] 43)).cell? ⟨a0,0,none⟩=some (.int .i64 kd):=(B.bel.cell (p:=⟨a0,0,none⟩) hl0).trans h0;have c1:(w.alloc (.cells #[.int .i64 r0,.int .i64 r1,.string r2,.int .i64 r3,.int .i64 r4,.int .i64 r5,.slice r6 r7 r8,.slice r9 r10 r11,.slice r12 r13 r14] 43)).cell? ⟨a1,0,none⟩=some (.int .i64 sq):=(B.bel.cell (p:=⟨a1,0,none⟩) hl1).trans h1;have HB:=hid B.bel;clear h0 h1 B
 by_cases hk:r0=kd
 ·subst hk
  by_cases hs:r1=sq
  ·subst hs
   have e1:(r0==r0)=true:=by simp
   have e2:(r1==r1)=true:=by simp
   go_enter Tryz.func132,Tryz.ntmps132
   go_wp2;go_ret;exact ⟨by simp,HB.out⟩
  ·have e1:(r0==r0)=true:=by simp
   have e2:(r1==sq)=false:=by simpa using hs
   clear hs
   go_enter Tryz.func132,Tryz.ntmps132
   go_wp2;go_ret;exact ⟨by simp [e2],HB.out⟩
 ·have e1:(r0==kd)=false:=by simpa using hk
  clear hk
  go_enter Tryz.func132,Tryz.ntmps132
  go_wp2;go_ret;exact ⟨by simp [e1],HB.out⟩
theorem zhc {w w':World} {B a:Nat} {v:Value} (h:Below B w w') (ha:a<B) (hc:w.cell? ⟨a,0,none⟩=some v):w'.cell? ⟨a,0,none⟩=some v:=(h.cell (p:=⟨a,0,none⟩) ha).trans hc
set_option maxRecDepth 20000 in
theorem zgN (g cap n:Nat) (x:Nat→RecD) (ce:Nat→List Value) (Ls:Nat→List Nat) (a0 a1:Nat) (kd sq:Int) (w:World) (hO:SlO zad 43 w g cap n x ce Ls) (h0:w.cell? ⟨a0,0,none⟩=some (.int .i64 kd)) (h1:w.cell? ⟨a1,0,none⟩=some (.int .i64 sq)) (hl0:a0<w.heap.size) (hl1:a1<w.heap.size) (hn:n≤1048576) :
 Calls Tryz.prog 161 #[.slice (some ⟨g,0,none⟩) n cap,.func (.func 132) #[] #[.pointer (some ⟨a0,0,none⟩),.pointer (some ⟨a1,0,none⟩)]] w fun e w'=>((e=.returned (.int .i64 (-1))∧∀ i,i<n→(fun i=>zaz kd sq (x i)) i=true)∨∃ i:Nat,i<n∧e=.returned (.int .i64 (i:Int))∧(fun i=>zaz kd sq (x i)) i=false∧∀ t,t<i→(fun i=>zaz kd sq (x i)) t=true)∧Below w.heap.size w w':=by
 have h:=hid hO;have H0:=hid h0;have H1:=hid h1;clear hO h0 h1
 go_enter Tryz.func161,Tryz.ntmps161
 go_wp2
 go_loopw [8] (fun z wr=>∃ k:Nat,k≤n∧z=.int .i64 k∧(∀ t,t<k→(fun i=>zaz kd sq (x i)) t=true)∧Below w.heap.size w wr) (fun z _=>n-(intOf z).toNat)
 case atStart=>exact ⟨0,Nat.zero_le _,rfl,fun t ht=>by omega,Below.refl _ _⟩
 case round=>
  obtain ⟨k,hk,rfl,hall,hbl⟩:=hrel;obtain ⟨wx,rfl⟩:∃ y,y=wr:=⟨_,rfl⟩;have HALL:=hid hall;have HBL:=hid hbl;have zx:=hbl.size;clear hall
  by_cases hlt:k<n
  ·obtain ⟨ao6,cap6,ao7,cap7,ao8,cap8,K6,K7,K8,eR,-⟩:=zdV (h.out.each k hlt)
   have S5:=h.out.kept (w':=wx) (fun b hb=>hbl.block b (h.out.mem_lt b hb));have s_0:wx.cell? ⟨g,k*9,none⟩=some (.int .i64 (x k).kind):=(S5.cell hlt (j:=0) (by decide)).trans (by rw [eR];rfl);have s_1:wx.cell? ⟨g,k*9+1,none⟩=some (.int .i64 (x k).seq):=(S5.cell hlt (j:=1) (by decide)).trans (by rw [eR];rfl);have s_2:wx.cell? ⟨g,k*9+2,none⟩=some (.string (x k).name):=(S5.cell hlt (j:=2) (by decide)).trans (by rw [eR];rfl);have s_3:wx.cell? ⟨g,k*9+3,none⟩=some (.int .i64 (x k).length):=(S5.cell hlt (j:=3) (by decide)).trans (by rw [eR];rfl);have s_4:wx.cell? ⟨g,k*9+4,none⟩=some (.int .i64 (x k).group):=(S5.cell hlt (j:=4) (by decide)).trans (by rw [eR];rfl);have s_5:wx.cell? ⟨g,k*9+5,none⟩=some (.int .i64 (x k).row):=(S5.cell hlt (j:=5) (by decide)).trans (by rw [eR];rfl);have s_6:wx.cell? ⟨g,k*9+6,none⟩=some (.slice ao6 (x k).rows.1 cap6):=(S5.cell hlt (j:=6) (by decide)).trans (by rw [eR];rfl);have s_7:wx.cell? ⟨g,k*9+7,none⟩=some (.slice ao7 (x k).data.1 cap7):=(S5.cell hlt (j:=7) (by decide)).trans (by rw [eR];rfl);have s_8:wx.cell? ⟨g,k*9+8,none⟩=some (.slice ao8 (x k).delta.1 cap8):=(S5.cell hlt (j:=8) (by decide)).trans (by rw [eR];rfl)
   have i1:(0:Int)≤(k:Int):=by omega
   have i2:(k:Int)<(n:Int):=by omega
   have CS:=zeB a0 a1 kd sq (x k).kind (x k).seq (x k).name (x k).length (x k).group (x k).row ao6 (x k).rows.1 cap6 ao7 (x k).data.1 cap7 ao8 (x k).delta.1 cap8 wx (zhc hbl hl0 H0.out) (zhc hbl hl1 H1.out) (by omega) (by omega);obtain ⟨t,ht⟩:∃ t,t=((x k).kind==kd&&(x k).seq==sq):=⟨_,rfl⟩;rw [← ht] at CS
   have HT:Hid ((fun i=>zaz kd sq (x i)) k=!t):=by rw [ht];rfl
   clear hbl S5 eR ht
   go_wp2_with fail
   refine CS.mono ?_;rintro e w5 ⟨rfl,b5⟩;have B5:=hid (HBL.out.trans (b5.mono zx));clear b5 CS
   cases t with
   | true=>
    go_wp2;go_ret;exact ⟨.inr ⟨k,hlt,rfl,HT.out,HALL.out⟩,B5.out⟩
   | false=>
    go_wp2
    go_roundw
    case rel=>exact ⟨k+1,by omega,by go_num,fun t ht=>by
     by_cases c:t=k
     ·rw [c];exact HT.out
     ·exact HALL.out t (by omega),B5.out⟩
    case measure=>simp [intOf];omega
  ·obtain rfl:k=n:=by omega
   clear hbl;go_wp2;go_ret;exact ⟨.inl ⟨rfl,HALL.out⟩,HBL.out⟩
def mixF {β:Type} (p:Nat→Bool) (j:Nat) (f:Nat→β):Nat→β:=fun m=>if m<(zav p j).length then f (selF p j m) else f m
theorem zjS {β:Type} {p:Nat→Bool} {j m:Nat} (f:Nat→β) (h:(zav p j).length≤m):mixF p j f m=f m:=by unfold mixF;rw [if_neg (by omega)]
theorem zhd {β:Type} {p:Nat→Bool} {j:Nat} (f:Nat→β) (h:p j=false) (m:Nat):mixF p (j+1) f m=mixF p j f m:=by
 unfold mixF;rw [zcf h]
 by_cases c:m<(zav p j).length
 ·rw [if_pos c,if_pos c,zce c]
 ·rw [if_neg c,if_neg c]
theorem zi7 {β:Type} {p:Nat→Bool} {j:Nat} (f:Nat→β) (h:p j=true) (m:Nat):upd (mixF p j f) (zav p j).length (f j) m=mixF p (j+1) f m:=by
 have e:(zav p (j+1)).length=(zav p j).length+1:=by rw [zbu,if_pos h];simp
 unfold mixF
 by_cases c:m=(zav p j).length
 ·subst c
  rw [zaT,if_pos (by omega),zd9 h]
 ·rw [zaW _ _ c]
  by_cases c2:m<(zav p j).length
  ·rw [if_pos c2,if_pos (by omega),zce c2]
  ·rw [if_neg c2,if_neg (by omega)]
theorem zdM {p:Nat→Bool} {n:Nat} (h:∀ i,i<n→p i=true):zav p n=List.range n:=by
 unfold zav;exact List.filter_eq_self.2 (fun i hi=>h i (List.mem_range.1 hi))
theorem ziz {p:Nat→Bool} {n m:Nat} (h:∀ i,i<n→p i=true) (hm:m<n):selF p n m=m:=by
 unfold selF;rw [zdM h,List.getD_eq_getElem?_getD,List.getElem?_range hm];rfl
theorem zjC {β:Type} {p:Nat→Bool} {j:Nat} (f:Nat→β) (h:∀ i,i<j→p i=true) (m:Nat):mixF p j f m=f m:=by
 unfold mixF
 by_cases c:m<(zav p j).length
 ·rw [if_pos c,ziz h (by rw [zdM h] at c;simpa using c)]
 ·rw [if_neg c]
theorem ziA {p:Nat→Bool} {n i:Nat} (hi:i<n) (h:p i=false):(zav p n).length<n:=by
 induction n with
 | zero=>omega
 | succ n ih=>
  by_cases c:i=n
  ·subst c
   rw [zcf h];have:=zgJ p i;omega
  ·have:=ih (by omega)
   have h2:(zav p (n+1)).length≤(zav p n).length+1:=by rw [zbu];split<;>simp
   omega
theorem ziB {w wr:World} {g cap n:Nat} {x:Nat→RecD} {ce:Nat→List Value} {Ls:Nat→List Nat} (h:SlO zad 43 w g cap n x ce Ls) (nd:(g::catN n Ls).Nodup) (p:Nat→Bool) (j:Nat) (hj:j≤n) (hc:ChgL [g] w wr) (hr:wr.ownsRow 0 43 zad.sz (.slice (some ⟨g,0,none⟩) n cap) n (catN n (mixF p j ce))):SlO zad 43 wr g cap n (mixF p j x) (mixF p j ce) (mixF p j Ls):=by
 refine ⟨hr,fun m hm=>?_⟩
 have key:∀ i,i<n→zad.own wr (x i) (ce i) (Ls i):=fun i hi=>Lay.own_chgL _ (h.each i hi) hc (fun b hb hbg=>by
  simp only [List.mem_singleton] at hbg
  subst hbg
  exact (List.nodup_cons.1 nd).1 (zax.2 ⟨i,hi,hb⟩))
 unfold mixF
 by_cases c:m<(zav p j).length
 ·rw [if_pos c,if_pos c,if_pos c]
  exact key _ (by have:=zcZ c;omega)
 ·rw [if_neg c,if_neg c,if_neg c]
  exact key m hm
theorem zi8 (w:World):(zeroValue 43).run Tryz.prog w=.ok (.agg #[.int .i64 0,.int .i64 0,.string ByteArray.empty,.int .i64 0,.int .i64 0,.int .i64 0,.slice none 0 0,.slice none 0 0,.slice none 0 0]) w:=by kernel_rfl
theorem ziC (n:Nat):∀ v,v∈(Builtin.zeroCells #[.int .i64 0,.int .i64 0,.string ByteArray.empty,.int .i64 0,.int .i64 0,.int .i64 0,.slice none 0 0,.slice none 0 0,.slice none 0 0] n).toList→v.oneCell'=true:=fun v hv=>by
 simp only [Builtin.zeroCells,Array.toList_map,List.mem_map] at hv
 obtain ⟨i,_,rfl⟩:=hv;have hi:i%9<9:=Nat.mod_lt _ (by decide)
 show (#[.int .i64 0,.int .i64 0,.string ByteArray.empty,.int .i64 0,.int .i64 0,.int .i64 0,.slice none 0 0,.slice none 0 0,.slice none 0 0]:Array Value)[i%9]!.oneCell'=true
 generalize i%9=j at hi
 match j,hi with
 | 0,_=>rfl
 | 1,_=>rfl
 | 2,_=>rfl
 | 3,_=>rfl
 | 4,_=>rfl
 | 5,_=>rfl
 | 6,_=>rfl
 | 7,_=>rfl
 | 8,_=>rfl
theorem zhM (z:Value) (zs:Array Value) (hv:∀ w,(zeroValue 43).run Tryz.prog w=.ok z w) (hz:z.cells=zs) (h9:zs.size=9) (hone:∀ n v,v∈(Builtin.zeroCells zs n).toList→v.oneCell'=true) (w:World) (ty g o n c:Nat) (cur:Array Value) (hg:w.heap[g]?=some (.cells cur 43 (0,0))) (hn:0<n) (hl:o+n*9≤cur.size):∃ row:Array Value,(Builtin.clear_ #[95] ty #[.slice (some ⟨g,o,none⟩) n c]).run Tryz.prog w=.ok (.tuple #[]) (w.setRow g row)∧row.size=cur.size∧row.toList.take o=cur.toList.take o:=by
 obtain ⟨Z,hZ⟩:∃ Z,Z=(Builtin.zeroCells zs n).toList:=⟨_,rfl⟩
 have hlen:Z.length=n*9:=by rw [hZ];simp [Builtin.zeroCells,h9]
 have hst:=run_storeCells_at (P:=Tryz.prog) g o 43 Z 0 cur w hg (by rw [hlen];omega) (by rw [hZ];exact hone n)
 simp only [Nat.add_zero] at hst
 refine ⟨(cur.toList.take o++Z++cur.toList.drop (o+Z.length)).toArray,?_,?_,?_⟩
 ·obtain ⟨m,rfl⟩:∃ m,n=m+1:=⟨n-1,by omega⟩
  simp [Builtin.clear_,run_underlying Tryz.underlying95,hv,hz,← hZ,hst]
 ·simp only [List.size_toArray,List.length_append,List.length_take,List.length_drop,hlen,Array.length_toList]
  omega
 ·simp only [List.toList_toArray]
  rw [List.append_assoc,List.take_append_of_le_length (by simp;omega),List.take_take,Nat.min_self]
theorem zhN (w:World) (ty g o n c:Nat) (cur:Array Value) (hg:w.heap[g]?=some (.cells cur 43 (0,0))) (hn:0<n) (hl:o+n*9≤cur.size):∃ row:Array Value,(Builtin.clear_ #[95] ty #[.slice (some ⟨g,o,none⟩) n c]).run Tryz.prog w=.ok (.tuple #[]) (w.setRow g row)∧row.size=cur.size∧row.toList.take o=cur.toList.take o:=
 zhM (.agg #[.int .i64 0,.int .i64 0,.string ByteArray.empty,.int .i64 0,.int .i64 0,.int .i64 0,.slice none 0 0,.slice none 0 0,.slice none 0 0]) #[.int .i64 0,.int .i64 0,.string ByteArray.empty,.int .i64 0,.int .i64 0,.int .i64 0,.slice none 0 0,.slice none 0 0,.slice none 0 0] zi8 rfl rfl ziC w ty g o n c cur hg hn hl
theorem zhO (g n cap i:Nat) (hi:i<n) (hn:n≤cap) (w:World):(Instr.slice 95 (.slice (some ⟨g,0,none⟩) n cap) (some (.int .i64 (i:Int))) none none).run Tryz.prog w=.ok (.slice (some ⟨g,i*9,none⟩) (n-i) (cap-i)) w:=by
 have e1:(i:Int)≤(n:Int):=by omega
 have e6:i≤n:=by omega
 have e7:¬ cap=i:=by omega
 simp [Instr.slice,run_underlying Tryz.underlying95,Instr.sliceBounds,Instr.sliceBound,asIntOf,go_sem,e1,e6,e7]
theorem zi9 (g n cap i:Nat) (hi:i≤cap) (w:World):(Instr.slice 95 (.slice (some ⟨g,0,none⟩) n cap) none (some (.int .i64 (i:Int))) none).run Tryz.prog w=.ok (.slice (some ⟨g,0,none⟩) i cap) w:=by
 have e1:(i:Int)≤(cap:Int):=by omega
 simp [Instr.slice,run_underlying Tryz.underlying95,Instr.sliceBounds,Instr.sliceBound,asIntOf,go_sem,e1,hi]
theorem ziD {w:World} {g cap n m s:Nat} {t:TypeId} {xs ys:List Value} (h:w.ownsRow 0 t s (.slice (some ⟨g,0,none⟩) n cap) n xs) (hm:m≤n) (hy:xs.take (m*s)=ys):w.ownsRow 0 t s (.slice (some ⟨g,0,none⟩) m cap) m ys:=by
 have hl:=h.1;have hms:m*s≤n*s:=Nat.mul_le_mul_right s hm;refine ⟨by rw [← hy,List.length_take,hl];omega,?_⟩
 rcases h.2 with ⟨hn,_⟩ | ⟨g',cap',cur,he,hbg,hgg,hnc,hcm,hcs,htk⟩
 ·cases hn
 ·cases he
  refine .inr ⟨g,cap,cur,rfl,hbg,hgg,by omega,hcm,hcs,?_⟩;rw [← hy,← htk,List.take_take,Nat.min_eq_left hms]
theorem ziE {n m s:Nat} {ce:Nat→List Value} (h:∀ i,i<n→(ce i).length=s) (hm:m≤n):(catN n ce).take (m*s)=catN m ce:=by
 induction n with
 | zero=>
  obtain rfl:m=0:=by omega
  simp [catN]
 | succ n ih=>
  by_cases c:m=n+1
  ·subst c
   exact List.take_of_length_le (by rw [zci h];exact Nat.le_refl _)
  ·have hl:(catN n ce).length=n*s:=zci (fun i hi=>h i (by omega))
   have hms:m*s≤n*s:=Nat.mul_le_mul_right s (by omega);rw [za2,List.take_append_of_le_length (by omega)];exact ih (fun i hi=>h i (by omega)) (by omega)
set_option maxRecDepth 20000 in
theorem zfS (g cap n:Nat) (x:Nat→RecD) (ce:Nat→List Value) (Ls:Nat→List Nat) (a0 a1:Nat) (kd sq:Int) (w:World) (hO:SlO zad 43 w g cap n x ce Ls) (nd:(g::catN n Ls).Nodup) (h0:w.cell? ⟨a0,0,none⟩=some (.int .i64 kd)) (h1:w.cell? ⟨a1,0,none⟩=some (.int .i64 sq)) (hl0:a0<w.heap.size) (hl1:a1<w.heap.size) (hg0:a0≠g) (hg1:a1≠g) (hn:n≤1048576) :
 Calls Tryz.prog 131 #[.slice (some ⟨g,0,none⟩) n cap,.func (.func 132) #[] #[.pointer (some ⟨a0,0,none⟩),.pointer (some ⟨a1,0,none⟩)]] w fun e w'=>e=.returned (.slice (some ⟨g,0,none⟩) (zav (fun i=>zaz kd sq (x i)) n).length cap)∧w'.ownsRow 0 43 zad.sz (.slice (some ⟨g,0,none⟩) (zav (fun i=>zaz kd sq (x i)) n).length cap) (zav (fun i=>zaz kd sq (x i)) n).length (catN (zav (fun i=>zaz kd sq (x i)) n).length (fun i=>ce (selF (fun i=>zaz kd sq (x i)) n i)))∧ChgL [g] w w':=by
 have h:=hid hO;have HND:=hid nd;have H0:=hid h0;have H1:=hid h1
 have hnc:n≤cap:=by
  rcases hO.row.2 with ⟨hn,_⟩ | ⟨g',cap',cur,he,hbg,hgg,hnc,_⟩
  ·cases hn
  ·cases he;exact hnc
 have HNC:=hid hnc;have hgl:=hO.lt;have CI:=zgN g cap n x ce Ls a0 a1 kd sq w hO h0 h1 hl0 hl1 hn;clear hO nd h0 h1 hnc
 go_enter Tryz.func131,Tryz.ntmps131
 go_wp2_with fail
 refine CI.mono ?_;rintro e w1 ⟨hcase,b1⟩;have HB1:=hid b1;have z1:=b1.size;clear CI b1
 rcases hcase with ⟨rfl,hall⟩ | ⟨i0,hi0,rfl,hp0,hbef⟩
 ·have HALL:=hid hall
  clear hall
  have te:((-1:Int)==-1)=true:=by decide
  go_wp2;go_ret
  have em:(zav (fun i=>zaz kd sq (x i)) n).length=n:=by rw [zdM HALL.out];simp
  have er:catN n (fun i=>ce (selF (fun i=>zaz kd sq (x i)) n i))=catN n ce:=za9 (fun i hi=>by rw [ziz HALL.out hi]);rw [em,er];exact ⟨rfl,(h.out.kept (w':=w1) (fun b hb=>HB1.out.block b (h.out.mem_lt b hb))).row,ChgL.of_below HB1.out⟩
 have HP0:=hid hp0;have HBEF:=hid hbef;clear hp0 hbef;have te:((i0:Int)==-1)=false:=beq_eq_false_iff_ne.2 (by omega)
 have zi:IntKind.i64.wrap ((i0:Int)+1)=(i0:Int)+1:=by rw [IntKind.wrap_i64];omega
 go_wp2
 go_loopw [5,6] (fun v z wr=>∃ j:Nat,j≤n∧i0<j∧z=.int .i64 j∧v=.int .i64 ((zav (fun i=>zaz kd sq (x i)) (j)).length:Nat)∧wr.ownsRow 0 43 zad.sz (.slice (some ⟨g,0,none⟩) n cap) n (catN n (mixF (fun i=>zaz kd sq (x i)) (j) ce))∧ChgL [g] w wr) (fun _ z _=>n-(intOf z).toNat)
 case atStart=>
  refine ⟨i0+1,by omega,by omega,by simp,?_,?_,ChgL.of_below HB1.out⟩
  ·rw [zcf HP0.out,zdM HBEF.out];simp
  ·rw [za9 (g:=ce) (fun m _=>by rw [zhd ce HP0.out,zjC ce HBEF.out])]
   exact (h.out.kept (w':=w1) (fun b hb=>HB1.out.block b (h.out.mem_lt b hb))).row
 case round=>
  obtain ⟨j,hj,hij,rfl,rfl,hrow,hch⟩:=hrel;obtain ⟨wx,rfl⟩:∃ y,y=wr:=⟨_,rfl⟩;have HCH:=hid hch;have HRW:=hid hrow;have zx:=hch.size;have hless:(zav (fun i=>zaz kd sq (x i)) (j)).length<j:=ziA hij HP0.out;clear hrow hch
  by_cases hlt:j<n
  ·obtain ⟨ao6,cap6,ao7,cap7,ao8,cap8,K6,K7,K8,eR,-⟩:=zdV (h.out.each j hlt)
   have HCE:=hid eR;have S5:=ziB h.out HND.out (fun i=>zaz kd sq (x i)) j hj HCH.out HRW.out
   have em:(mixF (fun i=>zaz kd sq (x i)) (j) ce) j=[.int .i64 (x j).kind,.int .i64 (x j).seq,.string (x j).name,.int .i64 (x j).length,.int .i64 (x j).group,.int .i64 (x j).row,.slice ao6 (x j).rows.1 cap6,.slice ao7 (x j).data.1 cap7,.slice ao8 (x j).delta.1 cap8]:=by rw [zjS ce (Nat.le_of_lt hless)];exact eR
   have s_0:wx.cell? ⟨g,j*9,none⟩=some (.int .i64 (x j).kind):=(S5.cell hlt (j:=0) (by decide)).trans (by rw [em];rfl);have s_1:wx.cell? ⟨g,j*9+1,none⟩=some (.int .i64 (x j).seq):=(S5.cell hlt (j:=1) (by decide)).trans (by rw [em];rfl);have s_2:wx.cell? ⟨g,j*9+2,none⟩=some (.string (x j).name):=(S5.cell hlt (j:=2) (by decide)).trans (by rw [em];rfl);have s_3:wx.cell? ⟨g,j*9+3,none⟩=some (.int .i64 (x j).length):=(S5.cell hlt (j:=3) (by decide)).trans (by rw [em];rfl);have s_4:wx.cell? ⟨g,j*9+4,none⟩=some (.int .i64 (x j).group):=(S5.cell hlt (j:=4) (by decide)).trans (by rw [em];rfl);have s_5:wx.cell? ⟨g,j*9+5,none⟩=some (.int .i64 (x j).row):=(S5.cell hlt (j:=5) (by decide)).trans (by rw [em];rfl);have s_6:wx.cell? ⟨g,j*9+6,none⟩=some (.slice ao6 (x j).rows.1 cap6):=(S5.cell hlt (j:=6) (by decide)).trans (by rw [em];rfl);have s_7:wx.cell? ⟨g,j*9+7,none⟩=some (.slice ao7 (x j).data.1 cap7):=(S5.cell hlt (j:=7) (by decide)).trans (by rw [em];rfl);have s_8:wx.cell? ⟨g,j*9+8,none⟩=some (.slice ao8 (x j).delta.1 cap8):=(S5.cell hlt (j:=8) (by decide)).trans (by rw [em];rfl)
   have i1:(0:Int)≤(j:Int):=by omega
   have i2:(j:Int)<(n:Int):=by omega
   have bV:=bAl wx (.cells #[.int .i64 (x j).kind,.int .i64 (x j).seq,.string (x j).name,.int .i64 (x j).length,.int .i64 (x j).group,.int .i64 (x j).row,.slice ao6 (x j).rows.1 cap6,.slice ao7 (x j).data.1 cap7,.slice ao8 (x j).delta.1 cap8] 43);have V1:=zaA wx #[.int .i64 (x j).kind,.int .i64 (x j).seq,.string (x j).name,.int .i64 (x j).length,.int .i64 (x j).group,.int .i64 (x j).row,.slice ao6 (x j).rows.1 cap6,.slice ao7 (x j).data.1 cap7,.slice ao8 (x j).delta.1 cap8] 43;have HS5:=hid S5;clear S5 em eR
   go_upto_region 8 with fail
   obtain ⟨W5,hW5⟩:∃ y,y=wx.alloc (.cells #[.int .i64 (x j).kind,.int .i64 (x j).seq,.string (x j).name,.int .i64 (x j).length,.int .i64 (x j).group,.int .i64 (x j).row,.slice ao6 (x j).rows.1 cap6,.slice ao7 (x j).data.1 cap7,.slice ao8 (x j).delta.1 cap8] 43):=⟨_,rfl⟩;rw [← hW5] at bV V1 ⊢;clear hW5 s_0 s_1 s_2 s_3 s_4 s_5 s_6 s_7 s_8;have z5:=bV.size;have C5:ChgL [g] w W5:=HCH.out.trans (ChgL.of_below bV);have CS:=zeB a0 a1 kd sq (x j).kind (x j).seq (x j).name (x j).length (x j).group (x j).row ao6 (x j).rows.1 cap6 ao7 (x j).data.1 cap7 ao8 (x j).delta.1 cap8 W5 ((World.cell?_of_block (C5.block a0 hl0 (by simpa using hg0))).trans H0.out) ((World.cell?_of_block (C5.block a1 hl1 (by simpa using hg1))).trans H1.out) (by omega) (by omega);obtain ⟨t,ht⟩:∃ t,t=((x j).kind==kd&&(x j).seq==sq):=⟨_,rfl⟩;rw [← ht] at CS
   have HT:Hid ((fun i=>zaz kd sq (x i)) j=!t):=by rw [ht];rfl
   have HC5:=hid C5;have v_0:W5.cell? ⟨wx.heap.size,0,none⟩=some (.int .i64 (x j).kind):=V1.cell 0;have v_1:W5.cell? ⟨wx.heap.size,1,none⟩=some (.int .i64 (x j).seq):=V1.cell 1;have v_2:W5.cell? ⟨wx.heap.size,2,none⟩=some (.string (x j).name):=V1.cell 2;have v_3:W5.cell? ⟨wx.heap.size,3,none⟩=some (.int .i64 (x j).length):=V1.cell 3;have v_4:W5.cell? ⟨wx.heap.size,4,none⟩=some (.int .i64 (x j).group):=V1.cell 4;have v_5:W5.cell? ⟨wx.heap.size,5,none⟩=some (.int .i64 (x j).row):=V1.cell 5;have v_6:W5.cell? ⟨wx.heap.size,6,none⟩=some (.slice ao6 (x j).rows.1 cap6):=V1.cell 6;have v_7:W5.cell? ⟨wx.heap.size,7,none⟩=some (.slice ao7 (x j).data.1 cap7):=V1.cell 7;have v_8:W5.cell? ⟨wx.heap.size,8,none⟩=some (.slice ao8 (x j).delta.1 cap8):=V1.cell 8;clear ht C5
   go_wp2_with fail
   refine CS.mono ?_;rintro e w6 ⟨rfl,b6⟩;have z6:=b6.size;have V6:=V1.call b6;have C6:=hid (HC5.out.trans (ChgL.of_below b6));have S6:=(HS5.out.kept (w':=w6) (fun b hb=>(b6.block b (by have:=HS5.out.mem_lt b hb;omega)).trans (bV.block b (HS5.out.mem_lt b hb))));have HS6:=hid S6;clear b6 CS bV V1 v_0 v_1 v_2 v_3 v_4 v_5 v_6 v_7 v_8
   cases t with
   | true=>
    have HR6:=hid S6.row;clear S6 V6;go_wp2
    go_roundw
    case rel=>
     refine ⟨j+1,by omega,by omega,by go_num,by rw [zcf HT.out],?_,C6.out⟩;rw [za9 (g:=(mixF (fun i=>zaz kd sq (x i)) (j) ce)) (fun m _=>zhd ce HT.out m)];exact HR6.out
    case measure=>simp [intOf];omega
   | false=>
    obtain ⟨q,hq⟩:∃ q,q=(zav (fun i=>zaz kd sq (x i)) (j)).length:=⟨_,rfl⟩;have HQ:=hid hq
    have hqn:q<n:=by omega
    rw [← hq]
    have k1:(0:Int)≤(q:Int):=by omega
    have k2:(q:Int)<(n:Int):=by omega
    have hqc:=S6.lens q hqn
    have hso:∀ t,t<9→∃ u,w6.cell? ⟨g,q*9+t,none⟩=some u:=fun t ht=>by
     refine ⟨((mixF (fun i=>zaz kd sq (x i)) (j) ce) q)[t]'(by rw [hqc];exact ht),?_⟩;rw [← List.getElem?_eq_getElem];exact S6.cell hqn ht
    obtain ⟨u_0,t_0⟩:=hso 0 (by decide);obtain ⟨u_1,t_1⟩:=hso 1 (by decide);obtain ⟨u_2,t_2⟩:=hso 2 (by decide);obtain ⟨u_3,t_3⟩:=hso 3 (by decide);obtain ⟨u_4,t_4⟩:=hso 4 (by decide);obtain ⟨u_5,t_5⟩:=hso 5 (by decide);obtain ⟨u_6,t_6⟩:=hso 6 (by decide);obtain ⟨u_7,t_7⟩:=hso 7 (by decide);obtain ⟨u_8,t_8⟩:=hso 8 (by decide)
    simp only [Nat.add_zero] at t_0
    have tf_0:w6.frozen? ⟨g,q*9,none⟩=false:=S6.frozen _;have tf_1:w6.frozen? ⟨g,q*9+1,none⟩=false:=S6.frozen _;have tf_2:w6.frozen? ⟨g,q*9+2,none⟩=false:=S6.frozen _;have tf_3:w6.frozen? ⟨g,q*9+3,none⟩=false:=S6.frozen _;have tf_4:w6.frozen? ⟨g,q*9+4,none⟩=false:=S6.frozen _;have tf_5:w6.frozen? ⟨g,q*9+5,none⟩=false:=S6.frozen _;have tf_6:w6.frozen? ⟨g,q*9+6,none⟩=false:=S6.frozen _;have tf_7:w6.frozen? ⟨g,q*9+7,none⟩=false:=S6.frozen _;have tf_8:w6.frozen? ⟨g,q*9+8,none⟩=false:=S6.frozen _;have v_0:w6.cell? ⟨wx.heap.size,0,none⟩=some (.int .i64 (x j).kind):=V6.cell 0;have v_1:w6.cell? ⟨wx.heap.size,1,none⟩=some (.int .i64 (x j).seq):=V6.cell 1;have v_2:w6.cell? ⟨wx.heap.size,2,none⟩=some (.string (x j).name):=V6.cell 2;have v_3:w6.cell? ⟨wx.heap.size,3,none⟩=some (.int .i64 (x j).length):=V6.cell 3;have v_4:w6.cell? ⟨wx.heap.size,4,none⟩=some (.int .i64 (x j).group):=V6.cell 4;have v_5:w6.cell? ⟨wx.heap.size,5,none⟩=some (.int .i64 (x j).row):=V6.cell 5;have v_6:w6.cell? ⟨wx.heap.size,6,none⟩=some (.slice ao6 (x j).rows.1 cap6):=V6.cell 6;have v_7:w6.cell? ⟨wx.heap.size,7,none⟩=some (.slice ao7 (x j).data.1 cap7):=V6.cell 7;have v_8:w6.cell? ⟨wx.heap.size,8,none⟩=some (.slice ao8 (x j).delta.1 cap8):=V6.cell 8
    have hnx:(zav (fun i=>zaz kd sq (x i)) (j+1)).length=q+1:=by
     have hpk:(fun i=>zaz kd sq (x i)) j=true:=HT.out
     rw [hq,zbu,if_pos hpk];simp
    have HNX:=hid hnx
    have R7:(stN w6 g (q*zad.sz) [.int .i64 (x j).kind,.int .i64 (x j).seq,.string (x j).name,.int .i64 (x j).length,.int .i64 (x j).group,.int .i64 (x j).row,.slice ao6 (x j).rows.1 cap6,.slice ao7 (x j).data.1 cap7,.slice ao8 (x j).delta.1 cap8]).ownsRow 0 43 zad.sz (.slice (some ⟨g,0,none⟩) n cap) n (catN n (mixF (fun i=>zaz kd sq (x i)) (j+1) ce)):=by
     have hr:=zf8 [.int .i64 (x j).kind,.int .i64 (x j).seq,.string (x j).name,.int .i64 (x j).length,.int .i64 (x j).group,.int .i64 (x j).row,.slice ao6 (x j).rows.1 cap6,.slice ao7 (x j).data.1 cap7,.slice ao8 (x j).delta.1 cap8] w6 (q*zad.sz) _ S6.row;rw [ze9 S6.lens hqn rfl] at hr
     rw [za9 (g:=(mixF (fun i=>zaz kd sq (x i)) (j+1) ce)) (fun m _=>by
      have hpk:(fun i=>zaz kd sq (x i)) j=true:=HT.out;have:=zi7 (p:=(fun i=>zaz kd sq (x i))) (j:=j) ce hpk m;rw [HCE.out,← hq] at this
      exact this)] at hr
     exact hr
    have HR7:=hid R7;have C7:Hid (ChgL [g] w (stN w6 g (q*zad.sz) [.int .i64 (x j).kind,.int .i64 (x j).seq,.string (x j).name,.int .i64 (x j).length,.int .i64 (x j).group,.int .i64 (x j).row,.slice ao6 (x j).rows.1 cap6,.slice ao7 (x j).data.1 cap7,.slice ao8 (x j).delta.1 cap8])):=C6.out.trans ⟨(za6 g _ w6 _).1,(za6 g _ w6 _).2.1,(za6 g _ w6 _).2.2,Nat.le_of_eq (zbE g _ w6 _).symm,fun b _ hb=>zbN g b (fun hh=>hb (by simp [hh])) _ w6 _⟩
    have zq:IntKind.i64.wrap ((q:Int)+1)=(q:Int)+1:=by rw [IntKind.wrap_i64];omega
    clear S6 V6 hq hso hqc hnx R7;go_wp2
    go_roundw
    case rel=>
     refine ⟨j+1,by omega,by omega,by go_num,by rw [HNX.out];simp,HR7.out,C7.out⟩
    case measure=>simp [intOf];omega
  ·obtain rfl:j=n:=by omega
   obtain ⟨q,hq⟩:∃ q,q=(zav (fun i=>zaz kd sq (x i)) (j)).length:=⟨_,rfl⟩;have HQ:=hid hq;have S5:=ziB h.out HND.out (fun i=>zaz kd sq (x i)) j hj HCH.out HRW.out;have hlens:=S5.lens
   rcases S5.row.2 with ⟨hnn,_⟩ | ⟨g',cap',cur,he,hbg,hgg,hnc',hcm,hcs,htk⟩
   ·cases hnn
   cases he
   have hqn:q<j:=by omega
   obtain ⟨row,hcl,hrs,hrt⟩:=zhN wx 0 g (q*9) (j-q) (cap-q) cur hgg (by omega) (by
    have h9:cur.size=cap*9:=hcs
    have:q*9+(j-q)*9≤cap*9:=by rw [← Nat.add_mul];exact Nat.mul_le_mul_right 9 (by omega)
    omega)
   have hf:=zhO g j cap q hqn HNC.out;have ht:=fun w'=>zi9 g j cap q (by omega) w';obtain ⟨W7,hW7⟩:∃ y,y=wx.setRow g row:=⟨_,rfl⟩;rw [← hW7] at hcl
   have R7:Hid (W7.ownsRow 0 43 zad.sz (.slice (some ⟨g,0,none⟩) q cap) q (catN q (fun i=>ce (selF (fun i=>zaz kd sq (x i)) j i)))):=by
    have hrow0:=ziD S5.row (Nat.le_of_lt hqn) (ziE hlens (Nat.le_of_lt hqn))
    have e1:catN q (mixF (fun i=>zaz kd sq (x i)) (j) ce)=catN q (fun i=>ce (selF (fun i=>zaz kd sq (x i)) j i)):=za9 (fun i hi=>by
     show mixF _ j ce i=_
     unfold mixF
     rw [if_pos (by rw [← hq];exact hi)])
    rw [e1] at hrow0;refine ⟨hrow0.1,?_⟩
    rcases hrow0.2 with ⟨hnn,_⟩ | ⟨g2,cap2,cur2,he2,hb2,hg2,hn2,hm2,hs2,ht2⟩
    ·cases hnn
    cases he2
    rw [hgg] at hg2
    cases hg2
    refine .inr ⟨g,cap,row,rfl,hb2,by rw [hW7];exact setRow_heap wx g cur row 43 (0,0) hgg,hn2,hm2,by rw [hrs];exact hs2,?_⟩;rw [← ht2];exact hrt
   have C7:Hid (ChgL [g] w W7):=by
    rw [hW7];exact HCH.out.trans (zcW g row)
   clear S5 hlens hgg htk hcs hcm hnc' hbg hrs hrt hW7 hless;rw [← hq];clear hq
   go_wp2_with (simp only [hcl])
   go_ret;rw [← HQ.out];exact ⟨rfl,R7.out,C7.out⟩
theorem zja {w:World} {x y:Nat→RecD} {v:Value} {K:List Nat} (h:(zad.slice 43).own w (0,x) [v] K):(zad.slice 43).own w (0,y) [v] K:=by
 obtain ⟨v',ce,Ls,e,eK,hr,_⟩:=h;exact ⟨v',ce,Ls,e,eK,hr,fun i hi=>by cases hi⟩
theorem zjb {w:World} {lo m s:Nat} {t:TypeId} {v:Value} {xs:List Value} (h:w.ownsRow lo t s v m xs):w.ownsRow 0 t s v m xs:=by
 refine ⟨h.1,?_⟩
 rcases h.2 with hn | ⟨g,cap,cur,e,_,rest⟩
 ·exact .inl hn
 ·exact .inr ⟨g,cap,cur,e,Nat.zero_le _,rest⟩
set_option maxRecDepth 20000 in
theorem zhP (ao:Option Addr) (cap:Nat) (fv:Value) (w:World) :
 Calls Tryz.prog 131 #[.slice ao 0 cap,fv] w fun e w'=>e=.returned (.slice ao 0 cap)∧w'=w:=by
 have CI:Calls Tryz.prog 161 #[.slice ao 0 cap,fv] w fun e w'=>e=.returned (.int .i64 (-1))∧w'=w:=by
  go_enter Tryz.func161,Tryz.ntmps161
  go_wp2
  go_loop [8] (fun z=>z=.int .i64 0) (fun _=>0)
  case atStart=>rfl
  case round=>
   subst hrel;go_wp2;go_ret;exact ⟨rfl,rfl⟩
 have te:((-1:Int)==-1)=true:=by decide
 go_enter Tryz.func131,Tryz.ntmps131
 go_wp2_with fail
 refine CI.mono ?_;rintro e w1 ⟨rfl,e1⟩;obtain rfl:=e1.symm;go_wp2;go_ret;exact ⟨rfl,rfl⟩
set_option maxRecDepth 20000 in
theorem zhQ (ao:Option Addr) (cap:Nat) (kd sq:Int) (w:World) :
 Calls Tryz.prog 89 #[.slice ao 0 cap,.int .i64 kd,.int .i64 sq] w fun e w'=>e=.returned (.slice (some ⟨w.heap.size,0,none⟩) 0 0)∧w'=w.alloc (.cells #[] 43):=by
 go_enter Tryz.func89,Tryz.ntmps89
 go_wp2
 go_loopw [7,8] (fun v z wr=>z=.int .i64 0∧v=.slice (some ⟨w.heap.size,0,none⟩) 0 0∧wr=w.alloc (.cells #[] 43)) (fun _ _ _=>0)
 case atStart=>exact ⟨rfl,rfl,rfl⟩
 case round=>
  obtain ⟨rfl,rfl,rfl⟩:=hrel;go_wp2;go_ret;exact ⟨rfl,rfl⟩
theorem zhR {w:World} {p:Nat×(Nat→RecD)} {ao:Option Addr} {cap:Nat} {K:List Nat} (h:(zad.slice 43).own w p [.slice ao p.1 cap] K) (nd:K.Nodup) (hn:p.1≤1048576) (a0 a1:Nat) (kd sq:Int) (h0:w.cell? ⟨a0,0,none⟩=some (.int .i64 kd)) (h1:w.cell? ⟨a1,0,none⟩=some (.int .i64 sq)) (hl0:a0<w.heap.size) (hl1:a1<w.heap.size) (hk0:a0∉K) (hk1:a1∉K) :
 Calls Tryz.prog 131 #[.slice ao p.1 cap,.func (.func 132) #[] #[.pointer (some ⟨a0,0,none⟩),.pointer (some ⟨a1,0,none⟩)]] w fun e w'=>∃ ao' cap' K',e=.returned (.slice ao' (za5 p kd sq).1 cap')∧Turn (zad.slice 43) w K w' (za5 p kd sq) [.slice ao' (za5 p kd sq).1 cap'] K':=by
 by_cases h0':p.1=0
 ·obtain ⟨n,x⟩:=p
  simp only at h0'
  subst h0';refine (zhP ao cap _ w).mono ?_;rintro e w' ⟨rfl,rfl⟩;exact ⟨ao,cap,K,rfl,zja h,nd,fun b hb=>.inl hb,ChgL.refl _ _⟩
 ·obtain ⟨g,cap',ce,Ls,e,eK,S⟩:=zbm h h0'
  simp only [List.cons.injEq,Value.slice.injEq,and_true,true_and] at e
  obtain ⟨rfl,rfl⟩:=e;subst eK;refine (zfS g cap p.1 p.2 ce Ls a0 a1 kd sq w S nd h0 h1 hl0 hl1 (fun hh=>hk0 (by rw [hh];exact List.mem_cons_self ..)) (fun hh=>hk1 (by rw [hh];exact List.mem_cons_self ..)) hn).mono ?_;rintro e w' ⟨rfl,hr,hc⟩
  obtain ⟨s1,s2,s3⟩:=S.select nd (p:=(fun i=>zaz kd sq (p.2 i))) hr (fun b hb=>.inl (by simpa [Value.ownBlock] using hb.symm)) (fun b hb=>hc.block b (S.mem_lt b (List.mem_cons_of_mem _ hb)) (fun hm=>by
   simp only [List.mem_singleton] at hm
   subst hm
   exact (List.nodup_cons.1 nd).1 hb))
  exact ⟨_,cap,_,rfl,s1,s2,s3,hc.mono (fun b hb=>by simp only [List.mem_singleton] at hb;rw [hb];exact List.mem_cons_self ..)⟩
theorem zhS {w:World} {p:Nat×(Nat→RecD)} {ao:Option Addr} {cap:Nat} {K:List Nat} (h:(zad.slice 43).own w p [.slice ao p.1 cap] K) (nd:K.Nodup) (hn:p.1≤1048576) (kd sq:Int) :
 Calls Tryz.prog 89 #[.slice ao p.1 cap,.int .i64 kd,.int .i64 sq] w fun e w'=>∃ ao' cap' K',e=.returned (.slice ao' (za5 p kd sq).1 cap')∧Turn (zad.slice 43) w K w' (za5 p kd sq) [.slice ao' (za5 p kd sq).1 cap'] K':=by
 by_cases h0':p.1=0
 ·obtain ⟨n,x⟩:=p
  simp only at h0'
  subst h0';refine (zhQ ao cap kd sq w).mono ?_;rintro e w' ⟨rfl,rfl⟩;have hr:=World.ownsRow_lit (base:=0) (e:=43) (size:=zad.sz) w #[] 0 (Nat.zero_le _) (Nat.zero_le _) (by simp);refine ⟨some ⟨w.heap.size,0,none⟩,0,[w.heap.size],rfl,⟨_,fun _=>[],fun _=>[],rfl,by simp [Value.ownBlock,za5,zav,zbs],?_,fun i hi=>by cases hi⟩,by simp,fun b hb=>.inr ?_,ChgL.of_below ((Below.refl _ _).alloc (Nat.le_refl _) _)⟩
  ·simpa [za5,zav,zbs] using hr
  ·simp only [List.mem_singleton] at hb
   subst hb
   simp
 ·obtain ⟨g,cap',ce,Ls,e,eK,S⟩:=zbm h h0'
  simp only [List.cons.injEq,Value.slice.injEq,and_true,true_and] at e
  obtain ⟨rfl,rfl⟩:=e;subst eK;refine (zfR g cap p.1 p.2 ce Ls kd sq w S hn).mono ?_;rintro e w' ⟨ao',c',rfl,hr,hb⟩;obtain ⟨s1,s2,s3⟩:=S.select nd (p:=(fun i=>zaz kd sq (p.2 i))) (zjb hr) (fun b hb'=>.inr (hr.lt b hb').1) (fun b hb'=>hb.block b (S.mem_lt b (List.mem_cons_of_mem _ hb')));exact ⟨ao',c',_,rfl,s1,s2,s3,ChgL.of_below hb⟩
theorem zed {w w1:World} {d:TapeD} {ao ao':Option Addr} {cap cap':Nat} {K K':List Nat} {kd sq:Int} {cs:List Value} (hc:cs=[.bool d.wiped,.slice ao d.recs.1 cap]) (ht:Turn (zad.slice 43) w K w1 (za5 d.recs kd sq) [.slice ao' (za5 d.recs kd sq).1 cap'] K'):Turn zag w K w1 (zc0 d kd sq) (cs.set 1 (.slice ao' (za5 d.recs kd sq).1 cap')) K':=by
 subst hc;exact ⟨zge (zc0 d kd sq) ht.own,ht.nd,ht.sub,ht.chg⟩
end Go.Proofs.YtaccmgakckpofaaGreat
