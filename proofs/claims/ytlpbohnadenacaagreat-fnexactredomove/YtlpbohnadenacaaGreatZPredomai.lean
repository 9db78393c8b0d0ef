/- Owned memory changed in place: a cell of an element, a drive of a group; a world with a drive turned. -/
import Derived.Test.YtlpbohnadenacaaGreatZPredomah
set_option linter.unusedVariables false
set_option linter.unusedSimpArgs false
set_option maxHeartbeats 16000000
namespace Go.Proofs.YtlpbohnadenacaaGreat
open Go.RowKit F256
section
variable {α:Type} {E:Lay α} {t:TypeId} {w w':World} {g cap n:Nat} {x:Nat→α} {ce:Nat→List Value} {Ls:Nat→List Nat}
end
theorem EncO.open {w:World} {E:Nat} {d:WorldD} {cs:List Value} {K:List Nat} (h:EncO w E d cs K):∃ p1 c1 p2 c2 p3 c3 K1 K2 K3,cs=[.int .i64 (d.shape 0),.int .i64 (d.shape 1),.int .i64 (d.shape 2),.int .i64 (d.shape 3),.int .i64 (d.shape 4),.int .i64 (d.shape 5),.int .i64 (d.shape 6),.int .i64 (d.shape 7),.int .i64 (d.shape 8),.slice p1 d.groups.1 c1,.slice p2 d.on.1 c2,.slice p3 d.tapes.1 c3,.int .i64 d.writes,.int .i64 d.stop,.bool d.down]∧K=K1++(K2++K3)∧WOpen w 0 w.heap.size d (.slice p1 d.groups.1 c1) (.slice p2 d.on.1 c2) (.slice p3 d.tapes.1 c3) K1 K2 K3:=by
 obtain ⟨a1,b1,a2,b2,a3,b3,K1,K2,K3,e,hM,o1,o2,o3,k0,k4,k5⟩:=zbV h.own;have hl:=fun b hb=>zab.own_lt h.own b hb;have nd:=h.nd;subst hM
 simp only [List.append_nil] at nd hl
 exact ⟨a1,b1,a2,b2,a3,b3,K1,K2,K3,e,by simp,o1,o2,o3,nd,fun b hb=>⟨Nat.zero_le _,hl b hb⟩,k0,k4,k5⟩
theorem WOpen.encO {w:World} {lo hi E:Nat} {d:WorldD} {p1 p2 p3:Option Addr} {c1 c2 c3:Nat} {K1 K2 K3:List Nat} (h:WOpen w lo hi d (.slice p1 d.groups.1 c1) (.slice p2 d.on.1 c2) (.slice p3 d.tapes.1 c3) K1 K2 K3) (hE:E∉K1++(K2++K3)):EncO w E d [.int .i64 (d.shape 0),.int .i64 (d.shape 1),.int .i64 (d.shape 2),.int .i64 (d.shape 3),.int .i64 (d.shape 4),.int .i64 (d.shape 5),.int .i64 (d.shape 6),.int .i64 (d.shape 7),.int .i64 (d.shape 8),.slice p1 d.groups.1 c1,.slice p2 d.on.1 c2,.slice p3 d.tapes.1 c3,.int .i64 d.writes,.int .i64 d.stop,.bool d.down] (K1++(K2++(K3++[]))):=
 ⟨zd5 d h.g h.o h.t h.k0 h.k4 h.k5,by simpa using h.nd,by simpa using hE⟩
theorem WOpen.drives2 {w:World} {lo hi:Nat} {d:WorldD} {v1 v2 v3:Value} {K1 K2 K3:List Nat} (h:WOpen w lo hi d v1 v2 v3 K1 K2 K3) (hhi:hi≤w.heap.size) (hlo:lo≤w.heap.size) {G:Nat} (hG:G<d.groups.1) (hD:(d.groups.2 G).1≠0) :
 ∃ g1 c1 g cap ce Ls,v1=.slice (some ⟨g1,0,none⟩) d.groups.1 c1∧w.cell? ⟨g1,G,none⟩=some (.slice (some ⟨g,0,none⟩) (d.groups.2 G).1 cap)∧SlO zaa 97 w g cap (d.groups.2 G).1 (d.groups.2 G).2 ce Ls∧(g::catN (d.groups.2 G).1 Ls).Nodup∧(∀ b,b∈g::catN (d.groups.2 G).1 Ls→b∈K1)∧g1∈K1∧g1∉g::catN (d.groups.2 G).1 Ls∧
  ∀ (w':World) (p:Nat×(Nat→DriveD)) (K':List Nat),Turn (zaa.slice 97) w (g::catN (d.groups.2 G).1 Ls) w' p [.slice (some ⟨g,0,none⟩) (d.groups.2 G).1 cap] K'→∃ K1',WOpen w' lo w'.heap.size { d with groups:=(d.groups.1,upd d.groups.2 G p) } v1 v2 v3 K1' K2 K3∧(∀ b,b∈K1'→b∈K1∨w.heap.size≤b)∧ChgL K1 w w':=by
 obtain ⟨g1,c1,ce1,Ls1,e1,eL1,S1⟩:=zbc h.g (by omega)
 cases e1
 subst eL1;have nd1:(g1::catN d.groups.1 Ls1).Nodup:=(List.nodup_append.1 h.nd).1;obtain ⟨g,cap,ce,Ls,e2,eL2,S2⟩:=zbc (S1.each G hG) hD
 have nd2:(g::catN (d.groups.2 G).1 Ls).Nodup:=by rw [← eL2];exact zcL (List.nodup_cons.1 nd1).2 hG
 have sub2:∀ b,b∈g::catN (d.groups.2 G).1 Ls→b∈g1::catN d.groups.1 Ls1:=fun b hb=>SlO.sub G hG b (by rw [eL2];exact hb);refine ⟨g1,c1,g,cap,ce,Ls,rfl,?_,S2,nd2,sub2,List.mem_cons_self ..,fun hb=>(List.nodup_cons.1 nd1).1 (zaz.2 ⟨G,hG,by rw [eL2];exact hb⟩),fun w' p K' ht=>?_⟩
 ·have:=S1.cell hG (j:=0) (by decide)
  have e:G*(zaa.slice 97).sz+0=G:=by show G*1+0=G;omega
  rw [e,e2] at this;exact this
 ·rw [← eL2,← e2] at ht
  have T1:=S1.turn_in nd1 hG ht;exact ⟨_,h.groups hhi hlo T1,fun b hb=>(T1.sub b hb).imp id (fun h=>h.1),T1.chg⟩
theorem OwnI.full {w:World} {lo hi g n:Nat} {f:Nat→Int} (h:OwnI w lo hi (.slice (some ⟨g,0,none⟩) n n) n f):w.heap[g]?=some (.cells (za9 n f).toArray 2 (0,0)):=by
 rcases h.1.2 with ⟨h',_⟩ | ⟨g',cap',cur,h',_,hg,_,_,hcs,htake⟩
 ·simp at h'
 ·simp only [Value.slice.injEq,Option.some.injEq,Addr.mk.injEq,and_true,true_and] at h'
  obtain ⟨rfl,rfl⟩:=h'
  have:cur=(za9 n f).toArray:=by
   rw [← htake,List.take_of_length_le (by simp;omega)]
  rw [← this];exact hg
theorem zhi {w:World} {lo g n:Nat} {f:Nat→Int} (hg:w.heap[g]?=some (.cells (za9 n f).toArray 2 (0,0))) (hlo:lo≤g) (hm:n≤maxLen):OwnI w lo w.heap.size (.slice (some ⟨g,0,none⟩) n n) n f:=
 ⟨⟨by rw [zaw];omega,.inr ⟨g,n,_,rfl,hlo,hg,Nat.le_refl _,hm,by simp [zaw],by simp [List.take_of_length_le,zaw]⟩⟩,fun k hk=>by
  simp [Value.ownBlock] at hk
  subst hk
  exact (Array.getElem?_eq_some_iff.1 hg).1⟩
theorem zin (N off m:Nat) (f t h:Nat→Int) (hm:off+m≤N) (hh:∀ i,i<N→h i=if off≤i∧i<off+m then t (i-off) else f i):splice (za9 N f) off (za9 m t)=za9 N h:=by
 unfold splice
 apply List.ext_getElem?
 intro i
 by_cases hi:i<N
 ·rw [zbl N h i hi,hh i hi]
  by_cases h1:i<off
  ·have e1:¬ (off≤i∧i<off+m):=by omega
   rw [if_neg e1,List.getElem?_append_left (by rw [List.length_take,zaw];omega),List.getElem?_take,if_pos h1,zbl N f i hi]
  ·rw [List.getElem?_append_right (by rw [List.length_take,zaw];omega)]
   have e0:(List.take off (za9 N f)).length=off:=by rw [List.length_take,zaw];omega
   rw [e0]
   by_cases h2:i<off+m
   ·rw [if_pos ⟨by omega,h2⟩,List.getElem?_append_left (by rw [zaw];omega),zbl m t _ (by omega)]
   ·have e1:¬ (off≤i∧i<off+m):=by omega
    rw [if_neg e1,List.getElem?_append_right (by rw [zaw];omega),zaw,List.getElem?_drop,show off+m+(i-off-m)=i by omega,zbl N f i hi]
 ·rw [List.getElem?_eq_none (by simp [zaw];omega),List.getElem?_eq_none (by rw [zaw];omega)]
theorem zhj {w:World} {hi n cap:Nat} {ao:Option Addr} {f:Nat→Int} (r:RdI w hi (.slice ao n cap) n f) (h:0<(za9 n f).length):∃ ad,ao=some ad∧∀ j v,(za9 n f)[j]?=some v→w.cell? (ad.add j)=some v:=by
 rw [zaw] at h;obtain ⟨ao',cap',he,_,hc⟩:=r
 simp only [Value.slice.injEq,true_and] at he
 obtain ⟨rfl,rfl⟩:=he;obtain ⟨b,off,rfl,_,hcell⟩:=hc (by omega);refine ⟨_,rfl,fun j v hj=>?_⟩
 by_cases hjn:j<n
 ·rw [zbl n f j hjn] at hj
  rw [add_none',hcell j hjn];exact hj
 ·rw [List.getElem?_eq_none (by rw [zaw];omega)] at hj
  cases hj
theorem zfR (n:Nat) (f:Nat→Int):∀ v∈za9 n f,v.oneCell'=true:=fun v hv=>by
 simp only [za9,List.mem_map] at hv
 obtain ⟨i,_,rfl⟩:=hv;rfl
theorem zlf:(Tryz.prog.info? 2).map (·.size)=some 1:=by kernel_rfl
theorem zlw {w:World} {lo hi n:Nat} {v:Value} {f:Nat→Int} (h:OwnI w lo hi v n f) (hh:hi≤w.heap.size) (kf:∀ i,-9223372036854775808≤f i∧f i≤9223372036854775807):OwnT zal w lo hi (n,f) [v]:=by
 refine ⟨v.ownBlock.toList,⟨v,rfl,rfl,h.weaken (Nat.zero_le _) hh,kf⟩,?_,fun b hb=>?_⟩
 ·cases v.ownBlock<;>simp
 ·have hb':v.ownBlock=some b:=by simpa using hb
  exact ⟨(h.1.lt b hb').1,h.2 b hb'⟩
def ToF {α:Type} (A:Lay α) (sz:α→Nat) (fn g:Nat):Prop:=∀ (v:Value) (d:α) (hi:Nat) (w:World),A.rd w hi d [v]→hi≤w.heap.size→sz d≤1048576→
 Calls Tryz.prog fn #[v,.func (.func g) #[] #[]] w fun e w'=>∃ v',e=.returned v'∧OwnT A w' w.heap.size w'.heap.size d [v']∧Below w.heap.size w w'
theorem zcC:ToS zad lenD 121:=fun v d hi w h hhi hn=>by
 obtain ⟨n,f⟩:=d;obtain ⟨v',e1,r1,kf⟩:=h
 cases e1
 simp only at r1 kf
 skip
 have hn':n≤1048576:=hn;clear hn;have R1:=fun (w1:World) (hb:Below w.heap.size w w1)=>r1.below hb hhi;obtain ⟨ao,cap,rfl,hm1,hc1⟩:=r1;clear hc1;have HS:Hid (splice (cellsOf n fun _=>0) 0 (cellsOf n f)=cellsOf n f):=zcA n 0 n _ f f (by omega) (fun i hi=>by simp [hi])
 have L1:(cellsOf n f).length=Nat.min n n:=by rw [zah];exact (Nat.min_self n).symm
 have L2:0+(cellsOf n f).length≤(cellsOf n fun _=>0).length:=by simp [zah]
 have HL1:=hid L1;have HL2:=hid L2;clear L1 L2
 go_enter Tryz.func121,Tryz.ntmps121
 go_wp2_with (first | (at_make;refine zcm _ rfl _ _ rfl _ _ n rfl rfl (by simp) (by simp) (by omega) ?_;intro w1 hown1 hb1 hz1) | (refine wpList_copy_splice rfl (.tmp 7) (.tmp 8) 29 29 rfl 5 Tryz.underlying29 ze7 (some ⟨w.heap.size,0,none⟩) ao n n n cap rfl rfl w.heap.size 0 (cellsOf n fun _=>0) 5 hown1.full (cellsOf n f) HL1.out (fun hp=>⟨rfl,zd6 (R1 w1 hb1) hp⟩) HL2.out (zb5 n f) w.heap.size w hb1 (Nat.le_refl _) ?_;intro w2 hF2 hb2))
 go_ret;have F2:=hF2.out;rw [HS.out] at F2;exact ⟨_,rfl,zlv (zdR F2 (Nat.le_refl _) (by unfold maxLen;omega)) (Nat.le_refl _) kf,hb2⟩
theorem zfj:ToS zal lenD 151:=fun v d hi w h hhi hn=>by
 obtain ⟨n,f⟩:=d;obtain ⟨v',e1,r1,kf⟩:=h
 cases e1
 simp only at r1 kf
 replace r1:=r1.1;have hn':n≤1048576:=hn;clear hn;have R1:=fun (w1:World) (hb:Below w.heap.size w w1)=>r1.below hb hhi;obtain ⟨ao,cap,rfl,hm1,hc1⟩:=r1;clear hc1;have HS:Hid (splice (za9 n fun _=>0) 0 (za9 n f)=za9 n f):=zin n 0 n _ f f (by omega) (fun i hi=>by simp [hi])
 have L1:(za9 n f).length=Nat.min n n:=by rw [zaw];exact (Nat.min_self n).symm
 have L2:0+(za9 n f).length≤(za9 n fun _=>0).length:=by simp [zaw]
 have HL1:=hid L1;have HL2:=hid L2;clear L1 L2
 go_enter Tryz.func151,Tryz.ntmps151
 go_wp2_with (first | (at_make;refine ziL _ rfl _ _ rfl _ _ n rfl rfl (by simp) (by simp) (by omega) ?_;intro w1 hown1 hb1 hz1) | (refine wpList_copy_splice rfl (.tmp 7) (.tmp 8) 25 25 rfl 2 Tryz.underlying25 zlf (some ⟨w.heap.size,0,none⟩) ao n n n cap rfl rfl w.heap.size 0 (za9 n fun _=>0) 2 hown1.full (za9 n f) HL1.out (fun hp=>⟨rfl,zhj (R1 w1 hb1) hp⟩) HL2.out (zfR n f) w.heap.size w hb1 (Nat.le_refl _) ?_;intro w2 hF2 hb2))
 go_ret;have F2:=hF2.out;rw [HS.out] at F2;exact ⟨_,rfl,zlw (zhi F2 (Nat.le_refl _) (by unfold maxLen;omega)) (Nat.le_refl _) kf,hb2⟩
set_option maxRecDepth 20000 in
theorem zeF:ToV zaf zaG 125:=fun cs d hi w r hhi hn=>by
 obtain ⟨ao1,cap1,rfl,h1,k0⟩:=za6 r;clear r;unfold zaG at hn;have R1:=hid h1;clear h1;have Q0:=hid k0;clear k0;have T0:=zaC w #[.int .i64 d.stamp,.slice ao1 d.bytes.1 cap1] #[.int .i64 0,.slice none 0 0] 99 99
 go_enter Tryz.func125,Tryz.ntmps125
 go_wp2_with fail
 refine (zcC _ d.bytes hi _ (zad.rd_below R1.out T0.bel hhi) (Nat.le_trans hhi T0.bel.size) (by omega)).mono ?_;rintro e w1 ⟨v0,rfl,o0,b0⟩;obtain ⟨bo1,bcap1,hv⟩:=zbp o0;obtain rfl:=zaU hv;clear hv;have T0c:=T0.call b0;have z0:=T0.b2.lt;have y0:=b0.size;have c0_1:w1.cell? ⟨w.heap.size,1,none⟩=some (.slice ao1 d.bytes.1 cap1):=T0c.b1.cell 1;have c0f_1:w1.frozen? ⟨w.heap.size,1,none⟩=false:=T0c.b1.frozen 1;have T1x:Two w (w1.setCell ⟨w.heap.size,1,none⟩ (.slice bo1 d.bytes.1 bcap1)) #[.int .i64 d.stamp,.slice bo1 d.bytes.1 bcap1] #[.int .i64 0,.slice none 0 0] 99 99:=⟨T0c.b1.stL [.slice bo1 d.bytes.1 bcap1] 1,T0c.b2.seto _ _ (by omega),T0c.bel.setCell (Nat.le_refl _) _⟩;have O1_0:=(o0.stN w.heap.size 1 [.slice bo1 d.bytes.1 bcap1] (by omega))
 have e1:(w1.setCell ⟨w.heap.size,1,none⟩ (.slice bo1 d.bytes.1 bcap1)).heap.size=w1.heap.size:=by simp
 clear o0 b0
 go_upto_region 2 with fail
 obtain ⟨W1,hW1⟩:∃ x,x=w1.setCell ⟨w.heap.size,1,none⟩ (.slice bo1 d.bytes.1 bcap1):=⟨_,rfl⟩
 have O1:Hid (OwnT zad W1 (w.heap.size+1+1) (w1.heap.size) d.bytes [.slice bo1 d.bytes.1 bcap1]):=by rw [hW1];exact OwnT.weaken O1_0 (by simp) (Nat.le_refl _)
 rw [← hW1] at T1x e1 ⊢;clear hW1 O1_0 T0c c0_1 c0f_1;have y_0:W1.cell? ⟨w.heap.size,0,none⟩=some (.int .i64 d.stamp):=T1x.b1.cell 0;have y_1:W1.cell? ⟨w.heap.size,1,none⟩=some (.slice bo1 d.bytes.1 bcap1):=T1x.b1.cell 1;have r_0:W1.cell? ⟨w.heap.size+1,0,none⟩=some (.int .i64 0):=T1x.b2.cell 0;have rf_0:W1.frozen? ⟨w.heap.size+1,0,none⟩=false:=T1x.b2.frozen 0;have r_1:W1.cell? ⟨w.heap.size+1,1,none⟩=some (.slice none 0 0):=T1x.b2.cell 1;have rf_1:W1.frozen? ⟨w.heap.size+1,1,none⟩=false:=T1x.b2.frozen 1;have HB:=hid T1x.bel;have zz:=T1x.b2.lt;clear T1x;go_wp2;refine bodyPost_ret (v:=.agg #[.int .i64 d.stamp,.slice bo1 d.bytes.1 bcap1]) (by simp [results,Tryz.results125,go_sem,r_0,y_0,r_1,y_1]) rfl ?_;have F:OwnT zaf W1 (w.heap.size+1+1) w1.heap.size d ([.int .i64 d.stamp]++[.slice bo1 d.bytes.1 bcap1]):=OwnT.conv (OwnT.pre (A:=layI) (a:=d.stamp) (c:=[.int .i64 d.stamp]) ⟨rfl,Q0.out,rfl⟩ O1.out);refine ⟨[.int .i64 d.stamp,.slice bo1 d.bytes.1 bcap1],rfl,?_,?_⟩
 ·exact OwnT.finb (F.weaken (Nat.le_refl _) (by omega)) (b:=w.heap.size+1) (by omega) (by omega) 0 [.int .i64 d.stamp,.slice bo1 d.bytes.1 bcap1] _ rfl
 ·exact HB.out.trans (zaS (by omega) [.int .i64 d.stamp,.slice bo1 d.bytes.1 bcap1] 0)
set_option maxRecDepth 20000 in
theorem zgw:ToF (zaf.slice 99) (szSl zaG) 186 125:=fun v d hi w h hhi hn=>by
 obtain ⟨n,x⟩:=d;obtain ⟨ao,cap,hv,hm,hc⟩:=h
 cases hv
 have hn1:=zcv hn;have hn2:∀ i,i<n→zaG (x i)≤1048576:=fun i hi=>zbB hn hi
 simp only at hn1 hm hc
 clear hn
 go_enter Tryz.func186,Tryz.ntmps186
 go_wp2_with (at_make;refine zb9 zaf [.int .i64 0,.slice none 0 0] _ 99 32 (zgh).hs rfl Tryz.underlying95 (zgh).hi x (fun _=>[]) _ rfl _ _ rfl _ _ n rfl rfl rfl rfl (by omega) (by omega) ?_;intro w1 sp1 hb1)
 go_loopw [12] (fun i wr=>∃ k:Nat,k≤n∧i=.int .i64 k∧∃ ce Ls,SlP zaf 99 wr w.heap.size w.heap.size n n k x ce Ls∧Below w.heap.size w wr) (fun i _=>n-(intOf i).toNat)
 case atStart=>exact ⟨0,Nat.zero_le _,rfl,_,_,sp1,hb1⟩
 case round=>
  clear sp1 hb1;obtain ⟨k,hk,rfl,ce,Ls,sp,hb⟩:=hrel
  by_cases hlt:k<n
  ·obtain ⟨b,off,rfl,hblt,hel⟩:=hc (by omega)
   obtain ⟨ck,hrk,hcell⟩:=zaB (t:=0) hel hb hhi hblt hlt;obtain ⟨ao1,cap1,rfl,-⟩:=za6 hrk;have c0:wr.cell? ⟨b,off+k*2,none⟩=some (.int .i64 (x k).stamp):=hcell 0 (by decide);have c1:wr.cell? ⟨b,off+k*2+1,none⟩=some (.slice ao1 (x k).bytes.1 cap1):=hcell 1 (by decide);clear hc hel hcell
   go_wp2_with fail
   refine (zeF _ (x k) hi wr hrk (Nat.le_trans hhi hb.size) (hn2 k hlt)).mono ?_;rintro e w2 ⟨cs',rfl,o2,hb2⟩;obtain ⟨bao1,bcap1,rfl⟩:=zdP o2;obtain ⟨z0,s0⟩:=sp.some hb2 hlt (show 0<zaf.sz by decide);have s0:w2.cell? ⟨w.heap.size,k*2,none⟩=some z0:=s0;have sf0:=(sp.below hb2).frozen (k*2);obtain ⟨z1,s1⟩:=sp.some hb2 hlt (show 1<zaf.sz by decide);have s1:w2.cell? ⟨w.heap.size,k*2+1,none⟩=some z1:=s1;have sf1:=(sp.below hb2).frozen (k*2+1);have N:=sp.next hb2 hlt o2 hb.size;have N2:Below w.heap.size w (stN w2 w.heap.size (k*zaf.sz) [.int .i64 (x k).stamp,.slice bao1 (x k).bytes.1 bcap1]):=(hb.trans (hb2.mono hb.size)).trans (zaS (Nat.le_refl _) _ _);clear o2 hb2 sp hb
   go_wp2_with fail
   go_roundw
   case rel=>
    obtain ⟨ce',Ls',N⟩:=N;exact ⟨k+1,by omega,by go_num,ce',Ls',N,N2⟩
   case measure=>simp [intOf];omega
  ·obtain rfl:k=n:=by omega
   go_wp2;go_ret;exact ⟨_,rfl,sp.done (Nat.le_refl _),hb⟩
set_option maxRecDepth 20000 in
theorem zhk:ToV zaa zav 176:=fun cs d hi w r hhi hn=>by
 obtain ⟨ao1,cap1,rfl,h1⟩:=zbz r;clear r;unfold zav at hn;have R1:=hid h1;clear h1;have T0:=zaC w #[.bool d.wiped,.slice ao1 d.blocks.1 cap1] #[.bool false,.slice none 0 0] 97 97
 go_enter Tryz.func176,Tryz.ntmps176
 go_wp2_with fail
 refine (zgw _ d.blocks hi _ ((zaf.slice 99).rd_below R1.out T0.bel hhi) (Nat.le_trans hhi T0.bel.size) (by omega)).mono ?_;rintro e w1 ⟨v0,rfl,o0,b0⟩;obtain ⟨bo1,bcap1,hv⟩:=zbT o0;obtain rfl:=zaU hv;clear hv;have T0c:=T0.call b0;have z0:=T0.b2.lt;have y0:=b0.size;have c0_1:w1.cell? ⟨w.heap.size,1,none⟩=some (.slice ao1 d.blocks.1 cap1):=T0c.b1.cell 1;have c0f_1:w1.frozen? ⟨w.heap.size,1,none⟩=false:=T0c.b1.frozen 1;have T1x:Two w (w1.setCell ⟨w.heap.size,1,none⟩ (.slice bo1 d.blocks.1 bcap1)) #[.bool d.wiped,.slice bo1 d.blocks.1 bcap1] #[.bool false,.slice none 0 0] 97 97:=⟨T0c.b1.stL [.slice bo1 d.blocks.1 bcap1] 1,T0c.b2.seto _ _ (by omega),T0c.bel.setCell (Nat.le_refl _) _⟩;have O1_0:=(o0.stN w.heap.size 1 [.slice bo1 d.blocks.1 bcap1] (by omega))
 have e1:(w1.setCell ⟨w.heap.size,1,none⟩ (.slice bo1 d.blocks.1 bcap1)).heap.size=w1.heap.size:=by simp
 clear o0 b0
 go_upto_region 2 with fail
 obtain ⟨W1,hW1⟩:∃ x,x=w1.setCell ⟨w.heap.size,1,none⟩ (.slice bo1 d.blocks.1 bcap1):=⟨_,rfl⟩
 have O1:Hid (OwnT (zaf.slice 99) W1 (w.heap.size+1+1) (w1.heap.size) d.blocks [.slice bo1 d.blocks.1 bcap1]):=by rw [hW1];exact OwnT.weaken O1_0 (by simp) (Nat.le_refl _)
 rw [← hW1] at T1x e1 ⊢;clear hW1 O1_0 T0c c0_1 c0f_1;have y_0:W1.cell? ⟨w.heap.size,0,none⟩=some (.bool d.wiped):=T1x.b1.cell 0;have y_1:W1.cell? ⟨w.heap.size,1,none⟩=some (.slice bo1 d.blocks.1 bcap1):=T1x.b1.cell 1;have r_0:W1.cell? ⟨w.heap.size+1,0,none⟩=some (.bool false):=T1x.b2.cell 0;have rf_0:W1.frozen? ⟨w.heap.size+1,0,none⟩=false:=T1x.b2.frozen 0;have r_1:W1.cell? ⟨w.heap.size+1,1,none⟩=some (.slice none 0 0):=T1x.b2.cell 1;have rf_1:W1.frozen? ⟨w.heap.size+1,1,none⟩=false:=T1x.b2.frozen 1;have HB:=hid T1x.bel;have zz:=T1x.b2.lt;clear T1x;go_wp2;refine bodyPost_ret (v:=.agg #[.bool d.wiped,.slice bo1 d.blocks.1 bcap1]) (by simp [results,Tryz.results176,go_sem,r_0,y_0,r_1,y_1]) rfl ?_;have F:OwnT zaa W1 (w.heap.size+1+1) w1.heap.size d ([.bool d.wiped]++[.slice bo1 d.blocks.1 bcap1]):=OwnT.conv (OwnT.pre (A:=layB) (a:=d.wiped) (c:=[.bool d.wiped]) ⟨rfl,trivial,rfl⟩ O1.out);refine ⟨[.bool d.wiped,.slice bo1 d.blocks.1 bcap1],rfl,?_,?_⟩
 ·exact OwnT.finb (F.weaken (Nat.le_refl _) (by omega)) (b:=w.heap.size+1) (by omega) (by omega) 0 [.bool d.wiped,.slice bo1 d.blocks.1 bcap1] _ rfl
 ·exact HB.out.trans (zaS (by omega) [.bool d.wiped,.slice bo1 d.blocks.1 bcap1] 0)
set_option maxRecDepth 20000 in
theorem zgx:ToF (zaa.slice 97) (szSl zav) 175 176:=fun v d hi w h hhi hn=>by
 obtain ⟨n,x⟩:=d;obtain ⟨ao,cap,hv,hm,hc⟩:=h
 cases hv
 have hn1:=zcv hn;have hn2:∀ i,i<n→zav (x i)≤1048576:=fun i hi=>zbB hn hi
 simp only at hn1 hm hc
 clear hn
 go_enter Tryz.func175,Tryz.ntmps175
 go_wp2_with (at_make;refine zb9 zaa [.bool false,.slice none 0 0] _ 97 32 (zgi).hs rfl Tryz.underlying94 (zgi).hi x (fun _=>[]) _ rfl _ _ rfl _ _ n rfl rfl rfl rfl (by omega) (by omega) ?_;intro w1 sp1 hb1)
 go_loopw [12] (fun i wr=>∃ k:Nat,k≤n∧i=.int .i64 k∧∃ ce Ls,SlP zaa 97 wr w.heap.size w.heap.size n n k x ce Ls∧Below w.heap.size w wr) (fun i _=>n-(intOf i).toNat)
 case atStart=>exact ⟨0,Nat.zero_le _,rfl,_,_,sp1,hb1⟩
 case round=>
  clear sp1 hb1;obtain ⟨k,hk,rfl,ce,Ls,sp,hb⟩:=hrel
  by_cases hlt:k<n
  ·obtain ⟨b,off,rfl,hblt,hel⟩:=hc (by omega)
   obtain ⟨ck,hrk,hcell⟩:=zaB (t:=0) hel hb hhi hblt hlt;obtain ⟨ao1,cap1,rfl,-⟩:=zbz hrk;have c0:wr.cell? ⟨b,off+k*2,none⟩=some (.bool (x k).wiped):=hcell 0 (by decide);have c1:wr.cell? ⟨b,off+k*2+1,none⟩=some (.slice ao1 (x k).blocks.1 cap1):=hcell 1 (by decide);clear hc hel hcell
   go_wp2_with fail
   refine (zhk _ (x k) hi wr hrk (Nat.le_trans hhi hb.size) (hn2 k hlt)).mono ?_;rintro e w2 ⟨cs',rfl,o2,hb2⟩;obtain ⟨bao1,bcap1,rfl⟩:=ze0 o2;obtain ⟨z0,s0⟩:=sp.some hb2 hlt (show 0<zaa.sz by decide);have s0:w2.cell? ⟨w.heap.size,k*2,none⟩=some z0:=s0;have sf0:=(sp.below hb2).frozen (k*2);obtain ⟨z1,s1⟩:=sp.some hb2 hlt (show 1<zaa.sz by decide);have s1:w2.cell? ⟨w.heap.size,k*2+1,none⟩=some z1:=s1;have sf1:=(sp.below hb2).frozen (k*2+1);have N:=sp.next hb2 hlt o2 hb.size;have N2:Below w.heap.size w (stN w2 w.heap.size (k*zaa.sz) [.bool (x k).wiped,.slice bao1 (x k).blocks.1 bcap1]):=(hb.trans (hb2.mono hb.size)).trans (zaS (Nat.le_refl _) _ _);clear o2 hb2 sp hb
   go_wp2_with fail
   go_roundw
   case rel=>
    obtain ⟨ce',Ls',N⟩:=N;exact ⟨k+1,by omega,by go_num,ce',Ls',N,N2⟩
   case measure=>simp [intOf];omega
  ·obtain rfl:k=n:=by omega
   go_wp2;go_ret;exact ⟨_,rfl,sp.done (Nat.le_refl _),hb⟩
theorem zhl:ToS (zaa.slice 97) (szSl zav) 150:=fun v d hi w h hhi hn=>by
 have C:=zgx v d hi w h hhi hn;obtain ⟨ao,cap,hv,hm,hc⟩:=h
 cases hv
 clear hm hc
 go_enter Tryz.func150,Tryz.ntmps150
 go_wp2_with fail
 refine C.mono ?_;rintro e w1 ⟨v1,rfl,o1,b1⟩;have HO:=hid o1;have HB:=hid b1;clear o1 b1 C;go_wp2;go_ret;exact ⟨v1,rfl,HO.out,HB.out⟩
theorem zfx:ToF ((zaa.slice 97).slice 94) (szSl (szSl zav)) 149 150:=fun v d hi w h hhi hn=>by
 obtain ⟨n,x⟩:=d;obtain ⟨ao,cap,hv,hm,hc⟩:=h
 cases hv
 have hn1:=zcv hn;have hn2:∀ i,i<n→szSl zav (x i)≤1048576:=fun i hi=>zbB hn hi
 simp only at hn1 hm hc
 clear hn
 go_enter Tryz.func149,Tryz.ntmps149
 go_wp2_with (at_make;refine zb9 (zaa.slice 97) [.slice none 0 0] _ 94 24 zfb.hs rfl Tryz.underlying35 zfb.hi x (fun _=>[]) _ rfl _ _ rfl _ _ n rfl rfl rfl rfl (by omega) (by omega) ?_;intro w1 sp1 hb1)
 go_loopw [12] (fun i wr=>∃ k:Nat,k≤n∧i=.int .i64 k∧∃ ce Ls,SlP (zaa.slice 97) 94 wr w.heap.size w.heap.size n n k x ce Ls∧Below w.heap.size w wr) (fun i _=>n-(intOf i).toNat)
 case atStart=>exact ⟨0,Nat.zero_le _,rfl,_,_,sp1,hb1⟩
 case round=>
  clear sp1 hb1;obtain ⟨k,hk,rfl,ce,Ls,sp,hb⟩:=hrel
  by_cases hlt:k<n
  ·obtain ⟨b,off,rfl,hblt,hel⟩:=hc (by omega)
   obtain ⟨ck,hrk,hcell⟩:=zaB (t:=0) hel hb hhi hblt hlt;obtain ⟨ao1,cap1,rfl⟩:=zbH hrk
   have c0:wr.cell? ⟨b,off+k,none⟩=some (.slice ao1 (x k).1 cap1):=by
    have:=hcell 0 (by decide)
    have e:off+(k*(zaa.slice 97).sz+0)=off+k:=by show off+(k*1+0)=off+k;omega
    rw [e] at this;exact this
   clear hc hel hcell
   go_wp2_with fail
   refine (zhl _ (x k) hi wr hrk (Nat.le_trans hhi hb.size) (hn2 k hlt)).mono ?_;rintro e w2 ⟨v2,rfl,o2,hb2⟩;obtain ⟨bao1,bcap1,hv2⟩:=zbT o2;obtain rfl:=zaU hv2;obtain ⟨z0,s0⟩:=sp.some hb2 hlt (show 0<(zaa.slice 97).sz by decide)
   have e0:k*(zaa.slice 97).sz+0=k:=by show k*1+0=k;omega
   rw [e0] at s0;have sf0:=(sp.below hb2).frozen k;have N:=sp.next hb2 hlt o2 hb.size
   have e1:k*(zaa.slice 97).sz=k:=by show k*1=k;omega
   rw [e1] at N;have N2:Below w.heap.size w (stN w2 w.heap.size k [.slice bao1 (x k).1 bcap1]):=(hb.trans (hb2.mono hb.size)).trans (zaS (Nat.le_refl _) _ _);clear o2 hb2 sp hb hv2
   go_wp2_with fail
   go_roundw
   case rel=>
    obtain ⟨ce',Ls',N⟩:=N;exact ⟨k+1,by omega,by go_num,ce',Ls',N,N2⟩
   case measure=>simp [intOf];omega
  ·obtain rfl:k=n:=by omega
   go_wp2;go_ret;exact ⟨_,rfl,sp.done (Nat.le_refl _),hb⟩
def zbf (x:DriveD) (R:Nat) (b:BlockD):DriveD:={ x with blocks:=(x.blocks.1,upd x.blocks.2 R b) }
def zch (d:WorldD) (G k R:Nat) (b:BlockD):WorldD:={ d with groups:=(d.groups.1,upd d.groups.2 G ((d.groups.2 G).1,upd (d.groups.2 G).2 k (zbf ((d.groups.2 G).2 k) R b))) }
theorem zhm {w:World} {lo hi:Nat} {b:BlockD} {cs:List Value} (h:OwnT zaf w lo hi b cs):∃ s1 m1,cs=[.int .i64 b.stamp,.slice s1 b.bytes.1 m1]:=by
 obtain ⟨M,h1,_⟩:=h;obtain ⟨a,c,K1,rfl,_⟩:=zcJ h1;exact ⟨a,c,rfl⟩
theorem zgy {w w':World} {x:DriveD} {cs:List Value} {gb cap9 R:Nat} {b:BlockD} {K K':List Nat} (hc:cs=[.bool x.wiped,.slice (some ⟨gb,0,none⟩) x.blocks.1 cap9]) (ht:Turn (zaf.slice 99) w K w' (x.blocks.1,upd x.blocks.2 R b) [.slice (some ⟨gb,0,none⟩) x.blocks.1 cap9] K'):Turn zaa w K w' (zbf x R b) cs K':=by
 subst hc;exact ⟨zeN (zbf x R b) ht.own,ht.nd,ht.sub,ht.chg⟩
set_option maxRecDepth 20000 in
theorem zkG (R pv E:Nat) (l o m:Int) (y0 y1 y2 y3 y4 y5 y6 y7 y8 yp0 yl0 yq0 yp1 yl1 yq1 yp2 yl2 yq2 y9 y10 yb:_) (w:World) (hR:Box w R #[.int .i64 0,.int .i64 0,.int .i64 0,.int .i64 0,.int .i64 0,.int .i64 0,.int .i64 0,.int .i64 0,.int .i64 0,.int .i64 0,.slice none 0 0,.slice none 0 0,.slice none 0 0,.int .i64 0,.int .i64 0,.bool false] 40) (hp:w.cell? ⟨pv,0,none⟩=some (.pointer (some ⟨E,0,none⟩))) (hX:Box w E #[.int .i32 l,.int .u32 0,.int .u32 o,.int .i32 m,.int .u32 0,.int .i64 y0,.int .i64 y1,.int .i64 y2,.int .i64 y3,.int .i64 y4,.int .i64 y5,.int .i64 y6,.int .i64 y7,.int .i64 y8,.slice yp0 yl0 yq0,.slice yp1 yl1 yq1,.slice yp2 yl2 yq2,.int .i64 y9,.int .i64 y10,.bool yb] 133) (hRE:R≠E) (hRp:R≠pv) :
 CallsD Tryz.prog 118 #[.pointer (some ⟨R,0,none⟩),.pointer (some ⟨pv,0,none⟩)] .returning w fun e u' w'=>e=.returned (.tuple #[])∧u'=.returning∧Box w' R #[.int .i64 0,.int .i64 y0,.int .i64 y1,.int .i64 y2,.int .i64 y3,.int .i64 y4,.int .i64 y5,.int .i64 y6,.int .i64 y7,.int .i64 y8,.slice yp0 yl0 yq0,.slice yp1 yl1 yq1,.slice yp2 yl2 yq2,.int .i64 y9,.int .i64 y10,.bool yb] 40∧ChgL [R] w w':=by
 have x_5:w.cell? ⟨E,5,none⟩=some (.int .i64 y0):=hX.cell 5;have x_6:w.cell? ⟨E,6,none⟩=some (.int .i64 y1):=hX.cell 6;have x_7:w.cell? ⟨E,7,none⟩=some (.int .i64 y2):=hX.cell 7;have x_8:w.cell? ⟨E,8,none⟩=some (.int .i64 y3):=hX.cell 8;have x_9:w.cell? ⟨E,9,none⟩=some (.int .i64 y4):=hX.cell 9;have x_10:w.cell? ⟨E,10,none⟩=some (.int .i64 y5):=hX.cell 10;have x_11:w.cell? ⟨E,11,none⟩=some (.int .i64 y6):=hX.cell 11;have x_12:w.cell? ⟨E,12,none⟩=some (.int .i64 y7):=hX.cell 12;have x_13:w.cell? ⟨E,13,none⟩=some (.int .i64 y8):=hX.cell 13;have x_14:w.cell? ⟨E,14,none⟩=some (.slice yp0 yl0 yq0):=hX.cell 14;have x_15:w.cell? ⟨E,15,none⟩=some (.slice yp1 yl1 yq1):=hX.cell 15;have x_16:w.cell? ⟨E,16,none⟩=some (.slice yp2 yl2 yq2):=hX.cell 16;have x_17:w.cell? ⟨E,17,none⟩=some (.int .i64 y9):=hX.cell 17;have x_18:w.cell? ⟨E,18,none⟩=some (.int .i64 y10):=hX.cell 18;have x_19:w.cell? ⟨E,19,none⟩=some (.bool yb):=hX.cell 19;have R1:=hR;have X1:=hX;have hp1:=hp;have C1:ChgL [R] w w:=ChgL.refl _ _;refine callsD_of_wpS Tryz.func118 rfl fun c₀ cs hu=>?_
 apply wpS_seq
 apply wpS_seq
 apply wpS_region
 simp [wpOpsS,go_sem,recoverD,hu,Tryz.ntmps118,Exit.thenS]
 refine wpS_cond (t:=false) (by simp [Act.eval,Array.replicate]) ?_
 simp only [Bool.false_eq_true,if_false]
 refine wpS_of_wp (wp_skip ?_)
 simp only [Exit.thenS]
 clear hR hX hp;refine wpS_of_wp ?_;have e_5:w.cell? ⟨E,5,none⟩=some (.int .i64 y0):=X1.cell 5;have e_6:w.cell? ⟨E,6,none⟩=some (.int .i64 y1):=X1.cell 6;have e_7:w.cell? ⟨E,7,none⟩=some (.int .i64 y2):=X1.cell 7;have e_8:w.cell? ⟨E,8,none⟩=some (.int .i64 y3):=X1.cell 8;have e_9:w.cell? ⟨E,9,none⟩=some (.int .i64 y4):=X1.cell 9;have e_10:w.cell? ⟨E,10,none⟩=some (.int .i64 y5):=X1.cell 10;have e_11:w.cell? ⟨E,11,none⟩=some (.int .i64 y6):=X1.cell 11;have e_12:w.cell? ⟨E,12,none⟩=some (.int .i64 y7):=X1.cell 12;have e_13:w.cell? ⟨E,13,none⟩=some (.int .i64 y8):=X1.cell 13;have e_14:w.cell? ⟨E,14,none⟩=some (.slice yp0 yl0 yq0):=X1.cell 14;have e_15:w.cell? ⟨E,15,none⟩=some (.slice yp1 yl1 yq1):=X1.cell 15;have e_16:w.cell? ⟨E,16,none⟩=some (.slice yp2 yl2 yq2):=X1.cell 16;have e_17:w.cell? ⟨E,17,none⟩=some (.int .i64 y9):=X1.cell 17;have e_18:w.cell? ⟨E,18,none⟩=some (.int .i64 y10):=X1.cell 18;have e_19:w.cell? ⟨E,19,none⟩=some (.bool yb):=X1.cell 19;have r_1:w.cell? ⟨R,1,none⟩=some (.int .i64 0):=R1.cell 1;have rf_1:w.frozen? ⟨R,1,none⟩=false:=R1.frozen 1;have r_2:w.cell? ⟨R,2,none⟩=some (.int .i64 0):=R1.cell 2;have rf_2:w.frozen? ⟨R,2,none⟩=false:=R1.frozen 2;have r_3:w.cell? ⟨R,3,none⟩=some (.int .i64 0):=R1.cell 3;have rf_3:w.frozen? ⟨R,3,none⟩=false:=R1.frozen 3;have r_4:w.cell? ⟨R,4,none⟩=some (.int .i64 0):=R1.cell 4;have rf_4:w.frozen? ⟨R,4,none⟩=false:=R1.frozen 4;have r_5:w.cell? ⟨R,5,none⟩=some (.int .i64 0):=R1.cell 5;have rf_5:w.frozen? ⟨R,5,none⟩=false:=R1.frozen 5;have r_6:w.cell? ⟨R,6,none⟩=some (.int .i64 0):=R1.cell 6;have rf_6:w.frozen? ⟨R,6,none⟩=false:=R1.frozen 6;have r_7:w.cell? ⟨R,7,none⟩=some (.int .i64 0):=R1.cell 7;have rf_7:w.frozen? ⟨R,7,none⟩=false:=R1.frozen 7;have r_8:w.cell? ⟨R,8,none⟩=some (.int .i64 0):=R1.cell 8;have rf_8:w.frozen? ⟨R,8,none⟩=false:=R1.frozen 8;have r_9:w.cell? ⟨R,9,none⟩=some (.int .i64 0):=R1.cell 9;have rf_9:w.frozen? ⟨R,9,none⟩=false:=R1.frozen 9;have r_10:w.cell? ⟨R,10,none⟩=some (.slice none 0 0):=R1.cell 10;have rf_10:w.frozen? ⟨R,10,none⟩=false:=R1.frozen 10;have r_11:w.cell? ⟨R,11,none⟩=some (.slice none 0 0):=R1.cell 11;have rf_11:w.frozen? ⟨R,11,none⟩=false:=R1.frozen 11;have r_12:w.cell? ⟨R,12,none⟩=some (.slice none 0 0):=R1.cell 12;have rf_12:w.frozen? ⟨R,12,none⟩=false:=R1.frozen 12;have r_13:w.cell? ⟨R,13,none⟩=some (.int .i64 0):=R1.cell 13;have rf_13:w.frozen? ⟨R,13,none⟩=false:=R1.frozen 13;have r_14:w.cell? ⟨R,14,none⟩=some (.int .i64 0):=R1.cell 14;have rf_14:w.frozen? ⟨R,14,none⟩=false:=R1.frozen 14;have r_15:w.cell? ⟨R,15,none⟩=some (.bool false):=R1.cell 15;have rf_15:w.frozen? ⟨R,15,none⟩=false:=R1.frozen 15;have R2:Box (stN w R 1 (rwV y0 y1 y2 y3 y4 y5 y6 y7 y8 yp0 yl0 yq0 yp1 yl1 yq1 yp2 yl2 yq2 y9 y10 yb)) R (.int .i64 0::rwV y0 y1 y2 y3 y4 y5 y6 y7 y8 yp0 yl0 yq0 yp1 yl1 yq1 yp2 yl2 yq2 y9 y10 yb).toArray 40:=R1.stL (rwV y0 y1 y2 y3 y4 y5 y6 y7 y8 yp0 yl0 yq0 yp1 yl1 yq1 yp2 yl2 yq2 y9 y10 yb) 1
 have C2':ChgL [R] w (stN w R 1 (rwV y0 y1 y2 y3 y4 y5 y6 y7 y8 yp0 yl0 yq0 yp1 yl1 yq1 yp2 yl2 yq2 y9 y10 yb)):=C1.trans ⟨(za1 R _ w 1).1,(za1 R _ w 1).2.1,(za1 R _ w 1).2.2,Nat.le_of_eq (zbj R _ w 1).symm,fun b _ hb=>zbo R b (fun hh=>hb (by simp [hh])) _ w 1⟩;clear R1 X1 C1  x_5 x_6 x_7 x_8 x_9 x_10 x_11 x_12 x_13 x_14 x_15 x_16 x_17 x_18 x_19;go_wp2;exact ⟨rfl,_,by cases c₀;simp_all,_,results_none rfl _ _ _,rfl,rfl,R2,C2'⟩
set_option maxRecDepth 20000 in
theorem zjH (u:TypeId) (pvv:Value) (R pv E:Nat) (l o m:Int) (y0 y1 y2 y3 y4 y5 y6 y7 y8 yp0 yl0 yq0 yp1 yl1 yq1 yp2 yl2 yq2 y9 y10 yb:_) (w:World) (hR:Box w R #[.int .i64 0,.int .i64 0,.int .i64 0,.int .i64 0,.int .i64 0,.int .i64 0,.int .i64 0,.int .i64 0,.int .i64 0,.int .i64 0,.slice none 0 0,.slice none 0 0,.slice none 0 0,.int .i64 0,.int .i64 0,.bool false] 40) (hp:w.cell? ⟨pv,0,none⟩=some (.pointer (some ⟨E,0,none⟩))) (hX:Box w E #[.int .i32 l,.int .u32 0,.int .u32 o,.int .i32 m,.int .u32 0,.int .i64 y0,.int .i64 y1,.int .i64 y2,.int .i64 y3,.int .i64 y4,.int .i64 y5,.int .i64 y6,.int .i64 y7,.int .i64 y8,.slice yp0 yl0 yq0,.slice yp1 yl1 yq1,.slice yp2 yl2 yq2,.int .i64 y9,.int .i64 y10,.bool yb] 133) (hRE:R≠E) (hRp:R≠pv) :
 CallsD Tryz.prog 118 #[.pointer (some ⟨R,0,none⟩),.pointer (some ⟨pv,0,none⟩)] (.panicking [{ v:=.iface u pvv,recovered:=false }]) w fun e u' w'=>e=.returned (.tuple #[])∧u'=(.panicking [{ v:=.iface u pvv,recovered:=true }])∧Box w' R #[.int .i64 9,.int .i64 y0,.int .i64 y1,.int .i64 y2,.int .i64 y3,.int .i64 y4,.int .i64 y5,.int .i64 y6,.int .i64 y7,.int .i64 y8,.slice yp0 yl0 yq0,.slice yp1 yl1 yq1,.slice yp2 yl2 yq2,.int .i64 y9,.int .i64 y10,.bool yb] 40∧ChgL [R] w w':=by
 have x_5:w.cell? ⟨E,5,none⟩=some (.int .i64 y0):=hX.cell 5;have x_6:w.cell? ⟨E,6,none⟩=some (.int .i64 y1):=hX.cell 6;have x_7:w.cell? ⟨E,7,none⟩=some (.int .i64 y2):=hX.cell 7;have x_8:w.cell? ⟨E,8,none⟩=some (.int .i64 y3):=hX.cell 8;have x_9:w.cell? ⟨E,9,none⟩=some (.int .i64 y4):=hX.cell 9;have x_10:w.cell? ⟨E,10,none⟩=some (.int .i64 y5):=hX.cell 10;have x_11:w.cell? ⟨E,11,none⟩=some (.int .i64 y6):=hX.cell 11;have x_12:w.cell? ⟨E,12,none⟩=some (.int .i64 y7):=hX.cell 12;have x_13:w.cell? ⟨E,13,none⟩=some (.int .i64 y8):=hX.cell 13;have x_14:w.cell? ⟨E,14,none⟩=some (.slice yp0 yl0 yq0):=hX.cell 14;have x_15:w.cell? ⟨E,15,none⟩=some (.slice yp1 yl1 yq1):=hX.cell 15;have x_16:w.cell? ⟨E,16,none⟩=some (.slice yp2 yl2 yq2):=hX.cell 16;have x_17:w.cell? ⟨E,17,none⟩=some (.int .i64 y9):=hX.cell 17;have x_18:w.cell? ⟨E,18,none⟩=some (.int .i64 y10):=hX.cell 18;have x_19:w.cell? ⟨E,19,none⟩=some (.bool yb):=hX.cell 19;have R1:Box (w.setCell ⟨R,0,none⟩ (.int .i64 9)) R (.int .i64 9::rwY).toArray 40:=hR.setc 0 _;have C1:ChgL [R] w (w.setCell ⟨R,0,none⟩ (.int .i64 9)):=(ChgL.refl _ _).st _ 0 _ (by simp);have X1:Box (w.setCell ⟨R,0,none⟩ (.int .i64 9)) E #[.int .i32 l,.int .u32 0,.int .u32 o,.int .i32 m,.int .u32 0,.int .i64 y0,.int .i64 y1,.int .i64 y2,.int .i64 y3,.int .i64 y4,.int .i64 y5,.int .i64 y6,.int .i64 y7,.int .i64 y8,.slice yp0 yl0 yq0,.slice yp1 yl1 yq1,.slice yp2 yl2 yq2,.int .i64 y9,.int .i64 y10,.bool yb] 133:=hX.seto 0 _ (fun h=>hRE h.symm);have hp1:(w.setCell ⟨R,0,none⟩ (.int .i64 9)).cell? ⟨pv,0,none⟩=some (.pointer (some ⟨E,0,none⟩)):=(World.cell?_setCell_other _ ⟨R,0,none⟩ ⟨pv,0,none⟩ _ (by simp [hRp])).trans hp;have r0:w.cell? ⟨R,0,none⟩=some (.int .i64 0):=hR.cell 0;have rf0:w.frozen? ⟨R,0,none⟩=false:=hR.frozen 0;refine callsD_of_wpS Tryz.func118 rfl fun c₀ cs hu=>?_
 apply wpS_seq
 apply wpS_seq
 apply wpS_region
 simp [wpOpsS,go_sem,recoverD,hu,Tryz.ntmps118,Exit.thenS]
 refine wpS_cond (t:=true) (by simp [Act.eval,Array.replicate]) ?_
 simp only [if_true]
 apply wpS_region
 simp [wpOpsS,go_sem,r0,rf0,Exit.thenS]
 clear r0 rf0 hR hX hp;refine wpS_of_wp ?_;obtain ⟨W,hW⟩:∃ x,x=(w.setCell ⟨R,0,none⟩ (.int .i64 9)):=⟨_,rfl⟩;rw [← hW] at R1 X1 hp1 C1 ⊢;have e_5:W.cell? ⟨E,5,none⟩=some (.int .i64 y0):=X1.cell 5;have e_6:W.cell? ⟨E,6,none⟩=some (.int .i64 y1):=X1.cell 6;have e_7:W.cell? ⟨E,7,none⟩=some (.int .i64 y2):=X1.cell 7;have e_8:W.cell? ⟨E,8,none⟩=some (.int .i64 y3):=X1.cell 8;have e_9:W.cell? ⟨E,9,none⟩=some (.int .i64 y4):=X1.cell 9;have e_10:W.cell? ⟨E,10,none⟩=some (.int .i64 y5):=X1.cell 10;have e_11:W.cell? ⟨E,11,none⟩=some (.int .i64 y6):=X1.cell 11;have e_12:W.cell? ⟨E,12,none⟩=some (.int .i64 y7):=X1.cell 12;have e_13:W.cell? ⟨E,13,none⟩=some (.int .i64 y8):=X1.cell 13;have e_14:W.cell? ⟨E,14,none⟩=some (.slice yp0 yl0 yq0):=X1.cell 14;have e_15:W.cell? ⟨E,15,none⟩=some (.slice yp1 yl1 yq1):=X1.cell 15;have e_16:W.cell? ⟨E,16,none⟩=some (.slice yp2 yl2 yq2):=X1.cell 16;have e_17:W.cell? ⟨E,17,none⟩=some (.int .i64 y9):=X1.cell 17;have e_18:W.cell? ⟨E,18,none⟩=some (.int .i64 y10):=X1.cell 18;have e_19:W.cell? ⟨E,19,none⟩=some (.bool yb):=X1.cell 19;have r_1:W.cell? ⟨R,1,none⟩=some (.int .i64 0):=R1.cell 1;have rf_1:W.frozen? ⟨R,1,none⟩=false:=R1.frozen 1;have r_2:W.cell? ⟨R,2,none⟩=some (.int .i64 0):=R1.cell 2;have rf_2:W.frozen? ⟨R,2,none⟩=false:=R1.frozen 2;have r_3:W.cell? ⟨R,3,none⟩=some (.int .i64 0):=R1.cell 3;have rf_3:W.frozen? ⟨R,3,none⟩=false:=R1.frozen 3;have r_4:W.cell? ⟨R,4,none⟩=some (.int .i64 0):=R1.cell 4;have rf_4:W.frozen? ⟨R,4,none⟩=false:=R1.frozen 4;have r_5:W.cell? ⟨R,5,none⟩=some (.int .i64 0):=R1.cell 5;have rf_5:W.frozen? ⟨R,5,none⟩=false:=R1.frozen 5;have r_6:W.cell? ⟨R,6,none⟩=some (.int .i64 0):=R1.cell 6;have rf_6:W.frozen? ⟨R,6,none⟩=false:=R1.frozen 6;have r_7:W.cell? ⟨R,7,none⟩=some (.int .i64 0):=R1.cell 7;have rf_7:W.frozen? ⟨R,7,none⟩=false:=R1.frozen 7;have r_8:W.cell? ⟨R,8,none⟩=some (.int .i64 0):=R1.cell 8;have rf_8:W.frozen? ⟨R,8,none⟩=false:=R1.frozen 8;have r_9:W.cell? ⟨R,9,none⟩=some (.int .i64 0):=R1.cell 9;have rf_9:W.frozen? ⟨R,9,none⟩=false:=R1.frozen 9;have r_10:W.cell? ⟨R,10,none⟩=some (.slice none 0 0):=R1.cell 10;have rf_10:W.frozen? ⟨R,10,none⟩=false:=R1.frozen 10;have r_11:W.cell? ⟨R,11,none⟩=some (.slice none 0 0):=R1.cell 11;have rf_11:W.frozen? ⟨R,11,none⟩=false:=R1.frozen 11;have r_12:W.cell? ⟨R,12,none⟩=some (.slice none 0 0):=R1.cell 12;have rf_12:W.frozen? ⟨R,12,none⟩=false:=R1.frozen 12;have r_13:W.cell? ⟨R,13,none⟩=some (.int .i64 0):=R1.cell 13;have rf_13:W.frozen? ⟨R,13,none⟩=false:=R1.frozen 13;have r_14:W.cell? ⟨R,14,none⟩=some (.int .i64 0):=R1.cell 14;have rf_14:W.frozen? ⟨R,14,none⟩=false:=R1.frozen 14;have r_15:W.cell? ⟨R,15,none⟩=some (.bool false):=R1.cell 15
 have rf_15:W.frozen? ⟨R,15,none⟩=false:=R1.frozen 15;have R2:Box (stN W R 1 (rwV y0 y1 y2 y3 y4 y5 y6 y7 y8 yp0 yl0 yq0 yp1 yl1 yq1 yp2 yl2 yq2 y9 y10 yb)) R (.int .i64 9::rwV y0 y1 y2 y3 y4 y5 y6 y7 y8 yp0 yl0 yq0 yp1 yl1 yq1 yp2 yl2 yq2 y9 y10 yb).toArray 40:=R1.stL (rwV y0 y1 y2 y3 y4 y5 y6 y7 y8 yp0 yl0 yq0 yp1 yl1 yq1 yp2 yl2 yq2 y9 y10 yb) 1;have C2':ChgL [R] w (stN W R 1 (rwV y0 y1 y2 y3 y4 y5 y6 y7 y8 yp0 yl0 yq0 yp1 yl1 yq1 yp2 yl2 yq2 y9 y10 yb)):=C1.trans ⟨(za1 R _ W 1).1,(za1 R _ W 1).2.1,(za1 R _ W 1).2.2,Nat.le_of_eq (zbj R _ W 1).symm,fun b _ hb=>zbo R b (fun hh=>hb (by simp [hh])) _ W 1⟩;clear R1 X1 C1 hW x_5 x_6 x_7 x_8 x_9 x_10 x_11 x_12 x_13 x_14 x_15 x_16 x_17 x_18 x_19;go_wp2;exact ⟨rfl,_,rfl,_,results_none rfl _ _ _,rfl,rfl,R2,C2'⟩
theorem zkH:ElInfo zae 101 43 128 [.int .i64 0,.int .i64 0,.string ByteArray.empty,.int .i64 0,.int .i64 0,.int .i64 0,.slice none 0 0,.slice none 0 0,.slice none 0 0]:=⟨by decide,rfl,Tryz.underlying101,by kernel_rfl,by decide⟩
set_option maxRecDepth 20000 in
theorem zjI:ToV zae zaY 178:=fun cs d hi w r hhi hn=>by
 obtain ⟨ao6,cap6,ao7,cap7,ao8,cap8,rfl,h6,h7,h8,k0,k1,k2,k3,k4,k5⟩:=za5 r;clear r;unfold zaY at hn;have R6:=hid h6;have R7:=hid h7;have R8:=hid h8;clear h6 h7 h8;have Q0:=hid k0;have Q1:=hid k1;have Q2:=hid k2;have Q3:=hid k3;have Q4:=hid k4;have Q5:=hid k5;clear k0 k1 k2 k3 k4 k5;have T0:=zaC w (rwR d ao6 cap6 ao7 cap7 ao8 cap8).toArray #[.int .i64 0,.int .i64 0,.string ByteArray.empty,.int .i64 0,.int .i64 0,.int .i64 0,.slice none 0 0,.slice none 0 0,.slice none 0 0] 43 43
 go_enter Tryz.func178,Tryz.ntmps178
 go_wp2_with fail
 refine (zfj _ d.rows hi _ (zal.rd_below R6.out T0.bel hhi) (Nat.le_trans hhi T0.bel.size) (by omega)).mono ?_;rintro e w1 ⟨v0,rfl,o0,b0⟩;obtain ⟨bo6,bcap6,hv⟩:=zcp o0;obtain rfl:=zaU hv;clear hv;have T0c:=T0.call b0;have z0:=T0.b2.lt;have y0:=b0.size;have c0_6:w1.cell? ⟨w.heap.size,6,none⟩=some (.slice ao6 d.rows.1 cap6):=T0c.b1.cell 6;have c0f_6:w1.frozen? ⟨w.heap.size,6,none⟩=false:=T0c.b1.frozen 6;have T1x:Two w (w1.setCell ⟨w.heap.size,6,none⟩ (.slice bo6 d.rows.1 bcap6)) (rwR d bo6 bcap6 ao7 cap7 ao8 cap8).toArray #[.int .i64 0,.int .i64 0,.string ByteArray.empty,.int .i64 0,.int .i64 0,.int .i64 0,.slice none 0 0,.slice none 0 0,.slice none 0 0] 43 43:=⟨T0c.b1.stL [.slice bo6 d.rows.1 bcap6] 6,T0c.b2.seto _ _ (by omega),T0c.bel.setCell (Nat.le_refl _) _⟩;have O6_0:=(o0.stN w.heap.size 6 [.slice bo6 d.rows.1 bcap6] (by omega))
 have e1:(w1.setCell ⟨w.heap.size,6,none⟩ (.slice bo6 d.rows.1 bcap6)).heap.size=w1.heap.size:=by simp
 clear o0 b0
 go_upto_region 2 with fail
 obtain ⟨W1,hW1⟩:∃ x,x=w1.setCell ⟨w.heap.size,6,none⟩ (.slice bo6 d.rows.1 bcap6):=⟨_,rfl⟩
 have O6:Hid (OwnT zal W1 (w.heap.size+1+1) (w1.heap.size) d.rows [.slice bo6 d.rows.1 bcap6]):=by rw [hW1];exact OwnT.weaken O6_0 (by simp) (Nat.le_refl _)
 rw [← hW1] at T1x e1 ⊢;clear hW1 O6_0 T0c c0_6 c0f_6;have a1_7:W1.cell? ⟨w.heap.size,7,none⟩=some (.slice ao7 d.data.1 cap7):=T1x.b1.cell 7
 go_wp2_with fail
 refine (zcC _ d.data hi _ (zad.rd_below R7.out T1x.bel hhi) (Nat.le_trans hhi T1x.bel.size) (by omega)).mono ?_;rintro e w2 ⟨v1,rfl,o1,b1⟩;obtain ⟨bo7,bcap7,hv⟩:=zbp o1;obtain rfl:=zaU hv;clear hv;have T1c:=T1x.call b1;have z1:=T1x.b2.lt;have y1:=b1.size;have c1_7:w2.cell? ⟨w.heap.size,7,none⟩=some (.slice ao7 d.data.1 cap7):=T1c.b1.cell 7;have c1f_7:w2.frozen? ⟨w.heap.size,7,none⟩=false:=T1c.b1.frozen 7;have T2x:Two w (w2.setCell ⟨w.heap.size,7,none⟩ (.slice bo7 d.data.1 bcap7)) (rwR d bo6 bcap6 bo7 bcap7 ao8 cap8).toArray #[.int .i64 0,.int .i64 0,.string ByteArray.empty,.int .i64 0,.int .i64 0,.int .i64 0,.slice none 0 0,.slice none 0 0,.slice none 0 0] 43 43:=⟨T1c.b1.stL [.slice bo7 d.data.1 bcap7] 7,T1c.b2.seto _ _ (by omega),T1c.bel.setCell (Nat.le_refl _) _⟩;have O6_1:=(O6.out.call b1).stN w.heap.size 7 [.slice bo7 d.data.1 bcap7] (by omega);have O7_1:=(o1.stN w.heap.size 7 [.slice bo7 d.data.1 bcap7] (by omega))
 have e2:(w2.setCell ⟨w.heap.size,7,none⟩ (.slice bo7 d.data.1 bcap7)).heap.size=w2.heap.size:=by simp
 clear o1 b1 O6 T1x a1_7
 go_upto_region 3 with fail
 obtain ⟨W2,hW2⟩:∃ x,x=w2.setCell ⟨w.heap.size,7,none⟩ (.slice bo7 d.data.1 bcap7):=⟨_,rfl⟩
 have O6:Hid (OwnT zal W2 (w.heap.size+1+1) (w1.heap.size) d.rows [.slice bo6 d.rows.1 bcap6]):=by rw [hW2];exact O6_1
 have O7:Hid (OwnT zad W2 (W1.heap.size) (w2.heap.size) d.data [.slice bo7 d.data.1 bcap7]):=by rw [hW2];exact O7_1
 rw [← hW2] at T2x e2 ⊢;clear hW2 O6_1 O7_1 T1c c1_7 c1f_7;have a2_8:W2.cell? ⟨w.heap.size,8,none⟩=some (.slice ao8 d.delta.1 cap8):=T2x.b1.cell 8
 go_wp2_with fail
 refine (zcC _ d.delta hi _ (zad.rd_below R8.out T2x.bel hhi) (Nat.le_trans hhi T2x.bel.size) (by omega)).mono ?_;rintro e w3 ⟨v2,rfl,o2,b2⟩;obtain ⟨bo8,bcap8,hv⟩:=zbp o2;obtain rfl:=zaU hv;clear hv;have T2c:=T2x.call b2;have z2:=T2x.b2.lt;have y2:=b2.size;have c2_8:w3.cell? ⟨w.heap.size,8,none⟩=some (.slice ao8 d.delta.1 cap8):=T2c.b1.cell 8;have c2f_8:w3.frozen? ⟨w.heap.size,8,none⟩=false:=T2c.b1.frozen 8;have T3x:Two w (w3.setCell ⟨w.heap.size,8,none⟩ (.slice bo8 d.delta.1 bcap8)) (rwR d bo6 bcap6 bo7 bcap7 bo8 bcap8).toArray #[.int .i64 0,.int .i64 0,.string ByteArray.empty,.int .i64 0,.int .i64 0,.int .i64 0,.slice none 0 0,.slice none 0 0,.slice none 0 0] 43 43:=⟨T2c.b1.stL [.slice bo8 d.delta.1 bcap8] 8,T2c.b2.seto _ _ (by omega),T2c.bel.setCell (Nat.le_refl _) _⟩;have O6_2:=(O6.out.call b2).stN w.heap.size 8 [.slice bo8 d.delta.1 bcap8] (by omega);have O7_2:=(O7.out.call b2).stN w.heap.size 8 [.slice bo8 d.delta.1 bcap8] (by omega);have O8_2:=(o2.stN w.heap.size 8 [.slice bo8 d.delta.1 bcap8] (by omega))
 have e3:(w3.setCell ⟨w.heap.size,8,none⟩ (.slice bo8 d.delta.1 bcap8)).heap.size=w3.heap.size:=by simp
 clear o2 b2 O6 O7 T2x a2_8
 go_upto_region 4 with fail
 obtain ⟨W3,hW3⟩:∃ x,x=w3.setCell ⟨w.heap.size,8,none⟩ (.slice bo8 d.delta.1 bcap8):=⟨_,rfl⟩
 have O6:Hid (OwnT zal W3 (w.heap.size+1+1) (w1.heap.size) d.rows [.slice bo6 d.rows.1 bcap6]):=by rw [hW3];exact O6_2
 have O7:Hid (OwnT zad W3 (W1.heap.size) (w2.heap.size) d.data [.slice bo7 d.data.1 bcap7]):=by rw [hW3];exact O7_2
 have O8:Hid (OwnT zad W3 (W2.heap.size) (w3.heap.size) d.delta [.slice bo8 d.delta.1 bcap8]):=by rw [hW3];exact O8_2
 rw [← hW3] at T3x e3 ⊢;clear hW3 O6_2 O7_2 O8_2 T2c c2_8 c2f_8;have y_0:W3.cell? ⟨w.heap.size,0,none⟩=some (.int .i64 d.kind):=T3x.b1.cell 0;have y_1:W3.cell? ⟨w.heap.size,1,none⟩=some (.int .i64 d.seq):=T3x.b1.cell 1;have y_2:W3.cell? ⟨w.heap.size,2,none⟩=some (.string d.name):=T3x.b1.cell 2;have y_3:W3.cell? ⟨w.heap.size,3,none⟩=some (.int .i64 d.length):=T3x.b1.cell 3;have y_4:W3.cell? ⟨w.heap.size,4,none⟩=some (.int .i64 d.group):=T3x.b1.cell 4;have y_5:W3.cell? ⟨w.heap.size,5,none⟩=some (.int .i64 d.row):=T3x.b1.cell 5;have y_6:W3.cell? ⟨w.heap.size,6,none⟩=some (.slice bo6 d.rows.1 bcap6):=T3x.b1.cell 6;have y_7:W3.cell? ⟨w.heap.size,7,none⟩=some (.slice bo7 d.data.1 bcap7):=T3x.b1.cell 7;have y_8:W3.cell? ⟨w.heap.size,8,none⟩=some (.slice bo8 d.delta.1 bcap8):=T3x.b1.cell 8;have r_0:W3.cell? ⟨w.heap.size+1,0,none⟩=some (.int .i64 0):=T3x.b2.cell 0;have rf_0:W3.frozen? ⟨w.heap.size+1,0,none⟩=false:=T3x.b2.frozen 0;have r_1:W3.cell? ⟨w.heap.size+1,1,none⟩=some (.int .i64 0):=T3x.b2.cell 1;have rf_1:W3.frozen? ⟨w.heap.size+1,1,none⟩=false:=T3x.b2.frozen 1;have r_2:W3.cell? ⟨w.heap.size+1,2,none⟩=some (.string ByteArray.empty):=T3x.b2.cell 2;have rf_2:W3.frozen? ⟨w.heap.size+1,2,none⟩=false:=T3x.b2.frozen 2;have r_3:W3.cell? ⟨w.heap.size+1,3,none⟩=some (.int .i64 0):=T3x.b2.cell 3;have rf_3:W3.frozen? ⟨w.heap.size+1,3,none⟩=false:=T3x.b2.frozen 3;have r_4:W3.cell? ⟨w.heap.size+1,4,none⟩=some (.int .i64 0):=T3x.b2.cell 4;have rf_4:W3.frozen? ⟨w.heap.size+1,4,none⟩=false:=T3x.b2.frozen 4;have r_5:W3.cell? ⟨w.heap.size+1,5,none⟩=some (.int .i64 0):=T3x.b2.cell 5;have rf_5:W3.frozen? ⟨w.heap.size+1,5,none⟩=false:=T3x.b2.frozen 5;have r_6:W3.cell? ⟨w.heap.size+1,6,none⟩=some (.slice none 0 0):=T3x.b2.cell 6;have rf_6:W3.frozen? ⟨w.heap.size+1,6,none⟩=false:=T3x.b2.frozen 6;have r_7:W3.cell? ⟨w.heap.size+1,7,none⟩=some (.slice none 0 0):=T3x.b2.cell 7;have rf_7:W3.frozen? ⟨w.heap.size+1,7,none⟩=false:=T3x.b2.frozen 7;have r_8:W3.cell? ⟨w.heap.size+1,8,none⟩=some (.slice none 0 0):=T3x.b2.cell 8;have rf_8:W3.frozen? ⟨w.heap.size+1,8,none⟩=false:=T3x.b2.frozen 8;have HB:=hid T3x.bel;have zz:=T3x.b2.lt;clear T3x;go_wp2;refine bodyPost_ret (v:=.agg (rwR d bo6 bcap6 bo7 bcap7 bo8 bcap8).toArray) (by simp [results,Tryz.results178,go_sem,r_0,y_0,r_1,y_1,r_2,y_2,r_3,y_3,r_4,y_4,r_5,y_5,r_6,y_6,r_7,y_7,r_8,y_8]) rfl ?_;have F:OwnT zae W3 (w.heap.size+1+1) w3.heap.size d ([.int .i64 d.kind]++([.int .i64 d.seq]++([.string d.name]++([.int .i64 d.length]++([.int .i64 d.group]++([.int .i64 d.row]++([.slice bo6 d.rows.1 bcap6]++([.slice bo7 d.data.1 bcap7]++[.slice bo8 d.delta.1 bcap8])))))))):=OwnT.conv (OwnT.pre (A:=layI) (a:=d.kind) (c:=[.int .i64 d.kind]) ⟨rfl,Q0.out,rfl⟩ (OwnT.pre (A:=layI) (a:=d.seq) (c:=[.int .i64 d.seq]) ⟨rfl,Q1.out,rfl⟩ (OwnT.pre (A:=layS) (a:=d.name) (c:=[.string d.name]) ⟨rfl,Q2.out,rfl⟩ (OwnT.pre (A:=layI) (a:=d.length) (c:=[.int .i64 d.length]) ⟨rfl,Q3.out,rfl⟩ (OwnT.pre (A:=layI) (a:=d.group) (c:=[.int .i64 d.group]) ⟨rfl,Q4.out,rfl⟩ (OwnT.pre (A:=layI) (a:=d.row) (c:=[.int .i64 d.row]) ⟨rfl,Q5.out,rfl⟩ (OwnT.two O6.out (OwnT.two O7.out O8.out (by omega) (by omega) (by omega)) (by omega) (by omega) (by omega))))))))
 refine ⟨(rwR d bo6 bcap6 bo7 bcap7 bo8 bcap8),rfl,?_,?_⟩
 ·exact OwnT.finb (F.weaken (Nat.le_refl _) (by omega)) (b:=w.heap.size+1) (by omega) (by omega) 0 (rwR d bo6 bcap6 bo7 bcap7 bo8 bcap8) _ rfl
 ·exact HB.out.trans (zaS (by omega) (rwR d bo6 bcap6 bo7 bcap7 bo8 bcap8) 0)
set_option maxRecDepth 20000 in
theorem zio:ToF (zae.slice 43) (szSl zaY) 177 178:=fun v d hi w h hhi hn=>by
 obtain ⟨n,x⟩:=d;obtain ⟨ao,cap,hv,hm,hc⟩:=h
 cases hv
 have hn1:=zcv hn;have hn2:∀ i,i<n→zaY (x i)≤1048576:=fun i hi=>zbB hn hi
 simp only at hn1 hm hc
 clear hn
 go_enter Tryz.func177,Tryz.ntmps177
 go_wp2_with (at_make;refine zb9 zae [.int .i64 0,.int .i64 0,.string ByteArray.empty,.int .i64 0,.int .i64 0,.int .i64 0,.slice none 0 0,.slice none 0 0,.slice none 0 0] _ 43 128 (zkH).hs rfl Tryz.underlying101 (zkH).hi x (fun _=>[]) _ rfl _ _ rfl _ _ n rfl rfl rfl rfl (by omega) (by omega) ?_;intro w1 sp1 hb1)
 go_loopw [12] (fun i wr=>∃ k:Nat,k≤n∧i=.int .i64 k∧∃ ce Ls,SlP zae 43 wr w.heap.size w.heap.size n n k x ce Ls∧Below w.heap.size w wr) (fun i _=>n-(intOf i).toNat)
 case atStart=>exact ⟨0,Nat.zero_le _,rfl,_,_,sp1,hb1⟩
 case round=>
  clear sp1 hb1;obtain ⟨k,hk,rfl,ce,Ls,sp,hb⟩:=hrel
  by_cases hlt:k<n
  ·obtain ⟨b,off,rfl,hblt,hel⟩:=hc (by omega)
   obtain ⟨ck,hrk,hcell⟩:=zaB (t:=0) hel hb hhi hblt hlt;obtain ⟨ao6,cap6,ao7,cap7,ao8,cap8,rfl,-⟩:=za5 hrk;have c0:wr.cell? ⟨b,off+k*9,none⟩=some (.int .i64 (x k).kind):=hcell 0 (by decide);have c1:wr.cell? ⟨b,off+k*9+1,none⟩=some (.int .i64 (x k).seq):=hcell 1 (by decide);have c2:wr.cell? ⟨b,off+k*9+2,none⟩=some (.string (x k).name):=hcell 2 (by decide);have c3:wr.cell? ⟨b,off+k*9+3,none⟩=some (.int .i64 (x k).length):=hcell 3 (by decide);have c4:wr.cell? ⟨b,off+k*9+4,none⟩=some (.int .i64 (x k).group):=hcell 4 (by decide);have c5:wr.cell? ⟨b,off+k*9+5,none⟩=some (.int .i64 (x k).row):=hcell 5 (by decide);have c6:wr.cell? ⟨b,off+k*9+6,none⟩=some (.slice ao6 (x k).rows.1 cap6):=hcell 6 (by decide);have c7:wr.cell? ⟨b,off+k*9+7,none⟩=some (.slice ao7 (x k).data.1 cap7):=hcell 7 (by decide);have c8:wr.cell? ⟨b,off+k*9+8,none⟩=some (.slice ao8 (x k).delta.1 cap8):=hcell 8 (by decide);clear hc hel hcell
   go_wp2_with fail
   refine (zjI _ (x k) hi wr hrk (Nat.le_trans hhi hb.size) (hn2 k hlt)).mono ?_;rintro e w2 ⟨cs',rfl,o2,hb2⟩;obtain ⟨bao6,bcap6,bao7,bcap7,bao8,bcap8,rfl⟩:=ze2 o2;obtain ⟨z0,s0⟩:=sp.some hb2 hlt (show 0<zae.sz by decide);have s0:w2.cell? ⟨w.heap.size,k*9,none⟩=some z0:=s0;have sf0:=(sp.below hb2).frozen (k*9);obtain ⟨z1,s1⟩:=sp.some hb2 hlt (show 1<zae.sz by decide);have s1:w2.cell? ⟨w.heap.size,k*9+1,none⟩=some z1:=s1;have sf1:=(sp.below hb2).frozen (k*9+1);obtain ⟨z2,s2⟩:=sp.some hb2 hlt (show 2<zae.sz by decide);have s2:w2.cell? ⟨w.heap.size,k*9+2,none⟩=some z2:=s2;have sf2:=(sp.below hb2).frozen (k*9+2);obtain ⟨z3,s3⟩:=sp.some hb2 hlt (show 3<zae.sz by decide);have s3:w2.cell? ⟨w.heap.size,k*9+3,none⟩=some z3:=s3;have sf3:=(sp.below hb2).frozen (k*9+3);obtain ⟨z4,s4⟩:=sp.some hb2 hlt (show 4<zae.sz by decide);have s4:w2.cell? ⟨w.heap.size,k*9+4,none⟩=some z4:=s4;have sf4:=(sp.below hb2).frozen (k*9+4);obtain ⟨z5,s5⟩:=sp.some hb2 hlt (show 5<zae.sz by decide);have s5:w2.cell? ⟨w.heap.size,k*9+5,none⟩=some z5:=s5;have sf5:=(sp.below hb2).frozen (k*9+5);obtain ⟨z6,s6⟩:=sp.some hb2 hlt (show 6<zae.sz by decide);have s6:w2.cell? ⟨w.heap.size,k*9+6,none⟩=some z6:=s6;have sf6:=(sp.below hb2).frozen (k*9+6);obtain ⟨z7,s7⟩:=sp.some hb2 hlt (show 7<zae.sz by decide);have s7:w2.cell? ⟨w.heap.size,k*9+7,none⟩=some z7:=s7;have sf7:=(sp.below hb2).frozen (k*9+7);obtain ⟨z8,s8⟩:=sp.some hb2 hlt (show 8<zae.sz by decide);have s8:w2.cell? ⟨w.heap.size,k*9+8,none⟩=some z8:=s8;have sf8:=(sp.below hb2).frozen (k*9+8);have N:=sp.next hb2 hlt o2 hb.size;have N2:Below w.heap.size w (stN w2 w.heap.size (k*zae.sz) [.int .i64 (x k).kind,.int .i64 (x k).seq,.string (x k).name,.int .i64 (x k).length,.int .i64 (x k).group,.int .i64 (x k).row,.slice bao6 (x k).rows.1 bcap6,.slice bao7 (x k).data.1 bcap7,.slice bao8 (x k).delta.1 bcap8]):=(hb.trans (hb2.mono hb.size)).trans (zaS (Nat.le_refl _) _ _);clear o2 hb2 sp hb
   go_wp2_with fail
   go_roundw
   case rel=>
    obtain ⟨ce',Ls',N⟩:=N;exact ⟨k+1,by omega,by go_num,ce',Ls',N,N2⟩
   case measure=>simp [intOf];omega
  ·obtain rfl:k=n:=by omega
   go_wp2;go_ret;exact ⟨_,rfl,sp.done (Nat.le_refl _),hb⟩
set_option maxRecDepth 20000 in
theorem zip:ToV zan za0 153:=fun cs d hi w r hhi hn=>by
 obtain ⟨ao1,cap1,rfl,h1⟩:=zbq r;clear r;unfold za0 at hn;have R1:=hid h1;clear h1;have T0:=zaC w #[.bool d.wiped,.slice ao1 d.recs.1 cap1] #[.bool false,.slice none 0 0] 103 103
 go_enter Tryz.func153,Tryz.ntmps153
 go_wp2_with fail
 refine (zio _ d.recs hi _ ((zae.slice 43).rd_below R1.out T0.bel hhi) (Nat.le_trans hhi T0.bel.size) (by omega)).mono ?_;rintro e w1 ⟨v0,rfl,o0,b0⟩;obtain ⟨bo1,bcap1,hv⟩:=zbT o0;obtain rfl:=zaU hv;clear hv;have T0c:=T0.call b0;have z0:=T0.b2.lt;have y0:=b0.size;have c0_1:w1.cell? ⟨w.heap.size,1,none⟩=some (.slice ao1 d.recs.1 cap1):=T0c.b1.cell 1;have c0f_1:w1.frozen? ⟨w.heap.size,1,none⟩=false:=T0c.b1.frozen 1;have T1x:Two w (w1.setCell ⟨w.heap.size,1,none⟩ (.slice bo1 d.recs.1 bcap1)) #[.bool d.wiped,.slice bo1 d.recs.1 bcap1] #[.bool false,.slice none 0 0] 103 103:=⟨T0c.b1.stL [.slice bo1 d.recs.1 bcap1] 1,T0c.b2.seto _ _ (by omega),T0c.bel.setCell (Nat.le_refl _) _⟩;have O1_0:=(o0.stN w.heap.size 1 [.slice bo1 d.recs.1 bcap1] (by omega))
 have e1:(w1.setCell ⟨w.heap.size,1,none⟩ (.slice bo1 d.recs.1 bcap1)).heap.size=w1.heap.size:=by simp
 clear o0 b0
 go_upto_region 2 with fail
 obtain ⟨W1,hW1⟩:∃ x,x=w1.setCell ⟨w.heap.size,1,none⟩ (.slice bo1 d.recs.1 bcap1):=⟨_,rfl⟩
 have O1:Hid (OwnT (zae.slice 43) W1 (w.heap.size+1+1) (w1.heap.size) d.recs [.slice bo1 d.recs.1 bcap1]):=by rw [hW1];exact OwnT.weaken O1_0 (by simp) (Nat.le_refl _)
 rw [← hW1] at T1x e1 ⊢;clear hW1 O1_0 T0c c0_1 c0f_1;have y_0:W1.cell? ⟨w.heap.size,0,none⟩=some (.bool d.wiped):=T1x.b1.cell 0;have y_1:W1.cell? ⟨w.heap.size,1,none⟩=some (.slice bo1 d.recs.1 bcap1):=T1x.b1.cell 1;have r_0:W1.cell? ⟨w.heap.size+1,0,none⟩=some (.bool false):=T1x.b2.cell 0;have rf_0:W1.frozen? ⟨w.heap.size+1,0,none⟩=false:=T1x.b2.frozen 0;have r_1:W1.cell? ⟨w.heap.size+1,1,none⟩=some (.slice none 0 0):=T1x.b2.cell 1;have rf_1:W1.frozen? ⟨w.heap.size+1,1,none⟩=false:=T1x.b2.frozen 1;have HB:=hid T1x.bel;have zz:=T1x.b2.lt;clear T1x;go_wp2;refine bodyPost_ret (v:=.agg #[.bool d.wiped,.slice bo1 d.recs.1 bcap1]) (by simp [results,Tryz.results153,go_sem,r_0,y_0,r_1,y_1]) rfl ?_;have F:OwnT zan W1 (w.heap.size+1+1) w1.heap.size d ([.bool d.wiped]++[.slice bo1 d.recs.1 bcap1]):=OwnT.conv (OwnT.pre (A:=layB) (a:=d.wiped) (c:=[.bool d.wiped]) ⟨rfl,trivial,rfl⟩ O1.out);refine ⟨[.bool d.wiped,.slice bo1 d.recs.1 bcap1],rfl,?_,?_⟩
 ·exact OwnT.finb (F.weaken (Nat.le_refl _) (by omega)) (b:=w.heap.size+1) (by omega) (by omega) 0 [.bool d.wiped,.slice bo1 d.recs.1 bcap1] _ rfl
 ·exact HB.out.trans (zaS (by omega) [.bool d.wiped,.slice bo1 d.recs.1 bcap1] 0)
set_option maxRecDepth 20000 in
theorem zhn:ToF (zan.slice 103) (szSl za0) 152 153:=fun v d hi w h hhi hn=>by
 obtain ⟨n,x⟩:=d;obtain ⟨ao,cap,hv,hm,hc⟩:=h
 cases hv
 have hn1:=zcv hn;have hn2:∀ i,i<n→za0 (x i)≤1048576:=fun i hi=>zbB hn hi
 simp only at hn1 hm hc
 clear hn
 go_enter Tryz.func152,Tryz.ntmps152
 go_wp2_with (at_make;refine zb9 zan [.bool false,.slice none 0 0] _ 103 32 (zid).hs rfl Tryz.underlying36 (zid).hi x (fun _=>[]) _ rfl _ _ rfl _ _ n rfl rfl rfl rfl (by omega) (by omega) ?_;intro w1 sp1 hb1)
 go_loopw [12] (fun i wr=>∃ k:Nat,k≤n∧i=.int .i64 k∧∃ ce Ls,SlP zan 103 wr w.heap.size w.heap.size n n k x ce Ls∧Below w.heap.size w wr) (fun i _=>n-(intOf i).toNat)
 case atStart=>exact ⟨0,Nat.zero_le _,rfl,_,_,sp1,hb1⟩
 case round=>
  clear sp1 hb1;obtain ⟨k,hk,rfl,ce,Ls,sp,hb⟩:=hrel
  by_cases hlt:k<n
  ·obtain ⟨b,off,rfl,hblt,hel⟩:=hc (by omega)
   obtain ⟨ck,hrk,hcell⟩:=zaB (t:=0) hel hb hhi hblt hlt;obtain ⟨ao1,cap1,rfl,-⟩:=zbq hrk;have c0:wr.cell? ⟨b,off+k*2,none⟩=some (.bool (x k).wiped):=hcell 0 (by decide);have c1:wr.cell? ⟨b,off+k*2+1,none⟩=some (.slice ao1 (x k).recs.1 cap1):=hcell 1 (by decide);clear hc hel hcell
   go_wp2_with fail
   refine (zip _ (x k) hi wr hrk (Nat.le_trans hhi hb.size) (hn2 k hlt)).mono ?_;rintro e w2 ⟨cs',rfl,o2,hb2⟩;obtain ⟨bao1,bcap1,rfl⟩:=zfH o2;obtain ⟨z0,s0⟩:=sp.some hb2 hlt (show 0<zan.sz by decide);have s0:w2.cell? ⟨w.heap.size,k*2,none⟩=some z0:=s0;have sf0:=(sp.below hb2).frozen (k*2);obtain ⟨z1,s1⟩:=sp.some hb2 hlt (show 1<zan.sz by decide);have s1:w2.cell? ⟨w.heap.size,k*2+1,none⟩=some z1:=s1;have sf1:=(sp.below hb2).frozen (k*2+1);have N:=sp.next hb2 hlt o2 hb.size;have N2:Below w.heap.size w (stN w2 w.heap.size (k*zan.sz) [.bool (x k).wiped,.slice bao1 (x k).recs.1 bcap1]):=(hb.trans (hb2.mono hb.size)).trans (zaS (Nat.le_refl _) _ _);clear o2 hb2 sp hb
   go_wp2_with fail
   go_roundw
   case rel=>
    obtain ⟨ce',Ls',N⟩:=N;exact ⟨k+1,by omega,by go_num,ce',Ls',N,N2⟩
   case measure=>simp [intOf];omega
  ·obtain rfl:k=n:=by omega
   go_wp2;go_ret;exact ⟨_,rfl,sp.done (Nat.le_refl _),hb⟩
set_option maxRecDepth 20000 in
theorem zho:ToV zab zaW 117:=fun cs d hi w r hhi hn=>by
 obtain ⟨ao1,cap1,ao2,cap2,ao3,cap3,rfl,h1,h2,h3,k0,k4,k5⟩:=zaK r;clear r;unfold zaW at hn;have R1:=hid h1;have R2:=hid h2;have R3:=hid h3;clear h1 h2 h3;have Q0:=hid k0;have Q4:=hid k4;have Q5:=hid k5;clear k0 k4 k5;have T0:=zaC w (rwW d ao1 cap1 ao2 cap2 ao3 cap3).toArray (rwV 0 0 0 0 0 0 0 0 0 none 0 0 none 0 0 none 0 0 0 0 false).toArray 38 38
 go_enter Tryz.func117,Tryz.ntmps117
 go_wp2_with fail
 refine (zfx _ d.groups hi _ (((zaa.slice 97).slice 94).rd_below R1.out T0.bel hhi) (Nat.le_trans hhi T0.bel.size) (by omega)).mono ?_;rintro e w1 ⟨v0,rfl,o0,b0⟩;obtain ⟨bo1,bcap1,hv⟩:=zbT o0;obtain rfl:=zaU hv;clear hv;have T0c:=T0.call b0;have z0:=T0.b2.lt;have y0:=b0.size;have c0_9:w1.cell? ⟨w.heap.size,9,none⟩=some (.slice ao1 d.groups.1 cap1):=T0c.b1.cell 9;have c0f_9:w1.frozen? ⟨w.heap.size,9,none⟩=false:=T0c.b1.frozen 9;have T1x:Two w (w1.setCell ⟨w.heap.size,9,none⟩ (.slice bo1 d.groups.1 bcap1)) (rwW d bo1 bcap1 ao2 cap2 ao3 cap3).toArray (rwV 0 0 0 0 0 0 0 0 0 none 0 0 none 0 0 none 0 0 0 0 false).toArray 38 38:=⟨T0c.b1.stL [.slice bo1 d.groups.1 bcap1] 9,T0c.b2.seto _ _ (by omega),T0c.bel.setCell (Nat.le_refl _) _⟩;have O1_0:=(o0.stN w.heap.size 9 [.slice bo1 d.groups.1 bcap1] (by omega))
 have e1:(w1.setCell ⟨w.heap.size,9,none⟩ (.slice bo1 d.groups.1 bcap1)).heap.size=w1.heap.size:=by simp
 clear o0 b0
 go_upto_region 2 with fail
 obtain ⟨W1,hW1⟩:∃ x,x=w1.setCell ⟨w.heap.size,9,none⟩ (.slice bo1 d.groups.1 bcap1):=⟨_,rfl⟩
 have O1:Hid (OwnT ((zaa.slice 97).slice 94) W1 (w.heap.size+1+1) (w1.heap.size) d.groups [.slice bo1 d.groups.1 bcap1]):=by rw [hW1];exact OwnT.weaken O1_0 (by simp) (Nat.le_refl _)
 rw [← hW1] at T1x e1 ⊢;clear hW1 O1_0 T0c c0_9 c0f_9;have a1_10:W1.cell? ⟨w.heap.size,10,none⟩=some (.slice ao2 d.on.1 cap2):=T1x.b1.cell 10
 go_wp2_with fail
 refine (zfj _ d.on hi _ (zal.rd_below R2.out T1x.bel hhi) (Nat.le_trans hhi T1x.bel.size) (by omega)).mono ?_;rintro e w2 ⟨v1,rfl,o1,b1⟩;obtain ⟨bo2,bcap2,hv⟩:=zcp o1;obtain rfl:=zaU hv;clear hv;have T1c:=T1x.call b1;have z1:=T1x.b2.lt;have y1:=b1.size;have c1_10:w2.cell? ⟨w.heap.size,10,none⟩=some (.slice ao2 d.on.1 cap2):=T1c.b1.cell 10;have c1f_10:w2.frozen? ⟨w.heap.size,10,none⟩=false:=T1c.b1.frozen 10;have T2x:Two w (w2.setCell ⟨w.heap.size,10,none⟩ (.slice bo2 d.on.1 bcap2)) (rwW d bo1 bcap1 bo2 bcap2 ao3 cap3).toArray (rwV 0 0 0 0 0 0 0 0 0 none 0 0 none 0 0 none 0 0 0 0 false).toArray 38 38:=⟨T1c.b1.stL [.slice bo2 d.on.1 bcap2] 10,T1c.b2.seto _ _ (by omega),T1c.bel.setCell (Nat.le_refl _) _⟩;have O1_1:=(O1.out.call b1).stN w.heap.size 10 [.slice bo2 d.on.1 bcap2] (by omega);have O2_1:=(o1.stN w.heap.size 10 [.slice bo2 d.on.1 bcap2] (by omega))
 have e2:(w2.setCell ⟨w.heap.size,10,none⟩ (.slice bo2 d.on.1 bcap2)).heap.size=w2.heap.size:=by simp
 clear o1 b1 O1 T1x a1_10
 go_upto_region 3 with fail
 obtain ⟨W2,hW2⟩:∃ x,x=w2.setCell ⟨w.heap.size,10,none⟩ (.slice bo2 d.on.1 bcap2):=⟨_,rfl⟩
 have O1:Hid (OwnT ((zaa.slice 97).slice 94) W2 (w.heap.size+1+1) (w1.heap.size) d.groups [.slice bo1 d.groups.1 bcap1]):=by rw [hW2];exact O1_1
 have O2:Hid (OwnT zal W2 (W1.heap.size) (w2.heap.size) d.on [.slice bo2 d.on.1 bcap2]):=by rw [hW2];exact O2_1
 rw [← hW2] at T2x e2 ⊢;clear hW2 O1_1 O2_1 T1c c1_10 c1f_10;have a2_11:W2.cell? ⟨w.heap.size,11,none⟩=some (.slice ao3 d.tapes.1 cap3):=T2x.b1.cell 11
 go_wp2_with fail
 refine (zhn _ d.tapes hi _ ((zan.slice 103).rd_below R3.out T2x.bel hhi) (Nat.le_trans hhi T2x.bel.size) (by omega)).mono ?_;rintro e w3 ⟨v2,rfl,o2,b2⟩;obtain ⟨bo3,bcap3,hv⟩:=zbT o2;obtain rfl:=zaU hv;clear hv;have T2c:=T2x.call b2;have z2:=T2x.b2.lt;have y2:=b2.size;have c2_11:w3.cell? ⟨w.heap.size,11,none⟩=some (.slice ao3 d.tapes.1 cap3):=T2c.b1.cell 11;have c2f_11:w3.frozen? ⟨w.heap.size,11,none⟩=false:=T2c.b1.frozen 11;have T3x:Two w (w3.setCell ⟨w.heap.size,11,none⟩ (.slice bo3 d.tapes.1 bcap3)) (rwW d bo1 bcap1 bo2 bcap2 bo3 bcap3).toArray (rwV 0 0 0 0 0 0 0 0 0 none 0 0 none 0 0 none 0 0 0 0 false).toArray 38 38:=⟨T2c.b1.stL [.slice bo3 d.tapes.1 bcap3] 11,T2c.b2.seto _ _ (by omega),T2c.bel.setCell (Nat.le_refl _) _⟩;have O1_2:=(O1.out.call b2).stN w.heap.size 11 [.slice bo3 d.tapes.1 bcap3] (by omega);have O2_2:=(O2.out.call b2).stN w.heap.size 11 [.slice bo3 d.tapes.1 bcap3] (by omega);have O3_2:=(o2.stN w.heap.size 11 [.slice bo3 d.tapes.1 bcap3] (by omega))
 have e3:(w3.setCell ⟨w.heap.size,11,none⟩ (.slice bo3 d.tapes.1 bcap3)).heap.size=w3.heap.size:=by simp
 clear o2 b2 O1 O2 T2x a2_11
 go_upto_region 4 with fail
 obtain ⟨W3,hW3⟩:∃ x,x=w3.setCell ⟨w.heap.size,11,none⟩ (.slice bo3 d.tapes.1 bcap3):=⟨_,rfl⟩
 have O1:Hid (OwnT ((zaa.slice 97).slice 94) W3 (w.heap.size+1+1) (w1.heap.size) d.groups [.slice bo1 d.groups.1 bcap1]):=by rw [hW3];exact O1_2
 have O2:Hid (OwnT zal W3 (W1.heap.size) (w2.heap.size) d.on [.slice bo2 d.on.1 bcap2]):=by rw [hW3];exact O2_2
 have O3:Hid (OwnT (zan.slice 103) W3 (W2.heap.size) (w3.heap.size) d.tapes [.slice bo3 d.tapes.1 bcap3]):=by rw [hW3];exact O3_2
 rw [← hW3] at T3x e3 ⊢;clear hW3 O1_2 O2_2 O3_2 T2c c2_11 c2f_11;have y_0:W3.cell? ⟨w.heap.size,0,none⟩=some (.int .i64 (d.shape 0)):=T3x.b1.cell 0;have y_1:W3.cell? ⟨w.heap.size,1,none⟩=some (.int .i64 (d.shape 1)):=T3x.b1.cell 1;have y_2:W3.cell? ⟨w.heap.size,2,none⟩=some (.int .i64 (d.shape 2)):=T3x.b1.cell 2;have y_3:W3.cell? ⟨w.heap.size,3,none⟩=some (.int .i64 (d.shape 3)):=T3x.b1.cell 3;have y_4:W3.cell? ⟨w.heap.size,4,none⟩=some (.int .i64 (d.shape 4)):=T3x.b1.cell 4;have y_5:W3.cell? ⟨w.heap.size,5,none⟩=some (.int .i64 (d.shape 5)):=T3x.b1.cell 5;have y_6:W3.cell? ⟨w.heap.size,6,none⟩=some (.int .i64 (d.shape 6)):=T3x.b1.cell 6;have y_7:W3.cell? ⟨w.heap.size,7,none⟩=some (.int .i64 (d.shape 7)):=T3x.b1.cell 7;have y_8:W3.cell? ⟨w.heap.size,8,none⟩=some (.int .i64 (d.shape 8)):=T3x.b1.cell 8;have y_9:W3.cell? ⟨w.heap.size,9,none⟩=some (.slice bo1 d.groups.1 bcap1):=T3x.b1.cell 9;have y_10:W3.cell? ⟨w.heap.size,10,none⟩=some (.slice bo2 d.on.1 bcap2):=T3x.b1.cell 10;have y_11:W3.cell? ⟨w.heap.size,11,none⟩=some (.slice bo3 d.tapes.1 bcap3):=T3x.b1.cell 11;have y_12:W3.cell? ⟨w.heap.size,12,none⟩=some (.int .i64 d.writes):=T3x.b1.cell 12;have y_13:W3.cell? ⟨w.heap.size,13,none⟩=some (.int .i64 d.stop):=T3x.b1.cell 13;have y_14:W3.cell? ⟨w.heap.size,14,none⟩=some (.bool d.down):=T3x.b1.cell 14;have r_0:W3.cell? ⟨w.heap.size+1,0,none⟩=some (.int .i64 0):=T3x.b2.cell 0;have rf_0:W3.frozen? ⟨w.heap.size+1,0,none⟩=false:=T3x.b2.frozen 0;have r_1:W3.cell? ⟨w.heap.size+1,1,none⟩=some (.int .i64 0):=T3x.b2.cell 1;have rf_1:W3.frozen? ⟨w.heap.size+1,1,none⟩=false:=T3x.b2.frozen 1;have r_2:W3.cell? ⟨w.heap.size+1,2,none⟩=some (.int .i64 0):=T3x.b2.cell 2;have rf_2:W3.frozen? ⟨w.heap.size+1,2,none⟩=false:=T3x.b2.frozen 2;have r_3:W3.cell? ⟨w.heap.size+1,3,none⟩=some (.int .i64 0):=T3x.b2.cell 3;have rf_3:W3.frozen? ⟨w.heap.size+1,3,none⟩=false:=T3x.b2.frozen 3;have r_4:W3.cell? ⟨w.heap.size+1,4,none⟩=some (.int .i64 0):=T3x.b2.cell 4;have rf_4:W3.frozen? ⟨w.heap.size+1,4,none⟩=false:=T3x.b2.frozen 4;have r_5:W3.cell? ⟨w.heap.size+1,5,none⟩=some (.int .i64 0):=T3x.b2.cell 5;have rf_5:W3.frozen? ⟨w.heap.size+1,5,none⟩=false:=T3x.b2.frozen 5;have r_6:W3.cell? ⟨w.heap.size+1,6,none⟩=some (.int .i64 0):=T3x.b2.cell 6;have rf_6:W3.frozen? ⟨w.heap.size+1,6,none⟩=false:=T3x.b2.frozen 6;have r_7:W3.cell? ⟨w.heap.size+1,7,none⟩=some (.int .i64 0):=T3x.b2.cell 7;have rf_7:W3.frozen? ⟨w.heap.size+1,7,none⟩=false:=T3x.b2.frozen 7;have r_8:W3.cell? ⟨w.heap.size+1,8,none⟩=some (.int .i64 0):=T3x.b2.cell 8;have rf_8:W3.frozen? ⟨w.heap.size+1,8,none⟩=false:=T3x.b2.frozen 8;have r_9:W3.cell? ⟨w.heap.size+1,9,none⟩=some (.slice none 0 0):=T3x.b2.cell 9;have rf_9:W3.frozen? ⟨w.heap.size+1,9,none⟩=false:=T3x.b2.frozen 9
 have r_10:W3.cell? ⟨w.heap.size+1,10,none⟩=some (.slice none 0 0):=T3x.b2.cell 10;have rf_10:W3.frozen? ⟨w.heap.size+1,10,none⟩=false:=T3x.b2.frozen 10;have r_11:W3.cell? ⟨w.heap.size+1,11,none⟩=some (.slice none 0 0):=T3x.b2.cell 11;have rf_11:W3.frozen? ⟨w.heap.size+1,11,none⟩=false:=T3x.b2.frozen 11;have r_12:W3.cell? ⟨w.heap.size+1,12,none⟩=some (.int .i64 0):=T3x.b2.cell 12;have rf_12:W3.frozen? ⟨w.heap.size+1,12,none⟩=false:=T3x.b2.frozen 12;have r_13:W3.cell? ⟨w.heap.size+1,13,none⟩=some (.int .i64 0):=T3x.b2.cell 13;have rf_13:W3.frozen? ⟨w.heap.size+1,13,none⟩=false:=T3x.b2.frozen 13;have r_14:W3.cell? ⟨w.heap.size+1,14,none⟩=some (.bool false):=T3x.b2.cell 14;have rf_14:W3.frozen? ⟨w.heap.size+1,14,none⟩=false:=T3x.b2.frozen 14;have HB:=hid T3x.bel;have zz:=T3x.b2.lt;clear T3x;go_wp2;refine bodyPost_ret (v:=.agg (rwW d bo1 bcap1 bo2 bcap2 bo3 bcap3).toArray) (by simp [results,Tryz.results117,go_sem,r_0,y_0,r_1,y_1,r_2,y_2,r_3,y_3,r_4,y_4,r_5,y_5,r_6,y_6,r_7,y_7,r_8,y_8,r_9,y_9,r_10,y_10,r_11,y_11,r_12,y_12,r_13,y_13,r_14,y_14]) rfl ?_;have F:OwnT zab W3 (w.heap.size+1+1) w3.heap.size d ((rwS d.shape)++([.slice bo1 d.groups.1 bcap1]++([.slice bo2 d.on.1 bcap2]++([.slice bo3 d.tapes.1 bcap3]++([.int .i64 d.writes]++([.int .i64 d.stop]++[.bool d.down])))))):=OwnT.conv (OwnT.pre (A:=(zel 9)) (a:=d.shape) (c:=(rwS d.shape)) ⟨rfl,Q0.out,rfl⟩ (OwnT.two O1.out (OwnT.two O2.out (OwnT.two O3.out (OwnT.pre (A:=layI) (a:=d.writes) (c:=[.int .i64 d.writes]) ⟨rfl,Q4.out,rfl⟩ (OwnT.pre (A:=layI) (a:=d.stop) (c:=[.int .i64 d.stop]) ⟨rfl,Q5.out,rfl⟩ (OwnT.nil (A:=layB) (a:=d.down) (c:=[.bool d.down]) ⟨rfl,trivial,rfl⟩ _ _))) (Nat.le_refl _) (by omega) (by omega)) (by omega) (by omega) (by omega)) (by omega) (by omega) (by omega)));refine ⟨(rwW d bo1 bcap1 bo2 bcap2 bo3 bcap3),rfl,?_,?_⟩
 ·exact OwnT.finb (F.weaken (Nat.le_refl _) (by omega)) (b:=w.heap.size+1) (by omega) (by omega) 0 (rwW d bo1 bcap1 bo2 bcap2 bo3 bcap3) _ rfl
 ·exact HB.out.trans (zaS (by omega) (rwW d bo1 bcap1 bo2 bcap2 bo3 bcap3) 0)
end Go.Proofs.YtlpbohnadenacaaGreat
