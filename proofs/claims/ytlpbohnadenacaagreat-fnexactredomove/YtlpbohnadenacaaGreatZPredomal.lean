/- Walk of the specification's l2Encode: the blocks of a row. -/
import Derived.BigRegion
import Derived.Deep.MidRow
import Derived.Test.YtlpbohnadenacaaGreatZPredomaj
set_option linter.unusedVariables false
set_option linter.unusedSimpArgs false
set_option maxHeartbeats 16000000
namespace Go.Proofs.YtlpbohnadenacaaGreat
open Go.RowKit F256
def cutN (b:Nat→Nat):Mat:=fun i j=>b (4*i+j)
def encN (d:Nat) (b:Nat→Nat):Mat:=fun i j=>if i<d then cutN b i j else mixN (cutN b) (genN d i 0) d j
theorem zfS {f g:Mat} {c:Nat→Nat}:∀ {k:Nat} {j:Nat},(∀ i,i<k→f i j=g i j)→mixN f c k j=mixN g c k j
 | 0,_,_=>rfl
 | k+1,j,h=>by rw [mixN,mixN,zfS (fun i hi=>h i (by omega)),h k (by omega)]
theorem zdC {d:Nat} {b:Nat→Nat} (kb:∀ i,b i<256):Byt (encN d b):=fun i j=>by
 unfold encN
 split
 ·exact kb _
 ·exact ze6 _ _ (zep d i 0) _ _
theorem zlg (k:Nat) (e:Nat→Value) (x:Value):zaT k e++[x]=zaT (k+1) (fun i=>if i=k then x else e i):=by
 rw [← zdM]
 simp only [if_pos]
 rw [zdb (e:=e) (g:=fun i=>if i=k then x else e i) (fun i hi=>by simp [show ¬ i=k by omega])]
theorem zjK {d:Nat} {b:Nat→Nat} {k j:Nat} (hk:d≤k):mixN (encN d b) (genN d k 0) d j=encN d b k j:=by
 have h1:¬ k<d:=by omega
 rw [zfS (g:=cutN b) (fun i hi=>by simp [encN,hi])]
 simp [encN,h1]
theorem zjL {w:World} {lo hi:Nat} {v:Value} {n:Nat} {f:Nat→Nat} (h:Own w lo hi v n f):v.oneCell'=true:=by
 obtain ⟨ao,cap,rfl⟩:=h.slice;rfl
theorem zdq (d s:Nat) (hd1:1≤d) (hd:d≤3) (hs:s≤2) (vb:Value) (b:Nat→Nat) (h1:Nat) (w:World) (rb:Rd w h1 vb (4*d) b) (hcap:∀ ao cap,vb=.slice ao (4*d) cap→4*d≤cap) (hh:h1≤w.heap.size) (kb:∀ i,b i<256) :
 Calls Tryz.prog 62 #[.int .i64 d,.int .i64 s,vb] w fun e w'=>∃ v',e=.returned v'∧OwnM w' w.heap.size w'.heap.size v' (d+s) (fun _=>4) (encN d b)∧Below w.heap.size w w':=by
 obtain ⟨aob,capb,rfl,hmb,hcb⟩:=rb;obtain ⟨bb,off,rfl,hbb,hcell⟩:=hcb (by omega);have hcp:=hcap _ _ rfl;clear hcap;have HCB:=hid hcell
 have hbw:bb<w.heap.size:=by omega
 clear hcb hcell
 go_enter Tryz.func62,Tryz.ntmps62
 go_wp2
 have hstart:Bld w (w.alloc (.cells #[] 29)) w.heap.size (.slice (some ⟨w.heap.size,0,none⟩) 0 0) 0 (fun _=>4) (encN d b) (fun _=>nilS):=by
  have hl:=World.ownsRow_lit (base:=w.heap.size) (e:=29) (size:=1) w #[] 0 (Nat.le_refl _) (Nat.zero_le _) rfl;exact ⟨hl,by simp,fun i hi=>by omega,fun i j hi=>by omega,(Below.refl _ _).alloc (Nat.le_refl _) _,by simp⟩
 go_loopw [7,8] (fun v i wr=>∃ m:Nat,m≤d∧i=.int .i64 m∧∃ e,Bld w wr w.heap.size v m (fun _=>4) (encN d b) e) (fun _ i _=>d-(intOf i).toNat)
 case atStart=>exact ⟨0,Nat.zero_le _,rfl,_,hstart⟩
 case round=>
  clear hstart;obtain ⟨m,hm1,rfl,e,hB⟩:=hrel;have hbelw:Below w.heap.size w wr:=hB.bel
  by_cases hlt:m<d
  ·obtain ⟨A,hA⟩:∃ A,A=4*m:=⟨_,rfl⟩
   have rA:Rd wr w.heap.size (.slice (some ⟨bb,off+A,none⟩) 4 (capb-A)) 4 (encN d b m):=⟨_,_,rfl,by unfold maxLen;omega,fun _=>⟨bb,off+A,rfl,hbw,fun i hi=>by
    have:=HCB.out (4*m+i) (by omega)
    have e1:off+(4*m+i)=off+A+i:=by omega
    rw [e1] at this;rw [(hbelw.cell (p:=⟨bb,off+A+i,none⟩) hbw).trans this]
    simp [encN,hlt,cutN]⟩⟩
   have HRA:=hid rA;have HBB:=hid hB;have hszr:=hB.le
   have a1:IntKind.i64.wrap ((m:Int)*4)=(A:Int):=by rw [IntKind.wrap_i64];omega
   have a2:IntKind.i64.wrap ((m:Int)+1)=(m:Int)+1:=by rw [IntKind.wrap_i64];omega
   have a3:IntKind.i64.wrap (((m:Int)+1)*4)=(A:Int)+4:=by rw [IntKind.wrap_i64];omega
   have a4:(m:Int)*4=(A:Int):=by omega
   have a5:((m:Int)+1)*4=(A:Int)+4:=by omega
   clear hA rA hB
   have a6:(A:Int)+4≤(capb:Int):=by omega
   go_wp2_with (first | (at_builtin;refine zjl rfl (.tmp 18) (.tmp 25) rfl wr.heap.size (wr.heap.size+1) (.slice (some ⟨wr.heap.size,0,none⟩) 0 0) 0 (encN d b m) ?_ ?_ w.heap.size (.slice (some ⟨bb,off+A,none⟩) 4 (capb-A)) 4 (encN d b m) ?_ ?_ (by omega) (fun i _=>by rw [Nat.zero_add]) (by omega) ?_ ?_;(simp [Act.eval]);exact (zf3 wr _).weaken (Nat.le_refl _) (by simp);(simp [Act.eval]);exact HRA.out.below ((Below.refl w.heap.size wr).alloc hszr _) (Nat.le_refl _);simp;intro v2 w2 ho2 hg2;obtain ⟨ao2,cap2,rfl⟩:=ho2.slice;have hb2:Below wr.heap.size wr w2:=((Below.refl wr.heap.size wr).alloc (Nat.le_refl _) _).grown hg2 (by simp) (fun k hk=>by simp [Value.ownBlock] at hk;omega)) | (at_builtin;refine zfI rfl (.tmp 17) (.tmp 27) rfl w.heap.size u7 m e ?_ ?_ w2.heap.size 1 (.slice ao2 (0+4) cap2) ?_ ?_ rfl (by omega) ?_ ?_;(simp [Act.eval]);exact (zcN HBB.out.row fun b hb'=>hb2.block b (HBB.out.row.lt b hb').2).alloc _;(simp [Act.eval]);simp;(simp;have:=hb2.size;omega);intro v4 w4 hr4 hg4 hn4))
   have NX:=HBB.out.next hb2 ho2 hr4 hg4 hn4;clear hb2 ho2 hr4 hg4 hn4 HBB HRA
   go_roundw
   case rel=>exact ⟨m+1,by omega,by go_num,_,NX⟩
   case measure=>simp [intOf];omega
  ·obtain rfl:m=d:=by omega
   obtain ⟨wA,hwA⟩:∃ wA,wA=wr:=⟨_,rfl⟩;rw [← hwA] at hB hbelw ⊢;clear hwA;have hsA:=hB.le;obtain ⟨gP,cP,eP,hE⟩:=hB.done;have hv:=hE.val;subst hv;have HP:=hid hE;have HBA:=hid hbelw;have hgP:=hE.high;clear hE hB hbelw
   go_wp2_with (at_builtin;refine zf8 rfl (.tmp 29) (.tmp 30) rfl wA.heap.size (.slice (some ⟨wA.heap.size,0,none⟩) 0 0) 0 eP ?_ ?_ gP 0 m cP ?_ ?_ ?_ (by omega) ?_ ?_;(simp [Act.eval]);exact World.ownsRow_lit (base:=wA.heap.size) (e:=29) (size:=1) wA #[] 0 (Nat.le_refl _) (Nat.zero_le _) rfl;(simp [Act.eval]);(intro i hi;simp only [Nat.zero_add];exact (zb8 wA _ gP i hgP).trans (HP.out.cell i hi));(intro i hi;simp only [Nat.zero_add];exact zjL (HP.out.each i hi));simp;intro v5 w5 hr5 hg5 hn5)
   simp only [Nat.zero_add] at hr5
   have B5:Below wA.heap.size wA w5:=((Below.refl wA.heap.size wA).alloc (Nat.le_refl _) _).grown hg5 (by simp) (fun k hk=>by simp [Value.ownBlock] at hk;omega);have s5:=B5.size
   have hnn5:v5≠nilS:=fun h=>by have:=(hn5.mp h).1;cases this
   have R0:BldR w5 w.heap.size w5.heap.size v5 m (fun _=>4) (encN m b) eP:=⟨zdy hr5 hsA,hnn5,fun b hb=>(hr5.lt b hb).2,fun i hi=>((HP.out.each i hi).below B5 (Nat.le_refl _)).mono s5,HP.out.apart.2,by omega,Nat.le_refl _⟩;clear hg5 hn5 hnn5
   go_loopw [9,10] (fun v j wr=>∃ k:Nat,k≤s∧j=.int .i64 k∧∃ e,BldR wr w.heap.size wr.heap.size v (m+k) (fun _=>4) (encN m b) e∧wr.ownsRow wA.heap.size 29 1 v (m+k) (zaT (m+k) e)∧Below wA.heap.size wA wr) (fun _ j _=>s-(intOf j).toNat)
   case atStart=>exact ⟨0,Nat.zero_le _,rfl,eP,R0,hr5,B5⟩
   case round=>
    clear R0 hr5 B5;obtain ⟨k,hk,rfl,e2,hB,hrow,hbA⟩:=hrel;have szr:=hbA.size
    by_cases hlt2:k<s
    ·have D:=zkf m (m+k) 0 (by omega) (by omega) wr
     have eRp:((m+k:Nat):Int)=(m:Int)+(k:Int):=by simp
     have e0:((0:Nat):Int)=0:=rfl;rw [eRp,e0] at D;have HB:=hid hB;have HROW:=hid hrow;have HBW:=hid hbA;have HF:Hid (∀ j,j<4→mixN (encN m b) (genN m (m+k) 0) m j=encN m b (m+k) j):=fun j _=>zjK (by omega);clear hB hrow hbA eRp e0
     go_wp2_with (first | (go_at_call 102;refine D.mono ?_;rintro ee w6 ⟨v6,rfl,o6,b6⟩;obtain ⟨ao6,cap6,rfl⟩:=o6.slice) | (go_at_call 101;refine (zke _ _ m 4 (fun _=>4) (encN m b) (genN m (m+k) 0) wA.heap.size w6.heap.size w6 ((HP.out.rd.below HBW.out (Nat.le_refl _)).below (b6.mono szr) (Nat.le_refl _)) o6.rd (Nat.le_trans szr b6.size) (Nat.le_refl _) (by omega) (fun _ _=>rfl) (by omega) (zdC kb) (zep m (m+k) 0)).mono ?_;rintro ee w7 ⟨v7,rfl,o7,b7⟩;obtain ⟨ao7,cap7,rfl⟩:=o7.slice;have hb7:Below wr.heap.size wr w7:=b6.trans (b7.mono b6.size)) | (at_builtin;refine zfI rfl (.tmp 37) (.tmp 45) rfl wA.heap.size u9 (m+k) e2 ?_ ?_ w7.heap.size 1 (.slice ao7 4 cap7) ?_ ?_ rfl (by omega) ?_ ?_;(simp [Act.eval]);exact (zcN HROW.out fun b hb'=>hb7.block b (HROW.out.lt b hb').2).alloc _;(simp [Act.eval]);simp;(simp;have:=hb7.size;omega);intro v4 w4 hr4 hg4 hn4))
     have s6:=b6.size;have s7:=hb7.size;have NX:=(HB.out.kept (w2:=w7) (fun b _ h2=>hb7.block b h2) s7).next (n':=fun _=>4) (f':=encN m b) (o7.congr HF.out) s6 (fun _ _=>rfl) (fun _ _=>rfl) (zdy hr4 hsA) hg4 hn4;rw [zlg] at hr4;have B4:Below wA.heap.size wA w4:=(HBW.out.trans (hb7.mono szr)).trans (((Below.refl wA.heap.size w7).alloc (by omega) _).grown hg4 (by simp;omega) (fun q hq=>(HROW.out.lt q hq).1));clear b6 b7 hb7 o6 o7 hg4 hn4 HB HROW HBW D;go_wp2
     go_roundw
     case rel=>exact ⟨k+1,by omega,by go_num,_,NX,hr4,B4⟩
     case measure=>simp [intOf];omega
    ·obtain rfl:k=s:=by omega
     obtain ⟨g9,c9,hE9⟩:=hB.done;have hB9:Below w.heap.size w wr:=HBA.out.trans (hbA.mono hsA);clear hB hrow hbA;go_wp2;go_ret;exact ⟨_,rfl,⟨_,_,_,hE9⟩,hB9⟩
def zef (f:Mat):Nat→Nat:=fun t=>f (t/4) (t%4)
theorem zlh (f:Mat) (k i:Nat) (hi:i<4):zef f (4*k+i)=f k i:=by
 unfold zef;rw [show (4*k+i)/4=k by omega,show (4*k+i)%4=i by omega]
def zjM (h i:Nat):Value:=.slice (some ⟨h,4*i,none⟩) 4 4
structure FlatE (w:World) (lo hi:Nat) (v:Value) (R:Nat) (f:Mat) (g cap h C:Nat):Prop where
 val:v=.slice (some ⟨g,0,none⟩) R cap
 low:lo≤g
 high:g<hi
 row:w.ownsRow lo 29 1 v R (zaT R (zjM h))
 flat:Own w h (h+1) (.slice (some ⟨h,0,none⟩) (4*R) C) (4*R) (zef f)
 hlow:lo≤h
 hhigh:h<hi
 ne:h≠g
theorem FlatE.blocks {w:World} {lo hi:Nat} {v:Value} {R:Nat} {f:Mat} {g cap h C:Nat} (H:FlatE w lo hi v R f g cap h C):g<w.heap.size∧h<w.heap.size:=by
 refine ⟨?_,(H.flat.1.lt h rfl).2⟩;have h1:=H.row;rw [H.val] at h1;exact (h1.lt g rfl).2
theorem FlatE.kept {w w':World} {lo hi:Nat} {v:Value} {R:Nat} {f:Mat} {g cap h C:Nat} (H:FlatE w lo hi v R f g cap h C) (h1:w'.heap[g]?=w.heap[g]?) (h2:w'.heap[h]?=w.heap[h]?):FlatE w' lo hi v R f g cap h C:=by
 refine ⟨H.val,H.low,H.high,zcN H.row fun q hq=>?_,H.flat.kept fun q hq=>?_,H.hlow,H.hhigh,H.ne⟩
 ·rw [H.val] at hq
  have e1:g=q:=by simpa [Value.ownBlock] using hq
  subst e1;exact h1
 ·have e1:h=q:=by simpa [Value.ownBlock] using hq
  subst e1;exact h2
theorem FlatE.below {w w':World} {lo hi B:Nat} {v:Value} {R:Nat} {f:Mat} {g cap h C:Nat} (H:FlatE w lo hi v R f g cap h C) (hb:Below B w w') (hB:hi≤B):FlatE w' lo hi v R f g cap h C:=
 H.kept (hb.block g (by have:=H.high;omega)) (hb.block h (by have:=H.hhigh;omega))
theorem FlatE.weaken {w:World} {lo hi lo' hi':Nat} {v:Value} {R:Nat} {f:Mat} {g cap h C:Nat} (H:FlatE w lo hi v R f g cap h C) (h1:lo'≤lo) (h2:hi≤hi'):FlatE w lo' hi' v R f g cap h C:=
 ⟨H.val,Nat.le_trans h1 H.low,Nat.lt_of_lt_of_le H.high h2,zdy H.row h1,H.flat,Nat.le_trans h1 H.hlow,Nat.lt_of_lt_of_le H.hhigh h2,H.ne⟩
theorem FlatE.cell {w:World} {lo hi:Nat} {v:Value} {R:Nat} {f:Mat} {g cap h C:Nat} (H:FlatE w lo hi v R f g cap h C) (i:Nat) (hi:i<R):w.cell? ⟨g,i,none⟩=some (zjM h i):=by
 have hr:=H.row;rw [H.val] at hr;rw [hr.cellAt i (by omega),zbn R _ i hi]
theorem FlatE.at {w:World} {lo hi:Nat} {v:Value} {R:Nat} {f:Mat} {g cap h C:Nat} (H:FlatE w lo hi v R f g cap h C) (i j:Nat) (hi:i<R) (hj:j<4):w.cell? ⟨h,4*i+j,none⟩=some (.int .u8 (f i j)):=by
 rw [H.flat.1.cellAt (4*i+j) (by omega),zas _ _ _ (by omega),zlh f i j hj]
theorem FlatE.set {w w':World} {lo hi:Nat} {v:Value} {R:Nat} {f f':Mat} {g cap h C:Nat} (H:FlatE w lo hi v R f g cap h C) (hf:Own w' h (h+1) (.slice (some ⟨h,0,none⟩) (4*R) C) (4*R) (zef f')) (hc:Chg h (h+1) w w'):FlatE w' lo hi v R f' g cap h C:=by
 have b:=H.blocks;have hne:=H.ne;refine ⟨H.val,H.low,H.high,zcN H.row fun q hq=>?_,hf,H.hlow,H.hhigh,H.ne⟩;rw [H.val] at hq
 have e1:g=q:=by simpa [Value.ownBlock] using hq
 subst e1;exact hc.block g b.1 (by omega)
theorem zkJ {h C N off n b off2 lo hi:Nat} {F G:Nat→Nat} {l:Nat→Nat} {w wr:World} (hs:Own w lo hi (.slice (some ⟨h,0,none⟩) N C) N F) (hbw:b<w.heap.size) (hoff2:b=h→off2+n≤N)
 (hbo:(b<lo∨hi≤b)∨(b=h∧(off2+n≤off∨off+n≤off2))) {k:Nat} (hk:k<n) (hl:w.cell? ⟨b,off2+k,none⟩=some (.int .u8 (l k)))
 (hw:Own wr lo hi (.slice (some ⟨h,0,none⟩) N C) N (fun i=>if off≤i∧i<off+k then G i else F i)) (hc:Chg lo hi w wr):wr.cell? ⟨b,off2+k,none⟩=some (.int .u8 (l k)):=by
 rcases hbo with hbo | ⟨rfl,hbo⟩
 ·exact (World.cell?_of_block (hc.block b hbw hbo)).trans hl
 ·have hN:=hoff2 rfl
  rw [hs.1.cellAt (off2+k) (by omega),zas _ _ _ (by omega)] at hl;rw [hw.1.cellAt (off2+k) (by omega),zas _ _ _ (by omega),if_neg (by omega)];exact hl
theorem zhq (h C N off n:Nat) (F l G:Nat→Nat) (c:Nat) (lo hi b off2 cap0 cap:Nat) (w:World) (hs:Own w lo hi (.slice (some ⟨h,0,none⟩) N C) N F) (hoff:off+n≤N) (hhi:hi≤w.heap.size) (hbw:b<w.heap.size) (hoff2:b=h→off2+n≤N)
 (hbo:(b<lo∨hi≤b)∨(b=h∧(off2+n≤off∨off+n≤off2)))
 (hl:∀ i,i<n→w.cell? ⟨b,off2+i,none⟩=some (.int .u8 (l i))) (hlo:lo≤h) (hgh:h<hi)
 (kf:∀ i,F i<256) (kl:∀ i,l i<256) (hc:c<256) (hg:∀ i,i<N→G i=if off≤i∧i<off+n then F i ^^^ mulN c (l (i-off)) else F i) (hn:n≤1000000000) :
 Calls Tryz.prog 122 #[.slice (some ⟨h,off,none⟩) n cap0,.slice (some ⟨b,off2,none⟩) n cap,.int .u8 c] w fun e w'=>e=.returned (.tuple #[])∧Own w' lo hi (.slice (some ⟨h,0,none⟩) N C) N G∧Chg lo hi w w':=by
 have HG:=hid hg;have KC:Hid (∀ (wr:World) (k:Nat),k<n→Own wr lo hi (.slice (some ⟨h,0,none⟩) N C) N (fun i=>if off≤i∧i<off+k then G i else F i)→Chg lo hi w wr→wr.cell? ⟨b,off2+k,none⟩=some (.int .u8 (l k))):=fun wr k hk hw hch=>zkJ hs hbw hoff2 hbo hk (hl k hk) hw hch;clear hg hl hbo hoff2
 go_enter Tryz.func122,Tryz.ntmps122
 go_wp2_with (go_at_call 159;refine (zcP _ hc _).mono ?_;rintro e w1 ⟨rfl,hb1⟩;rw [T8])
 have hz1:=hb1.size;have hbx:Box (w1.alloc (.cells (tabV c) 183)) w1.heap.size (tabV c) 183:=zay _ _ _;have hch:Chg lo hi w (w1.alloc (.cells (tabV c) 183)):=(Below.chg hb1 lo hi).trans (Below.chg ((Below.refl _ _).alloc (Nat.le_refl _) _) lo hi);have hown0:=((hs.below hb1 hhi).alloc (.cells (tabV c) 183)).congr (g:=fun i=>if off≤i∧i<off+0 then G i else F i) (fun i hi=>by rw [if_neg (by omega)])
 have hzz:w1.heap.size<(w1.alloc (.cells (tabV c) 183)).heap.size:=by simp
 go_loopw [7,12] (fun _ i wr=>∃ k:Nat,k≤n∧i=.int .i64 k∧Own wr lo hi (.slice (some ⟨h,0,none⟩) N C) N (fun i=>if off≤i∧i<off+k then G i else F i)∧Chg lo hi w wr∧Box wr w1.heap.size (tabV c) 183) (fun _ i _=>n-(intOf i).toNat)
 case atStart=>exact ⟨0,Nat.zero_le _,rfl,hown0,hch,hbx⟩
 case round=>
  clear hbx hch hown0 hzz;obtain ⟨k,hk,rfl,hown,hchg,hbox⟩:=hrel
  by_cases hlt:k<n
  ·have hck:wr.cell? ⟨b,off2+k,none⟩=some (.int .u8 (l k)):=KC.out wr k hlt hown hchg
   have hco:wr.cell? ⟨h,off+k,none⟩=some (.int .u8 (F (off+k))):=by
    have:=hown.1.cellAt (off+k) (by omega);rw [this,zas _ _ _ (by omega),if_neg (by omega)]
   have hfo:wr.frozen? ⟨h,off+k,none⟩=false:=hown.1.frozenAt (off+k);have hlk:=kl k
   have hx:bits .xor .u8 (F (off+k):Int) (mulN c (l k):Int)=((G (off+k):Nat):Int):=by rw [u8_xor_nat _ _ (kf _) (zb4 hc),HG.out (off+k) (by omega),if_pos ⟨by omega,by omega⟩,show off+k-off=k by omega]
   obtain ⟨e0,e1,e2,e3,e4,e5,e6,e7⟩:=box8 hbox;have hzr:=hchg.size;have hbz:=hbox.lt
   have y1:b<wr.heap.size:=by omega
   have y2:h<wr.heap.size:=by omega
   have hoN:off+k<N:=by omega
   go_wp2
   go_region_with (go_at_call 160;refine (zdk _ _ hc hlk _).mono ?_;rintro e w2 ⟨rfl,hb2⟩;have q1:w2.cell? ⟨h,off+k,none⟩=some (.int .u8 (F (off+k))):=(hb2.cell (p:=⟨h,off+k,none⟩) y2).trans hco;have q2:w2.frozen? ⟨h,off+k,none⟩=false:=(hb2.frozen (p:=⟨h,off+k,none⟩) y2).trans hfo)
   all_goals
    have hown2:Own w2 lo hi (.slice (some ⟨h,0,none⟩) N C) N (fun i=>if off≤i∧i<off+k then G i else F i):=hown.drew.below hb2 (by show hi≤wr.heap.size;omega)
    have R:Own (w2.setCell ⟨h,off+k,none⟩ (.int .u8 (G (off+k)))) lo hi (.slice (some ⟨h,0,none⟩) N C) N (fun i=>if off≤i∧i<off+(k+1) then G i else F i):=
     hown2.store (off+k) (G (off+k)) hoN (fun i _=>by
      by_cases e:i=off+k
      ·subst e
       rw [if_pos rfl,if_pos ⟨by omega,by omega⟩]
      ·rw [if_neg e]
       by_cases e':off≤i∧i<off+k
       ·rw [if_pos e',if_pos ⟨e'.1,by omega⟩]
       ·rw [if_neg e',if_neg (by omega)])
    have C2:Chg lo hi wr.drew (w2.setCell ⟨h,off+k,none⟩ (.int .u8 (G (off+k)))):=(Below.chg hb2 lo hi).trans (zcH w2 lo hi h (off+k) _ hlo hgh).chg;have R2:Chg lo hi w (w2.setCell ⟨h,off+k,none⟩ (.int .u8 (G (off+k)))):=hchg.drew.trans C2;have R3:Box (w2.setCell ⟨h,off+k,none⟩ (.int .u8 (G (off+k)))) w1.heap.size (tabV c) 183:=Box.chg (w:=wr.drew) hbox C2 (.inr (by omega));clear hown hown2 hchg hbox hb2 C2 e0 e1 e2 e3 e4 e5 e6 e7;go_wp2
    go_roundw
    case rel=>exact ⟨k+1,by omega,by go_num,R,R2,R3⟩
    case measure=>simp [intOf];omega
  ·have hkn:k=n:=by omega
   subst hkn
   have hfin:=hown.congr (g:=G) (fun i hi=>by
    by_cases e':off≤i∧i<off+k
    ·rw [if_pos e']
    ·rw [if_neg e',HG.out i hi,if_neg e'])
   clear hown;go_wp2
   go_end0
   exact ⟨rfl,hfin,hchg⟩
theorem zdr (base n p F:Nat) (hF:F=128+base) (hb:base≤64) (hn:n≤16) (hp:p<n+16) (w:World) :
 Calls Tryz.prog 158 #[.int .i64 F,.int .i64 n,.int .i64 p] w fun e w'=>∃ v',e=.returned v'∧Own w' w.heap.size w'.heap.size v' n (genN n p base)∧Below w.heap.size w w':=by
 by_cases hpn:p<n
 ·have hd1:decide ((p:Int)<(n:Int))=true:=by simp;omega
  go_enter Tryz.func158,Tryz.ntmps158
  have HG:Hid (∀ i,i<n→genN n p base i=if i=p then 1 else 0):=fun i hi=>by simp [genN,show ¬ n≤p by omega]
  go_wp2_with (at_make;refine zcm _ rfl _ _ rfl _ _ n rfl rfl rfl rfl (by omega) ?_;intro w1 hown1 hb1 hz1;have hco:w1.cell? ⟨w.heap.size,p,none⟩=some (.int .u8 (0:Nat)):=(by have:=hown1.1.cellAt p (by omega);rw [this,zas _ _ _ hpn]);have hfo:w1.frozen? ⟨w.heap.size,p,none⟩=false:=hown1.1.frozenAt p)
  have R:=hown1.store p 1 hpn (g':=genN n p base) (fun i hi=>HG.out i hi);have RB:Below w.heap.size w (w1.setCell ⟨w.heap.size,p,none⟩ (.int .u8 (1:Nat))):=hb1.setCell (Nat.le_refl _) _;go_ret;exact ⟨_,rfl,R.mono (by simp),RB⟩
 ·have hd1:decide ((p:Int)<(n:Int))=false:=by simp;omega
  have hd2:decide (p<n)=false:=by simp;omega
  obtain ⟨s,hs⟩:∃ s,p=n+s:=⟨p-n,by omega⟩
  have hs16:s<16:=by omega
  obtain ⟨Q,hQ⟩:∃ Q,Q=F+s:=⟨_,rfl⟩
  have hQ2:Q≤128+80:=by omega
  have HG:Hid (∀ i,genN n p base i=powN (Q ^^^ i) 254):=fun i=>by
   simp only [genN,if_pos (show n≤p by omega)]
   rw [show 128+(base+p-n)=Q by omega]
  have hadd:IntKind.i64.wrap ((F:Int)+(p:Int))=(F:Int)+(p:Int):=by rw [IntKind.wrap_i64];omega
  have hsub:(F:Int)+(p:Int)-(n:Int)=(Q:Int):=by omega
  have HPS:=hid hs;clear hpn hs hF hQ
  go_enter Tryz.func158,Tryz.ntmps158
  go_wp2_with (at_make;refine zcm _ rfl _ _ rfl _ _ n rfl rfl rfl rfl (by omega) ?_;intro w1 hown1 hb1 hz1)
  go_loopw [8,19] (fun _ i wr=>∃ k:Nat,k≤n∧i=.int .i64 k∧Own wr w.heap.size w1.heap.size (.slice (some ⟨w.heap.size,0,none⟩) n n) n (fun i=>if i<k then genN n p base i else 0)∧Below w.heap.size w wr∧w1.heap.size≤wr.heap.size) (fun _ i _=>n-(intOf i).toNat)
  case atStart=>exact ⟨0,Nat.zero_le _,rfl,hown1,hb1,Nat.le_refl _⟩
  case round=>
   clear hown1 hb1;obtain ⟨k,hk,rfl,hown,hbel,hz2⟩:=hrel
   by_cases hlt:k<n
   ·obtain ⟨y,hy⟩:∃ y,y=Q ^^^ k:=⟨_,rfl⟩
    have hx:bits .xor .i64 (Q:Int) (k:Int)=(y:Int):=by rw [hy];exact zdL Q k (by omega) (by omega)
    have hl:y<256:=by rw [hy];exact zgG (by omega) (by omega)
    have HV:Hid (powN y 254=genN n p base k):=by show powN y 254=genN n p base k;rw [HG.out,hy]
    have HO:=hid hown;have szr:=hbel.size;have HBL:=hid hbel;clear hy hown hbel
    go_wp2_with fail
    refine (zhU y hl _).mono ?_;rintro e w2 ⟨rfl,hb2⟩;have hz3:=hb2.size;have hown2:=HO.out.below hb2 (by omega)
    have hco:w2.cell? ⟨w.heap.size,k,none⟩=some (.int .u8 (0:Nat)):=by
     have:=hown2.1.cellAt k (by omega);rw [this,zas _ _ _ hlt,if_neg (Nat.lt_irrefl k)]
    have hfo:w2.frozen? ⟨w.heap.size,k,none⟩=false:=hown2.1.frozenAt k
    have RW:Own (w2.setCell ⟨w.heap.size,k,none⟩ (.int .u8 (powN y 254))) w.heap.size w1.heap.size (.slice (some ⟨w.heap.size,0,none⟩) n n) n (fun i=>if i<k+1 then genN n p base i else 0):=
     hown2.store k _ hlt (fun i _=>by
      by_cases c1:i=k
      ·subst c1;simp [HV.out]
      ·by_cases c2:i<k
       ·have c3:i<k+1:=by omega
        simp [c1,c2,c3]
       ·have c3:¬ i<k+1:=by omega
        simp [c1,c2,c3])
    have RB:Below w.heap.size w (w2.setCell ⟨w.heap.size,k,none⟩ (.int .u8 (powN y 254))):=(HBL.out.trans (hb2.mono szr)).setCell (Nat.le_refl _) _
    have RS:w1.heap.size≤(w2.setCell ⟨w.heap.size,k,none⟩ (.int .u8 (powN y 254))).heap.size:=by simp;omega
    clear hown2 hb2 HO HBL;go_wp2
    go_roundw
    case rel=>exact ⟨k+1,by omega,by go_num,RW,RB,RS⟩
    case measure=>simp [intOf];omega
   ·have hkn:k=n:=by omega
    subst hkn;have h6:=hown.congr (g:=genN k p base) (fun i hi=>by simp [hi]);clear hown;go_wp2;go_ret;exact ⟨_,rfl,h6.weaken (Nat.le_refl _) hz2,hbel⟩
theorem zgB (n p:Nat) (hn:n≤16) (hp:p<n+16) (w:World) :
 Calls Tryz.prog 156 #[.int .i64 n,.int .i64 p] w fun e w'=>∃ v',e=.returned v'∧Own w' w.heap.size w'.heap.size v' n (genN n p 0)∧Below w.heap.size w w':=by
 go_enter Tryz.func156,Tryz.ntmps156
 go_wp2_with fail
 refine (zdr 0 n p 128 rfl (by omega) hn hp _).mono ?_;rintro e w1 ⟨v1,rfl,ho,hb⟩;obtain ⟨ao,cap,rfl⟩:=ho.slice;go_wp2;go_ret;exact ⟨_,rfl,ho,hb⟩
theorem zkK (b:Nat→Nat) (t:Nat):zef (cutN b) t=b t:=by
 unfold zef cutN;rw [show 4*(t/4)+t%4=t by omega]
theorem zgC (h C R lo hi:Nat) (b:Nat→Nat) (w:World) (hs:Own w lo hi (.slice (some ⟨h,0,none⟩) (4*R) C) (4*R) b) (hhi:hi≤w.heap.size) (hR:R≤1000) :
 Calls Tryz.prog 154 #[.slice (some ⟨h,0,none⟩) (4*R) C] w fun e w'=>∃ v',e=.returned v'∧(∃ cap,FlatE w' lo w'.heap.size v' R (cutN b) w.heap.size cap h C)∧Below w.heap.size w w':=by
 have hlt0:=hs.1.lt h rfl
 have hC:4*R≤C:=by
  rcases hs.1.2 with ⟨h',_⟩ | ⟨g',cap',cur,h',_,hg,hle,_⟩
  ·cases h'
  ·cases h';exact hle
 have hF:Own w h (h+1) (.slice (some ⟨h,0,none⟩) (4*R) C) (4*R) (zef (cutN b)):=(hs.tight).congr (fun i _=>(zkK b i).symm);have HF:=hid hF;have hhw:h<w.heap.size:=hlt0.2;have hlh:lo≤h:=hlt0.1;clear hs hF hlt0;obtain ⟨N,hN⟩:∃ N,N=4*R:=⟨_,rfl⟩;rw [← hN];have hq0:(N:Int).tdiv 4=(N:Int)/4:=Int.tdiv_eq_ediv_of_nonneg (by omega)
 have hq:(N:Int).tdiv 4=(R:Int):=by omega
 have HN:=hid hN
 have hNC:N≤C:=by omega
 have hN4:N≤4000:=by omega
 clear hN hC
 go_enter Tryz.func154,Tryz.ntmps154
 go_wp2_with (at_make;refine zk4 _ rfl _ _ rfl _ _ R rfl rfl (by first | rfl | omega | simp [hq]) (by first | rfl | omega | simp [hq]) (by omega) ?_;intro w1 hown1 hb1 hz1)
 go_loopw [4,5,6,13] (fun _ _ _ i wr=>∃ k:Nat,k≤R∧i=.int .i64 k∧wr.ownsRow w.heap.size 29 1 (.slice (some ⟨w.heap.size,0,none⟩) R R) R (zaT R fun i=>if i<k then zjM h i else nilS)∧Below w.heap.size w wr) (fun _ _ _ i _=>R-(intOf i).toNat)
 case atStart=>exact ⟨0,Nat.zero_le _,rfl,by rw [zdb (g:=fun _=>nilS) (fun i hi=>by simp)];exact hown1,hb1⟩
 case round=>
  clear hown1 hb1 hz1;obtain ⟨k,hk,rfl,hrow,hbel⟩:=hrel
  by_cases hlt:k<R
  ·obtain ⟨A,hA⟩:∃ A,A=4*k:=⟨_,rfl⟩
   have a1:IntKind.i64.wrap ((k:Int)*4)=(A:Int):=by rw [IntKind.wrap_i64];omega
   have a3:IntKind.i64.wrap (((k:Int)+1)*4)=(A:Int)+4:=by rw [IntKind.wrap_i64];omega
   have a4:(k:Int)*4=(A:Int):=by omega
   have a5:((k:Int)+1)*4=(A:Int)+4:=by omega
   have a6:(A:Int)+4≤(C:Int):=by have:=HN.out;omega
   have c1:wr.cell? ⟨w.heap.size,k,none⟩=some nilS:=by rw [hrow.cellAt k (by omega),zbn _ _ _ hlt,if_neg (Nat.lt_irrefl k)]
   have c2:wr.frozen? ⟨w.heap.size,k,none⟩=false:=hrow.frozenAt k;have hst:=(hrow.stored k (.slice (some ⟨h,A,none⟩) 4 4)).1
   rw [zjd R _ (fun i=>if i<k+1 then zjM h i else nilS) k _ hlt (fun i hi=>by
    by_cases c:i=k
    ·subst c;simp [zjM,hA]
    ·by_cases c':i<k
     ·have c2:i<k+1:=by omega
      simp [c,c',c2]
     ·have c2:¬ i<k+1:=by omega
      simp [c,c',c2])] at hst
   have RB:Below w.heap.size w (wr.setCell ⟨w.heap.size,k,none⟩ (.slice (some ⟨h,A,none⟩) 4 4)):=hbel.setCell (Nat.le_refl _) _;clear hA hrow hbel;go_wp2
   go_roundw
   case rel=>exact ⟨k+1,by omega,by go_num,hst,RB⟩
   case measure=>simp [intOf];omega
  ·obtain rfl:k=R:=by omega
   rw [zdb (g:=zjM h) (fun i hi=>by simp [hi])] at hrow;have hw2:=(hrow.lt _ rfl).2;have hsz:=hbel.size;go_wp2;go_ret;exact ⟨_,rfl,⟨k,rfl,by omega,hw2,zdy hrow (by omega),HF.out.below hbel (by omega),hlh,by omega,by omega⟩,hbel⟩
def wayN (D:Nat) (b:Nat→Nat) (K M:Nat):Mat:=fun i j=>if i<K then encN D b i j else if i=K then mixN (cutN b) (genN D K 0) M j else 0
theorem zi3 {D:Nat} {b:Nat→Nat} (kb:∀ i,b i<256) (K M:Nat):Byt (wayN D b K M):=fun i j=>by
 unfold wayN
 split
 ·exact zdC kb i j
 ·split
  ·exact ze6 _ _ (zep D K 0) _ _
  ·omega
theorem zjN {D S:Nat} {b b0:Nat→Nat} (h:∀ i,i<4*(D+S)→b0 i=if i<4*D then b i else 0) (i j:Nat) (hi:i<D+S) (hj:j<4):cutN b0 i j=wayN D b D 0 i j:=by
 unfold cutN wayN;rw [h (4*i+j) (by omega)]
 by_cases c:i<D
 ·rw [if_pos (by omega),if_pos c]
  simp [encN,c,cutN]
 ·rw [if_neg (by omega),if_neg c]
  split<;>rfl
theorem zkL {D:Nat} {b:Nat→Nat} {K:Nat} (hK:D≤K) (i j:Nat):wayN D b K D i j=wayN D b (K+1) 0 i j:=by
 unfold wayN
 by_cases c:i<K
 ·rw [if_pos c,if_pos (by omega)]
 ·rw [if_neg c]
  by_cases c2:i=K
  ·subst c2
   rw [if_pos rfl,if_pos (by omega)]
   simp [encN,show ¬ i<D by omega]
  ·rw [if_neg c2,if_neg (by omega)]
   split<;>rfl
theorem zkM {D:Nat} {b:Nat→Nat} {K M i:Nat} (hK:D≤K) (hi:i<D) (j:Nat):wayN D b K M i j=cutN b i j:=by
 unfold wayN;rw [if_pos (by omega)]
 simp [encN,hi]
theorem zkN {D R:Nat} {b:Nat→Nat} {K M:Nat} (hK:D≤K) (hM:M<D) (t:Nat) :
 zef (wayN D b K (M+1)) t=if 4*K≤t∧t<4*K+4 then zef (wayN D b K M) t ^^^ mulN (genN D K 0 M) (wayN D b K M M (t-4*K)) else zef (wayN D b K M) t:=by
 unfold zef
 by_cases c:4*K≤t∧t<4*K+4
 ·rw [if_pos c,zkM hK hM]
  have e1:t/4=K:=by omega
  have e2:t%4=t-4*K:=by omega
  rw [e1,e2]
  simp [wayN,mixN]
 ·rw [if_neg c]
  have e1:t/4≠K:=by omega
  simp [wayN,e1]
theorem FlatE.congr {w:World} {lo hi:Nat} {v:Value} {R:Nat} {f f':Mat} {g cap h C:Nat} (H:FlatE w lo hi v R f g cap h C) (e:∀ i j,i<R→j<4→f i j=f' i j):FlatE w lo hi v R f' g cap h C:=
 ⟨H.val,H.low,H.high,H.row,H.flat.congr (fun t ht=>e (t/4) (t%4) (by omega) (by omega)),H.hlow,H.hhigh,H.ne⟩
theorem zjO (vb v2:Value) (n m:Nat) (b:Nat→Nat) (h1 h2:Nat) (w:World) (r1:Rd w h1 vb n b) (r2:Rd w h2 v2 m (fun _=>0)) (b1:h1≤w.heap.size) (b2:h2≤w.heap.size) (hn:n≤1000000) (hm:m≤1000000) :
 Calls Tryz.prog 155 #[vb,v2] w fun e w'=>∃ v',e=.returned v'∧Own w' w.heap.size w'.heap.size v' (n+m) (fun i=>if i<n then b i else 0)∧Below w.heap.size w w':=by
 by_cases h0:m=0
 ·subst h0
  refine (zjj vb v2 n b _ h1 h2 w r1 r2 b1 hn).mono fun e w' ⟨v',he,ho,hb⟩=>⟨v',he,?_,hb⟩;exact ho.congr (fun i hi=>by simp [hi])
 ·exact zhV vb v2 n m b (fun _=>0) (fun i=>if i<n then b i else 0) h1 h2 w r1 r2 b1 b2 hn hm (by omega) (fun i _=>rfl)
theorem zeH (D S:Nat) (hD1:1≤D) (hD:D≤3) (hS:S≤2) (vb:Value) (b:Nat→Nat) (h1:Nat) (w:World) (rb:Rd w h1 vb (4*D) b) (hh:h1≤w.heap.size) (kb:∀ i,b i<256) :
 Calls Tryz.prog 119 #[.int .i64 D,.int .i64 S,vb] w fun e w'=>∃ v',e=.returned v'∧(∃ g cap h C,FlatE w' w.heap.size w'.heap.size v' (D+S) (encN D b) g cap h C)∧Below w.heap.size w w':=by
 have R1:=fun (w1:World) (hb:Below w.heap.size w w1)=>rb.below hb hh;obtain ⟨aob,capb,rfl,hmb,hcb⟩:=rb;clear hcb hmb;have HR1:=hid R1;clear R1
 have hs4:(S:Int)*4=((4*S:Nat):Int):=by omega
 obtain ⟨Q,hQ⟩:∃ Q,Q=4*S:=⟨_,rfl⟩;rw [← hQ] at hs4;have HQ:=hid hQ
 have hQ8:Q≤8:=by omega
 obtain ⟨P,hP⟩:∃ P,P=4*D:=⟨_,rfl⟩;rw [← hP] at HR1 ⊢;have HP:=hid hP
 have hP12:P≤12:=by omega
 clear hQ hP
 go_enter Tryz.func119,Tryz.ntmps119
 go_wp2_with (at_make;refine zcm _ rfl _ _ rfl _ _ Q rfl rfl (by first | omega | simp [hs4]) (by first | omega | simp [hs4]) (by omega) ?_;intro w1 hown1 hb1 hz1)
 refine (zjO _ _ P Q b h1 w1.heap.size w1 (HR1.out w1 hb1) hown1.rd (Nat.le_trans hh hb1.size) (Nat.le_refl _) (by omega) (by omega)).mono ?_;rintro e w2 ⟨v2,rfl,o2,b2⟩;have B2:Below w.heap.size w w2:=hb1.trans (b2.mono hb1.size)
 have hPQ:P+Q=4*(D+S):=by rw [HP.out,HQ.out];omega
 rw [hPQ] at o2;obtain ⟨h,C,rfl,hlo,hhi,hhw,hcap⟩:=o2.form (by omega);have s1:=hb1.size;have s2:=b2.size;clear hown1 hb1 b2 hz1;have CB:=zgC h C (D+S) w.heap.size w2.heap.size _ w2 (o2.weaken s1 (Nat.le_refl _)) (Nat.le_refl _) (by omega);obtain ⟨T,hT⟩:∃ T,T=4*(D+S):=⟨_,rfl⟩;rw [← hT] at CB ⊢;have HT:=hid hT;clear o2 hT hPQ
 go_wp2_with fail
 refine CB.mono ?_;rintro e w3 ⟨v3,rfl,⟨cap3,F3⟩,b3⟩;have B3:Below w.heap.size w w3:=B2.trans (b3.mono B2.size);have F3':FlatE w3 w.heap.size w3.heap.size v3 (D+S) (wayN D b D 0) w2.heap.size cap3 h C:=F3.congr (fun i j hi hj=>zjN (S:=S) (fun t ht=>by rw [← HP.out]) i j hi hj);have hv3:=F3.val;subst hv3;have z3:w3.heap.size≤w3.heap.size:=Nat.le_refl _
 have hgne:h≠w2.heap.size:=by omega
 clear F3 b3 CB B2 HR1;go_wp2
 go_loopw [8] (fun p wr=>∃ P:Nat,D≤P∧P≤D+S∧p=.int .i64 P∧FlatE wr w.heap.size w3.heap.size (.slice (some ⟨w2.heap.size,0,none⟩) (D+S) cap3) (D+S) (wayN D b P 0) w2.heap.size cap3 h C∧Below w.heap.size w wr∧w3.heap.size≤wr.heap.size) (fun p _=>D+S-(intOf p).toNat)
 case atStart=>exact ⟨D,Nat.le_refl _,by omega,rfl,F3',B3,Nat.le_refl _⟩
 case round=>
  clear F3' B3;obtain ⟨P,hP1,hP2,rfl,hF,hbel,hsz⟩:=hrel;have hhw3:h<w3.heap.size:=hF.hhigh;have hgw3:w2.heap.size<w3.heap.size:=hF.high
  by_cases hlt:P<D+S
  ·have hlti:(P:Int)<(D:Int)+(S:Int):=by omega
   have CF:=zgB D P (by omega) (by omega) wr;have HF:=hid hF;have HBL:=hid hbel;obtain ⟨wk,hwk⟩:∃ wk,wk=wr:=⟨_,rfl⟩;rw [← hwk] at CF HF HBL hsz ⊢;clear hF hbel hwk
   go_wp2_with fail
   refine CF.mono ?_;rintro e w6 ⟨v6,rfl,o6,b6⟩;obtain ⟨gv,capv,hgv,h61,h62,h63,h64⟩:=o6.form (by omega);subst hgv;have F6:=HF.out.below b6 hsz;have B6:Below w.heap.size w w6:=HBL.out.trans (b6.mono HBL.out.size);have s6:=b6.size;clear CF b6 HF HBL;go_wp2
   go_loopw [29] (fun i wr=>∃ m:Nat,m≤D∧i=.int .i64 m∧FlatE wr w.heap.size w3.heap.size (.slice (some ⟨w2.heap.size,0,none⟩) (D+S) cap3) (D+S) (wayN D b P m) w2.heap.size cap3 h C∧Own wr wk.heap.size w6.heap.size (.slice (some ⟨gv,0,none⟩) D capv) D (genN D P 0)∧Below w.heap.size w wr∧w6.heap.size≤wr.heap.size) (fun i _=>D-(intOf i).toNat)
   case atStart=>exact ⟨0,Nat.zero_le _,rfl,F6,o6,B6,Nat.le_refl _⟩
   case round=>
    clear F6 o6 B6;obtain ⟨m,hm,rfl,hF,ho,hbel,hsz6⟩:=hrel
    by_cases hmD:m<D
    ·obtain ⟨A,hA⟩:∃ A,A=4*P:=⟨_,rfl⟩
     obtain ⟨B,hB⟩:∃ B,B=4*m:=⟨_,rfl⟩;obtain ⟨y,hy⟩:∃ y,y=genN D P 0 m:=⟨_,rfl⟩
     have c1:wr.cell? ⟨w2.heap.size,P,none⟩=some (.slice (some ⟨h,A,none⟩) 4 4):=by rw [hA];exact hF.cell P hlt
     have c2:wr.cell? ⟨w2.heap.size,m,none⟩=some (.slice (some ⟨h,B,none⟩) 4 4):=by rw [hB];exact hF.cell m (by omega)
     have c3:wr.cell? ⟨gv,m,none⟩=some (.int .u8 y):=by rw [hy];exact (ho.1.cellAt m (by omega)).trans (zas _ _ _ hmD)
     have HF:=hid hF;have HO:=hid ho;have HBL:=hid hbel;have HA:=hid hA;have HB:=hid hB;have HY:=hid hy
     have hmS:m<D+S:=by omega
     have hhr:h<wr.heap.size:=by omega
     have CA:∀ q,Calls Tryz.prog 122 #[.slice (some ⟨h,A,none⟩) 4 4,.slice (some ⟨h,B,none⟩) 4 4,.int .u8 y] (wr.drewN q) fun e w'=>e=.returned (.tuple #[])∧Own w' h (h+1) (.slice (some ⟨h,0,none⟩) (4*(D+S)) C) (4*(D+S)) (zef (wayN D b P (m+1)))∧Chg h (h+1) (wr.drewN q) w':=fun q=>
      zhq h C (4*(D+S)) A 4 (zef (wayN D b P m)) (wayN D b P m m) (zef (wayN D b P (m+1))) y h (h+1) h B 4 4 (wr.drewN q) hF.flat (by omega) hhr hhr (fun _=>by omega) (.inr ⟨rfl,.inl (by omega)⟩) (fun i hi=>by rw [hB];exact hF.at m i hmS hi) (Nat.le_refl _) (Nat.lt_succ_self _)
       (fun i=>zi3 kb P m _ _) (fun i=>zi3 kb P m _ _) (by rw [hy];exact zep D P 0 m) (fun t _=>by rw [hA,hy];exact zkN (R:=0) hP1 hmD t) (by omega)
     have CA1:=CA 1;clear hF ho hbel hA hB hy CA;go_wp2
     go_region_with (go_at_call 122;refine CA1.mono ?_;rintro e w7 ⟨rfl,o7,ch7⟩)
     all_goals
      have F7:=(HF.out.kept (w':=wr.drewN 1) rfl rfl).set o7 ch7;have O7:Own w7 wk.heap.size w6.heap.size (.slice (some ⟨gv,0,none⟩) D capv) D (genN D P 0):=(show Own (wr.drewN 1) wk.heap.size w6.heap.size (.slice (some ⟨gv,0,none⟩) D capv) D (genN D P 0) from HO.out).chg ch7 (.inr (by omega));have B7:Below w.heap.size w w7:=(below_drewN HBL.out 1).trans (ch7.below (by omega) HBL.out.size);have S7:w6.heap.size≤w7.heap.size:=Nat.le_trans hsz6 ch7.size;clear o7 ch7 HF HO HBL CA1 c1 c2 c3;go_wp2
      go_roundw
      case rel=>exact ⟨m+1,by omega,by go_num,F7,O7,B7,S7⟩
      case measure=>simp [intOf];omega
    ·obtain rfl:m=D:=by omega
     have F8:=hF.congr (f':=wayN m b (P+1) 0) (fun i j _ _=>zkL hP1 i j);clear hF ho;go_wp2
     go_roundw
     case rel=>exact ⟨P+1,by omega,by omega,by go_num,F8,hbel,by omega⟩
     case measure=>simp [intOf];omega
  ·obtain rfl:P=D+S:=by omega
   have F9:=hF.congr (f':=encN D b) (fun i j hi _=>by simp [wayN,hi])
   have hlti:¬ (((D+S:Nat):Int)<(D:Int)+(S:Int)):=by omega
   clear hF;go_wp2;go_ret;exact ⟨_,rfl,⟨_,_,_,_,F9.weaken (Nat.le_refl _) hsz⟩,hbel⟩
theorem zfT {f:Mat} {c:Nat→Nat} {y:Nat} (kf:∀ i j,f i j<256) (kc:∀ i,c i<256) (hy:y<256):∀ k j,mixN (fun i j=>mulN y (f i j)) c k j=mulN y (mixN f c k j)
 | 0,j=>by simp [mixN,zbR]
 | k+1,j=>by
  have ih:=zfT kf kc hy k j
  have h1:mulN (c k) (mulN y (f k j))=mulN y (mulN (c k) (f k j)):=by
   rw [← zdt (kc k) hy (kf k j),zcG (kc k) hy,zdt hy (kc k) (kf k j)]
  simp only [mixN]
  rw [ih,h1,← zfp hy (ze6 f c kc k j) (zb4 (kc k))]
theorem zjP {D:Nat} {b:Nat→Nat} {y:Nat} (kb:∀ i,b i<256) (hy:y<256) (k t:Nat):encN D (fun i=>mulN y (b i)) k t=mulN y (encN D b k t):=by
 unfold encN
 split
 ·rfl
 ·exact zfT (f:=cutN b) (fun i j=>kb _) (zep D k 0) hy D t
def facN (s:Nat→Int) (G:Nat) (gr:Int):Nat:=powN ((128+(8+(G-(s 0).toNat))) ^^^ gr.toNat) 254
def movN (s:Nat→Int) (G k:Nat) (was:BlockD) (mv:RecD):Nat→Nat:=fun t=>
 if (G:Int)<s 0 then encN (s 2).toNat mv.data.2 k t else was.bytes.2 t ^^^ mulN (facN s G mv.group) (encN (s 2).toNat mv.delta.2 k t)
def movB (s:Nat→Int) (G k:Nat) (was:BlockD) (mv:RecD):BlockD:=⟨mv.seq,(4,movN s G k was mv)⟩
theorem zeg (d s:Int) (w:World) :
 Calls Tryz.prog 157 #[.int .i64 d,.int .i64 s] w (zbI (Shp3 d s) w):=by
 by_cases h1:1≤d
 ·by_cases h2:d≤4
  ·by_cases h3:0≤s
   ·by_cases h4:s≤2
    ·go_enter Tryz.func157,Tryz.ntmps157
     go_wp2;go_ret;exact zaL rfl ⟨by omega,by omega,by omega,by omega⟩ (Below.refl _ _)
    ·have e4:decide (s≤2)=false:=by simp;omega
     have H:Hid (¬ Shp3 d s):=fun h=>h4 h.2.2.2;clear h4
     go_enter Tryz.func157,Tryz.ntmps157
     go_wp2;go_ret;exact zax rfl H.out (Below.refl _ _)
   ·have e3:decide (0≤s)=false:=by simp;omega
    have H:Hid (¬ Shp3 d s):=fun h=>h3 h.2.2.1;clear h3
    go_enter Tryz.func157,Tryz.ntmps157
    go_wp2;go_ret;exact zax rfl H.out (Below.refl _ _)
  ·have e2:decide (d≤4)=false:=by simp;omega
   have H:Hid (¬ Shp3 d s):=fun h=>h2 h.2.1;clear h2
   go_enter Tryz.func157,Tryz.ntmps157
   go_wp2;go_ret;exact zax rfl H.out (Below.refl _ _)
 ·have e1:decide (1≤d)=false:=by simp;omega
  have H:Hid (¬ Shp3 d s):=fun h=>h1 h.1;clear h1
  go_enter Tryz.func157,Tryz.ntmps157
  go_wp2;go_ret;exact zax rfl H.out (Below.refl _ _)
theorem zfz (g c gr p:Int) (w:World) :
 Calls Tryz.prog 120 #[.int .i64 g,.int .i64 c,.int .i64 gr,.int .i64 p] w fun ee w'=>∃ x v,ee=.returned (intR x v)∧zlV g c gr p x v∧Below w.heap.size w w':=by
 go_enter Tryz.func120,Tryz.ntmps120
 go_wp2_with fail
 refine (zeg g c _).mono ?_;rintro e0 w1 ⟨b1,rfl,hb1,b1'⟩;have HS:=hid hb1;have B1:Below w.heap.size w w1:=bnew b1';have X1:Box w1 w.heap.size #[.int .i64 0,.int .i64 0] 158:=(zay w _ _).below b1' (by simp);obtain ⟨x0,x1,y0,y1⟩:=zda X1;clear hb1 b1'
 cases b1 with
 | false=>
  have HNO:Hid (¬ FacP g c gr p):=fun h=>by have:=HS.out.mpr h.1;cases this
  clear HS;go_wp2;exact bodyPost_ret (v:=intR 3 0) (by simp [results,Tryz.results120,go_sem,intR,x0,x1]) rfl ⟨3,0,rfl,.inl ⟨rfl,rfl,HNO.out⟩,(B1.setCell (Nat.le_refl _) _).setCell (Nat.le_refl _) _⟩
 | true=>
  have hsh:=HS.out.mp rfl;have HSH:=hid hsh;obtain ⟨q1,q2,q3,q4⟩:=hsh;clear HS
  by_cases h1:gr<0
  ·have HNO:Hid (¬ FacP g c gr p):=fun h=>by have:=h.2.1.1;omega
   go_wp2;exact bodyPost_ret (v:=intR 3 0) (by simp [results,Tryz.results120,go_sem,intR,x0,x1]) rfl ⟨3,0,rfl,.inl ⟨rfl,rfl,HNO.out⟩,(B1.setCell (Nat.le_refl _) _).setCell (Nat.le_refl _) _⟩
  have t1:decide (gr<0)=false:=by simp;omega
  by_cases h2:g≤gr
  ·have HNO:Hid (¬ FacP g c gr p):=fun h=>by have:=h.2.1.2;omega
   clear h1;go_wp2;exact bodyPost_ret (v:=intR 3 0) (by simp [results,Tryz.results120,go_sem,intR,x0,x1]) rfl ⟨3,0,rfl,.inl ⟨rfl,rfl,HNO.out⟩,(B1.setCell (Nat.le_refl _) _).setCell (Nat.le_refl _) _⟩
  have t2:decide (g≤gr)=false:=by simp;omega
  by_cases h3:p<0
  ·have HNO:Hid (¬ FacP g c gr p):=fun h=>by have:=h.2.2.1;omega
   clear h1 h2;go_wp2;exact bodyPost_ret (v:=intR 3 0) (by simp [results,Tryz.results120,go_sem,intR,x0,x1]) rfl ⟨3,0,rfl,.inl ⟨rfl,rfl,HNO.out⟩,(B1.setCell (Nat.le_refl _) _).setCell (Nat.le_refl _) _⟩
  have t3:decide (p<0)=false:=by simp;omega
  by_cases h4:c≤p
  ·have HNO:Hid (¬ FacP g c gr p):=fun h=>by have:=h.2.2.2;omega
   clear h1 h2 h3;go_wp2;exact bodyPost_ret (v:=intR 3 0) (by simp [results,Tryz.results120,go_sem,intR,x0,x1]) rfl ⟨3,0,rfl,.inl ⟨rfl,rfl,HNO.out⟩,(B1.setCell (Nat.le_refl _) _).setCell (Nat.le_refl _) _⟩
  have t4:decide (c≤p)=false:=by simp;omega
  have HF:Hid (FacP g c gr p):=⟨HSH.out,⟨by omega,by omega⟩,⟨by omega,by omega⟩⟩;obtain ⟨G,rfl⟩:∃ G:Nat,gr=G:=⟨gr.toNat,by omega⟩;obtain ⟨P,rfl⟩:∃ P:Nat,p=P:=⟨p.toNat,by omega⟩;obtain ⟨D,rfl⟩:∃ D:Nat,g=D:=⟨g.toNat,by omega⟩;have CF:=zdr 8 D (D+P) 136 rfl (by omega) (by omega) (by omega) w1
  have eDP:((D+P:Nat):Int)=(D:Int)+(P:Int):=by simp
  have e136:((136:Nat):Int)=136:=rfl;rw [eDP,e136] at CF
  have hGD:G<D:=by omega
  have hPb:P≤1:=by omega
  obtain ⟨y,hy⟩:∃ y,y=genN D (D+P) 8 G:=⟨_,rfl⟩
  have hyl:y<256:=by rw [hy];exact zep D (D+P) 8 G
  have HY:Hid (y=powN ((128+(8+P)) ^^^ G) 254):=by
   show y=powN ((128+(8+P)) ^^^ G) 254
   rw [hy]
   simp only [genN,if_pos (show D≤D+P by omega)]
   rw [show 8+(D+P)-D=8+P by omega]
  have HYG:=hid hy;have z1:=X1.lt;clear h1 h2 h3 h4 hy x0 x1 y0 y1
  go_wp2_with fail
  refine CF.mono ?_;rintro e0 w2 ⟨v2,rfl,o2,b2⟩;obtain ⟨gv,capv,hgv,g1,g2,g3,g4⟩:=o2.form (by omega);subst hgv
  have c1:w2.cell? ⟨gv,G,none⟩=some (.int .u8 y):=by rw [HYG.out];exact (o2.1.cellAt G (by omega)).trans (zas _ _ _ hGD)
  have B2:Below w.heap.size w w2:=B1.trans (b2.mono B1.size);have X2:Box w2 w.heap.size #[.int .i64 0,.int .i64 0] 158:=X1.below b2 z1;obtain ⟨x0,x1,y0,y1⟩:=zda X2;clear CF o2 b2 X1 X2;go_wp2;exact bodyPost_ret (v:=intR 0 y) (by simp [results,Tryz.results120,go_sem,intR,x0,x1]) rfl ⟨0,y,rfl,.inr ⟨rfl,HF.out,by rw [Int.toNat_natCast,Int.toNat_natCast,← HY.out]⟩,(B2.setCell (Nat.le_refl _) _).setCell (Nat.le_refl _) _⟩
end Go.Proofs.YtlpbohnadenacaaGreat
namespace Go.Proofs.YtlpbohnadenacaaGreat
open Go.RowKit
theorem SL {α : Type} : (∀ (l : List α) (i : Nat) (v : α), l.toArray.setIfInBounds i v = (l.set i v).toArray) ∧ (∀ (a : α) (l : List α) (b : α), (a :: l).set 0 b = b :: l) ∧ (∀ (a : α) (l : List α) (n : Nat) (b : α), (a :: l).set (n + 1) b = a :: l.set n b) ∧ (∀ (l : List α) (i : Nat) (h : i < l.toArray.size), l.toArray[i] = l[i]'(by simpa using h)) ∧ (∀ (a : α) (l : List α) (n : Nat) (h : n + 1 < (a :: l).length), (a :: l)[n + 1] = l[n]'(by simpa using h)) ∧ ∀ (a : α) (l : List α) (h : 0 < (a :: l).length), (a :: l)[0] = a := ⟨fun _ _ _ => List.setIfInBounds_toArray .., fun _ _ _ => rfl, fun _ _ _ _ => rfl, fun _ _ _ => rfl, fun _ _ _ _ => rfl, fun _ _ _ => rfl⟩
section
variable {P:Program} {ops:Array Oper} {Q:Exit→Act→World→Prop} {md:Region.Mode} {S:World→Prop} {L:Nat}
def za3 (P:Program) (md:Region.Mode) (ops:Array Oper) (Q:Exit→Act→World→Prop) (S:World→Prop) (L:Nat):Nat→Array Bool→Act→World→Prop
 | 0,listed,a,w=>Region.ready md ops listed=[]∧Q .normal a w
 | fuel+1,listed,a,w=>
  (Region.ready md ops listed=[]→Q .normal a w)∧
  ∀ i∈Region.ready md ops listed,wpOp P ops Q i (fun a' w'=>((listed.setIfInBounds i true).getD L false=false→S w')∧za3 P md ops Q S L fuel (listed.setIfInBounds i true) a' w') a w
theorem zfU:∀ (fuel:Nat) (listed:Array Bool) (a:Act) (w:World),za3 P md ops Q S L fuel listed a w→wpAny P md ops Q fuel listed a w
 | 0,_,_,_,h=>h
 | fuel+1,_,_,_,h=>⟨h.1,fun i hi=>wpOp_mono (fun a' w' h'=>zfU fuel _ a' w' h'.2) (h.2 i hi)⟩
theorem zhr {i:Nat} {oi:Oper} {v:Value} (hi:ops[i]?=some oi) (hsel:∀ (j:Nat) (o:Oper) cs b,ops[j]?=some o→o.op≠.select cs b)
 (hQ:∀ c a w,Q (.panic c) (a.put oi.dst v) w→Q (.panic c) a w) (hLi:L≠i) {n:Nat} (hd:depB md ops n L i=true) :
 ∀ (fuel:Nat) (listed:Array Bool) (a:Act) (w:World),zcT md ops listed→
  (∀ j oj,ops[j]?=some oj→j≠i→listed.getD j true=false→(∀ e∈oj.after,Region.binds md e=true→e.on≠i)→oi.apart ops oj=true)→
  i∈Region.ready md ops listed→YieldsIf P ops S oi v a→S w→
  za3 P md ops Q S L fuel (listed.setIfInBounds i true) (a.put oi.dst v) w→za3 P md ops Q S L (fuel+1) listed a w:=by
 intro fuel
 induction fuel with
 | zero=>
  intro listed a w _ _ hr hy hS H;refine ⟨fun h=>(by rw [h] at hr;cases hr),fun j hj=>?_⟩
  by_cases hji:j=i
  ·subst hji;exact hy.wpOp hi hS ⟨fun _=>hS,H⟩
  ·have:=ready_mono hj hji
   rw [H.1] at this
   cases this
 | succ fuel ih=>
  intro listed a w hcl hfree hr hy hS H;refine ⟨fun h=>(by rw [h] at hr;cases hr),fun j hj=>?_⟩
  by_cases hji:j=i
  ·subst hji;exact hy.wpOp hi hS ⟨fun _=>hS,H⟩
  ·have hjL:j≠L:=fun h=>by
    subst h;exact zha hcl hLi hd (zbg (mem_ready.1 hr).1) hj
   have h1:=H.2 j (ready_mono hj hji);obtain ⟨hjun,oj,hoj,hall⟩:=mem_ready.1 hj
   have hnot:∀ e∈oj.after,Region.binds md e=true→e.on≠i:=fun e he hb heq=>by
    have h1:=hall e he hb;have h0:=zbg (mem_ready.1 hr).1;rw [heq,h0] at h1
    cases h1
   have h2:=wpOp_putIf hoj (hfree j oj hoj hji hjun hnot) (fun cs b=>hsel i oi cs b hi) (fun cs b=>hsel j oj cs b hoj) hQ hy h1
   have hfree':∀ k ok,ops[k]?=some ok→k≠i→(listed.setIfInBounds j true).getD k true=false→
    (∀ e∈ok.after,Region.binds md e=true→e.on≠i)→oi.apart ops ok=true:=fun k ok hk hki hun hno=>by
    refine hfree k ok hk hki ?_ hno
    by_cases hjk:j=k
    ·subst hjk;exact hjun
    ·rw [getD_set_ne true hjk] at hun;exact hun
   have hLn:(listed.setIfInBounds j true).getD L false=false:=by
    rw [getD_set_ne false hjL]
    cases hg:listed.getD L false with
    | false=>rfl
    | true=>have:=zer hcl n L i hd hg;rw [zbg (mem_ready.1 hr).1] at this;cases this
   have hLn2:((listed.setIfInBounds i true).setIfInBounds j true).getD L false=false:=by
    rw [← Array.setIfInBounds_comm _ _ hji,getD_set_ne false (Ne.symm hLi)];exact hLn
   refine wpOp_mono (fun a' w' h3=>⟨fun _=>h3.2.1 hLn2,ih (listed.setIfInBounds j true) a' w' (zcU hcl hj) hfree' (ready_mono hr (Ne.symm hji)) h3.1 (h3.2.1 hLn2) ?_⟩) h2;rw [Array.setIfInBounds_comm _ _ hji];exact h3.2.2
theorem zhs {i:Nat} {oi:Oper} {v:Value} (hi:ops[i]?=some oi) (hsel:∀ (j:Nat) (o:Oper) cs b,ops[j]?=some o→o.op≠.select cs b)
 (hQ:∀ c a w,Q (.panic c) (a.put oi.dst v) w→Q (.panic c) a w) (hLi:L≠i) :
 ∀ (fuel:Nat) (listed:Array Bool) (a:Act) (w:World),zcT md ops listed→
  (∀ j oj,ops[j]?=some oj→j≠i→listed.getD j true=false→(∀ e∈oj.after,Region.binds md e=true→e.on≠i)→oi.apart ops oj=true)→
  i∈Region.ready md ops listed→YieldsIf P ops (fun _=>True) oi v a→((listed.setIfInBounds i true).getD L false=false→S w)→
  za3 P md ops Q S L fuel (listed.setIfInBounds i true) (a.put oi.dst v) w→za3 P md ops Q S L (fuel+1) listed a w:=by
 intro fuel
 induction fuel with
 | zero=>
  intro listed a w _ _ hr hy hS H;refine ⟨fun h=>(by rw [h] at hr;cases hr),fun j hj=>?_⟩
  by_cases hji:j=i
  ·subst hji;exact hy.wpOp hi trivial ⟨hS,H⟩
  ·have:=ready_mono hj hji
   rw [H.1] at this
   cases this
 | succ fuel ih=>
  intro listed a w hcl hfree hr hy hS H;refine ⟨fun h=>(by rw [h] at hr;cases hr),fun j hj=>?_⟩
  by_cases hji:j=i
  ·subst hji;exact hy.wpOp hi trivial ⟨hS,H⟩
  ·skip
   have h1:=H.2 j (ready_mono hj hji);obtain ⟨hjun,oj,hoj,hall⟩:=mem_ready.1 hj
   have hnot:∀ e∈oj.after,Region.binds md e=true→e.on≠i:=fun e he hb heq=>by
    have h1:=hall e he hb;have h0:=zbg (mem_ready.1 hr).1;rw [heq,h0] at h1
    cases h1
   have h2:=wpOp_putIf hoj (hfree j oj hoj hji hjun hnot) (fun cs b=>hsel i oi cs b hi) (fun cs b=>hsel j oj cs b hoj) hQ hy h1
   have hfree':∀ k ok,ops[k]?=some ok→k≠i→(listed.setIfInBounds j true).getD k true=false→
    (∀ e∈ok.after,Region.binds md e=true→e.on≠i)→oi.apart ops ok=true:=fun k ok hk hki hun hno=>by
    refine hfree k ok hk hki ?_ hno
    by_cases hjk:j=k
    ·subst hjk;exact hjun
    ·rw [getD_set_ne true hjk] at hun;exact hun
   refine wpOp_mono (fun a' w' h3=>?_) h2;have hk:((listed.setIfInBounds j true).setIfInBounds i true).getD L false=false→S w':=fun hn=>h3.2.1 (by rw [Array.setIfInBounds_comm _ _ (Ne.symm hji)];exact hn);refine ⟨fun hn=>?_,ih (listed.setIfInBounds j true) a' w' (zcU hcl hj) hfree' (ready_mono hr (Ne.symm hji)) h3.1 hk ?_⟩
   ·exact hk (by rw [getD_set_ne false (Ne.symm hLi)];exact hn)
   ·rw [Array.setIfInBounds_comm _ _ hji]
    exact h3.2.2
theorem zdW {i:Nat} {oi:Oper} {v:Value} {fuel:Nat} {listed:Array Bool} {a:Act} {w:World} (hi:ops[i]?=some oi)
 (hs:(Region.noSelect ops&&Region.free md ops listed i&&(Region.ready md ops listed).contains i&&!(L==i)&&zbY md ops listed)=true)
 (hQ:∀ c a w,Q (.panic c) (a.put oi.dst v) w→Q (.panic c) a w) (hy:YieldsIf P ops (fun _=>True) oi v a) (hS:S w)
 (h:za3 P md ops Q S L fuel (listed.setIfInBounds i true) (a.put oi.dst v) w):za3 P md ops Q S L (fuel+1) listed a w:=by
 simp only [Bool.and_eq_true,Bool.not_eq_true',beq_eq_false_iff_ne] at hs
 obtain ⟨⟨⟨⟨h1,h2⟩,h3⟩,h4⟩,h6⟩:=hs;exact zhs hi (Region.noSelect_spec h1) hQ h4 fuel listed a w (zea h6) (Region.free_spec hi h2) (by simpa using h3) hy (fun _=>hS) h
theorem zam {i:Nat} {oi:Oper} {v:Value} {fuel:Nat} {listed:Array Bool} {a:Act} {w:World} (n:Nat) (hi:ops[i]?=some oi)
 (hs:(Region.noSelect ops&&Region.free md ops listed i&&(Region.ready md ops listed).contains i&&!(L==i)&&depB md ops n L i&&zbY md ops listed)=true)
 (hQ:∀ c a w,Q (.panic c) (a.put oi.dst v) w→Q (.panic c) a w) (hy:YieldsIf P ops S oi v a) (hS:S w)
 (h:za3 P md ops Q S L fuel (listed.setIfInBounds i true) (a.put oi.dst v) w):za3 P md ops Q S L (fuel+1) listed a w:=by
 simp only [Bool.and_eq_true,Bool.not_eq_true',beq_eq_false_iff_ne] at hs
 obtain ⟨⟨⟨⟨⟨h1,h2⟩,h3⟩,h4⟩,h5⟩,h6⟩:=hs;exact zhr hi (Region.noSelect_spec h1) hQ h4 h5 fuel listed a w (zea h6) (Region.free_spec hi h2) (by simpa using h3) hy hS h
theorem zl3 (i:Nat) {oi:Oper} {v:Value} {fuel:Nat} {listed:Array Bool} {a:Act} {w:World} (hi:ops[i]?=some oi) (hy:∀ w,True→(execOp a.eval oi).run P w=.ok (.value v) w) (h:za3 P md ops Q S L fuel (listed.setIfInBounds i true) (a.put oi.dst v) w) (hs:(Region.noSelect ops && Region.free md ops listed i && (Region.ready md ops listed).contains i && !(L==i) && zbY md ops listed)=true:=by kernel_rfl) (hQ:∀ c a w,Q (.panic c) (a.put oi.dst v) w→Q (.panic c) a w:=by exact fun _ _ _ h=>h) (hw:Region.wanted oi (yielded ops a.tmps)=true:=by first | kernel_rfl | rfl) (hS:S w:=by assumption):za3 P md ops Q S L (fuel+1) listed a w:=zdW hi hs hQ (Or.inl ⟨hw,hy⟩) hS h
theorem zl4 (i:Nat) {oi:Oper} {v:Value} {fuel:Nat} {listed:Array Bool} {a:Act} {w:World} (hi:ops[i]?=some oi) (hy:∀ w,S w→(execOp a.eval oi).run P w=.ok (.value v) w) (h:za3 P md ops Q S L fuel (listed.setIfInBounds i true) (a.put oi.dst v) w) (hs:(Region.noSelect ops && Region.free md ops listed i && (Region.ready md ops listed).contains i && !(L==i) && depB md ops 16 L i && zbY md ops listed)=true:=by kernel_rfl) (hQ:∀ c a w,Q (.panic c) (a.put oi.dst v) w→Q (.panic c) a w:=by exact fun _ _ _ h=>h) (hw:Region.wanted oi (yielded ops a.tmps)=true:=by first | kernel_rfl | rfl) (hS:S w:=by assumption):za3 P md ops Q S L (fuel+1) listed a w:=zam 16 hi hs hQ (Or.inl ⟨hw,hy⟩) hS h
theorem zl5 (i:Nat) {oi:Oper} {v:Value} {fuel:Nat} {listed:Array Bool} {a:Act} {w:World} (hi:ops[i]?=some oi) (h:za3 P md ops Q S L fuel (listed.setIfInBounds i true) (a.put oi.dst v) w) (hy:∀ w,True→(execOp a.eval oi).run P w=.ok (.value v) w:=by intro w' hSw;go_simp;try with_reducible rfl) (hs:(Region.noSelect ops && Region.free md ops listed i && (Region.ready md ops listed).contains i && !(L==i) && zbY md ops listed)=true:=by kernel_rfl) (hQ:∀ c a w,Q (.panic c) (a.put oi.dst v) w→Q (.panic c) a w:=by exact fun _ _ _ h=>h) (hw:Region.wanted oi (yielded ops a.tmps)=true:=by first | kernel_rfl | rfl) (hS:S w:=by assumption):za3 P md ops Q S L (fuel+1) listed a w:=zdW hi hs hQ (Or.inl ⟨hw,hy⟩) hS h
theorem zl6 (i:Nat) {oi:Oper} {v:Value} {fuel:Nat} {listed:Array Bool} {a:Act} {w:World} (hi:ops[i]?=some oi) (h:za3 P md ops Q S L fuel (listed.setIfInBounds i true) (a.put oi.dst v) w) (hy:∀ w,S w→(execOp a.eval oi).run P w=.ok (.value v) w:=by intro w' hSw;(try dsimp only at hSw);(repeat (have _q:=And.left hSw;replace hSw:=And.right hSw));go_simp;try with_reducible rfl) (hs:(Region.noSelect ops && Region.free md ops listed i && (Region.ready md ops listed).contains i && !(L==i) && depB md ops 16 L i && zbY md ops listed)=true:=by kernel_rfl) (hQ:∀ c a w,Q (.panic c) (a.put oi.dst v) w→Q (.panic c) a w:=by exact fun _ _ _ h=>h) (hw:Region.wanted oi (yielded ops a.tmps)=true:=by first | kernel_rfl | rfl) (hS:S w:=by assumption):za3 P md ops Q S L (fuel+1) listed a w:=zam 16 hi hs hQ (Or.inl ⟨hw,hy⟩) hS h
theorem zl7 (i:Nat) {oi:Oper} {fuel:Nat} {listed:Array Bool} {a:Act} {w:World} (hi:ops[i]?=some oi) (h:za3 P md ops Q S L fuel (listed.setIfInBounds i true) (a.put oi.dst undef) w) (hs:(Region.noSelect ops && Region.free md ops listed i && (Region.ready md ops listed).contains i && !(L==i) && zbY md ops listed)=true:=by kernel_rfl) (hQ:∀ c a w,Q (.panic c) (a.put oi.dst undef) w→Q (.panic c) a w:=by exact fun _ _ _ h=>h) (hw:Region.wanted oi (yielded ops a.tmps)=false:=by kernel_rfl) (hS:S w:=by assumption):za3 P md ops Q S L (fuel+1) listed a w:=zdW hi hs hQ (Or.inr ⟨hw,rfl⟩) hS h
theorem zfV {i:Nat} {o:Oper} {fuel:Nat} {listed:Array Bool} {a:Act} {w:World} (ho:ops[i]?=some o) (hr:Region.ready md ops listed=[i]) (hL:(listed.setIfInBounds i true).getD L false=true)
 (h:∀ K':Act→World→Prop,Shut (∀ a w,za3 P md ops Q S L fuel (listed.setIfInBounds i true) a w→K' a w)→if Region.wanted o (yielded ops a.tmps)=true then Oper.wp P o a w K' Q else K' (a.put o.dst undef) w):za3 P md ops Q S L (fuel+1) listed a w:=by
 refine ⟨fun h0=>(by rw [hr] at h0;cases h0),fun j hj=>?_⟩;rw [hr] at hj
 obtain rfl:j=i:=by simpa using hj
 exact wpOp_step ho (fun K' hK=>h K' (fun a w hW=>hK a w ⟨fun hn=>(by rw [hL] at hn;cases hn),hW⟩))
theorem zb6 {listed:Array Bool} {a:Act} {w:World} (hr:Region.ready md ops listed=[]) (h:Q .normal a w):∀ fuel,za3 P md ops Q S L fuel listed a w
 | 0=>⟨hr,h⟩
 | _+1=>⟨fun _=>h,by rw [hr];simp⟩
theorem zcy {id:Nat} {a:Act} {w:World} (L:Nat) (S:World→Prop) (hm:P.follows .mixedOrders=true) (hS:S w.drew)
 (h:S w.drew→za3 P .any ops Q S L ops.size (Array.replicate ops.size false) a w.drew):(Code.region id ops true).wp P Q a w:=
 wp_region_any hm (zfU _ _ _ _ (h hS))
end
section
variable {P:Program} {ops:Array Oper} {Q:Exit→Act→World→Prop} {md:Region.Mode} {S:World→Prop} {L:Nat}
theorem zgD {i:Nat} {oi:Oper} {v:Value} (hi:ops[i]?=some oi) (hsel:∀ (j:Nat) (o:Oper) cs b,ops[j]?=some o→o.op≠.select cs b)
 (hQ:∀ c a w,Q (.panic c) (a.put oi.dst v) w→Q (.panic c) a w) (hN:ops.size≤L) :
 ∀ (fuel:Nat) (listed:Array Bool) (a:Act) (w:World),zcT md ops listed→listed.size=ops.size→
  (∀ j oj,ops[j]?=some oj→j≠i→listed.getD j true=false→(∀ e∈oj.after,Region.binds md e=true→e.on≠i)→oi.apart ops oj=true)→
  i∈Region.ready md ops listed→YieldsIf P ops S oi v a→S w→
  za3 P md ops Q S L fuel (listed.setIfInBounds i true) (a.put oi.dst v) w→za3 P md ops Q S L (fuel+1) listed a w:=by
 intro fuel;have hil:i<ops.size:=(Array.getElem?_eq_some_iff.1 hi).1
 have hLi:L≠i:=by omega
 induction fuel with
 | zero=>
  intro listed a w _ _ _ hr hy hS H;refine ⟨fun h=>(by rw [h] at hr;cases hr),fun j hj=>?_⟩
  by_cases hji:j=i
  ·subst hji;exact hy.wpOp hi hS ⟨fun _=>hS,H⟩
  ·have:=ready_mono hj hji
   rw [H.1] at this
   cases this
 | succ fuel ih=>
  intro listed a w hcl hls hfree hr hy hS H;refine ⟨fun h=>(by rw [h] at hr;cases hr),fun j hj=>?_⟩
  by_cases hji:j=i
  ·subst hji;exact hy.wpOp hi hS ⟨fun _=>hS,H⟩
  ·have hjL:j≠L:=fun h=>by
    obtain ⟨_,oj,hoj,_⟩:=mem_ready.1 hj;have:=(Array.getElem?_eq_some_iff.1 hoj).1;omega
   have h1:=H.2 j (ready_mono hj hji);obtain ⟨hjun,oj,hoj,hall⟩:=mem_ready.1 hj
   have hnot:∀ e∈oj.after,Region.binds md e=true→e.on≠i:=fun e he hb heq=>by
    have h1:=hall e he hb;have h0:=zbg (mem_ready.1 hr).1;rw [heq,h0] at h1
    cases h1
   have h2:=wpOp_putIf hoj (hfree j oj hoj hji hjun hnot) (fun cs b=>hsel i oi cs b hi) (fun cs b=>hsel j oj cs b hoj) hQ hy h1
   have hfree':∀ k ok,ops[k]?=some ok→k≠i→(listed.setIfInBounds j true).getD k true=false→
    (∀ e∈ok.after,Region.binds md e=true→e.on≠i)→oi.apart ops ok=true:=fun k ok hk hki hun hno=>by
    refine hfree k ok hk hki ?_ hno
    by_cases hjk:j=k
    ·subst hjk;exact hjun
    ·rw [getD_set_ne true hjk] at hun;exact hun
   have hLn:(listed.setIfInBounds j true).getD L false=false:=by
    rw [getD_set_ne false hjL];rw [Array.getD_eq_getD_getElem?,Array.getElem?_eq_none (by omega)];rfl
   have hLn2:((listed.setIfInBounds i true).setIfInBounds j true).getD L false=false:=by
    rw [← Array.setIfInBounds_comm _ _ hji,getD_set_ne false (Ne.symm hLi)];exact hLn
   refine wpOp_mono (fun a' w' h3=>⟨fun _=>h3.2.1 hLn2,ih (listed.setIfInBounds j true) a' w' (zcU hcl hj) (by simp [hls]) hfree' (ready_mono hr (Ne.symm hji)) h3.1 (h3.2.1 hLn2) ?_⟩) h2;rw [Array.setIfInBounds_comm _ _ hji];exact h3.2.2
theorem zap {i:Nat} {oi:Oper} {v:Value} {fuel:Nat} {listed:Array Bool} {a:Act} {w:World} (hi:ops[i]?=some oi)
 (hs:(Region.noSelect ops&&Region.free md ops listed i&&(Region.ready md ops listed).contains i&&decide (ops.size≤L)&&decide (listed.size=ops.size)&&zbY md ops listed)=true)
 (hQ:∀ c a w,Q (.panic c) (a.put oi.dst v) w→Q (.panic c) a w) (hy:YieldsIf P ops S oi v a) (hS:S w)
 (h:za3 P md ops Q S L fuel (listed.setIfInBounds i true) (a.put oi.dst v) w):za3 P md ops Q S L (fuel+1) listed a w:=by
 simp only [Bool.and_eq_true,decide_eq_true_eq] at hs
 obtain ⟨⟨⟨⟨⟨h1,h2⟩,h3⟩,h4⟩,h5⟩,h6⟩:=hs;exact zgD hi (Region.noSelect_spec h1) hQ h4 fuel listed a w (zea h6) h5 (Region.free_spec hi h2) (by simpa using h3) hy hS h
end
section
variable {P:Program} {ops:Array Oper} {Q:Exit→Act→World→Prop} {md:Region.Mode} {S:World→Prop} {L:Nat}
theorem zbt {i:Nat} {o:Oper} {fuel:Nat} {listed:Array Bool} {a:Act} {w:World} (ho:ops[i]?=some o) (hr:Region.ready md ops listed=[i])
 (h:∀ K':Act→World→Prop,Shut (∀ a w,S w→za3 P md ops Q S L fuel (listed.setIfInBounds i true) a w→K' a w)→if Region.wanted o (yielded ops a.tmps)=true then Oper.wp P o a w K' Q else K' (a.put o.dst undef) w):za3 P md ops Q S L (fuel+1) listed a w:=by
 refine ⟨fun h0=>(by rw [hr] at h0;cases h0),fun j hj=>?_⟩;rw [hr] at hj
 obtain rfl:j=i:=by simpa using hj
 exact wpOp_step ho (fun K' hK=>h K' (fun a w hS hW=>hK a w ⟨fun _=>hS,hW⟩))
theorem ziq {i j:Nat} {o o':Oper} {fuel:Nat} {listed:Array Bool} {a:Act} {w:World} (ho:ops[i]?=some o) (ho':ops[j]?=some o') (hr:Region.ready md ops listed=[i,j])
 (h:∀ K':Act→World→Prop,Shut (∀ a w,S w→za3 P md ops Q S L fuel (listed.setIfInBounds i true) a w→K' a w)→if Region.wanted o (yielded ops a.tmps)=true then Oper.wp P o a w K' Q else K' (a.put o.dst undef) w)
 (h':∀ K':Act→World→Prop,Shut (∀ a w,S w→za3 P md ops Q S L fuel (listed.setIfInBounds j true) a w→K' a w)→if Region.wanted o' (yielded ops a.tmps)=true then Oper.wp P o' a w K' Q else K' (a.put o'.dst undef) w):za3 P md ops Q S L (fuel+1) listed a w:=by
 refine ⟨fun h0=>(by rw [hr] at h0;cases h0),fun k hk=>?_⟩;rw [hr] at hk
 simp only [List.mem_cons,List.not_mem_nil,or_false] at hk
 rcases hk with rfl | rfl
 ·exact wpOp_step ho (fun K' hK=>h K' (fun a w hS hW=>hK a w ⟨fun _=>hS,hW⟩))
 ·exact wpOp_step ho' (fun K' hK=>h' K' (fun a w hS hW=>hK a w ⟨fun _=>hS,hW⟩))
end
theorem zcM {ops:Array Oper} {o:Oper} {a:Act} {w:World} {K:Act→World→Prop} {Q:Exit→Act→World→Prop} {E:Prop}
 (hw:Region.wanted o (yielded ops a.tmps)=true) (x:Operand) (n:Nat) (caps:Array Value) (args:Array Operand) (ty:Array TypeId) (hop:o.op=Op.call { callee:=Callee.value x,args:=args,argTypes:=ty }) (hx:a.eval x=.func (.func n) #[] caps) (vals:Array Value) (hv:args.map a.eval=vals)
 {fn : Func} (hfn : Tryz.prog.funcs[n]? = some fn) (hnm : (fn.name == "runtime.NumGoroutine") = false) (hbd : fn.body.isSome = true)
 {R:Ending→World→Prop} (hc:Calls Tryz.prog n (vals++caps) w R) (hK:∀ e w',R e w'→∃ v,e=.returned v∧K (a.put o.dst v) w') :
 if Region.wanted o (yielded ops a.tmps)=true then Oper.wp Tryz.prog o a w K Q else E:=by
 have hn' : ¬ fn.name = "runtime.NumGoroutine" := by simpa using hnm
 have hb':¬ fn.body=none:=by intro h;rw [h] at hbd;cases hbd
 rw [if_pos hw];unfold Oper.wp
 simp [execOp,hop,hx,resolve,invoke,Result.andThen,Deferred.ofValue,callFunc,Oper.upon,hv,hfn,hn',hb']
 refine hc.mono fun e w' h=>?_;obtain ⟨v,rfl,hk⟩:=hK e w' h;exact hk
end Go.Proofs.YtlpbohnadenacaaGreat
