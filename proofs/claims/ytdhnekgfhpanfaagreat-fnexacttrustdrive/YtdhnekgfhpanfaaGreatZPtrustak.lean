/- withPower over the work that trusts a drive. -/
import Derived.Test.YtdhnekgfhpanfaaGreatRows
import Derived.Test.YtdhnekgfhpanfaaGreatZPtrustaj
set_option linter.unusedVariables false
set_option linter.unusedSimpArgs false
set_option maxHeartbeats 16000000
namespace Go.Proofs.YtdhnekgfhpanfaaGreat
open Go.RowKit F256
set_option maxRecDepth 100000 in
theorem zgs (d:WorldD) (cs:List Value) (hi:Nat) (G k a0 a1:Nat) (w:World) (h:zab.rd w hi d cs) (hhi:hi≤w.heap.size) (hsz:zaS d≤1048576) (hc0:w.cell? ⟨a0,0,none⟩=some (.int .i64 (G:Int))) (hl0:a0<w.heap.size) (hc1:w.cell? ⟨a1,0,none⟩=some (.int .i64 (k:Int))) (hl1:a1<w.heap.size) (hG:G<d.groups.1) (hk:k<(d.groups.2 G).1) (hwr:-9223372036854775808≤d.writes∧d.writes+1≤9223372036854775807) (P:WorldResultD→Prop) (hPf:d.stop≠-1∧d.stop≤d.writes→P ⟨9,cutW d⟩) (hPo:¬ (d.stop≠-1∧d.stop≤d.writes)→P ⟨0,{ zcN d G k with writes:=d.writes+1 }⟩) :
 Calls Tryz.prog 30 #[.agg cs.toArray,.func (.func 45) #[] #[.pointer (some ⟨a0,0,none⟩),.pointer (some ⟨a1,0,none⟩)]] w (zb7 P w):=by
 obtain ⟨v0,v1,v2,v3,v4,v5,v6,v7,v8,vp0,vl0,vq0,vp1,vl1,vq1,vp2,vl2,vq2,v9,v10,vb,rfl⟩:=zgi h;have hmf:∀ (fn:Fn) (first cap:Array Value) (w:World),(Instr.makeFunc fn first cap).run Tryz.prog w=.ok (.func fn first cap) w:=fun _ _ _ _=>rfl;have T0:=zau w #[.int .i64 v0,.int .i64 v1,.int .i64 v2,.int .i64 v3,.int .i64 v4,.int .i64 v5,.int .i64 v6,.int .i64 v7,.int .i64 v8,.slice vp0 vl0 vq0,.slice vp1 vl1 vq1,.slice vp2 vl2 vq2,.int .i64 v9,.int .i64 v10,.bool vb] #[.int .i64 0,.int .i64 0,.int .i64 0,.int .i64 0,.int .i64 0,.int .i64 0,.int .i64 0,.int .i64 0,.int .i64 0,.int .i64 0,.slice none 0 0,.slice none 0 0,.slice none 0 0,.int .i64 0,.int .i64 0,.bool false] 34 36;have CC:=fun w' (hb:Below w.heap.size w w')=>zfE [.int .i64 v0,.int .i64 v1,.int .i64 v2,.int .i64 v3,.int .i64 v4,.int .i64 v5,.int .i64 v6,.int .i64 v7,.int .i64 v8,.slice vp0 vl0 vq0,.slice vp1 vl1 vq1,.slice vp2 vl2 vq2,.int .i64 v9,.int .i64 v10,.bool vb] d hi w' (zab.rd_below h hb hhi) (Nat.le_trans hhi hb.size) hsz;clear h
 go_enter_defers Tryz.func30,Tryz.ntmps30
 go_wp2_with (refine zaq 34 (.tmp 2) rfl rfl (w.heap.size) rfl (T0.b1) Tryz.underlying34 zbz rfl ?_)
 refine (CC _ T0.bel).mono ?_;rintro e w2 ⟨c2,rfl,o2,b2⟩;obtain ⟨u0,u1,u2,u3,u4,u5,u6,u7,u8,up0,ul0,uq0,up1,ul1,uq1,up2,ul2,uq2,u9,u10,ub,rfl⟩:=zgJ o2;have T2:=T0.call b2;have z2:w.heap.size+1<w2.heap.size:=T2.b2.lt;have TB:=zau w2 #[.int .i32 0,.int .u32 0,.int .u32 0,.int .i32 0,.int .u32 0,.int .i64 u0,.int .i64 u1,.int .i64 u2,.int .i64 u3,.int .i64 u4,.int .i64 u5,.int .i64 u6,.int .i64 u7,.int .i64 u8,.slice up0 ul0 uq0,.slice up1 ul1 uq1,.slice up2 ul2 uq2,.int .i64 u9,.int .i64 u10,.bool ub] #[.pointer (some ⟨w2.heap.size,0,none⟩)] 110 64;obtain ⟨K,hk1,hk2,hk3⟩:=o2;have hkz:∀ b,b∈K→w.heap.size≤b∧b<w2.heap.size:=fun b hb=>⟨by have:=hk3 b hb;simp at this;omega,(hk3 b hb).2⟩
 go_upto_region 2 with fail
 obtain ⟨W3,hW3⟩:∃ x,x=(w2.alloc (.cells #[.int .i32 0,.int .u32 0,.int .u32 0,.int .i32 0,.int .u32 0,.int .i64 u0,.int .i64 u1,.int .i64 u2,.int .i64 u3,.int .i64 u4,.int .i64 u5,.int .i64 u6,.int .i64 u7,.int .i64 u8,.slice up0 ul0 uq0,.slice up1 ul1 uq1,.slice up2 ul2 uq2,.int .i64 u9,.int .i64 u10,.bool ub] 110)).alloc (.cells #[.pointer (some ⟨w2.heap.size,0,none⟩)] 64):=⟨_,rfl⟩;rw [← hW3] at TB ⊢;clear hW3;have T3:=T2.call TB.bel;have O3:EncO W3 w2.heap.size d [.int .i64 u0,.int .i64 u1,.int .i64 u2,.int .i64 u3,.int .i64 u4,.int .i64 u5,.int .i64 u6,.int .i64 u7,.int .i64 u8,.slice up0 ul0 uq0,.slice up1 ul1 uq1,.slice up2 ul2 uq2,.int .i64 u9,.int .i64 u10,.bool ub] K:=⟨Lay.own_kept _ hk1 (fun b hb=>TB.bel.block b (hkz b hb).2),hk2,fun hb=>by have:=hkz _ hb;omega⟩;have z3:w2.heap.size+1<W3.heap.size:=TB.b2.lt;have hst:=ziI hk1;have hwt:=zd2 hk1;have q0:W3.cell? ⟨a0,0,none⟩=some (.int .i64 (G:Int)):=(T3.bel.cell (p:=⟨a0,0,none⟩) hl0).trans hc0;have q1:W3.cell? ⟨a1,0,none⟩=some (.int .i64 (k:Int)):=(T3.bel.cell (p:=⟨a1,0,none⟩) hl1).trans hc1;have x5:W3.cell? ⟨w2.heap.size+1,0,none⟩=some (.pointer (some ⟨w2.heap.size,0,none⟩)):=TB.b2.cell 0
 by_cases hf:u10≠-1∧u10≤u9
 ·have hP:P ⟨9,cutW d⟩:=hPf (by rw [← hst,← hwt];exact hf)
  obtain ⟨KC,kc1,kc2,kc3⟩:=zih hk1 hk2;have CF:=zec w2.heap.size u0 u1 u2 u3 u4 u5 u6 u7 u8 up0 ul0 uq0 up1 ul1 uq1 up2 ul2 uq2 u9 u10 ub d K G k W3 TB.b1 a0 a1 q0 q1 (fun x hx=>zab.own_one kc1 x hx) hf.1 hf.2;have HS:Hid (u10=d.stop∧u9=d.writes):=⟨hst,hwt⟩;clear hst hwt hf hPf hPo
  go_wp2_with (go_at_call 45;refine CF.mono ?_;rintro e w5 ⟨rfl,X5,C5⟩)
  have hR5:=T3.b2.chgl C5 (by simp;omega);have P5:=TB.b2.chgl C5 (by simp);refine leaves_cons (f:=57) (args:=#[.pointer (some ⟨w.heap.size+1,0,none⟩),.pointer (some ⟨w2.heap.size+1,0,none⟩)]) (by simp) (by simp [go_sem]) ?_;refine (zhj _ _ (w.heap.size+1) (w2.heap.size+1) w2.heap.size 0 1 0 _ _ _ _ _ _ _ _ _ _ _ _ _ _ _ _ _ _ _ _ _ _ hR5 (P5.cell 0) X5 (by omega) (by omega)).mono ?_;rintro e u' w7 ⟨rfl,rfl,R7,C7⟩
  simp only [settle,Leaves,List.dropWhile]
  have z5:=C5.size;have z7:=C7.size;have B5:Below w.heap.size w w5:=T3.bel.trans (C5.bel (fun b hb=>by simp at hb;omega) T3.bel.size);have B7:Below w.heap.size w w7:=B5.trans (C7.bel (fun b hb=>by simp at hb;omega) B5.size)
  have O7:OwnT zab w7 w.heap.size w7.heap.size (cutW d) [.int .i64 u0,.int .i64 u1,.int .i64 u2,.int .i64 u3,.int .i64 u4,.int .i64 u5,.int .i64 u6,.int .i64 u7,.int .i64 u8,.slice up0 ul0 uq0,.slice none 0 0,.slice up2 ul2 uq2,.int .i64 u9,.int .i64 u10,.bool true]:=by
   refine ⟨KC,?_,kc2,fun b hb=>⟨(hkz b (kc3 b hb)).1,by have:=hkz b (kc3 b hb);omega⟩⟩;refine Lay.own_chgL _ (Lay.own_chgL _ (Lay.own_kept _ kc1 (fun b hb=>TB.bel.block b (hkz b (kc3 b hb)).2)) C5 (fun b hb hm=>?_)) C7 (fun b hb hm=>?_)
   ·simp at hm;have:=hkz b (kc3 b hb);omega
   ·simp at hm;have:=hk3 b (kc3 b hb);have:=T0.b2.lt;omega
  have hT:zb7 P w (.returned (.agg #[.int .i64 9,.int .i64 u0,.int .i64 u1,.int .i64 u2,.int .i64 u3,.int .i64 u4,.int .i64 u5,.int .i64 u6,.int .i64 u7,.int .i64 u8,.slice up0 ul0 uq0,.slice none 0 0,.slice up2 ul2 uq2,.int .i64 u9,.int .i64 u10,.bool true])) w7:=by
   refine ⟨⟨9,_⟩,[.int .i64 9,.int .i64 u0,.int .i64 u1,.int .i64 u2,.int .i64 u3,.int .i64 u4,.int .i64 u5,.int .i64 u6,.int .i64 u7,.int .i64 u8,.slice up0 ul0 uq0,.slice none 0 0,.slice up2 ul2 uq2,.int .i64 u9,.int .i64 u10,.bool true],rfl,hP,?_,B7⟩;exact zb0 9 (by decide) O7
  exact ⟨_,results_cell_row Tryz.results30 _ w7 (w.heap.size+1) 36 #[.int .i64 9,.int .i64 u0,.int .i64 u1,.int .i64 u2,.int .i64 u3,.int .i64 u4,.int .i64 u5,.int .i64 u6,.int .i64 u7,.int .i64 u8,.slice up0 ul0 uq0,.slice none 0 0,.slice up2 ul2 uq2,.int .i64 u9,.int .i64 u10,.bool true] (0,0) (.struct _) rfl R7 Tryz.underlying36 rfl (by rw [zaK];rfl),hT⟩
 ·have hP:P ⟨0,{ zcN d G k with writes:=d.writes+1 }⟩:=hPo (by rw [← hst,← hwt];exact hf)
  have CF:=(zfA w2.heap.size u0 u1 u2 u3 u4 u5 u6 u7 u8 up0 ul0 uq0 up1 ul1 uq1 up2 ul2 uq2 u9 u10 ub d K G k W3 TB.b1 a0 a1 q0 q1 O3 hG hk hf hwr).mono (R':=fun e w'=>e=.returned (.tuple #[])∧∃ y0 y1 y2 y3 y4 y5 y6 y7 y8 yp0 yl0 yq0 yp1 yl1 yq1 yp2 yl2 yq2 y9 y10 yb K',Box w' w2.heap.size #[.int .i32 0,.int .u32 0,.int .u32 0,.int .i32 0,.int .u32 0,.int .i64 y0,.int .i64 y1,.int .i64 y2,.int .i64 y3,.int .i64 y4,.int .i64 y5,.int .i64 y6,.int .i64 y7,.int .i64 y8,.slice yp0 yl0 yq0,.slice yp1 yl1 yq1,.slice yp2 yl2 yq2,.int .i64 y9,.int .i64 y10,.bool yb] 110∧EncO w' w2.heap.size { zcN d G k with writes:=d.writes+1 } [.int .i64 y0,.int .i64 y1,.int .i64 y2,.int .i64 y3,.int .i64 y4,.int .i64 y5,.int .i64 y6,.int .i64 y7,.int .i64 y8,.slice yp0 yl0 yq0,.slice yp1 yl1 yq1,.slice yp2 yl2 yq2,.int .i64 y9,.int .i64 y10,.bool yb] K'∧(∀ b,b∈K'→b∈K∨W3.heap.size≤b)∧ChgL (w2.heap.size::K) W3 w') (fun e w' ⟨he,cs',K',hX',hO',hs',hC'⟩=>by
   obtain ⟨y0,y1,y2,y3,y4,y5,y6,y7,y8,yp0,yl0,yq0,yp1,yl1,yq1,yp2,yl2,yq2,y9,y10,yb,rfl⟩:=zeO hO'.own
   exact ⟨he,y0,y1,y2,y3,y4,y5,y6,y7,y8,yp0,yl0,yq0,yp1,yl1,yq1,yp2,yl2,yq2,y9,y10,yb,K',hX',hO',hs',hC'⟩)
  have hRK:w.heap.size+1∉w2.heap.size::K:=fun hm=>by
   rcases List.mem_cons.1 hm with h | h
   ·omega
   ·have:=hk3 _ h;have:=T0.b2.lt;omega
  clear hst hwt hf hPf hPo
  go_wp2_with (first | (go_at_call 45;refine CF.mono ?_;rintro e w5 ⟨rfl,y0,y1,y2,y3,y4,y5,y6,y7,y8,yp0,yl0,yq0,yp1,yl1,yq1,yp2,yl2,yq2,y9,y10,yb,K5,X5,O5,s5,C5⟩;have hR5:=T3.b2.chgl C5 hRK) | (refine zaq 36 (.tmp 4) rfl rfl (w.heap.size+1) rfl (hR5) Tryz.underlying36 zaK rfl ?_) | (refine zaR 36 _ _ rfl rfl (w.heap.size+1) rfl (cs:=[.int .i64 0,.int .i64 0,.int .i64 0,.int .i64 0,.int .i64 0,.int .i64 0,.int .i64 0,.int .i64 0,.int .i64 0,.int .i64 0,.slice none 0 0,.slice none 0 0,.slice none 0 0,.int .i64 0,.int .i64 0,.bool false]) rfl hR5 zaK rfl rfl (zb8 0 (by decide) w) ?_;intro w6 R6 C6 z6))
  have z5:=C5.size
  have P5:=TB.b2.chgl C5 (fun hm=>by
   rcases List.mem_cons.1 hm with h | h
   ·omega
   ·have:=hkz _ h;omega)
  have P6:=P5.chgl C6 (by simp;omega);have X6:=X5.chgl C6 (by simp;omega);refine leaves_cons (f:=57) (args:=#[.pointer (some ⟨w.heap.size+1,0,none⟩),.pointer (some ⟨w2.heap.size+1,0,none⟩)]) (by simp) (by simp [go_sem]) ?_;refine (zh1 (w.heap.size+1) (w2.heap.size+1) w2.heap.size 0 0 0 _ _ _ _ _ _ _ _ _ _ _ _ _ _ _ _ _ _ _ _ _ _ R6 (P6.cell 0) X6 (by omega) (by omega)).mono ?_;rintro e u' w7 ⟨rfl,rfl,R7,C7⟩
  simp only [settle,Leaves]
  have z7:=C7.size
  have hK5:∀ b,b∈K5→w.heap.size≤b∧b≠w.heap.size+1:=fun b hb=>by
   rcases s5 b hb with h | h
   ·exact ⟨(hkz b h).1,fun e=>hRK (by rw [← e];exact List.mem_cons_of_mem _ h)⟩
   ·omega
  have B5:Below w.heap.size w w5:=T3.bel.trans (C5.bel (fun b hb=>by
   rcases List.mem_cons.1 hb with h | h
   ·omega
   ·exact (hkz b h).1) T3.bel.size)
  have B6:Below w.heap.size w w6:=B5.trans (C6.bel (fun b hb=>by simp at hb;omega) B5.size);have B7:Below w.heap.size w w7:=B6.trans (C7.bel (fun b hb=>by simp at hb;omega) B6.size)
  have O7:OwnT zab w7 w.heap.size w7.heap.size { zcN d G k with writes:=d.writes+1 } [.int .i64 y0,.int .i64 y1,.int .i64 y2,.int .i64 y3,.int .i64 y4,.int .i64 y5,.int .i64 y6,.int .i64 y7,.int .i64 y8,.slice yp0 yl0 yq0,.slice yp1 yl1 yq1,.slice yp2 yl2 yq2,.int .i64 y9,.int .i64 y10,.bool yb]:=by
   have h5:=fun b hb=>zab.own_lt O5.own b hb;refine ⟨K5,?_,O5.nd,fun b hb=>⟨(hK5 b hb).1,by have:=h5 b hb;omega⟩⟩;exact Lay.own_chgL _ (Lay.own_chgL _ O5.own C6 (fun b hb hm=>by simp at hm;exact (hK5 b hb).2 hm)) C7 (fun b hb hm=>by simp at hm;exact (hK5 b hb).2 hm)
  have hT:zb7 P w (.returned (.agg #[.int .i64 0,.int .i64 y0,.int .i64 y1,.int .i64 y2,.int .i64 y3,.int .i64 y4,.int .i64 y5,.int .i64 y6,.int .i64 y7,.int .i64 y8,.slice yp0 yl0 yq0,.slice yp1 yl1 yq1,.slice yp2 yl2 yq2,.int .i64 y9,.int .i64 y10,.bool yb])) w7:=by
   refine ⟨⟨0,_⟩,[.int .i64 0,.int .i64 y0,.int .i64 y1,.int .i64 y2,.int .i64 y3,.int .i64 y4,.int .i64 y5,.int .i64 y6,.int .i64 y7,.int .i64 y8,.slice yp0 yl0 yq0,.slice yp1 yl1 yq1,.slice yp2 yl2 yq2,.int .i64 y9,.int .i64 y10,.bool yb],rfl,hP,?_,B7⟩;exact zb0 0 (by decide) O7
  exact ⟨_,results_cell_row Tryz.results30 _ w7 (w.heap.size+1) 36 #[.int .i64 0,.int .i64 y0,.int .i64 y1,.int .i64 y2,.int .i64 y3,.int .i64 y4,.int .i64 y5,.int .i64 y6,.int .i64 y7,.int .i64 y8,.slice yp0 yl0 yq0,.slice yp1 yl1 yq1,.slice yp2 yl2 yq2,.int .i64 y9,.int .i64 y10,.bool yb] (0,0) (.struct _) rfl R7 Tryz.underlying36 rfl (by rw [zaK];rfl),hT⟩
structure Cap2 (w wc:World) (c1:Array Value) (x y:Int) (c4:Array Value) (t1 t4:TypeId):Prop where
 b1:Box wc w.heap.size c1 t1
 b2:Box wc (w.heap.size+1) #[.int .i64 x] 2
 b3:Box wc (w.heap.size+1+1) #[.int .i64 y] 2
 b4:Box wc (w.heap.size+1+1+1) c4 t4
 bel:Below w.heap.size w wc
theorem zil (w:World) (c1 c4:Array Value) (x y:Int) (t1 t4:TypeId):Cap2 w ((((w.alloc (.cells c1 t1)).alloc (.cells #[.int .i64 x] 2)).alloc (.cells #[.int .i64 y] 2)).alloc (.cells c4 t4)) c1 x y c4 t1 t4:=by
 have A:=zau w c1 #[.int .i64 x] t1 2;have B:=zau ((w.alloc (.cells c1 t1)).alloc (.cells #[.int .i64 x] 2)) #[.int .i64 y] c4 2 t4
 have e:((w.alloc (.cells c1 t1)).alloc (.cells #[.int .i64 x] 2)).heap.size=w.heap.size+1+1:=by simp
 have A':=A.call B.bel;obtain ⟨B1,B2,_⟩:=B;rw [e] at B1 B2;exact ⟨A'.b1,A'.b2,B1,B2,A'.bel⟩
theorem Cap2.call {w wc w':World} {c1 c4:Array Value} {x y:Int} {t1 t4:TypeId} (h:Cap2 w wc c1 x y c4 t1 t4) (hb:Below wc.heap.size wc w'):Cap2 w w' c1 x y c4 t1 t4:=⟨h.b1.call hb,h.b2.call hb,h.b3.call hb,h.b4.call hb,h.bel.trans (hb.mono h.bel.size)⟩
theorem zdi {P:WorldResultD→Prop} {w wc w9:World} {x:Int} {r:Nat} (hr:w.heap.size≤r) (hx:-9223372036854775808≤x∧x≤9223372036854775807) (hb:Below w.heap.size w wc) (hc:ChgL [r] wc w9) (hP:P ⟨x,zd8⟩):zb7 P w (.returned (.agg #[.int .i64 x,.int .i64 0,.int .i64 0,.int .i64 0,.int .i64 0,.int .i64 0,.int .i64 0,.int .i64 0,.int .i64 0,.int .i64 0,.slice none 0 0,.slice none 0 0,.slice none 0 0,.int .i64 0,.int .i64 0,.bool false])) w9:=
 ⟨⟨x,zd8⟩,[.int .i64 x,.int .i64 0,.int .i64 0,.int .i64 0,.int .i64 0,.int .i64 0,.int .i64 0,.int .i64 0,.int .i64 0,.int .i64 0,.slice none 0 0,.slice none 0 0,.slice none 0 0,.int .i64 0,.int .i64 0,.bool false],rfl,hP,zcQ _ x hx _ _,hb.trans (hc.bel (fun b hb=>by simp at hb;omega) hb.size)⟩
set_option maxRecDepth 20000 in
theorem zeW (d:WorldD) (g k:Int) (cs:List Value) (hi:Nat) (w:World) (h:zab.rd w hi d cs) (hhi:hi≤w.heap.size) (hsz:zaS d≤1048576) (hg:-9223372036854775808≤g∧g≤9223372036854775807) (hk:-9223372036854775808≤k∧k≤9223372036854775807) :
 Calls Tryz.prog 15 #[.agg cs.toArray,.int .i64 g,.int .i64 k] w (zb7 (TrustAns d g k) w):=by
 have h':=h;obtain ⟨ao1,cap1,ao2,cap2,ao3,cap3,rfl,g1,g2,g3,k0,k4,k5⟩:=zaI h';have HRD:=hid h;have HSZ:=hid hsz;have hmf:∀ (fn:Fn) (first cap:Array Value) (w:World),(Instr.makeFunc fn first cap).run Tryz.prog w=.ok (.func fn first cap) w:=fun _ _ _ _=>rfl;clear h h' hsz g1 g2 g3 k0 k4 k5 hg hk;have T0:=zil w (rwW d ao1 cap1 ao2 cap2 ao3 cap3).toArray rwZ.toArray g k 34 36
 go_enter Tryz.func15,Tryz.ntmps15
 go_wp2_with (refine zaq 34 (.tmp 3) rfl rfl (w.heap.size) rfl (T0.b1) Tryz.underlying34 zbz rfl ?_)
 refine (zgk d _ hi _ (zab.rd_below HRD.out T0.bel hhi) (Nat.le_trans hhi T0.bel.size) HSZ.out).mono ?_;rintro e w1 ⟨x,rfl,hx,b1⟩;have HT1:=hid (T0.call b1);have HX:=hid hx;have z1:w.heap.size+1+1+1<w1.heap.size:=HT1.out.b4.lt;clear b1 T0 hx
 by_cases hx0:x=0
 case neg=>
  have hne:(x != 0)=true:=by simp [hx0]
  go_wp2_with (refine zaR 36 _ _ rfl rfl (w.heap.size+1+1+1) rfl (cs:=(.int .i64 x::rwY)) rfl (HT1.out.b4) zaK rfl rfl (zb8 _ (zc6 HX.out) w) ?_;intro w9 X9 C9 z9)
  refine zbT Tryz.results15 rfl X9 Tryz.underlying36 zaK rfl rfl ?_;exact zdi (by omega) (zc6 HX.out) HT1.out.bel C9 (.inl ⟨x,hx0,HX.out,rfl⟩)
 subst hx0;have HOK:=hid (zhR HX.out);have x_0:w1.cell? ⟨w.heap.size,0,none⟩=some (.int .i64 (d.shape 0)):=HT1.out.b1.cell 0;have x_1:w1.cell? ⟨w.heap.size,1,none⟩=some (.int .i64 (d.shape 1)):=HT1.out.b1.cell 1;have x_2:w1.cell? ⟨w.heap.size,2,none⟩=some (.int .i64 (d.shape 2)):=HT1.out.b1.cell 2;have x_3:w1.cell? ⟨w.heap.size,3,none⟩=some (.int .i64 (d.shape 3)):=HT1.out.b1.cell 3;have x_4:w1.cell? ⟨w.heap.size,4,none⟩=some (.int .i64 (d.shape 4)):=HT1.out.b1.cell 4;have x_5:w1.cell? ⟨w.heap.size,5,none⟩=some (.int .i64 (d.shape 5)):=HT1.out.b1.cell 5;have x_6:w1.cell? ⟨w.heap.size,6,none⟩=some (.int .i64 (d.shape 6)):=HT1.out.b1.cell 6;have x_7:w1.cell? ⟨w.heap.size,7,none⟩=some (.int .i64 (d.shape 7)):=HT1.out.b1.cell 7;have x_8:w1.cell? ⟨w.heap.size,8,none⟩=some (.int .i64 (d.shape 8)):=HT1.out.b1.cell 8;have xg:w1.cell? ⟨w.heap.size+1,0,none⟩=some (.int .i64 g):=HT1.out.b2.cell 0;have xk:w1.cell? ⟨w.heap.size+1+1,0,none⟩=some (.int .i64 k):=HT1.out.b3.cell 0;have CP:=fun w'=>zgm d.shape HOK.out.shape g k w';unfold zai at CP
 go_wp2_with fail
 refine (CP _).mono ?_;rintro e wA ⟨b,rfl,hb,bA⟩;have HTA:=hid (HT1.out.call bA);have zA:w1.heap.size≤wA.heap.size:=bA.size;have Hb:=hid hb;clear bA CP hb xg xk x_0 x_1 x_2 x_3 x_4 x_5 x_6 x_7 x_8
 cases b with
 | false=>
  go_wp2_with (refine zaR 36 _ _ rfl rfl (w.heap.size+1+1+1) rfl (cs:=(.int .i64 3::rwY)) rfl (HTA.out.b4) zaK rfl rfl (zb8 _ (by decide) w) ?_;intro w9 X9 C9 z9)
  refine zbT Tryz.results15 rfl X9 Tryz.underlying36 zaK rfl rfl ?_;exact zdi (by omega) (by decide) HTA.out.bel C9 (.inr ⟨HX.out,.inl ⟨fun h=>(by have:=Hb.out.2 h;cases this),rfl⟩⟩)
 | true=>
 have HD:Hid (zcB d.shape g k):=Hb.out.1 (by simp);have xg:wA.cell? ⟨w.heap.size+1,0,none⟩=some (.int .i64 g):=HTA.out.b2.cell 0
 go_wp2_with (refine zaq 34 (.tmp 3) rfl rfl (w.heap.size) rfl (HTA.out.b1) Tryz.underlying34 zbz rfl ?_)
 refine (zif d _ hi g _ (zab.rd_below HRD.out HTA.out.bel hhi) (Nat.le_trans hhi HTA.out.bel.size)).mono ?_;rintro e w4 ⟨t,rfl,ht,b4⟩;have HT4:=hid (HTA.out.call b4);have z4:wA.heap.size≤w4.heap.size:=b4.size;have HH:=hid ht;clear b4 ht xg
 cases t with
 | false=>
  go_wp2_with (refine zaR 36 _ _ rfl rfl (w.heap.size+1+1+1) rfl (cs:=(.int .i64 8::rwY)) rfl (HT4.out.b4) zaK rfl rfl (zb8 _ (by decide) w) ?_;intro w9 X9 C9 z9)
  refine zbT Tryz.results15 rfl X9 Tryz.underlying36 zaK rfl rfl ?_;exact zdi (by omega) (by decide) HT4.out.bel C9 (.inr ⟨HX.out,.inr ⟨HD.out,.inl ⟨fun h=>(by have:=HH.out.2 h;cases this),rfl⟩⟩⟩)
 | true=>
 have HON:Hid (HasP d.on.1 d.on.2 g):=HH.out.1 (by simp);obtain ⟨G,K,rfl,rfl,hG,hK⟩:=zeM HOK.out HD.out;have CW:=zgs d (rwW d ao1 cap1 ao2 cap2 ao3 cap3) hi G K (w.heap.size+1) (w.heap.size+1+1) w4 (zab.rd_below HRD.out HT4.out.bel hhi) (Nat.le_trans hhi HT4.out.bel.size) HSZ.out (HT4.out.b2.cell 0) HT4.out.b2.lt (HT4.out.b3.cell 0) HT4.out.b3.lt hG hK (zeR HOK.out) (TrustAns d G K) (fun hf=>.inr ⟨HX.out,.inr ⟨HD.out,.inr ⟨HON.out,.inl ⟨hf,rfl⟩⟩⟩⟩) (fun hf=>.inr ⟨HX.out,.inr ⟨HD.out,.inr ⟨HON.out,.inr ⟨hf,rfl⟩⟩⟩⟩)
 have CW:=CW.mono (R':=fun e w'=>∃ d' sc s0 s1 s2 s3 s4 s5 s6 s7 s8 sp0 sl0 sq0 sp1 sl1 sq1 sp2 sl2 sq2 s9 s10 sb,e=.returned (.agg (.int .i64 sc::rwV s0 s1 s2 s3 s4 s5 s6 s7 s8 sp0 sl0 sq0 sp1 sl1 sq1 sp2 sl2 sq2 s9 s10 sb).toArray)∧TrustAns d G K d'∧OwnT zav w' w4.heap.size w'.heap.size d' (.int .i64 sc::rwV s0 s1 s2 s3 s4 s5 s6 s7 s8 sp0 sl0 sq0 sp1 sl1 sq1 sp2 sl2 sq2 s9 s10 sb)∧Below w4.heap.size w4 w') (fun e w' ⟨d',cs',he,hP,ho,hb⟩=>by
  obtain ⟨sc,s0,s1,s2,s3,s4,s5,s6,s7,s8,sp0,sl0,sq0,sp1,sl1,sq1,sp2,sl2,sq2,s9,s10,sb,rfl⟩:=zgI ho.rd
  exact ⟨d',sc,s0,s1,s2,s3,s4,s5,s6,s7,s8,sp0,sl0,sq0,sp1,sl1,sq1,sp2,sl2,sq2,s9,s10,sb,he,hP,ho,hb⟩)
 go_wp2_with (first | (refine zaq 34 (.tmp 3) rfl rfl (w.heap.size) rfl (HT4.out.b1) Tryz.underlying34 zbz rfl ?_) | (go_at_call 30;refine CW.mono ?_;rintro e w5 ⟨d',sc,s0,s1,s2,s3,s4,s5,s6,s7,s8,sp0,sl0,sq0,sp1,sl1,sq1,sp2,sl2,sq2,s9,s10,sb,rfl,hP,o5,b5⟩;have T5:=HT4.out.call b5;have z5:w4.heap.size≤w5.heap.size:=b5.size) | (refine zaR 36 _ _ rfl rfl (w.heap.size+1+1+1) rfl (cs:=(.int .i64 sc::rwV s0 s1 s2 s3 s4 s5 s6 s7 s8 sp0 sl0 sq0 sp1 sl1 sq1 sp2 sl2 sq2 s9 s10 sb)) rfl (T5.b4) zaK rfl rfl (o5.one) ?_;intro w9 X9 C9 z9))
 refine zbT Tryz.results15 rfl X9 Tryz.underlying36 zaK rfl rfl ?_;refine ⟨d',(.int .i64 sc::rwV s0 s1 s2 s3 s4 s5 s6 s7 s8 sp0 sl0 sq0 sp1 sl1 sq1 sp2 sl2 sq2 s9 s10 sb),rfl,hP,(o5.chgk C9 (fun b hb=>by simp at hb;omega)).weaken (by omega) C9.size,T5.bel.trans (C9.bel (fun b hb=>by simp at hb;omega) T5.bel.size)⟩
end Go.Proofs.YtdhnekgfhpanfaaGreat
namespace Go.Proofs.YtdhnekgfhpanfaaGreat
open Go.ChangeShapes Go.WideShapes Go.ChangeAt Go.RowKit F256
theorem ziJ {w:World} {b:Nat} {t:TypeId} {a0 a1 a2 a3 a4 a5 a6 a7 a8 a9 a10 a11 a12 a13 a14:Value} (h:Box w b #[a0,a1,a2,a3,a4,a5,a6,a7,a8,a9,a10,a11,a12,a13,a14] t) :
 w.cell? ⟨b,0,none⟩=some a0∧w.cell? ⟨b,1,none⟩=some a1∧w.cell? ⟨b,2,none⟩=some a2∧w.cell? ⟨b,3,none⟩=some a3∧w.cell? ⟨b,4,none⟩=some a4∧w.cell? ⟨b,5,none⟩=some a5∧w.cell? ⟨b,6,none⟩=some a6∧w.cell? ⟨b,7,none⟩=some a7∧w.cell? ⟨b,8,none⟩=some a8∧w.cell? ⟨b,9,none⟩=some a9∧w.cell? ⟨b,10,none⟩=some a10∧w.cell? ⟨b,11,none⟩=some a11∧w.cell? ⟨b,12,none⟩=some a12∧w.cell? ⟨b,13,none⟩=some a13∧w.cell? ⟨b,14,none⟩=some a14:=
 ⟨h.cell 0,h.cell 1,h.cell 2,h.cell 3,h.cell 4,h.cell 5,h.cell 6,h.cell 7,h.cell 8,h.cell 9,h.cell 10,h.cell 11,h.cell 12,h.cell 13,h.cell 14⟩
theorem zh2 {α:Type} (c:α→Nat) (x:Nat→α) (k:Nat) (a:α):∀ n:Nat,sumN (fun i=>c (upd x k a i)) n≤sumN (fun i=>c (x i)) n+(if k<n then c a else 0)
 | 0=>by simp [sumN]
 | n+1=>by
  have ih:=zh2 c x k a n;rw [zaM,zaM]
  by_cases h:n=k
  ·subst h
   rw [zaO,if_pos (by omega)];rw [if_neg (by omega)] at ih;omega
  ·rw [zaT x a h]
   by_cases h2:k<n
   ·rw [if_pos h2] at ih;rw [if_pos (by omega)];omega
   ·rw [if_neg h2] at ih;rw [if_neg (by omega)];omega
theorem zh3 {α:Type} (c:α→Nat) (p:Nat×(Nat→α)) (k:Nat) (a:α):cSl c (p.1,upd p.2 k a)≤cSl c p+c a:=by
 have:=zh2 c p.2 k a p.1;unfold cSl
 show sumN (fun i=>c (upd p.2 k a i)) p.1≤_
 split at this<;>omega
theorem ziX (d:WorldD):∃ x,AskAns d x:=by
 obtain ⟨x,hx⟩:=zh9 d
 by_cases h:x=0
 ·subst h
  cases hd:d.down with
  | true=>exact ⟨9,.inr ⟨hx,.inl ⟨hd,rfl⟩⟩⟩
  | false=>exact ⟨0,.inr ⟨hx,.inr ⟨hd,rfl⟩⟩⟩
 ·exact ⟨x,.inl ⟨h,hx⟩⟩
theorem zim (d:WorldD) (g k:Int):∃ q,TrustAns d g k q:=by
 obtain ⟨x,hx⟩:=ziX d
 by_cases h:x=0
 ·subst h
  by_cases h1:zcB d.shape g k
  ·by_cases h2:HasP d.on.1 d.on.2 g
   ·by_cases h3:zgL d
    ·exact ⟨_,.inr ⟨hx,.inr ⟨h1,.inr ⟨h2,.inl ⟨h3,rfl⟩⟩⟩⟩⟩
    ·exact ⟨_,.inr ⟨hx,.inr ⟨h1,.inr ⟨h2,.inr ⟨h3,rfl⟩⟩⟩⟩⟩
   ·exact ⟨_,.inr ⟨hx,.inr ⟨h1,.inl ⟨h2,rfl⟩⟩⟩⟩
  ·exact ⟨_,.inr ⟨hx,.inl ⟨h1,rfl⟩⟩⟩
 ·exact ⟨_,.inl ⟨x,h,hx,rfl⟩⟩
theorem zin {d:WorldD} {g k:Int} {q:WorldResultD} (hq:TrustAns d g k q) (hsz:zaS d≤1048576):zaY q≤90000000:=by
 have h1:=zel d
 rcases hq with ⟨x,_,_,rfl⟩ | ⟨h0,⟨_,rfl⟩ | ⟨hp,⟨_,rfl⟩ | ⟨_,⟨_,rfl⟩ | ⟨_,rfl⟩⟩⟩⟩
 ·exact Nat.zero_le _
 ·exact Nat.zero_le _
 ·exact Nat.zero_le _
 ·have e:za0 (cutW d)+d.on.1=za0 d:=by
   unfold za0 lenD
   show (cSl (cSl zad)) d.groups+0+(cSl zaE) d.tapes+d.on.1=_
   omega
  show za0 (cutW d)≤_
  omega
 ·obtain ⟨G,K,rfl,rfl,hG,hK⟩:=zeM (zhR h0) hp
  have hs:szSl (szSl zam) d.groups≤1048576:=by unfold zaS at hsz;omega
  have h2:=zh3 (cSl zad) d.groups G ((d.groups.2 G).1,upd (d.groups.2 G).2 K (zc8 ((d.groups.2 G).2 K)));have h3:=zh3 zad (d.groups.2 G) K (zc8 ((d.groups.2 G).2 K));have h4:=zek (k:=6) zdQ (d.groups.2 G);have h5:szSl zam (d.groups.2 G)≤1048576:=za4 hs hG;have h6:zad (zc8 ((d.groups.2 G).2 K))=zad ((d.groups.2 G).2 K):=rfl;have h7:=zdQ ((d.groups.2 G).2 K);have h8:zam ((d.groups.2 G).2 K)≤1048576:=za4 h5 hK
  show za0 (zeQ d G K)≤_
  unfold za0 at h1 ⊢
  show (cSl (cSl zad)) (d.groups.1,upd d.groups.2 G ((d.groups.2 G).1,upd (d.groups.2 G).2 K (zc8 ((d.groups.2 G).2 K))))+lenD d.on+(cSl zaE) d.tapes≤_
  omega
theorem zfF {d:WorldD} {g k:Int} {q:WorldResultD} {w:World} {f:Nat} {args:Array Value} (hq:TrustAns d g k q) (h:Calls Tryz.prog f args w (zb7 (TrustAns d g k) w)):Calls Tryz.prog f args w fun e w'=>∃ cs,e=.returned (.agg cs.toArray)∧OwnT zav w' w.heap.size w'.heap.size q cs∧Below w.heap.size w w':=
 h.mono fun e w' ⟨d',cs,h1,h2,h3,h4⟩=>⟨cs,h1,by rw [hq.one h2];exact h3,h4⟩
set_option maxRecDepth 20000 in
theorem zcm (d:WorldD) (cs:List Value) (i0:Int) (i1:Int) (w:World) (rd0:zab.rd w w.heap.size d cs) (hi0:-9223372036854775808≤i0∧i0≤9223372036854775807) (hi1:-9223372036854775808≤i1∧i1≤9223372036854775807) :
 Calls Tryz.prog 4 #[.agg cs.toArray,.int .i64 i0,.int .i64 i1] w fun e w'=>e=.returned (.bool true)∧Below w.heap.size w w':=by
 obtain ⟨v0,v1,v2,v3,v4,v5,v6,v7,v8,vp0,vl0,vq0,vp1,vl1,vq1,vp2,vl2,vq2,v9,v10,vb,rfl⟩:=zgi rd0;have HR:=hid rd0;have HHi0:=hid hi0;have HHi1:=hid hi1;clear rd0 hi0 hi1;have T0:=zaD w (rwV v0 v1 v2 v3 v4 v5 v6 v7 v8 vp0 vl0 vq0 vp1 vl1 vq1 vp2 vl2 vq2 v9 v10 vb).toArray 28
 go_enter Tryz.func4,Tryz.ntmps4
 go_wp2_with (refine zaq 28 (.tmp 3) rfl rfl (w.heap.size) rfl T0.b1 Tryz.underlying28 zeC rfl ?_)
 refine (zg6 _ d w.heap.size 1048576 _ (zab.rd_below HR.out T0.bel (Nat.le_refl _)) T0.bel.size (by omega)).mono ?_;rintro e w1 ⟨x,rfl,hx,b1⟩;have T1:=T0.call b1;have HT1:=hid T1;clear b1 T0
 rcases hx with rfl | ⟨hsz,hx⟩
 ·clear T1
  go_wp2;go_ret;exact ⟨rfl,HT1.out.bel⟩
 have hx0:¬ x<0:=by omega
 clear hx;obtain ⟨q,hq⟩:=zim d i0 i1;obtain ⟨N,hN⟩:∃ N,N=1+zaY q:=⟨_,rfl⟩
 have hj:1+zaY q≤100000000:=by have:=zin hq hsz;omega
 obtain ⟨M,hM⟩:∃ M,M=1+za0 d:=⟨_,rfl⟩
 have hk:1+za0 d≤100000000:=by have:=zel d;omega
 have CT:∀ w',Below w1.heap.size w1 w'→Calls Tryz.prog 7 #[.agg (rwV v0 v1 v2 v3 v4 v5 v6 v7 v8 vp0 vl0 vq0 vp1 vl1 vq1 vp2 vl2 vq2 v9 v10 vb).toArray] w' fun e w''=>∃ cs',e=.returned (.agg cs'.toArray)∧OwnT zab w'' w'.heap.size w''.heap.size d cs'∧Below w'.heap.size w' w'':=fun w' hb=>
  zgZ _ d w.heap.size w' (zab.rd_below (zab.rd_below HR.out HT1.out.bel (Nat.le_refl _)) hb HT1.out.bel.size) (Nat.le_trans HT1.out.bel.size hb.size) hsz
 have CS:=fun (cs':List Value) (hi:Nat) (w':World) (h1:zab.rd w' hi d cs') (h2:hi≤w'.heap.size)=>zfF hq (zeT d i0 i1 cs' hi w' h1 h2 hsz HHi0.out HHi1.out);have CI:=fun (cs':List Value) (hi:Nat) (w':World) (h1:zab.rd w' hi d cs') (h2:hi≤w'.heap.size)=>zfF hq (zeW d i0 i1 cs' hi w' h1 h2 hsz HHi0.out HHi1.out);have CE:=fun c1 c2 h1 h2 w'=>zdv c1 c2 q h1 h2 w';have CW:=fun c1 c2 h1 h2 w'=>zeg c1 c2 d h1 h2 w';have CM:=fun {w':World} {lo hi:Nat} {cs:List Value} (h:OwnT zav w' lo hi q cs)=>zis zc1 h 1 hj;have CK:=fun {w':World} {lo hi:Nat} {cs:List Value} (h:OwnT zab w' lo hi d cs)=>zis zdk h 1 hk;have CH:=fun (cs:List Value) (hi:Nat) (w':World) (h:zav.rd w' hi (zbt 1 q) cs) (hh:hi≤w'.heap.size)=>zc2 cs q hi 1 w' h hh hj;rw [← hN] at CM CH;rw [← hM] at CK;clear hN hM hj hk hq hsz
 go_wp2_with (refine zaq 28 (.tmp 3) rfl rfl (w.heap.size) rfl T1.b1 Tryz.underlying28 zeC rfl ?_)
 refine (CT _ (Below.refl _ _)).mono ?_;rintro e w2 ⟨c2,rfl,o2,b2⟩;have z1:w.heap.size<w1.heap.size:=T1.b1.lt;clear T1
 go_wp2_with fail
 refine (CS _ _ _ o2.rd (Nat.le_refl _)).mono ?_;rintro e w3 ⟨cS,rfl,oS,b3⟩;obtain ⟨sc,s0,s1,s2,s3,s4,s5,s6,s7,s8,sp0,sl0,sq0,sp1,sl1,sq1,sp2,sl2,sq2,s9,s10,sb,rfl⟩:=zgI oS.rd;have z2:w1.heap.size≤w2.heap.size:=b2.size;have z3:w2.heap.size≤w3.heap.size:=b3.size;have B3:Below w1.heap.size w1 w3:=b2.trans (b3.mono b2.size);clear o2 b2 b3
 go_upto_region 6 with (refine zbv 36 8 (.tmp 24) _ _ 16 rfl rfl rfl rfl rfl rfl rfl rfl zf6 rfl rfl oS.one ?_)
 have bA:=bAl w3 (.cells (.int .i64 sc::rwV s0 s1 s2 s3 s4 s5 s6 s7 s8 sp0 sl0 sq0 sp1 sl1 sq1 sp2 sl2 sq2 s9 s10 sb).toArray 36);have S4:=zaC w3 (.int .i64 sc::rwV s0 s1 s2 s3 s4 s5 s6 s7 s8 sp0 sl0 sq0 sp1 sl1 sq1 sp2 sl2 sq2 s9 s10 sb).toArray 36;obtain ⟨W4,hW4⟩:∃ x,x=w3.alloc (.cells (.int .i64 sc::rwV s0 s1 s2 s3 s4 s5 s6 s7 s8 sp0 sl0 sq0 sp1 sl1 sq1 sp2 sl2 sq2 s9 s10 sb).toArray 36):=⟨_,rfl⟩;rw [← hW4] at bA S4 ⊢;have B4:=B3.trans (bA.mono (by omega));have P4:=HT1.out.call B4;have OS4:=oS.call bA;have z4:w3.heap.size<W4.heap.size:=S4.lt;clear bA hW4 oS B3
 go_wp2_with (refine zaq 28 (.tmp 3) rfl rfl (w.heap.size) rfl P4.b1 Tryz.underlying28 zeC rfl ?_)
 refine (CT _ B4).mono ?_;rintro e w5 ⟨cX,rfl,oX,b5⟩;obtain ⟨x0,x1,x2,x3,x4,x5,x6,x7,x8,xp0,xl0,xq0,xp1,xl1,xq1,xp2,xl2,xq2,x9,x10,xb,rfl⟩:=zgJ oX;have z5:W4.heap.size≤w5.heap.size:=b5.size;have B5:=B4.trans (b5.mono (by omega));have S5:=S4.call b5;have OS5:=OS4.call b5;clear P4 b5 B4 S4 OS4
 go_upto_region 7 with (refine zbv 34 9 (.tmp 26) _ _ 15 rfl rfl rfl rfl rfl rfl rfl rfl zit rfl rfl oX.one ?_)
 have bA:=bAl w5 (.cells (rwV x0 x1 x2 x3 x4 x5 x6 x7 x8 xp0 xl0 xq0 xp1 xl1 xq1 xp2 xl2 xq2 x9 x10 xb).toArray 34);have X6:=zaC w5 (rwV x0 x1 x2 x3 x4 x5 x6 x7 x8 xp0 xl0 xq0 xp1 xl1 xq1 xp2 xl2 xq2 x9 x10 xb).toArray 34;obtain ⟨W6,hW6⟩:∃ x,x=w5.alloc (.cells (rwV x0 x1 x2 x3 x4 x5 x6 x7 x8 xp0 xl0 xq0 xp1 xl1 xq1 xp2 xl2 xq2 x9 x10 xb).toArray 34):=⟨_,rfl⟩;rw [← hW6] at bA X6 ⊢;have B6:=B5.trans (bA.mono (by omega));have S6:=S5.call bA;have OS6:=OS5.call bA;have OX6:=oX.call bA;have z6:w5.heap.size<W6.heap.size:=X6.lt;clear bA hW6 oX B5 S5 OS5
 go_wp2_with (refine zaq 34 (.tmp 9) rfl rfl (w5.heap.size) rfl X6 Tryz.underlying34 zbz rfl ?_)
 refine (CI _ _ _ OX6.rd (by omega)).mono ?_;rintro e w7 ⟨cG,rfl,oG,b7⟩;obtain ⟨gc,g0,g1,g2,g3,g4,g5,g6,g7,g8,gp0,gl0,gq0,gp1,gl1,gq1,gp2,gl2,gq2,g9,g10,gb,rfl⟩:=zgI oG.rd;have z7:W6.heap.size≤w7.heap.size:=b7.size;have B7:=B6.trans (b7.mono (by omega));have S7:=S6.call b7;have OS7:=OS6.call b7;have X7:=X6.call b7;have OX7:=OX6.call b7;clear b7 B6 S6 OS6 X6 OX6
 go_upto_region 8 with (refine zbv 36 10 (.tmp 30) _ _ 16 rfl rfl rfl rfl rfl rfl rfl rfl zf6 rfl rfl oG.one ?_)
 have bA:=bAl w7 (.cells (.int .i64 gc::rwV g0 g1 g2 g3 g4 g5 g6 g7 g8 gp0 gl0 gq0 gp1 gl1 gq1 gp2 gl2 gq2 g9 g10 gb).toArray 36);have G8:=zaC w7 (.int .i64 gc::rwV g0 g1 g2 g3 g4 g5 g6 g7 g8 gp0 gl0 gq0 gp1 gl1 gq1 gp2 gl2 gq2 g9 g10 gb).toArray 36;obtain ⟨W8,hW8⟩:∃ x,x=w7.alloc (.cells (.int .i64 gc::rwV g0 g1 g2 g3 g4 g5 g6 g7 g8 gp0 gl0 gq0 gp1 gl1 gq1 gp2 gl2 gq2 g9 g10 gb).toArray 36):=⟨_,rfl⟩;rw [← hW8] at bA G8 ⊢;have B8:=B7.trans (bA.mono (by omega));have S8:=S7.call bA;have OS8:=OS7.call bA;have X8:=X7.call bA;have OX8:=OX7.call bA;have OG8:=oG.call bA;have z8:w7.heap.size<W8.heap.size:=G8.lt;clear bA hW8 oG B7 S7 OS7 X7 OX7
 go_wp2_with (first | (refine zaq 36 (.tmp 10) rfl rfl (w7.heap.size) rfl G8 Tryz.underlying36 zaK rfl ?_) | (refine zaq 36 (.tmp 8) rfl rfl (w3.heap.size) rfl S8 Tryz.underlying36 zaK rfl ?_))
 refine (CE _ _ _ _ _ OG8.rd OS8.rd (by omega) (by omega)).mono ?_;rintro e w9 ⟨rfl,b9⟩;have z9:W8.heap.size≤w9.heap.size:=b9.size;have B9:=B8.trans (b9.mono (by omega));have S9:=hid (S8.call b9);have OS9:=hid (OS8.call b9);have X9:=hid (X8.call b9);have OX9:=hid (OX8.call b9);have G9:=hid (G8.call b9);have OG9:=hid (OG8.call b9);have HB9:=hid B9;have P9:=hid (HT1.out.call B9);have u_0:w9.cell? ⟨w5.heap.size,0,none⟩=some (.int .i64 x0):=X9.out.cell 0;have u_1:w9.cell? ⟨w5.heap.size,1,none⟩=some (.int .i64 x1):=X9.out.cell 1;have u_2:w9.cell? ⟨w5.heap.size,2,none⟩=some (.int .i64 x2):=X9.out.cell 2;have u_3:w9.cell? ⟨w5.heap.size,3,none⟩=some (.int .i64 x3):=X9.out.cell 3;have u_4:w9.cell? ⟨w5.heap.size,4,none⟩=some (.int .i64 x4):=X9.out.cell 4;have u_5:w9.cell? ⟨w5.heap.size,5,none⟩=some (.int .i64 x5):=X9.out.cell 5;have u_6:w9.cell? ⟨w5.heap.size,6,none⟩=some (.int .i64 x6):=X9.out.cell 6;have u_7:w9.cell? ⟨w5.heap.size,7,none⟩=some (.int .i64 x7):=X9.out.cell 7;have u_8:w9.cell? ⟨w5.heap.size,8,none⟩=some (.int .i64 x8):=X9.out.cell 8
 have u_9:w9.cell? ⟨w5.heap.size,9,none⟩=some (.slice xp0 xl0 xq0):=X9.out.cell 9;have u_10:w9.cell? ⟨w5.heap.size,10,none⟩=some (.slice xp1 xl1 xq1):=X9.out.cell 10;have u_11:w9.cell? ⟨w5.heap.size,11,none⟩=some (.slice xp2 xl2 xq2):=X9.out.cell 11;have u_12:w9.cell? ⟨w5.heap.size,12,none⟩=some (.int .i64 x9):=X9.out.cell 12;have u_13:w9.cell? ⟨w5.heap.size,13,none⟩=some (.int .i64 x10):=X9.out.cell 13;have u_14:w9.cell? ⟨w5.heap.size,14,none⟩=some (.bool xb):=X9.out.cell 14;have y_0:w9.cell? ⟨w.heap.size,0,none⟩=some (.int .i64 v0):=P9.out.b1.cell 0;have y_1:w9.cell? ⟨w.heap.size,1,none⟩=some (.int .i64 v1):=P9.out.b1.cell 1;have y_2:w9.cell? ⟨w.heap.size,2,none⟩=some (.int .i64 v2):=P9.out.b1.cell 2;have y_3:w9.cell? ⟨w.heap.size,3,none⟩=some (.int .i64 v3):=P9.out.b1.cell 3;have y_4:w9.cell? ⟨w.heap.size,4,none⟩=some (.int .i64 v4):=P9.out.b1.cell 4;have y_5:w9.cell? ⟨w.heap.size,5,none⟩=some (.int .i64 v5):=P9.out.b1.cell 5;have y_6:w9.cell? ⟨w.heap.size,6,none⟩=some (.int .i64 v6):=P9.out.b1.cell 6;have y_7:w9.cell? ⟨w.heap.size,7,none⟩=some (.int .i64 v7):=P9.out.b1.cell 7;have y_8:w9.cell? ⟨w.heap.size,8,none⟩=some (.int .i64 v8):=P9.out.b1.cell 8;have y_9:w9.cell? ⟨w.heap.size,9,none⟩=some (.slice vp0 vl0 vq0):=P9.out.b1.cell 9;have y_10:w9.cell? ⟨w.heap.size,10,none⟩=some (.slice vp1 vl1 vq1):=P9.out.b1.cell 10;have y_11:w9.cell? ⟨w.heap.size,11,none⟩=some (.slice vp2 vl2 vq2):=P9.out.b1.cell 11;have y_12:w9.cell? ⟨w.heap.size,12,none⟩=some (.int .i64 v9):=P9.out.b1.cell 12;have y_13:w9.cell? ⟨w.heap.size,13,none⟩=some (.int .i64 v10):=P9.out.b1.cell 13;have y_14:w9.cell? ⟨w.heap.size,14,none⟩=some (.bool vb):=P9.out.b1.cell 14;clear b9 B8 S8 OS8 X8 OX8 G8 OG8 B9
 go_upto_region 10 with fail
 go_cut [39] (fun v wx=>v=.bool false∧Below w9.heap.size w9 wx)
 case first=>
  go_region_with (first | (go_at_call 7;refine (CT _ (HB9.out.trans ((below_drewN (Below.refl _ _) 1).mono HB9.out.size))).mono ?_;rintro ee wb ⟨cs',rfl,oR,bb⟩;have bR:Below w9.heap.size w9 wb:=(below_drewN (Below.refl _ _) 1).trans bb;obtain ⟨qb0,qb1,qb2,qb3,qb4,qb5,qb6,qb7,qb8,qb9,qb10,qb11,qb12,qb13,qb14⟩:=ziJ (X9.out.call bR)) | (go_at_call 10;refine (CW _ _ _ _ _ (OX9.out.call bR).rd oR.rd (Nat.le_trans (by omega) bR.size) (Nat.le_refl _)).mono ?_;rintro ee wc' ⟨rfl,bc⟩;have bC:Below w9.heap.size w9 wc':=bR.trans (bc.mono bR.size)))
  all_goals
   go_wp2
   go_meet
   exact ⟨rfl,bC⟩
 case rest=>
  obtain ⟨rfl,b10⟩:=hcut;obtain ⟨w10,rfl⟩:∃ x,x=wc:=⟨_,rfl⟩;clear u_0 u_1 u_2 u_3 u_4 u_5 u_6 u_7 u_8 u_9 u_10 u_11 u_12 u_13 u_14 y_0 y_1 y_2 y_3 y_4 y_5 y_6 y_7 y_8 y_9 y_10 y_11 y_12 y_13 y_14;have z10:w9.heap.size≤w10.heap.size:=b10.size;have B10:=HB9.out.trans (b10.mono (by omega));have S10:=S9.out.call b10;have OS10:=OS9.out.call b10;have X10:=X9.out.call b10;have OX10:=OX9.out.call b10;have G10:=G9.out.call b10;have OG10:=OG9.out.call b10;clear b10 HB9 S9 OS9 X9 OX9 G9 OG9 P9
  have hm0:¬ (M:Int)<0:=by omega
  go_wp2_with (refine zaq 34 (.tmp 9) rfl rfl (w5.heap.size) rfl X10 Tryz.underlying34 zbz rfl ?_)
  refine (CK OX10).mono ?_;rintro e w11 ⟨rfl,OX11,c11⟩;have z11:w10.heap.size≤w11.heap.size:=c11.size;have B11:=B10.trans (c11.bel (B:=w1.heap.size) (by omega) (by omega));have S11:=S10.chg c11 (.inl (by omega));have OS11:=OS10.chg c11 (.inl (by omega));have G11:=G10.chg c11 (.inr (by omega));have OG11:=OG10.chg c11 (.inr (by omega));have u_0:w11.cell? ⟨w7.heap.size,0,none⟩=some (.int .i64 gc):=G11.cell 0;have u_1:w11.cell? ⟨w7.heap.size,1,none⟩=some (.int .i64 g0):=G11.cell 1;have u_2:w11.cell? ⟨w7.heap.size,2,none⟩=some (.int .i64 g1):=G11.cell 2;have u_3:w11.cell? ⟨w7.heap.size,3,none⟩=some (.int .i64 g2):=G11.cell 3;have u_4:w11.cell? ⟨w7.heap.size,4,none⟩=some (.int .i64 g3):=G11.cell 4;have u_5:w11.cell? ⟨w7.heap.size,5,none⟩=some (.int .i64 g4):=G11.cell 5;have u_6:w11.cell? ⟨w7.heap.size,6,none⟩=some (.int .i64 g5):=G11.cell 6;have u_7:w11.cell? ⟨w7.heap.size,7,none⟩=some (.int .i64 g6):=G11.cell 7;have u_8:w11.cell? ⟨w7.heap.size,8,none⟩=some (.int .i64 g7):=G11.cell 8;have u_9:w11.cell? ⟨w7.heap.size,9,none⟩=some (.int .i64 g8):=G11.cell 9;have u_10:w11.cell? ⟨w7.heap.size,10,none⟩=some (.slice gp0 gl0 gq0):=G11.cell 10;have u_11:w11.cell? ⟨w7.heap.size,11,none⟩=some (.slice gp1 gl1 gq1):=G11.cell 11;have u_12:w11.cell? ⟨w7.heap.size,12,none⟩=some (.slice gp2 gl2 gq2):=G11.cell 12;have u_13:w11.cell? ⟨w7.heap.size,13,none⟩=some (.int .i64 g9):=G11.cell 13;have u_14:w11.cell? ⟨w7.heap.size,14,none⟩=some (.int .i64 g10):=G11.cell 14;have u_15:w11.cell? ⟨w7.heap.size,15,none⟩=some (.bool gb):=G11.cell 15;have y_0:w11.cell? ⟨w3.heap.size,0,none⟩=some (.int .i64 sc):=S11.cell 0;have y_1:w11.cell? ⟨w3.heap.size,1,none⟩=some (.int .i64 s0):=S11.cell 1;have y_2:w11.cell? ⟨w3.heap.size,2,none⟩=some (.int .i64 s1):=S11.cell 2;have y_3:w11.cell? ⟨w3.heap.size,3,none⟩=some (.int .i64 s2):=S11.cell 3;have y_4:w11.cell? ⟨w3.heap.size,4,none⟩=some (.int .i64 s3):=S11.cell 4;have y_5:w11.cell? ⟨w3.heap.size,5,none⟩=some (.int .i64 s4):=S11.cell 5;have y_6:w11.cell? ⟨w3.heap.size,6,none⟩=some (.int .i64 s5):=S11.cell 6;have y_7:w11.cell? ⟨w3.heap.size,7,none⟩=some (.int .i64 s6):=S11.cell 7;have y_8:w11.cell? ⟨w3.heap.size,8,none⟩=some (.int .i64 s7):=S11.cell 8;have y_9:w11.cell? ⟨w3.heap.size,9,none⟩=some (.int .i64 s8):=S11.cell 9;have y_10:w11.cell? ⟨w3.heap.size,10,none⟩=some (.slice sp0 sl0 sq0):=S11.cell 10;have y_11:w11.cell? ⟨w3.heap.size,11,none⟩=some (.slice sp1 sl1 sq1):=S11.cell 11;have y_12:w11.cell? ⟨w3.heap.size,12,none⟩=some (.slice sp2 sl2 sq2):=S11.cell 12;have y_13:w11.cell? ⟨w3.heap.size,13,none⟩=some (.int .i64 s9):=S11.cell 13;have y_14:w11.cell? ⟨w3.heap.size,14,none⟩=some (.int .i64 s10):=S11.cell 14;have y_15:w11.cell? ⟨w3.heap.size,15,none⟩=some (.bool sb):=S11.cell 15
  clear OX11 c11 B10 S10 OS10 X10 OX10 G10 OG10
  go_wp2_with fail
  refine (CE _ _ _ _ _ OG11.rd OS11.rd (by omega) (by omega)).mono ?_;rintro e w12 ⟨rfl,b12⟩;have z12:w11.heap.size≤w12.heap.size:=b12.size;have B12:=B11.trans (b12.mono (by omega));have S12:=S11.call b12;have OS12:=OS11.call b12;have G12:=G11.call b12;have OG12:=OG11.call b12;clear b12 B11 S11 OS11 G11 OG11 u_0 u_1 u_2 u_3 u_4 u_5 u_6 u_7 u_8 u_9 u_10 u_11 u_12 u_13 u_14 u_15 y_0 y_1 y_2 y_3 y_4 y_5 y_6 y_7 y_8 y_9 y_10 y_11 y_12 y_13 y_14 y_15
  go_wp2_with (refine zaq 36 (.tmp 10) rfl rfl (w7.heap.size) rfl G12 Tryz.underlying36 zaK rfl ?_)
  refine (CM OG12).mono ?_;rintro e w13 ⟨rfl,OG13,c13⟩;have z13:w12.heap.size≤w13.heap.size:=c13.size;have B13:=B12.trans (c13.bel (B:=w1.heap.size) (by omega) (by omega));have S13:=S12.chg c13 (.inl (by omega));have OS13:=OS12.chg c13 (.inl (by omega));have G13:=G12.chg c13 (.inr (by omega));clear c13 B12 S12 OS12 G12 OG12
  go_wp2_with (refine zaq 36 (.tmp 10) rfl rfl (w7.heap.size) rfl G13 Tryz.underlying36 zaK rfl ?_)
  refine (CH _ _ _ OG13.rd (by omega)).mono ?_;rintro e w14 ⟨rfl,b14⟩;have z14:w13.heap.size≤w14.heap.size:=b14.size;have B14:=B13.trans (b14.mono (by omega));have S14:=S13.call b14;have OS14:=OS13.call b14;have G14:=G13.call b14;have OG14:=OG13.call b14;have P14:=HT1.out.call B14;clear b14 B13 S13 OS13 G13 OG13
  have hn0:¬ (N:Int)<0:=by omega
  go_wp2_with (refine zaq 28 (.tmp 3) rfl rfl (w.heap.size) rfl P14.b1 Tryz.underlying28 zeC rfl ?_)
  refine (CT _ B14).mono ?_;rintro e w15 ⟨c15,rfl,o15,b15⟩
  go_wp2_with fail
  refine (CI _ _ _ o15.rd (Nat.le_refl _)).mono ?_;rintro e w16 ⟨cH,rfl,oH,b16⟩;obtain ⟨hc,h0,h1,h2,h3,h4,h5,h6,h7,h8,hp0,hl0,hq0,hp1,hl1,hq1,hp2,hl2,hq2,h9,h10,hb,rfl⟩:=zgI oH.rd;have z15:w14.heap.size≤w15.heap.size:=b15.size;have z16:w15.heap.size≤w16.heap.size:=b16.size;have B16:=(B14.trans (b15.mono (by omega))).trans (b16.mono (by omega));have S16:=(S14.call b15).call b16;have OS16:=(OS14.call b15).call b16;have G16:=(G14.call b15).call b16;have OG16:=(OG14.call b15).call b16;clear P14 o15 b15 b16 B14 S14 OS14 G14 OG14
  go_upto_region 25 with (refine zbv 36 14 (.tmp 66) _ _ 16 rfl rfl rfl rfl rfl rfl rfl rfl zf6 rfl rfl oH.one ?_)
  have bA:=bAl w16 (.cells (.int .i64 hc::rwV h0 h1 h2 h3 h4 h5 h6 h7 h8 hp0 hl0 hq0 hp1 hl1 hq1 hp2 hl2 hq2 h9 h10 hb).toArray 36);have H17:=zaC w16 (.int .i64 hc::rwV h0 h1 h2 h3 h4 h5 h6 h7 h8 hp0 hl0 hq0 hp1 hl1 hq1 hp2 hl2 hq2 h9 h10 hb).toArray 36;obtain ⟨W17,hW17⟩:∃ x,x=w16.alloc (.cells (.int .i64 hc::rwV h0 h1 h2 h3 h4 h5 h6 h7 h8 hp0 hl0 hq0 hp1 hl1 hq1 hp2 hl2 hq2 h9 h10 hb).toArray 36):=⟨_,rfl⟩;rw [← hW17] at bA H17 ⊢;have B17:=B16.trans (bA.mono (by omega));have S17:=S16.call bA;have OS17:=OS16.call bA;have G17:=G16.call bA;have OG17:=OG16.call bA;have OH17:=oH.call bA;have z17:w16.heap.size<W17.heap.size:=H17.lt;clear bA hW17 oH B16 S16 OS16 G16 OG16
  go_wp2_with (first | (refine zaq 36 (.tmp 14) rfl rfl (w16.heap.size) rfl H17 Tryz.underlying36 zaK rfl ?_) | (refine zaq 36 (.tmp 8) rfl rfl (w3.heap.size) rfl S17 Tryz.underlying36 zaK rfl ?_))
  refine (CE _ _ _ _ _ OH17.rd OS17.rd (by omega) (by omega)).mono ?_;rintro e w18 ⟨rfl,b18⟩;have z18:W17.heap.size≤w18.heap.size:=b18.size;have B18:=B17.trans (b18.mono (by omega));have G18:=G17.call b18;have OG18:=OG17.call b18;clear b18 B17 S17 OS17 G17 OG17 OH17 H17
  go_wp2_with (refine zaq 36 (.tmp 10) rfl rfl (w7.heap.size) rfl G18 Tryz.underlying36 zaK rfl ?_)
  refine (CH _ _ _ OG18.rd (by omega)).mono ?_;rintro e w19 ⟨rfl,b19⟩;have HB:Hid (Below w.heap.size w w19):=(HT1.out.call (B18.trans (b19.mono (by omega)))).bel;clear b19 B18 G18 OG18;go_wp2;go_ret;exact ⟨rfl,HB.out⟩
set_option maxRecDepth 100000 in
theorem zb1 (os:Os) (started:os.Started) (H:Type) (enc:TypeId×Value→H) :
 ReturnsInHanded {} Tryz.checked os 4 .any (Rows.fnExactTrustDriveSpec.pre6 enc Tryz.prog Tryz.f4 Rows.fnExactTrustDriveRow.domain false) (Rows.fnExactTrustDriveSpec.post enc Tryz.prog Tryz.f4 false true false false):=by
 refine returnsInHanded_of_change (C:=Tryz.checked) zhl started (by kernel_rfl) Tryz.func4
  (ChangeSpec.witness6 (enc:=enc) (C:=Tryz.checked) false ⟨#[],#[.agg (rwV 0 0 0 0 0 0 0 0 0 none 0 0 none 0 0 none 0 0 0 0 false).toArray,.int .i64 0,.int .i64 0],[]⟩ 8 (by kernel_rfl) (by kernel_rfl) (by kernel_rfl) (by kernel_rfl)) ?_
 intro W base args ds gs before hval0 hW hcnd _;have hval:∀ (j:Nat) t v,Tryz.f4.params[j]?=some t→args[j]?=some v→Value.okWide Tryz.prog W .any base t v:=hval0;have hW':=hW;obtain ⟨p,q,hA0,hV,rfl,hfz,hnd⟩:=hW;have hA:DataW.TrodAll enc Tryz.prog W 0 (fun _=>true) true Tryz.f4.params.toList args.toList ds p:=hA0;rw [Tryz.params4] at hA hval;obtain ⟨v0,vs0,d0,ds0,p0,q0,hargs,rfl,rfl,h0,r0⟩:=trodAll_cons hA;obtain ⟨v1,vs1,d1,ds1,p1,q1,rfl,rfl,rfl,h1,r1⟩:=trodAll_cons r0;obtain ⟨v2,vs2,d2,ds2,p2,q2,rfl,rfl,rfl,h2,r2⟩:=trodAll_cons r1;obtain ⟨rfl,rfl,rfl⟩:=trodAll_nil r2
 obtain rfl:args=#[v0,v1,v2]:=by cases args;simp_all
 obtain ⟨rfl,rfl⟩:=trodVars_none hV;have k0:=h0
 have lt0:∀ x∈p0,x.block<W.heap.size:=by obtain ⟨m,hm⟩:=k0;exact DataW.trod_lt m _ _ _ hm
 obtain ⟨cs0,a0,rfl,rd0⟩:=zd3 zgR Tryz.underlying28 (hval 0 28 v0 rfl rfl) h0;obtain ⟨n1,rfl,rfl,rfl,hn1⟩:=open_int Tryz.underlying2 (hval 1 2 v1 rfl rfl) h1;obtain ⟨n2,rfl,rfl,rfl,hn2⟩:=open_int Tryz.underlying2 (hval 2 2 v2 rfl rfl) h2;clear hA0 hval0;refine (zcm a0 cs0 n1 n2 W rd0 (bounds_i64 hn1) (bounds_i64 hn2)).mono fun e W' ⟨he,bel⟩=>?_;subst he;exact ⟨_,rfl,_,_,_,[],_,[],hW',trodAll_mk1 (shut_bool Tryz.underlying4 _),(trodAll_cons_mk (Below.trod zgM (by kernel_rfl) (of_decide_eq_true (by kernel_rfl)) k0 bel lt0) (trodAll_cons_mk (shut_int Tryz.underlying2 hn1) (trodAll_cons_mk (shut_int Tryz.underlying2 hn2) trodAll_mk0))),rfl,bel.frame _,fun h=>by cases h⟩
end Go.Proofs.YtdhnekgfhpanfaaGreat
