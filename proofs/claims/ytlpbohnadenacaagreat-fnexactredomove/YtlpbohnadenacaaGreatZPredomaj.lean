/- The work that writes a block, under power and where it fails; withPower over it. -/
import Derived.Test.YtlpbohnadenacaaGreatZPredomai
set_option linter.unusedVariables false
set_option linter.unusedSimpArgs false
set_option maxHeartbeats 16000000
namespace Go.Proofs.YtlpbohnadenacaaGreat
open Go.RowKit F256
structure Quad (w wc:World) (c1 c2 c3 c4:Array Value) (t1 t2 t3 t4:TypeId):Prop where
 b1:Box wc w.heap.size c1 t1
 b2:Box wc (w.heap.size+1) c2 t2
 b3:Box wc (w.heap.size+1+1) c3 t3
 b4:Box wc (w.heap.size+1+1+1) c4 t4
 bel:Below w.heap.size w wc
theorem zeQ (w:World) (c1 c2 c3 c4:Array Value) (t1 t2 t3 t4:TypeId):Quad w ((((w.alloc (.cells c1 t1)).alloc (.cells c2 t2)).alloc (.cells c3 t3)).alloc (.cells c4 t4)) c1 c2 c3 c4 t1 t2 t3 t4:=by
 have A:=zaC w c1 c2 t1 t2;have B:=zaC ((w.alloc (.cells c1 t1)).alloc (.cells c2 t2)) c3 c4 t3 t4
 have e:((w.alloc (.cells c1 t1)).alloc (.cells c2 t2)).heap.size=w.heap.size+1+1:=by simp
 have A':=A.call B.bel;obtain ⟨B1,B2,_⟩:=B;rw [e] at B1 B2;exact ⟨A'.b1,A'.b2,B1,B2,A'.bel⟩
theorem Quad.call {w wc w':World} {c1 c2 c3 c4:Array Value} {t1 t2 t3 t4:TypeId} (h:Quad w wc c1 c2 c3 c4 t1 t2 t3 t4) (hb:Below wc.heap.size wc w'):Quad w w' c1 c2 c3 c4 t1 t2 t3 t4:=⟨h.b1.call hb,h.b2.call hb,h.b3.call hb,h.b4.call hb,h.bel.trans (hb.mono h.bel.size)⟩
structure Six (w wc:World) (c1 c2 c3 c4 c5 c6:Array Value) (t1 t2 t3 t4 t5 t6:TypeId):Prop where
 b1:Box wc w.heap.size c1 t1
 b2:Box wc (w.heap.size+1) c2 t2
 b3:Box wc (w.heap.size+1+1) c3 t3
 b4:Box wc (w.heap.size+1+1+1) c4 t4
 b5:Box wc (w.heap.size+1+1+1+1) c5 t5
 b6:Box wc (w.heap.size+1+1+1+1+1) c6 t6
 bel:Below w.heap.size w wc
set_option maxRecDepth 20000 in
theorem zjJ (E:Nat) (v0 v1 v2 v3 v4 v5 v6 v7 v8 vp0 vl0 vq0 vp1 vl1 vq1 vp2 vl2 vq2 v9 v10 vb:_) (d:WorldD) (K:List Nat) (G k R:Nat) (b:BlockD) (o1:Option Addr) (k1 hi:Nat) (w:World) (hX:Box w E #[.int .i32 0,.int .u32 0,.int .u32 0,.int .i32 0,.int .u32 0,.int .i64 v0,.int .i64 v1,.int .i64 v2,.int .i64 v3,.int .i64 v4,.int .i64 v5,.int .i64 v6,.int .i64 v7,.int .i64 v8,.slice vp0 vl0 vq0,.slice vp1 vl1 vq1,.slice vp2 vl2 vq2,.int .i64 v9,.int .i64 v10,.bool vb] 133) (h1:∀ x,x∈([.int .i64 v0,.int .i64 v1,.int .i64 v2,.int .i64 v3,.int .i64 v4,.int .i64 v5,.int .i64 v6,.int .i64 v7,.int .i64 v8,.slice vp0 vl0 vq0,.slice none 0 0,.slice vp2 vl2 vq2,.int .i64 v9,.int .i64 v10,.bool true]:List Value)→x.oneCell'=true) (hs:v10≠-1) (hw:v10≤v9) :
 Calls Tryz.prog 83 #[.pointer (some ⟨E,0,none⟩),.int .i64 (G:Int),.int .i64 (k:Int),.int .i64 (R:Int),.agg #[.int .i64 b.stamp,.slice o1 b.bytes.1 k1]] w fun e w'=>e=.panicked [{ v:=.iface 187 (.agg #[]),recovered:=false }]∧Box w' E #[.int .i32 0,.int .u32 0,.int .u32 1,.int .i32 0,.int .u32 0,.int .i64 v0,.int .i64 v1,.int .i64 v2,.int .i64 v3,.int .i64 v4,.int .i64 v5,.int .i64 v6,.int .i64 v7,.int .i64 v8,.slice vp0 vl0 vq0,.slice none 0 0,.slice vp2 vl2 vq2,.int .i64 v9,.int .i64 v10,.bool true] 133∧ChgL [E] w w':=by
 have hmf:∀ (fn:Fn) (first cap:Array Value) (w:World),(Instr.makeFunc fn first cap).run Tryz.prog w=.ok (.func fn first cap) w:=fun _ _ _ _=>rfl;have hE:E<w.heap.size:=hX.lt;have TB:=zeQ w #[.int .i64 (G:Int)] #[.int .i64 (k:Int)] #[.int .i64 (R:Int)] #[.int .i64 b.stamp,.slice o1 b.bytes.1 k1] 2 2 2 99;have X1:=hX.below TB.bel hE
 go_enter Tryz.func83,Tryz.ntmps83
 go_upto_region 1 with fail
 obtain ⟨W,hW⟩:∃ x,x=((((w.alloc (.cells #[.int .i64 (G:Int)] 2)).alloc (.cells #[.int .i64 (k:Int)] 2)).alloc (.cells #[.int .i64 (R:Int)] 2)).alloc (.cells #[.int .i64 b.stamp,.slice o1 b.bytes.1 k1] 99)):=⟨_,rfl⟩;rw [← hW] at TB X1 ⊢;have zW:w.heap.size≤W.heap.size:=TB.bel.size;clear hW hX;have CR:=fun fv=>zgv E v0 v1 v2 v3 v4 v5 v6 v7 v8 vp0 vl0 vq0 vp1 vl1 vq1 vp2 vl2 vq2 v9 v10 vb fv W X1 h1 hs hw;clear h1 hs hw X1
 go_wp2_with (go_at_call 123;refine (CR _).mono ?_;rintro e w5 ⟨rfl,X5,C5⟩)
 exact ⟨rfl,rfl,X5,(ChgL.of_below TB.bel).trans C5⟩
def keptI (p:Nat→Bool) (n:Nat):List Nat:=(List.range n).filter p
section
variable {α:Type} {E:Lay α} {t:TypeId} {w w':World} {g cap n:Nat} {x:Nat→α} {ce:Nat→List Value} {Ls:Nat→List Nat}
end
theorem run_append_none' {P:Program} (w:World) (base:Nat) (t ty e:TypeId) (i:TypeInfo) (size:Nat) (ht:P.underlying t=some (.slice e)) (hi:P.info? e=some i) (v:Value) (n c:Nat) (xs:List Value) (hown:w.ownsRow base e size v n xs) :
 (Builtin.append_ #[t,t] ty #[v,.slice none 0 c]).run P w=.ok v w:=by
 rcases hown.2 with ⟨rfl,rfl⟩ | ⟨g,cap,cur,rfl,_,_,hnc,_⟩
 ·simp [Builtin.append_,run_underlying ht,sizeOf,typeInfo,hi,Builtin.lenOf,Builtin.firstCells]
 ·simp [Builtin.append_,run_underlying ht,sizeOf,typeInfo,hi,Builtin.lenOf,Builtin.firstCells,hnc,storeCells]
theorem zfk (w:World) (e:TypeId):(w.alloc (.cells #[] e)).ownsRow w.heap.size e 1 (.slice (some ⟨w.heap.size,0,none⟩) 0 0) 0 []:=World.ownsRow_lit (base:=w.heap.size) (e:=e) (size:=1) w #[] 0 (Nat.le_refl _) (Nat.zero_le _) rfl
theorem zfl {T e:TypeId} {z:Value} {by_:Nat} (hu:Tryz.prog.underlying T=some (.slice e)) (hi:(Tryz.prog.info? e).map (fun i=>(i.zero,i.size,i.bytes))=some (some z,1,by_)) (hz:z.cells.size=1) (hby:by_≤100) (ty:TypeId) (W:World) (p:Nat) (hown:W.ownsRow p e 1 (.slice (some ⟨p,0,none⟩) 0 0) 0 [])
 (ao:Option Addr) (m cap:Nat) (cs:List Value) (hl:cs.length=m) (hsrc:0<cs.length→∃ ad,ao=some ad∧∀ j v,cs[j]?=some v→W.cell? (ad.add j)=some v) (h1:∀ v∈cs,v.oneCell'=true) (hm:m≤10000000) :
 ∃ v' w',(Builtin.append_ #[T,T] ty #[.slice (some ⟨p,0,none⟩) 0 0,.slice ao m cap]).run Tryz.prog W=.ok v' w'∧w'.ownsRow p e 1 v' m cs∧Below p W w':=by
 obtain ⟨i0,hi0,hz0,hz1,hz2⟩:=info_parts hi;have hlo:p≤W.heap.size:=Nat.le_of_lt (hown.lt p rfl).2
 have big:∀ ad,ao=some ad→(∀ j v,cs[j]?=some v→W.cell? (ad.add j)=some v)→∃ v' w',(Builtin.append_ #[T,T] ty #[.slice (some ⟨p,0,none⟩) 0 0,.slice ao m cap]).run Tryz.prog W=.ok v' w'∧w'.ownsRow p e 1 v' m cs∧Below p W w':=fun ad ha hc=>by
  subst ha
  have hb2:(0+m)*by_≤140737488355328:=by
   have:(0+m)*by_≤10000000*100:=Nat.mul_le_mul (by omega) hby;omega
  obtain ⟨v',w',hr,r1,r2,_⟩:=run_append_own_at (P:=Tryz.prog) W p T ty e i0 z 1 by_ hu hi0 hz0 hz1 hz2 hz (by decide) _ 0 [] hown ad m cap cs (by omega) hc h1 (by unfold maxLen;omega) hb2 hlo;refine ⟨v',w',hr,?_,(Below.refl _ _).grown r2 hlo (fun k hk=>(hown.lt k hk).1)⟩;rw [Nat.zero_add,List.nil_append] at r1;exact r1
 by_cases h0:0<cs.length
 ·obtain ⟨ad,ha,hc⟩:=hsrc h0
  exact big ad ha hc
 ·have hcs:cs=[]:=List.eq_nil_of_length_eq_zero (by omega)
  subst hcs
  cases ao with
  | some ad=>exact big ad rfl (fun j v hj=>by simp at hj)
  | none=>
   have hm0:m=0:=by simpa using hl.symm
   subst hm0;exact ⟨_,W,run_append_none' W p T ty e i0 1 hu hi0 _ 0 cap _ hown,hown,Below.refl _ _⟩
theorem one_i:(Value.int .i64 0).cells.size=1:=rfl
theorem one_b:(Value.int .u8 0).cells.size=1:=rfl
theorem zeG (ty:TypeId) (W:World) (p:Nat) (hown:W.ownsRow p 2 1 (.slice (some ⟨p,0,none⟩) 0 0) 0 []) {hi m cap:Nat} {ao:Option Addr} {f:Nat→Int} (r:zal.rd W hi (m,f) [.slice ao m cap]) (hm:m≤10000000) :
 ∃ v' w',(Builtin.append_ #[25,25] ty #[.slice (some ⟨p,0,none⟩) 0 0,.slice ao m cap]).run Tryz.prog W=.ok v' w'∧OwnT zal w' p w'.heap.size (m,f) [v']∧Below p W w':=by
 obtain ⟨v,e,⟨r1,_⟩,kf⟩:=r
 cases e
 obtain ⟨v',w',hr,h2,h3⟩:=zfl Tryz.underlying25 ziK one_i (by decide) ty W p hown ao m cap (za9 m f) (zaw m f) (fun hp=>zhj r1 hp) (zfR m f) hm;exact ⟨v',w',hr,zlw ⟨h2,fun k hk=>(h2.lt k hk).2⟩ (Nat.le_refl _) kf,h3⟩
theorem zdp (ty:TypeId) (W:World) (p:Nat) (hown:W.ownsRow p 5 1 (.slice (some ⟨p,0,none⟩) 0 0) 0 []) {hi m cap:Nat} {ao:Option Addr} {f:Nat→Nat} (r:zad.rd W hi (m,f) [.slice ao m cap]) (hm:m≤10000000) :
 ∃ v' w',(Builtin.append_ #[29,29] ty #[.slice (some ⟨p,0,none⟩) 0 0,.slice ao m cap]).run Tryz.prog W=.ok v' w'∧OwnT zad w' p w'.heap.size (m,f) [v']∧Below p W w':=by
 obtain ⟨v,e,r1,kf⟩:=r
 cases e
 obtain ⟨v',w',hr,h2,h3⟩:=zfl Tryz.underlying29 zf2 one_b (by decide) ty W p hown ao m cap (cellsOf m f) (zah m f) (fun hp=>zd6 r1 hp) (zb5 m f) hm;exact ⟨v',w',hr,zlv ⟨h2,fun k hk=>(h2.lt k hk).2⟩ (Nat.le_refl _) kf,h3⟩
theorem zgz {ops:Array Oper} {rest:List Oper} {o:Oper} {a:Act} {W w':World} {Q:Exit→Act→World→Prop} {T:TypeId} {v' x1 x2:Value} (hg:o.guard=none) (s y:Operand) (hop:o.op=Op.call { callee:=Callee.builtin Builtin.append,args:=#[s,y],argTypes:=#[T,T] })
 (h1:a.eval s=x1) (h2:a.eval y=x2) (hrun:(Builtin.append_ #[T,T] o.type #[x1,x2]).run Tryz.prog W=.ok v' w') (hK:wpList Tryz.prog ops Q rest (a.put o.dst v') w'):wpList Tryz.prog ops Q (o::rest) a W:=by
 refine wpList_plain hg fun K hK'=>?_;unfold Oper.wp
 simp [execOp,hop,resolve,invoke,builtin,h1,h2,hrun,Result.andThen]
 exact hK' _ _ hK
theorem zkI {ops:Array Oper} {o:Oper} {a:Act} {W w':World} {K:Act→World→Prop} {Q:Exit→Act→World→Prop} {F:Prop} {T:TypeId} {v' x1 x2:Value} (hg:o.guard=none) (s y:Operand) (hop:o.op=Op.call { callee:=Callee.builtin Builtin.append,args:=#[s,y],argTypes:=#[T,T] })
 (h1:a.eval s=x1) (h2:a.eval y=x2) (hrun:(Builtin.append_ #[T,T] o.type #[x1,x2]).run Tryz.prog W=.ok v' w') (hK:K (a.put o.dst v') w'):if Region.wanted o (yielded ops a.tmps)=true then Oper.wp Tryz.prog o a W K Q else F:=by
 have hw:Region.wanted o (yielded ops a.tmps)=true:=by simp [Region.wanted,hg]
 rw [if_pos hw];unfold Oper.wp
 simp [execOp,hop,resolve,invoke,builtin,h1,h2,hrun,Result.andThen]
 exact hK
set_option maxRecDepth 20000 in
theorem zfy:ToV zaf zaG 60:=fun cs d hi w r hhi hn=>by
 obtain ⟨ao1,cap1,rfl,h1,k0⟩:=za6 r;clear r;unfold zaG lenD at hn;have Q0:=hid k0;clear k0;have T0:=zaC w #[.int .i64 d.stamp,.slice ao1 d.bytes.1 cap1] #[.int .i64 0,.slice none 0 0] 99 99;obtain ⟨W0,hW0⟩:∃ x,x=(w.alloc (.cells #[.int .i64 d.stamp,.slice ao1 d.bytes.1 cap1] 99)).alloc (.cells #[.int .i64 0,.slice none 0 0] 99):=⟨_,rfl⟩;rw [← hW0] at T0;have bA:=bAl W0 (.cells #[] 5);have TA:=T0.call bA
 have z0:W0.heap.size=w.heap.size+1+1:=by rw [hW0];simp
 obtain ⟨v',w1,hrun,o1,b1'⟩:=zdp 29 (W0.alloc (.cells #[] 5)).drew W0.heap.size (zfk W0 5) (zad.rd_below (B:=hi) (zad.rd_below h1 TA.bel hhi) ⟨rfl,rfl,rfl,Nat.le_refl _,fun _ _=>rfl⟩ (Nat.le_refl _)) (show d.bytes.1≤10000000 by omega);have b1:Below W0.heap.size (W0.alloc (.cells #[] 5)) w1:=⟨b1'.os,b1'.tape,b1'.output,b1'.size,b1'.block⟩;obtain ⟨bo,bc,hv⟩:=zbp o1;obtain rfl:=zaU hv;have T1:Two w w1 #[.int .i64 d.stamp,.slice ao1 d.bytes.1 cap1] #[.int .i64 0,.slice none 0 0] 99 99:=⟨TA.b1.below b1 (by omega),TA.b2.below b1 (by omega),TA.bel.trans (b1.mono (by omega))⟩;have x0_0:W0.cell? ⟨w.heap.size,0,none⟩=some (.int .i64 d.stamp):=T0.b1.cell 0;have x0_1:W0.cell? ⟨w.heap.size,1,none⟩=some (.slice ao1 d.bytes.1 cap1):=T0.b1.cell 1;have xa_0:(W0.alloc (.cells #[] 5)).cell? ⟨w.heap.size,0,none⟩=some (.int .i64 d.stamp):=TA.b1.cell 0;have xa_1:(W0.alloc (.cells #[] 5)).cell? ⟨w.heap.size,1,none⟩=some (.slice ao1 d.bytes.1 cap1):=TA.b1.cell 1;have x1_0:w1.cell? ⟨w.heap.size,0,none⟩=some (.int .i64 d.stamp):=T1.b1.cell 0;have x1_1:w1.cell? ⟨w.heap.size,1,none⟩=some (.slice ao1 d.bytes.1 cap1):=T1.b1.cell 1;have r1_0:w1.cell? ⟨w.heap.size+1,0,none⟩=some (.int .i64 0):=T1.b2.cell 0;have r1f_0:w1.frozen? ⟨w.heap.size+1,0,none⟩=false:=T1.b2.frozen 0;have r1_1:w1.cell? ⟨w.heap.size+1,1,none⟩=some (.slice none 0 0):=T1.b2.cell 1;have r1f_1:w1.frozen? ⟨w.heap.size+1,1,none⟩=false:=T1.b2.frozen 1;have HO:=hid o1;have HT:=hid T1;have zw:W0.heap.size≤w1.heap.size:=Nat.le_trans bA.size b1.size;clear T0 TA T1 o1 b1 b1' bA h1 hv
 go_enter Tryz.func60,Tryz.ntmps60
 go_upto_region 1 with fail
 rw [← hW0];clear hW0
 go_region_law (refine zkI rfl (.tmp 5) (.tmp 7) rfl ?_ ?_ hrun ?_;(simp [Act.eval,Act.put]);(simp [Act.eval,Act.put]))
 all_goals
  go_wp2;refine bodyPost_ret (v:=.agg #[.int .i64 d.stamp,.slice bo d.bytes.1 bc]) (by simp [results,Tryz.results60,go_sem,r1_0,r1_1]) rfl ?_;have F:OwnT zaf w1 (w.heap.size+1+1) w1.heap.size d ([.int .i64 d.stamp]++[.slice bo d.bytes.1 bc]):=OwnT.conv (OwnT.pre (A:=layI) (a:=d.stamp) (c:=[.int .i64 d.stamp]) ⟨rfl,Q0.out,rfl⟩ (HO.out.weaken (by omega) (Nat.le_refl _)));refine ⟨[.int .i64 d.stamp,.slice bo d.bytes.1 bc],rfl,?_,?_⟩
  ·exact OwnT.finb F (b:=w.heap.size+1) (by omega) (by omega) 0 [.int .i64 d.stamp,.slice bo d.bytes.1 bc] _ rfl
  ·exact HT.out.bel.trans (zaS (by omega) [.int .i64 d.stamp,.slice bo d.bytes.1 bc] 0)
set_option maxRecDepth 20000 in
theorem zhp:ToV zae zaY 100:=fun cs d hi w r hhi hn=>by
 obtain ⟨ao6,cap6,ao7,cap7,ao8,cap8,rfl,h6,h7,h8,k0,k1,k2,k3,k4,k5⟩:=za5 r;clear r;unfold zaY lenD at hn;have Q0:=hid k0;have Q1:=hid k1;have Q3:=hid k3;have Q4:=hid k4;have Q5:=hid k5;have Q2:=hid k2;clear k0 k1 k2 k3 k4 k5;have T0:=zaC w (rwR d ao6 cap6 ao7 cap7 ao8 cap8).toArray #[.int .i64 0,.int .i64 0,.string ⟨#[]⟩,.int .i64 0,.int .i64 0,.int .i64 0,.slice none 0 0,.slice none 0 0,.slice none 0 0] 43 43
 go_enter Tryz.func100,Tryz.ntmps100
 go_upto_region 1 with fail
 obtain ⟨W0,hW0⟩:∃ x,x=(w.alloc (.cells (rwR d ao6 cap6 ao7 cap7 ao8 cap8).toArray 43)).alloc (.cells #[.int .i64 0,.int .i64 0,.string ⟨#[]⟩,.int .i64 0,.int .i64 0,.int .i64 0,.slice none 0 0,.slice none 0 0,.slice none 0 0] 43):=⟨_,rfl⟩
 have z0:W0.heap.size=w.heap.size+1+1:=by rw [hW0];simp
 rw [← hW0] at T0 ⊢;clear hW0;have bA0:=bAl W0 (.cells #[] 2);have TA0:=T0.call bA0;obtain ⟨v',w1,hrun,o0,b0⟩:=zeG 25 (W0.alloc (.cells #[] 2)) W0.heap.size (zfk W0 2) (zal.rd_below h6 TA0.bel hhi) (show d.rows.1≤10000000 by omega);obtain ⟨bo6,bcap6,hv⟩:=zcp o0;obtain rfl:=zaU hv;clear hv;have zw0:W0.heap.size+1≤w1.heap.size:=Nat.le_trans (by simp) b0.size;have TB0:Two w w1 (rwR d ao6 cap6 ao7 cap7 ao8 cap8).toArray #[.int .i64 0,.int .i64 0,.string ⟨#[]⟩,.int .i64 0,.int .i64 0,.int .i64 0,.slice none 0 0,.slice none 0 0,.slice none 0 0] 43 43:=⟨TA0.b1.below b0 (by omega),TA0.b2.below b0 (by omega),TA0.bel.trans (b0.mono (by omega))⟩;have xa:(W0.alloc (.cells #[] 2)).cell? ⟨w.heap.size,6,none⟩=some (.slice ao6 d.rows.1 cap6):=TA0.b1.cell 6;have xb:w1.cell? ⟨w.heap.size,6,none⟩=some (.slice ao6 d.rows.1 cap6):=TB0.b1.cell 6;have xf:w1.frozen? ⟨w.heap.size,6,none⟩=false:=TB0.b1.frozen 6;have T1:Two w (w1.setCell ⟨w.heap.size,6,none⟩ (.slice bo6 d.rows.1 bcap6)) (rwR d bo6 bcap6 ao7 cap7 ao8 cap8).toArray #[.int .i64 0,.int .i64 0,.string ⟨#[]⟩,.int .i64 0,.int .i64 0,.int .i64 0,.slice none 0 0,.slice none 0 0,.slice none 0 0] 43 43:=⟨TB0.b1.stL [.slice bo6 d.rows.1 bcap6] 6,TB0.b2.seto _ _ (by omega),TB0.bel.setCell (Nat.le_refl _) _⟩;have O6x:=o0.stN w.heap.size 6 [.slice bo6 d.rows.1 bcap6] (by omega)
 have e0:(w1.setCell ⟨w.heap.size,6,none⟩ (.slice bo6 d.rows.1 bcap6)).heap.size=w1.heap.size:=by simp
 clear TA0 TB0 o0 b0 bA0 T0
 go_upto_region 2 with (at_builtin;refine zgz rfl (.tmp 3) (.tmp 5) rfl ?_ ?_ hrun ?_;(simp [Act.eval]);(simp [Act.eval]))
 obtain ⟨W1,hW1⟩:∃ x,x=w1.setCell ⟨w.heap.size,6,none⟩ (.slice bo6 d.rows.1 bcap6):=⟨_,rfl⟩
 have O6:Hid (OwnT zal W1 W0.heap.size w1.heap.size d.rows [.slice bo6 d.rows.1 bcap6]):=by rw [hW1];exact O6x
 rw [← hW1] at T1 e0 ⊢;clear hW1 hrun xa xb xf O6x;have bA1:=bAl W1 (.cells #[] 5);have TA1:=T1.call bA1;obtain ⟨v',w2,hrun,o1,b1⟩:=zdp 29 (W1.alloc (.cells #[] 5)) W1.heap.size (zfk W1 5) (zad.rd_below h7 TA1.bel hhi) (show d.data.1≤10000000 by omega);obtain ⟨bo7,bcap7,hv⟩:=zbp o1;obtain rfl:=zaU hv;clear hv;have zw1:W1.heap.size+1≤w2.heap.size:=Nat.le_trans (by simp) b1.size;have TB1:Two w w2 (rwR d bo6 bcap6 ao7 cap7 ao8 cap8).toArray #[.int .i64 0,.int .i64 0,.string ⟨#[]⟩,.int .i64 0,.int .i64 0,.int .i64 0,.slice none 0 0,.slice none 0 0,.slice none 0 0] 43 43:=⟨TA1.b1.below b1 (by omega),TA1.b2.below b1 (by omega),TA1.bel.trans (b1.mono (by omega))⟩;have xa:(W1.alloc (.cells #[] 5)).cell? ⟨w.heap.size,7,none⟩=some (.slice ao7 d.data.1 cap7):=TA1.b1.cell 7;have xb:w2.cell? ⟨w.heap.size,7,none⟩=some (.slice ao7 d.data.1 cap7):=TB1.b1.cell 7;have xf:w2.frozen? ⟨w.heap.size,7,none⟩=false:=TB1.b1.frozen 7;have T2:Two w (w2.setCell ⟨w.heap.size,7,none⟩ (.slice bo7 d.data.1 bcap7)) (rwR d bo6 bcap6 bo7 bcap7 ao8 cap8).toArray #[.int .i64 0,.int .i64 0,.string ⟨#[]⟩,.int .i64 0,.int .i64 0,.int .i64 0,.slice none 0 0,.slice none 0 0,.slice none 0 0] 43 43:=⟨TB1.b1.stL [.slice bo7 d.data.1 bcap7] 7,TB1.b2.seto _ _ (by omega),TB1.bel.setCell (Nat.le_refl _) _⟩;have O6x:=((O6.out.call bA1).below b1 (by omega)).stN w.heap.size 7 [.slice bo7 d.data.1 bcap7] (by omega);have O7x:=o1.stN w.heap.size 7 [.slice bo7 d.data.1 bcap7] (by omega)
 have e1:(w2.setCell ⟨w.heap.size,7,none⟩ (.slice bo7 d.data.1 bcap7)).heap.size=w2.heap.size:=by simp
 clear TA1 TB1 o1 b1 bA1 T1 O6
 go_upto_region 3 with (at_builtin;refine zgz rfl (.tmp 8) (.tmp 10) rfl ?_ ?_ hrun ?_;(simp [Act.eval]);(simp [Act.eval]))
 obtain ⟨W2,hW2⟩:∃ x,x=w2.setCell ⟨w.heap.size,7,none⟩ (.slice bo7 d.data.1 bcap7):=⟨_,rfl⟩
 have O6:Hid (OwnT zal W2 W0.heap.size w1.heap.size d.rows [.slice bo6 d.rows.1 bcap6]):=by rw [hW2];exact O6x
 have O7:Hid (OwnT zad W2 W1.heap.size w2.heap.size d.data [.slice bo7 d.data.1 bcap7]):=by rw [hW2];exact O7x
 rw [← hW2] at T2 e1 ⊢;clear hW2 hrun xa xb xf O6x O7x;have bA2:=bAl W2 (.cells #[] 5);have TA2:=T2.call bA2;obtain ⟨v',w3,hrun,o2,b2⟩:=zdp 29 (W2.alloc (.cells #[] 5)) W2.heap.size (zfk W2 5) (zad.rd_below h8 TA2.bel hhi) (show d.delta.1≤10000000 by omega);obtain ⟨bo8,bcap8,hv⟩:=zbp o2;obtain rfl:=zaU hv;clear hv;have zw2:W2.heap.size+1≤w3.heap.size:=Nat.le_trans (by simp) b2.size;have TB2:Two w w3 (rwR d bo6 bcap6 bo7 bcap7 ao8 cap8).toArray #[.int .i64 0,.int .i64 0,.string ⟨#[]⟩,.int .i64 0,.int .i64 0,.int .i64 0,.slice none 0 0,.slice none 0 0,.slice none 0 0] 43 43:=⟨TA2.b1.below b2 (by omega),TA2.b2.below b2 (by omega),TA2.bel.trans (b2.mono (by omega))⟩;have xa:(W2.alloc (.cells #[] 5)).cell? ⟨w.heap.size,8,none⟩=some (.slice ao8 d.delta.1 cap8):=TA2.b1.cell 8;have xb:w3.cell? ⟨w.heap.size,8,none⟩=some (.slice ao8 d.delta.1 cap8):=TB2.b1.cell 8;have xf:w3.frozen? ⟨w.heap.size,8,none⟩=false:=TB2.b1.frozen 8;have T3:Two w (w3.setCell ⟨w.heap.size,8,none⟩ (.slice bo8 d.delta.1 bcap8)) (rwR d bo6 bcap6 bo7 bcap7 bo8 bcap8).toArray #[.int .i64 0,.int .i64 0,.string ⟨#[]⟩,.int .i64 0,.int .i64 0,.int .i64 0,.slice none 0 0,.slice none 0 0,.slice none 0 0] 43 43:=⟨TB2.b1.stL [.slice bo8 d.delta.1 bcap8] 8,TB2.b2.seto _ _ (by omega),TB2.bel.setCell (Nat.le_refl _) _⟩;have O6x:=((O6.out.call bA2).below b2 (by omega)).stN w.heap.size 8 [.slice bo8 d.delta.1 bcap8] (by omega);have O7x:=((O7.out.call bA2).below b2 (by omega)).stN w.heap.size 8 [.slice bo8 d.delta.1 bcap8] (by omega);have O8x:=o2.stN w.heap.size 8 [.slice bo8 d.delta.1 bcap8] (by omega)
 have e2:(w3.setCell ⟨w.heap.size,8,none⟩ (.slice bo8 d.delta.1 bcap8)).heap.size=w3.heap.size:=by simp
 clear TA2 TB2 o2 b2 bA2 T2 O6 O7
 go_upto_region 4 with (at_builtin;refine zgz rfl (.tmp 13) (.tmp 15) rfl ?_ ?_ hrun ?_;(simp [Act.eval]);(simp [Act.eval]))
 obtain ⟨W3,hW3⟩:∃ x,x=w3.setCell ⟨w.heap.size,8,none⟩ (.slice bo8 d.delta.1 bcap8):=⟨_,rfl⟩
 have O6:Hid (OwnT zal W3 W0.heap.size w1.heap.size d.rows [.slice bo6 d.rows.1 bcap6]):=by rw [hW3];exact O6x
 have O7:Hid (OwnT zad W3 W1.heap.size w2.heap.size d.data [.slice bo7 d.data.1 bcap7]):=by rw [hW3];exact O7x
 have O8:Hid (OwnT zad W3 W2.heap.size w3.heap.size d.delta [.slice bo8 d.delta.1 bcap8]):=by rw [hW3];exact O8x
 rw [← hW3] at T3 e2 ⊢;clear hW3 hrun xa xb xf O6x O7x O8x;have y_0:W3.cell? ⟨w.heap.size,0,none⟩=some (.int .i64 d.kind):=T3.b1.cell 0;have y_1:W3.cell? ⟨w.heap.size,1,none⟩=some (.int .i64 d.seq):=T3.b1.cell 1;have y_2:W3.cell? ⟨w.heap.size,2,none⟩=some (.string d.name):=T3.b1.cell 2;have y_3:W3.cell? ⟨w.heap.size,3,none⟩=some (.int .i64 d.length):=T3.b1.cell 3;have y_4:W3.cell? ⟨w.heap.size,4,none⟩=some (.int .i64 d.group):=T3.b1.cell 4;have y_5:W3.cell? ⟨w.heap.size,5,none⟩=some (.int .i64 d.row):=T3.b1.cell 5;have y_6:W3.cell? ⟨w.heap.size,6,none⟩=some (.slice bo6 d.rows.1 bcap6):=T3.b1.cell 6;have y_7:W3.cell? ⟨w.heap.size,7,none⟩=some (.slice bo7 d.data.1 bcap7):=T3.b1.cell 7;have y_8:W3.cell? ⟨w.heap.size,8,none⟩=some (.slice bo8 d.delta.1 bcap8):=T3.b1.cell 8;have r_0:W3.cell? ⟨w.heap.size+1,0,none⟩=some (.int .i64 0):=T3.b2.cell 0;have rf_0:W3.frozen? ⟨w.heap.size+1,0,none⟩=false:=T3.b2.frozen 0;have r_1:W3.cell? ⟨w.heap.size+1,1,none⟩=some (.int .i64 0):=T3.b2.cell 1;have rf_1:W3.frozen? ⟨w.heap.size+1,1,none⟩=false:=T3.b2.frozen 1;have r_2:W3.cell? ⟨w.heap.size+1,2,none⟩=some (.string ⟨#[]⟩):=T3.b2.cell 2;have rf_2:W3.frozen? ⟨w.heap.size+1,2,none⟩=false:=T3.b2.frozen 2;have r_3:W3.cell? ⟨w.heap.size+1,3,none⟩=some (.int .i64 0):=T3.b2.cell 3;have rf_3:W3.frozen? ⟨w.heap.size+1,3,none⟩=false:=T3.b2.frozen 3;have r_4:W3.cell? ⟨w.heap.size+1,4,none⟩=some (.int .i64 0):=T3.b2.cell 4;have rf_4:W3.frozen? ⟨w.heap.size+1,4,none⟩=false:=T3.b2.frozen 4;have r_5:W3.cell? ⟨w.heap.size+1,5,none⟩=some (.int .i64 0):=T3.b2.cell 5;have rf_5:W3.frozen? ⟨w.heap.size+1,5,none⟩=false:=T3.b2.frozen 5;have r_6:W3.cell? ⟨w.heap.size+1,6,none⟩=some (.slice none 0 0):=T3.b2.cell 6;have rf_6:W3.frozen? ⟨w.heap.size+1,6,none⟩=false:=T3.b2.frozen 6;have r_7:W3.cell? ⟨w.heap.size+1,7,none⟩=some (.slice none 0 0):=T3.b2.cell 7;have rf_7:W3.frozen? ⟨w.heap.size+1,7,none⟩=false:=T3.b2.frozen 7;have r_8:W3.cell? ⟨w.heap.size+1,8,none⟩=some (.slice none 0 0):=T3.b2.cell 8;have rf_8:W3.frozen? ⟨w.heap.size+1,8,none⟩=false:=T3.b2.frozen 8;have HB:=hid T3.bel;clear T3;go_wp2;refine bodyPost_ret (v:=.agg (rwR d bo6 bcap6 bo7 bcap7 bo8 bcap8).toArray) (by simp [results,Tryz.results100,go_sem,r_0,y_0,r_1,y_1,r_2,y_2,r_3,y_3,r_4,y_4,r_5,y_5,r_6,y_6,r_7,y_7,r_8,y_8]) rfl ?_;have F:OwnT zae W3 (w.heap.size+1+1) W3.heap.size d ([.int .i64 d.kind]++([.int .i64 d.seq]++([.string d.name]++([.int .i64 d.length]++([.int .i64 d.group]++([.int .i64 d.row]++([.slice bo6 d.rows.1 bcap6]++([.slice bo7 d.data.1 bcap7]++[.slice bo8 d.delta.1 bcap8])))))))):=OwnT.conv (OwnT.pre (A:=layI) (a:=d.kind) (c:=[.int .i64 d.kind]) ⟨rfl,Q0.out,rfl⟩ (OwnT.pre (A:=layI) (a:=d.seq) (c:=[.int .i64 d.seq]) ⟨rfl,Q1.out,rfl⟩ (OwnT.pre (A:=layS) (a:=d.name) (c:=[.string d.name]) ⟨rfl,Q2.out,rfl⟩ (OwnT.pre (A:=layI) (a:=d.length) (c:=[.int .i64 d.length]) ⟨rfl,Q3.out,rfl⟩ (OwnT.pre (A:=layI) (a:=d.group) (c:=[.int .i64 d.group]) ⟨rfl,Q4.out,rfl⟩ (OwnT.pre (A:=layI) (a:=d.row) (c:=[.int .i64 d.row]) ⟨rfl,Q5.out,rfl⟩ (OwnT.two (O6.out.weaken (by omega) (Nat.le_refl _)) (OwnT.two O7.out (O8.out.weaken (Nat.le_refl _) (by omega)) (by omega) (by omega) (by omega)) (by omega) (by omega) (by omega))))))))
 refine ⟨(rwR d bo6 bcap6 bo7 bcap7 bo8 bcap8),rfl,?_,?_⟩
 ·exact OwnT.finb F (b:=w.heap.size+1) (by omega) (by omega) 0 (rwR d bo6 bcap6 bo7 bcap7 bo8 bcap8) _ rfl
 ·exact HB.out.trans (zaS (by omega) (rwR d bo6 bcap6 bo7 bcap7 bo8 bcap8) 0)
set_option maxRecDepth 20000 in
theorem zgA:ToS (zae.slice 43) (szSl zaY) 61:=fun v d hi w h hhi hn=>by
 obtain ⟨n,x⟩:=d;obtain ⟨ao,cap,hv,hm,hc⟩:=h
 cases hv
 have hn1:=zcv hn;have hn2:∀ i,i<n→zaY (x i)≤1048576:=fun i hi=>zbB hn hi
 simp only at hn1 hm hc
 have HC:=hid hc;clear hn hc
 go_enter Tryz.func61,Tryz.ntmps61
 go_wp2
 go_loopw [3,4] (fun v i wr=>∃ (k:Nat) (ao':Option Addr) (cap':Nat),k≤n∧i=.int .i64 k∧v=.slice ao' k cap'∧Gat zae 43 wr w.heap.size (.slice ao' k cap') k x∧Below w.heap.size w wr) (fun _ i _=>n-(intOf i).toNat)
 case atStart=>exact ⟨0,_,_,Nat.zero_le _,rfl,rfl,ziX _ _,(Below.refl _ _).alloc (Nat.le_refl _) _⟩
 case round=>
  obtain ⟨k,ao',cap',hk,rfl,rfl,G,hb⟩:=hrel;obtain ⟨wo,rfl⟩:∃ y,y=wr:=⟨_,rfl⟩;have HG:=hid G;have HB:=hid hb;have zo:w.heap.size≤wo.heap.size:=hb.size;clear G
  by_cases hlt:k<n
  ·obtain ⟨b,off,he,hblt,hel⟩:=HC.out (by omega)
   subst he;obtain ⟨ck,hrk,hcell⟩:=zaB (t:=0) hel hb hhi hblt hlt;obtain ⟨ao6,cap6,ao7,cap7,ao8,cap8,rfl,-⟩:=za5 hrk;have c0:wo.cell? ⟨b,off+k*9,none⟩=some (.int .i64 (x k).kind):=hcell 0 (by decide);have c1:wo.cell? ⟨b,off+k*9+1,none⟩=some (.int .i64 (x k).seq):=hcell 1 (by decide);have c2:wo.cell? ⟨b,off+k*9+2,none⟩=some (.string (x k).name):=hcell 2 (by decide);have c3:wo.cell? ⟨b,off+k*9+3,none⟩=some (.int .i64 (x k).length):=hcell 3 (by decide);have c4:wo.cell? ⟨b,off+k*9+4,none⟩=some (.int .i64 (x k).group):=hcell 4 (by decide);have c5:wo.cell? ⟨b,off+k*9+5,none⟩=some (.int .i64 (x k).row):=hcell 5 (by decide);have c6:wo.cell? ⟨b,off+k*9+6,none⟩=some (.slice ao6 (x k).rows.1 cap6):=hcell 6 (by decide);have c7:wo.cell? ⟨b,off+k*9+7,none⟩=some (.slice ao7 (x k).data.1 cap7):=hcell 7 (by decide);have c8:wo.cell? ⟨b,off+k*9+8,none⟩=some (.slice ao8 (x k).delta.1 cap8):=hcell 8 (by decide);have C:=zhp _ (x k) hi wo hrk (Nat.le_trans hhi zo) (hn2 k hlt);clear hel hcell hrk hb
   go_wp2_with fail
   refine C.mono ?_;rintro e w2 ⟨cs',rfl,o2,b2⟩;obtain ⟨bo6,bc6,bo7,bc7,bo8,bc8,rfl⟩:=ze2 o2;clear C c0 c1 c2 c3 c4 c5 c6 c7 c8
   go_wp2_with (at_builtin;refine zeq zkH rfl (.tmp 12) (.tmp 18) rfl (lo:=w.heap.size) (n:=k) (v:=.slice ao' k cap') (x:=x) ?_ HG.out b2 o2 ?_ w2.heap.size 1 ?_ (fun j _=>zdo w2 _ _ j) (by omega) (by omega) ?_;(simp [Act.eval]);(exact (Below.refl _ _).alloc (Nat.le_refl _) _);(simp [Act.eval]);intro v4 w4 g4 b4;obtain ⟨ao4,cap4,rfl⟩:=g4.form)
   go_roundw
   case rel=>exact ⟨k+1,ao4,cap4,by omega,by go_num,rfl,g4.congr (fun i _=>by rw [zcz]),HB.out.trans b4⟩
   case measure=>simp [intOf];omega
  ·obtain rfl:k=n:=by omega
   clear hb;go_wp2;go_ret;exact ⟨_,rfl,HG.out.own,HB.out⟩
end Go.Proofs.YtlpbohnadenacaaGreat
