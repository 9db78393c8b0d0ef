/- The change that strikes records; its raw write. -/
import Derived.Test.YthbpmbgfddpffaaGreatZPcleanao
set_option linter.unusedVariables false
set_option linter.unusedSimpArgs false
set_option maxHeartbeats 16000000
namespace Go.Proofs.YthbpmbgfddpffaaGreat
open Go.RowKit F256
def zcP (d:WorldD) (T:Nat) (kd sq:Int):WorldD:={ d with tapes:=(d.tapes.1,upd d.tapes.2 T (zdC (d.tapes.2 T) kd sq)) }
set_option maxRecDepth 20000 in
theorem zit (E:Nat) (d:WorldD) (cs:List Value) (K:List Nat) (q0 q1 q2 T:Nat) (kd sq:Int) (hT:T<d.tapes.1) (hn:(d.tapes.2 T).recs.1≤1048576) (w:World) (hX:Box w E (([.int .i32 1,.int .u32 0,.int .u32 0,.int .i32 0,.int .u32 0]:List Value)++cs).toArray 110) (hO:EncO w E d cs K) (h0:w.cell? ⟨q0,0,none⟩=some (.int .i64 (T:Int))) (h1:w.cell? ⟨q1,0,none⟩=some (.int .i64 kd)) (h2:w.cell? ⟨q2,0,none⟩=some (.int .i64 sq)) (l0:q0<w.heap.size∧q0∉K) (l1:q1<w.heap.size∧q1∉K) (l2:q2<w.heap.size∧q2∉K) :
 Calls Tryz.prog 141 #[.pointer (some ⟨E,5,none⟩),.pointer (some ⟨q0,0,none⟩),.pointer (some ⟨q1,0,none⟩),.pointer (some ⟨q2,0,none⟩)] w fun e w'=>e=.returned (.tuple #[])∧∃ cs' K',Box w' E (([.int .i32 1,.int .u32 0,.int .u32 0,.int .i32 0,.int .u32 0]:List Value)++cs').toArray 110∧EncO w' E (zcP d T kd sq) cs' K'∧(∀ b,b∈K'→b∈K∨w.heap.size≤b)∧ChgL (E::K) w w':=by
 have hmf:∀ (fn:Fn) (first cap:Array Value) (w:World),(Instr.makeFunc fn first cap).run Tryz.prog w=.ok (.func fn first cap) w:=fun _ _ _ _=>rfl;have O0:EncO w.drew E d cs K:=hO.chg (ChgL.refl [E] _).drew;obtain ⟨p1,c1,p2,c2,p3,c3,K1,K2,K3,rfl,rfl,WO⟩:=O0.open;obtain ⟨gt,cap,ce,Ls,e3,eL,S3⟩:=zbP WO.t (by omega)
 simp only [List.cons.injEq,Value.slice.injEq,and_true,true_and] at e3
 obtain ⟨rfl,rfl⟩:=e3;subst eL;have nd3:(gt::catN d.tapes.1 Ls).Nodup:=(List.nodup_append.1 (List.nodup_append.1 WO.nd).2.1).2.1;obtain ⟨ao9,cap9,K9,e9,eK9,o9⟩:=ze5 (S3.each T hT);have in9:∀ b,b∈K9→b∈gt::catN d.tapes.1 Ls:=fun b hb=>SlO.sub T hT b (by rw [eK9];exact hb);have inK:∀ b,b∈gt::catN d.tapes.1 Ls→b∈K1++(K2++(gt::catN d.tapes.1 Ls)):=fun b hb=>List.mem_append_right _ (List.mem_append_right _ hb);have hE9:E∉K9:=fun hb=>hO.ne (inK _ (in9 _ hb));have hgt:gt∉K9:=fun hb=>(List.nodup_cons.1 nd3).1 (zaJ.2 ⟨T,hT,by rw [eK9];exact hb⟩);have x16:w.cell? ⟨E,16,none⟩=some (.slice (some ⟨gt,0,none⟩) d.tapes.1 c3):=hX.cell 16;have y1:w.drew.cell? ⟨gt,T*2+1,none⟩=some (.slice ao9 (d.tapes.2 T).recs.1 cap9):=(S3.cell hT (j:=1) (by decide)).trans (by rw [e9];rfl);have hEl:=hX.lt;have hgl:gt<w.drew.heap.size:=S3.lt;have KS:∀ w',ChgL K9 w.drew w'→(w'.cell? ⟨E,16,none⟩=some (.slice (some ⟨gt,0,none⟩) d.tapes.1 c3)∧w'.cell? ⟨q0,0,none⟩=some (.int .i64 (T:Int))∧w'.cell? ⟨gt,T*2+1,none⟩=some (.slice ao9 (d.tapes.2 T).recs.1 cap9)):=fun w' hc=>⟨(World.cell?_of_block (hc.block E hEl hE9)).trans x16,(World.cell?_of_block (hc.block q0 l0.1 (fun hb=>l0.2 (inK _ (in9 _ hb))))).trans h0,(World.cell?_of_block (hc.block gt hgl hgt)).trans y1⟩;have CC:=zk3 o9 (by rw [← eK9];exact zen (List.nodup_cons.1 nd3).2 hT) hn q1 q2 kd sq h1 h2 l1.1 l2.1 (fun hb=>l1.2 (inK _ (in9 _ hb))) (fun hb=>l2.2 (inK _ (in9 _ hb)))
 have i1:(0:Int)≤(T:Int):=by omega
 have i2:(T:Int)<(d.tapes.1:Int):=by omega
 have HX:Hid (Box w.drew E #[.int .i32 1,.int .u32 0,.int .u32 0,.int .i32 0,.int .u32 0,.int .i64 (d.shape 0),.int .i64 (d.shape 1),.int .i64 (d.shape 2),.int .i64 (d.shape 3),.int .i64 (d.shape 4),.int .i64 (d.shape 5),.int .i64 (d.shape 6),.int .i64 (d.shape 7),.int .i64 (d.shape 8),.slice p1 d.groups.1 c1,.slice p2 d.on.1 c2,.slice (some ⟨gt,0,none⟩) d.tapes.1 c3,.int .i64 d.writes,.int .i64 d.stop,.bool d.down] 110):=hX;have HNE:Hid (E∉K1++(K2++(gt::catN d.tapes.1 Ls))):=hO.ne;clear hX hO O0
 go_enter Tryz.func141,Tryz.ntmps141
 go_upto_region 0 with fail
 refine zb0 17 (fun w'=>w'.cell? ⟨E,16,none⟩=some (.slice (some ⟨gt,0,none⟩) d.tapes.1 c3)∧w'.cell? ⟨q0,0,none⟩=some (.int .i64 (T:Int))∧w'.cell? ⟨gt,T*2+1,none⟩=some (.slice ao9 (d.tapes.2 T).recs.1 cap9)) (by kernel_rfl) (KS _ (ChgL.refl _ _)) (fun hHeld=>?_);refine zn6 0 rfl ?_
 try simp only [Act.put,SL]
 refine zn6 1 rfl ?_
 try simp only [Act.put,SL]
 refine zn6 2 rfl ?_
 try simp only [Act.put,SL]
 refine zn6 3 rfl ?_
 try simp only [Act.put,SL]
 refine zn6 4 rfl ?_
 try simp only [Act.put,SL]
 refine zn6 5 rfl ?_
 try simp only [Act.put,SL]
 refine zn6 6 rfl ?_
 try simp only [Act.put,SL]
 refine zn6 7 rfl ?_
 try simp only [Act.put,SL]
 refine zn6 8 rfl ?_
 try simp only [Act.put,SL]
 refine zn6 9 rfl ?_
 try simp only [Act.put,SL]
 refine zn6 10 rfl ?_
 try simp only [Act.put,SL]
 refine zn6 11 rfl ?_
 try simp only [Act.put,SL]
 refine zn6 12 rfl ?_
 try simp only [Act.put,SL]
 refine zn6 13 rfl ?_
 try simp only [Act.put,SL]
 refine zaX (i:=14) (o:=_) rfl (by kernel_rfl) (fun KC hKC=>?_)
 refine zbJ rfl 93 _ _ rfl #[.slice ao9 (d.tapes.2 T).recs.1 cap9,.func (.func 142) #[] #[.pointer (some ⟨q1,0,none⟩),.pointer (some ⟨q2,0,none⟩)]] ?_ Tryz.func93 (by kernel_rfl) (by kernel_rfl) CC ?_;(simp [Act.eval,Act.put]);rintro ee w5 ⟨ao',cap',K',rfl,TT⟩;have k1:=KS w5 TT.chg;have f1:w5.frozen? ⟨gt,T*2+1,none⟩=false:=(World.frozen?_of_block (a:=⟨gt,T*2+1,none⟩) (TT.chg.block gt S3.lt hgt)).trans (S3.frozen _);have t1:w5.cell? ⟨gt,T*2+1,none⟩=some (.slice ao9 (d.tapes.2 T).recs.1 cap9):=k1.2.2;refine ⟨_,rfl,?_⟩
 refine hKC.out _ _ (k1) (fun hHeld=>?_);clear hKC KC
 try simp only [Act.put,SL]
 refine zn6 15 rfl ?_
 try simp only [Act.put,SL]
 refine zn6 16 rfl ?_
 try simp only [Act.put,SL]
 refine zbY (o:=_) rfl (by kernel_rfl) (fun KC hKC=>?_);go_simp;refine hKC.out _ _ ?_;clear hKC KC
 try simp only [Act.put,SL]
 refine zbZ (by kernel_rfl) ?_ _;have TK:=zfW e9 TT;rw [← eK9] at TK;obtain ⟨T7,-⟩:=S3.turn_cell nd3 hT (j:=1) (by decide) _ TK (w':=w5.setCell ⟨gt,T*zaj.sz+1,none⟩ (.slice ao' (zbr (d.tapes.2 T).recs kd sq).1 cap')) rfl;have WO7:=WO.tapes (Nat.le_refl _) (Nat.zero_le _) T7;have hin:∀ b,b∈gt::catN d.tapes.1 Ls→b≠E:=fun b hb he=>HNE.out (by rw [← he];exact inK b hb);have X7:=HX.out.chgl T7.chg (fun hb=>hin E hb rfl)
 have sub7:∀ b,b∈K1++(K2++(gt::catN d.tapes.1 (upd Ls T K')))→b∈K1++(K2++(gt::catN d.tapes.1 Ls))∨w.heap.size≤b:=fun b hb=>by
  rcases List.mem_append.1 hb with h | h
  ·exact .inl (List.mem_append_left _ h)
  ·rcases List.mem_append.1 h with h | h
   ·exact .inl (List.mem_append_right _ (List.mem_append_left _ h))
   ·rcases T7.sub b h with h | h
    ·exact .inl (inK b h)
    ·exact .inr h.1
 have hE7:E∉K1++(K2++(gt::catN d.tapes.1 (upd Ls T K'))):=fun hm=>by
  rcases sub7 E hm with h | h
  ·exact HNE.out h
  ·omega
 have O7:=WO7.encO hE7;have C7:ChgL (E::(K1++(K2++(gt::catN d.tapes.1 Ls)))) w (w5.setCell ⟨gt,T*zaj.sz+1,none⟩ (.slice ao' (zbr (d.tapes.2 T).recs kd sq).1 cap')):=((ChgL.refl _ w).drew).trans (T7.chg.mono (fun b hb=>List.mem_cons_of_mem _ (inK b hb)));have HX7:Hid (Box (w5.setCell ⟨gt,T*zaj.sz+1,none⟩ (.slice ao' (zbr (d.tapes.2 T).recs kd sq).1 cap')) E #[.int .i32 1,.int .u32 0,.int .u32 0,.int .i32 0,.int .u32 0,.int .i64 (d.shape 0),.int .i64 (d.shape 1),.int .i64 (d.shape 2),.int .i64 (d.shape 3),.int .i64 (d.shape 4),.int .i64 (d.shape 5),.int .i64 (d.shape 6),.int .i64 (d.shape 7),.int .i64 (d.shape 8),.slice p1 d.groups.1 c1,.slice p2 d.on.1 c2,.slice (some ⟨gt,0,none⟩) d.tapes.1 c3,.int .i64 d.writes,.int .i64 d.stop,.bool d.down] 110):=X7;have HS:Hid (∀ b,b∈K1++(K2++((gt::catN d.tapes.1 (upd Ls T K'))++[]))→b∈K1++(K2++(gt::catN d.tapes.1 Ls))∨w.heap.size≤b):=fun b hb=>sub7 b (by simpa using hb);have HO7:Hid (EncO (w5.setCell ⟨gt,T*zaj.sz+1,none⟩ (.slice ao' (zbr (d.tapes.2 T).recs kd sq).1 cap')) E (zcP d T kd sq) (rwW d p1 c1 p2 c2 (some ⟨gt,0,none⟩) c3) (K1++(K2++((gt::catN d.tapes.1 (upd Ls T K'))++[])))):=O7;have HC7:Hid (ChgL (E::(K1++(K2++(gt::catN d.tapes.1 Ls)))) w (w5.setCell ⟨gt,T*zaj.sz+1,none⟩ (.slice ao' (zbr (d.tapes.2 T).recs kd sq).1 cap'))):=C7;clear O7 C7 X7 WO7 T7 TK TT WO S3 CC KS sub7 hE7 hin;go_wp2
 go_end0
 exact ⟨rfl,_,_,HX7.out,HO7.out,HS.out,HC7.out⟩
set_option maxRecDepth 100000 in
theorem zfX (E:Nat) (v0 v1 v2 v3 v4 v5 v6 v7 v8 vp0 vl0 vq0 vp1 vl1 vq1 vp2 vl2 vq2 v9 v10 vb:_) (d d':WorldD) (K:List Nat) (q0 q1 q2:Nat) (w:World) (hX:Box w E #[.int .i32 0,.int .u32 0,.int .u32 0,.int .i32 0,.int .u32 0,.int .i64 v0,.int .i64 v1,.int .i64 v2,.int .i64 v3,.int .i64 v4,.int .i64 v5,.int .i64 v6,.int .i64 v7,.int .i64 v8,.slice vp0 vl0 vq0,.slice vp1 vl1 vq1,.slice vp2 vl2 vq2,.int .i64 v9,.int .i64 v10,.bool vb] 110) (hO:EncO w E d [.int .i64 v0,.int .i64 v1,.int .i64 v2,.int .i64 v3,.int .i64 v4,.int .i64 v5,.int .i64 v6,.int .i64 v7,.int .i64 v8,.slice vp0 vl0 vq0,.slice vp1 vl1 vq1,.slice vp2 vl2 vq2,.int .i64 v9,.int .i64 v10,.bool vb] K) (hpw:¬ (v10≠-1∧v10≤v9)) (hwr:-9223372036854775808≤d'.writes∧d'.writes+1≤9223372036854775807)
 (hch:∀ W,Box W E #[.int .i32 1,.int .u32 0,.int .u32 0,.int .i32 0,.int .u32 0,.int .i64 v0,.int .i64 v1,.int .i64 v2,.int .i64 v3,.int .i64 v4,.int .i64 v5,.int .i64 v6,.int .i64 v7,.int .i64 v8,.slice vp0 vl0 vq0,.slice vp1 vl1 vq1,.slice vp2 vl2 vq2,.int .i64 v9,.int .i64 v10,.bool vb] 110→EncO W E d [.int .i64 v0,.int .i64 v1,.int .i64 v2,.int .i64 v3,.int .i64 v4,.int .i64 v5,.int .i64 v6,.int .i64 v7,.int .i64 v8,.slice vp0 vl0 vq0,.slice vp1 vl1 vq1,.slice vp2 vl2 vq2,.int .i64 v9,.int .i64 v10,.bool vb] K→ChgL [E] w W→Calls Tryz.prog 141 #[.pointer (some ⟨E,5,none⟩),.pointer (some ⟨q0,0,none⟩),.pointer (some ⟨q1,0,none⟩),.pointer (some ⟨q2,0,none⟩)] W fun e w'=>e=.returned (.tuple #[])∧∃ cs' K',Box w' E ([.int .i32 1,.int .u32 0,.int .u32 0,.int .i32 0,.int .u32 0]++cs').toArray 110∧EncO w' E d' cs' K'∧(∀ b,b∈K'→b∈K∨W.heap.size≤b)∧ChgL (E::K) W w') :
 Calls Tryz.prog 140 #[.pointer (some ⟨E,0,none⟩),.func (.func 141) #[] #[.pointer (some ⟨q0,0,none⟩),.pointer (some ⟨q1,0,none⟩),.pointer (some ⟨q2,0,none⟩)]] w fun e w'=>e=.returned (.tuple #[])∧∃ cs' K',Box w' E ([.int .i32 0,.int .u32 0,.int .u32 0,.int .i32 0,.int .u32 0]++cs').toArray 110∧EncO w' E { d' with writes:=d'.writes+1 } cs' K'∧(∀ b,b∈K'→b∈K∨w.heap.size≤b)∧ChgL (E::K) w w':=by
 have HWR:=hid hwr;have CH:=hid hch;have hO':=hid hO
 by_cases hs:v10=-1
 ·have d1:(v10 != -1)=false:=by simpa using hs
  clear hpw hwr hch hO hs;have hE:E<w.heap.size:=hX.lt;have hmf:∀ (fn:Fn) (first cap:Array Value) (w:World),(Instr.makeFunc fn first cap).run Tryz.prog w=.ok (.func fn first cap) w:=fun _ _ _ _=>rfl;have bA:=bAl w (.cells #[.pointer (some ⟨E,0,none⟩)] 91);have P1:=zaq w #[.pointer (some ⟨E,0,none⟩)] 91;have X1:=hX.below bA hE
  go_enter_defers Tryz.func140,Tryz.ntmps140
  go_upto_region 1 with fail
  obtain ⟨W1,hW1⟩:∃ x,x=w.alloc (.cells #[.pointer (some ⟨E,0,none⟩)] 91):=⟨_,rfl⟩;rw [← hW1] at bA P1 X1 ⊢
  have zW:W1.heap.size=w.heap.size+1:=by rw [hW1];simp
  clear hW1;have hp1:W1.cell? ⟨w.heap.size,0,none⟩=some (.pointer (some ⟨E,0,none⟩)):=P1.cell 0;have c0:W1.cell? ⟨E,0,none⟩=some (.int .i32 0):=X1.cell 0;have f0:W1.frozen? ⟨E,0,none⟩=false:=X1.frozen 0;have X2:Box (W1.setCell ⟨E,0,none⟩ (.int .i32 1)) E #[.int .i32 1,.int .u32 0,.int .u32 0,.int .i32 0,.int .u32 0,.int .i64 v0,.int .i64 v1,.int .i64 v2,.int .i64 v3,.int .i64 v4,.int .i64 v5,.int .i64 v6,.int .i64 v7,.int .i64 v8,.slice vp0 vl0 vq0,.slice vp1 vl1 vq1,.slice vp2 vl2 vq2,.int .i64 v9,.int .i64 v10,.bool vb] 110:=X1.setc 0 _;have P2:Box (W1.setCell ⟨E,0,none⟩ (.int .i32 1)) w.heap.size #[.pointer (some ⟨E,0,none⟩)] 91:=P1.seto 0 _ (by omega);have C2':ChgL [E] w (W1.setCell ⟨E,0,none⟩ (.int .i32 1)):=(ChgL.of_below bA).st _ 0 _ (by simp)
  go_upto_region 2 with (go_at_call 174;refine (zfa ⟨E,0,none⟩ _ c0 f0).mono ?_;rintro e w' ⟨rfl,rfl⟩)
  obtain ⟨W2,hW2⟩:∃ x,x=W1.setCell ⟨E,0,none⟩ (.int .i32 1):=⟨_,rfl⟩;rw [← hW2] at X2 P2 C2' ⊢
  have z2:W2.heap.size=w.heap.size+1:=by rw [hW2];simpa using zW
  clear hW2 hp1 c0 f0 X1 P1 bA hX;have hp2:W2.cell? ⟨w.heap.size,0,none⟩=some (.pointer (some ⟨E,0,none⟩)):=P2.cell 0;have x17:W2.cell? ⟨E,17,none⟩=some (.int .i64 v9):=X2.cell 17;have x18:W2.cell? ⟨E,18,none⟩=some (.int .i64 v10):=X2.cell 18
  go_upto_region 3 with fail
  go_quiet (fail)
  go_upto_region 6 with fail
  obtain ⟨W3,hW3⟩:∃ x,x=W2.drewN nq:=⟨_,rfl⟩;rw [← hW3]
  have X3:Box W3 E #[.int .i32 1,.int .u32 0,.int .u32 0,.int .i32 0,.int .u32 0,.int .i64 v0,.int .i64 v1,.int .i64 v2,.int .i64 v3,.int .i64 v4,.int .i64 v5,.int .i64 v6,.int .i64 v7,.int .i64 v8,.slice vp0 vl0 vq0,.slice vp1 vl1 vq1,.slice vp2 vl2 vq2,.int .i64 v9,.int .i64 v10,.bool vb] 110:=by rw [hW3];exact X2
  have P3:Box W3 w.heap.size #[.pointer (some ⟨E,0,none⟩)] 91:=by rw [hW3];exact P2
  have C3':ChgL [E] w W3:=by rw [hW3];exact ⟨C2'.os,C2'.tape,C2'.output,C2'.size,C2'.block⟩
  have z3:W3.heap.size=w.heap.size+1:=by rw [hW3];exact z2
  have hp3:W3.cell? ⟨w.heap.size,0,none⟩=some (.pointer (some ⟨E,0,none⟩)):=P3.cell 0;clear hW3 X2 P2 C2' z2 hp2 x17 x18;have O3:=hO'.out.chg C3'
  have CC:=(CH.out W3 X3 O3 C3').mono (R':=fun e w'=>e=.returned (.tuple #[])∧∃ y0 y1 y2 y3 y4 y5 y6 y7 y8 yp0 yl0 yq0 yp1 yl1 yq1 yp2 yl2 yq2 y9 y10 yb K',Box w' E #[.int .i32 1,.int .u32 0,.int .u32 0,.int .i32 0,.int .u32 0,.int .i64 y0,.int .i64 y1,.int .i64 y2,.int .i64 y3,.int .i64 y4,.int .i64 y5,.int .i64 y6,.int .i64 y7,.int .i64 y8,.slice yp0 yl0 yq0,.slice yp1 yl1 yq1,.slice yp2 yl2 yq2,.int .i64 y9,.int .i64 y10,.bool yb] 110∧EncO w' E d' (rwV y0 y1 y2 y3 y4 y5 y6 y7 y8 yp0 yl0 yq0 yp1 yl1 yq1 yp2 yl2 yq2 y9 y10 yb) K'∧(∀ b,b∈K'→b∈K∨W3.heap.size≤b)∧ChgL (E::K) W3 w') (fun e w' ⟨he,cs',K',hX',hO',hs',hC'⟩=>by
   obtain ⟨y0,y1,y2,y3,y4,y5,y6,y7,y8,yp0,yl0,yq0,yp1,yl1,yq1,yp2,yl2,yq2,y9,y10,yb,rfl⟩:=zcu hO'.own
   exact ⟨he,y0,y1,y2,y3,y4,y5,y6,y7,y8,yp0,yl0,yq0,yp1,yl1,yq1,yp2,yl2,yq2,y9,y10,yb,K',hX',hO',hs',hC'⟩)
  have hKl:∀ b,b∈K→b<w.heap.size:=fun b hb=>zae.own_lt hO'.out.own b hb
  go_wp2_with (go_at_call 141;refine CC.mono ?_;rintro e w5 ⟨rfl,y0,y1,y2,y3,y4,y5,y6,y7,y8,yp0,yl0,yq0,yp1,yl1,yq1,yp2,yl2,yq2,y9,y10,yb,K5,X5,O5,s5,C5⟩;have P5:=P3.chgl C5 (by intro hm;rcases List.mem_cons.1 hm with h | h;omega;have:=hKl _ h;omega);have hp5:w5.cell? ⟨w.heap.size,0,none⟩=some (.pointer (some ⟨E,0,none⟩)):=P5.cell 0;have x17:w5.cell? ⟨E,17,none⟩=some (.int .i64 y9):=X5.cell 17;have f17:w5.frozen? ⟨E,17,none⟩=false:=X5.frozen 17;have HY9:=hid (zex O5.own);have zz:IntKind.i64.wrap (y9+1)=y9+1:=by rw [IntKind.wrap_i64];have:=HWR.out;have:=HY9.out;omega)
  refine leaves_cons (f:=175) (args:=#[.pointer (some ⟨E,0,none⟩)]) (by simp) (by simp [go_sem]) ?_;have X6:Box (w5.setCell ⟨E,17,none⟩ (.int .i64 (y9+1))) E #[.int .i32 1,.int .u32 0,.int .u32 0,.int .i32 0,.int .u32 0,.int .i64 y0,.int .i64 y1,.int .i64 y2,.int .i64 y3,.int .i64 y4,.int .i64 y5,.int .i64 y6,.int .i64 y7,.int .i64 y8,.slice yp0 yl0 yq0,.slice yp1 yl1 yq1,.slice yp2 yl2 yq2,.int .i64 (y9+1),.int .i64 y10,.bool yb] 110:=X5.setc 17 _;refine (zdg ⟨E,0,none⟩ _ _ (X6.cell 0) (X6.frozen 0)).mono ?_;rintro e u' w'' ⟨rfl,rfl,rfl⟩;have X7:Box ((w5.setCell ⟨E,17,none⟩ (.int .i64 (y9+1))).setCell ⟨E,0,none⟩ (.int .i32 0)) E #[.int .i32 0,.int .u32 0,.int .u32 0,.int .i32 0,.int .u32 0,.int .i64 y0,.int .i64 y1,.int .i64 y2,.int .i64 y3,.int .i64 y4,.int .i64 y5,.int .i64 y6,.int .i64 y7,.int .i64 y8,.slice yp0 yl0 yq0,.slice yp1 yl1 yq1,.slice yp2 yl2 yq2,.int .i64 (y9+1),.int .i64 y10,.bool yb] 110:=X6.setc 0 _;have C7:ChgL [E] w5 ((w5.setCell ⟨E,17,none⟩ (.int .i64 (y9+1))).setCell ⟨E,0,none⟩ (.int .i32 0)):=((ChgL.refl _ _).st _ 17 _ (by simp)).st _ 0 _ (by simp)
  have O7:EncO w5 E { d' with writes:=d'.writes+1 } [.int .i64 y0,.int .i64 y1,.int .i64 y2,.int .i64 y3,.int .i64 y4,.int .i64 y5,.int .i64 y6,.int .i64 y7,.int .i64 y8,.slice yp0 yl0 yq0,.slice yp1 yl1 yq1,.slice yp2 yl2 yq2,.int .i64 (y9+1),.int .i64 y10,.bool yb] K5:=by
   rw [← HY9.out];exact ⟨zd9 (y9+1) (by have:=HWR.out;have:=HY9.out;omega) O5.own,O5.nd,O5.ne⟩
  simp only [Leaves,settle]
  refine ⟨_,results_none rfl _ _ _,rfl,_,K5,X7,O7.chg C7,fun b hb=>?_,?_⟩
  ·rcases s5 b hb with h | h
   ·exact .inl h
   ·exact .inr (by omega)
  ·exact (C3'.mono (fun b hb=>by simp at hb;simp [hb])).trans (C5.trans (C7.mono (fun b hb=>by simp at hb;simp [hb])))
 ·have d1:(v10 != -1)=true:=by simpa using hs
  have d2:decide (v10≤v9)=false:=by
   simp only [decide_eq_false_iff_not]
   exact fun h=>hpw ⟨hs,h⟩
  clear hpw hwr hch hO hs;have hE:E<w.heap.size:=hX.lt;have hmf:∀ (fn:Fn) (first cap:Array Value) (w:World),(Instr.makeFunc fn first cap).run Tryz.prog w=.ok (.func fn first cap) w:=fun _ _ _ _=>rfl;have bA:=bAl w (.cells #[.pointer (some ⟨E,0,none⟩)] 91);have P1:=zaq w #[.pointer (some ⟨E,0,none⟩)] 91;have X1:=hX.below bA hE
  go_enter_defers Tryz.func140,Tryz.ntmps140
  go_upto_region 1 with fail
  obtain ⟨W1,hW1⟩:∃ x,x=w.alloc (.cells #[.pointer (some ⟨E,0,none⟩)] 91):=⟨_,rfl⟩;rw [← hW1] at bA P1 X1 ⊢
  have zW:W1.heap.size=w.heap.size+1:=by rw [hW1];simp
  clear hW1;have hp1:W1.cell? ⟨w.heap.size,0,none⟩=some (.pointer (some ⟨E,0,none⟩)):=P1.cell 0;have c0:W1.cell? ⟨E,0,none⟩=some (.int .i32 0):=X1.cell 0;have f0:W1.frozen? ⟨E,0,none⟩=false:=X1.frozen 0;have X2:Box (W1.setCell ⟨E,0,none⟩ (.int .i32 1)) E #[.int .i32 1,.int .u32 0,.int .u32 0,.int .i32 0,.int .u32 0,.int .i64 v0,.int .i64 v1,.int .i64 v2,.int .i64 v3,.int .i64 v4,.int .i64 v5,.int .i64 v6,.int .i64 v7,.int .i64 v8,.slice vp0 vl0 vq0,.slice vp1 vl1 vq1,.slice vp2 vl2 vq2,.int .i64 v9,.int .i64 v10,.bool vb] 110:=X1.setc 0 _;have P2:Box (W1.setCell ⟨E,0,none⟩ (.int .i32 1)) w.heap.size #[.pointer (some ⟨E,0,none⟩)] 91:=P1.seto 0 _ (by omega);have C2':ChgL [E] w (W1.setCell ⟨E,0,none⟩ (.int .i32 1)):=(ChgL.of_below bA).st _ 0 _ (by simp)
  go_upto_region 2 with (go_at_call 174;refine (zfa ⟨E,0,none⟩ _ c0 f0).mono ?_;rintro e w' ⟨rfl,rfl⟩)
  obtain ⟨W2,hW2⟩:∃ x,x=W1.setCell ⟨E,0,none⟩ (.int .i32 1):=⟨_,rfl⟩;rw [← hW2] at X2 P2 C2' ⊢
  have z2:W2.heap.size=w.heap.size+1:=by rw [hW2];simpa using zW
  clear hW2 hp1 c0 f0 X1 P1 bA hX;have hp2:W2.cell? ⟨w.heap.size,0,none⟩=some (.pointer (some ⟨E,0,none⟩)):=P2.cell 0;have x17:W2.cell? ⟨E,17,none⟩=some (.int .i64 v9):=X2.cell 17;have x18:W2.cell? ⟨E,18,none⟩=some (.int .i64 v10):=X2.cell 18
  go_upto_region 3 with fail
  go_quiet (fail)
  go_upto_region 6 with fail
  obtain ⟨W3,hW3⟩:∃ x,x=W2.drewN nq:=⟨_,rfl⟩;rw [← hW3]
  have X3:Box W3 E #[.int .i32 1,.int .u32 0,.int .u32 0,.int .i32 0,.int .u32 0,.int .i64 v0,.int .i64 v1,.int .i64 v2,.int .i64 v3,.int .i64 v4,.int .i64 v5,.int .i64 v6,.int .i64 v7,.int .i64 v8,.slice vp0 vl0 vq0,.slice vp1 vl1 vq1,.slice vp2 vl2 vq2,.int .i64 v9,.int .i64 v10,.bool vb] 110:=by rw [hW3];exact X2
  have P3:Box W3 w.heap.size #[.pointer (some ⟨E,0,none⟩)] 91:=by rw [hW3];exact P2
  have C3':ChgL [E] w W3:=by rw [hW3];exact ⟨C2'.os,C2'.tape,C2'.output,C2'.size,C2'.block⟩
  have z3:W3.heap.size=w.heap.size+1:=by rw [hW3];exact z2
  have hp3:W3.cell? ⟨w.heap.size,0,none⟩=some (.pointer (some ⟨E,0,none⟩)):=P3.cell 0;clear hW3 X2 P2 C2' z2 hp2 x17 x18;have O3:=hO'.out.chg C3'
  have CC:=(CH.out W3 X3 O3 C3').mono (R':=fun e w'=>e=.returned (.tuple #[])∧∃ y0 y1 y2 y3 y4 y5 y6 y7 y8 yp0 yl0 yq0 yp1 yl1 yq1 yp2 yl2 yq2 y9 y10 yb K',Box w' E #[.int .i32 1,.int .u32 0,.int .u32 0,.int .i32 0,.int .u32 0,.int .i64 y0,.int .i64 y1,.int .i64 y2,.int .i64 y3,.int .i64 y4,.int .i64 y5,.int .i64 y6,.int .i64 y7,.int .i64 y8,.slice yp0 yl0 yq0,.slice yp1 yl1 yq1,.slice yp2 yl2 yq2,.int .i64 y9,.int .i64 y10,.bool yb] 110∧EncO w' E d' (rwV y0 y1 y2 y3 y4 y5 y6 y7 y8 yp0 yl0 yq0 yp1 yl1 yq1 yp2 yl2 yq2 y9 y10 yb) K'∧(∀ b,b∈K'→b∈K∨W3.heap.size≤b)∧ChgL (E::K) W3 w') (fun e w' ⟨he,cs',K',hX',hO',hs',hC'⟩=>by
   obtain ⟨y0,y1,y2,y3,y4,y5,y6,y7,y8,yp0,yl0,yq0,yp1,yl1,yq1,yp2,yl2,yq2,y9,y10,yb,rfl⟩:=zcu hO'.own
   exact ⟨he,y0,y1,y2,y3,y4,y5,y6,y7,y8,yp0,yl0,yq0,yp1,yl1,yq1,yp2,yl2,yq2,y9,y10,yb,K',hX',hO',hs',hC'⟩)
  have hKl:∀ b,b∈K→b<w.heap.size:=fun b hb=>zae.own_lt hO'.out.own b hb
  go_wp2_with (go_at_call 141;refine CC.mono ?_;rintro e w5 ⟨rfl,y0,y1,y2,y3,y4,y5,y6,y7,y8,yp0,yl0,yq0,yp1,yl1,yq1,yp2,yl2,yq2,y9,y10,yb,K5,X5,O5,s5,C5⟩;have P5:=P3.chgl C5 (by intro hm;rcases List.mem_cons.1 hm with h | h;omega;have:=hKl _ h;omega);have hp5:w5.cell? ⟨w.heap.size,0,none⟩=some (.pointer (some ⟨E,0,none⟩)):=P5.cell 0;have x17:w5.cell? ⟨E,17,none⟩=some (.int .i64 y9):=X5.cell 17;have f17:w5.frozen? ⟨E,17,none⟩=false:=X5.frozen 17;have HY9:=hid (zex O5.own);have zz:IntKind.i64.wrap (y9+1)=y9+1:=by rw [IntKind.wrap_i64];have:=HWR.out;have:=HY9.out;omega)
  refine leaves_cons (f:=175) (args:=#[.pointer (some ⟨E,0,none⟩)]) (by simp) (by simp [go_sem]) ?_;have X6:Box (w5.setCell ⟨E,17,none⟩ (.int .i64 (y9+1))) E #[.int .i32 1,.int .u32 0,.int .u32 0,.int .i32 0,.int .u32 0,.int .i64 y0,.int .i64 y1,.int .i64 y2,.int .i64 y3,.int .i64 y4,.int .i64 y5,.int .i64 y6,.int .i64 y7,.int .i64 y8,.slice yp0 yl0 yq0,.slice yp1 yl1 yq1,.slice yp2 yl2 yq2,.int .i64 (y9+1),.int .i64 y10,.bool yb] 110:=X5.setc 17 _;refine (zdg ⟨E,0,none⟩ _ _ (X6.cell 0) (X6.frozen 0)).mono ?_;rintro e u' w'' ⟨rfl,rfl,rfl⟩;have X7:Box ((w5.setCell ⟨E,17,none⟩ (.int .i64 (y9+1))).setCell ⟨E,0,none⟩ (.int .i32 0)) E #[.int .i32 0,.int .u32 0,.int .u32 0,.int .i32 0,.int .u32 0,.int .i64 y0,.int .i64 y1,.int .i64 y2,.int .i64 y3,.int .i64 y4,.int .i64 y5,.int .i64 y6,.int .i64 y7,.int .i64 y8,.slice yp0 yl0 yq0,.slice yp1 yl1 yq1,.slice yp2 yl2 yq2,.int .i64 (y9+1),.int .i64 y10,.bool yb] 110:=X6.setc 0 _;have C7:ChgL [E] w5 ((w5.setCell ⟨E,17,none⟩ (.int .i64 (y9+1))).setCell ⟨E,0,none⟩ (.int .i32 0)):=((ChgL.refl _ _).st _ 17 _ (by simp)).st _ 0 _ (by simp)
  have O7:EncO w5 E { d' with writes:=d'.writes+1 } [.int .i64 y0,.int .i64 y1,.int .i64 y2,.int .i64 y3,.int .i64 y4,.int .i64 y5,.int .i64 y6,.int .i64 y7,.int .i64 y8,.slice yp0 yl0 yq0,.slice yp1 yl1 yq1,.slice yp2 yl2 yq2,.int .i64 (y9+1),.int .i64 y10,.bool yb] K5:=by
   rw [← HY9.out];exact ⟨zd9 (y9+1) (by have:=HWR.out;have:=HY9.out;omega) O5.own,O5.nd,O5.ne⟩
  simp only [Leaves,settle]
  refine ⟨_,results_none rfl _ _ _,rfl,_,K5,X7,O7.chg C7,fun b hb=>?_,?_⟩
  ·rcases s5 b hb with h | h
   ·exact .inl h
   ·exact .inr (by omega)
  ·exact (C3'.mono (fun b hb=>by simp at hb;simp [hb])).trans (C5.trans (C7.mono (fun b hb=>by simp at hb;simp [hb])))
set_option maxRecDepth 20000 in
theorem zmg (R pv E:Nat) (l o m:Int) (y0 y1 y2 y3 y4 y5 y6 y7 y8 yp0 yl0 yq0 yp1 yl1 yq1 yp2 yl2 yq2 y9 y10 yb:_) (w:World) (hR:Box w R #[.int .i64 0,.int .i64 0,.int .i64 0,.int .i64 0,.int .i64 0,.int .i64 0,.int .i64 0,.int .i64 0,.int .i64 0,.int .i64 0,.slice none 0 0,.slice none 0 0,.slice none 0 0,.int .i64 0,.int .i64 0,.bool false] 36) (hp:w.cell? ⟨pv,0,none⟩=some (.pointer (some ⟨E,0,none⟩))) (hX:Box w E #[.int .i32 l,.int .u32 0,.int .u32 o,.int .i32 m,.int .u32 0,.int .i64 y0,.int .i64 y1,.int .i64 y2,.int .i64 y3,.int .i64 y4,.int .i64 y5,.int .i64 y6,.int .i64 y7,.int .i64 y8,.slice yp0 yl0 yq0,.slice yp1 yl1 yq1,.slice yp2 yl2 yq2,.int .i64 y9,.int .i64 y10,.bool yb] 110) (hRE:R≠E) (hRp:R≠pv) :
 CallsD Tryz.prog 87 #[.pointer (some ⟨R,0,none⟩),.pointer (some ⟨pv,0,none⟩)] .returning w fun e u' w'=>e=.returned (.tuple #[])∧u'=.returning∧Box w' R #[.int .i64 0,.int .i64 y0,.int .i64 y1,.int .i64 y2,.int .i64 y3,.int .i64 y4,.int .i64 y5,.int .i64 y6,.int .i64 y7,.int .i64 y8,.slice yp0 yl0 yq0,.slice yp1 yl1 yq1,.slice yp2 yl2 yq2,.int .i64 y9,.int .i64 y10,.bool yb] 36∧ChgL [R] w w':=by
 have x_5:w.cell? ⟨E,5,none⟩=some (.int .i64 y0):=hX.cell 5;have x_6:w.cell? ⟨E,6,none⟩=some (.int .i64 y1):=hX.cell 6;have x_7:w.cell? ⟨E,7,none⟩=some (.int .i64 y2):=hX.cell 7;have x_8:w.cell? ⟨E,8,none⟩=some (.int .i64 y3):=hX.cell 8;have x_9:w.cell? ⟨E,9,none⟩=some (.int .i64 y4):=hX.cell 9;have x_10:w.cell? ⟨E,10,none⟩=some (.int .i64 y5):=hX.cell 10;have x_11:w.cell? ⟨E,11,none⟩=some (.int .i64 y6):=hX.cell 11;have x_12:w.cell? ⟨E,12,none⟩=some (.int .i64 y7):=hX.cell 12;have x_13:w.cell? ⟨E,13,none⟩=some (.int .i64 y8):=hX.cell 13;have x_14:w.cell? ⟨E,14,none⟩=some (.slice yp0 yl0 yq0):=hX.cell 14;have x_15:w.cell? ⟨E,15,none⟩=some (.slice yp1 yl1 yq1):=hX.cell 15;have x_16:w.cell? ⟨E,16,none⟩=some (.slice yp2 yl2 yq2):=hX.cell 16;have x_17:w.cell? ⟨E,17,none⟩=some (.int .i64 y9):=hX.cell 17;have x_18:w.cell? ⟨E,18,none⟩=some (.int .i64 y10):=hX.cell 18;have x_19:w.cell? ⟨E,19,none⟩=some (.bool yb):=hX.cell 19;have R1:=hR;have X1:=hX;have hp1:=hp;have C1:ChgL [R] w w:=ChgL.refl _ _;refine callsD_of_wpS Tryz.func87 rfl fun c₀ cs hu=>?_
 apply wpS_seq
 apply wpS_seq
 apply wpS_region
 simp [wpOpsS,go_sem,recoverD,hu,Tryz.ntmps87,Exit.thenS]
 refine wpS_cond (t:=false) (by simp [Act.eval,Array.replicate]) ?_
 simp only [Bool.false_eq_true,if_false]
 refine wpS_of_wp (wp_skip ?_)
 simp only [Exit.thenS]
 clear hR hX hp;refine wpS_of_wp ?_;have e_5:w.cell? ⟨E,5,none⟩=some (.int .i64 y0):=X1.cell 5;have e_6:w.cell? ⟨E,6,none⟩=some (.int .i64 y1):=X1.cell 6;have e_7:w.cell? ⟨E,7,none⟩=some (.int .i64 y2):=X1.cell 7;have e_8:w.cell? ⟨E,8,none⟩=some (.int .i64 y3):=X1.cell 8;have e_9:w.cell? ⟨E,9,none⟩=some (.int .i64 y4):=X1.cell 9;have e_10:w.cell? ⟨E,10,none⟩=some (.int .i64 y5):=X1.cell 10;have e_11:w.cell? ⟨E,11,none⟩=some (.int .i64 y6):=X1.cell 11;have e_12:w.cell? ⟨E,12,none⟩=some (.int .i64 y7):=X1.cell 12;have e_13:w.cell? ⟨E,13,none⟩=some (.int .i64 y8):=X1.cell 13;have e_14:w.cell? ⟨E,14,none⟩=some (.slice yp0 yl0 yq0):=X1.cell 14;have e_15:w.cell? ⟨E,15,none⟩=some (.slice yp1 yl1 yq1):=X1.cell 15;have e_16:w.cell? ⟨E,16,none⟩=some (.slice yp2 yl2 yq2):=X1.cell 16;have e_17:w.cell? ⟨E,17,none⟩=some (.int .i64 y9):=X1.cell 17;have e_18:w.cell? ⟨E,18,none⟩=some (.int .i64 y10):=X1.cell 18;have e_19:w.cell? ⟨E,19,none⟩=some (.bool yb):=X1.cell 19;have r_1:w.cell? ⟨R,1,none⟩=some (.int .i64 0):=R1.cell 1;have rf_1:w.frozen? ⟨R,1,none⟩=false:=R1.frozen 1;have r_2:w.cell? ⟨R,2,none⟩=some (.int .i64 0):=R1.cell 2;have rf_2:w.frozen? ⟨R,2,none⟩=false:=R1.frozen 2;have r_3:w.cell? ⟨R,3,none⟩=some (.int .i64 0):=R1.cell 3;have rf_3:w.frozen? ⟨R,3,none⟩=false:=R1.frozen 3;have r_4:w.cell? ⟨R,4,none⟩=some (.int .i64 0):=R1.cell 4;have rf_4:w.frozen? ⟨R,4,none⟩=false:=R1.frozen 4;have r_5:w.cell? ⟨R,5,none⟩=some (.int .i64 0):=R1.cell 5;have rf_5:w.frozen? ⟨R,5,none⟩=false:=R1.frozen 5;have r_6:w.cell? ⟨R,6,none⟩=some (.int .i64 0):=R1.cell 6;have rf_6:w.frozen? ⟨R,6,none⟩=false:=R1.frozen 6;have r_7:w.cell? ⟨R,7,none⟩=some (.int .i64 0):=R1.cell 7;have rf_7:w.frozen? ⟨R,7,none⟩=false:=R1.frozen 7;have r_8:w.cell? ⟨R,8,none⟩=some (.int .i64 0):=R1.cell 8;have rf_8:w.frozen? ⟨R,8,none⟩=false:=R1.frozen 8;have r_9:w.cell? ⟨R,9,none⟩=some (.int .i64 0):=R1.cell 9;have rf_9:w.frozen? ⟨R,9,none⟩=false:=R1.frozen 9;have r_10:w.cell? ⟨R,10,none⟩=some (.slice none 0 0):=R1.cell 10;have rf_10:w.frozen? ⟨R,10,none⟩=false:=R1.frozen 10;have r_11:w.cell? ⟨R,11,none⟩=some (.slice none 0 0):=R1.cell 11;have rf_11:w.frozen? ⟨R,11,none⟩=false:=R1.frozen 11;have r_12:w.cell? ⟨R,12,none⟩=some (.slice none 0 0):=R1.cell 12;have rf_12:w.frozen? ⟨R,12,none⟩=false:=R1.frozen 12;have r_13:w.cell? ⟨R,13,none⟩=some (.int .i64 0):=R1.cell 13;have rf_13:w.frozen? ⟨R,13,none⟩=false:=R1.frozen 13;have r_14:w.cell? ⟨R,14,none⟩=some (.int .i64 0):=R1.cell 14;have rf_14:w.frozen? ⟨R,14,none⟩=false:=R1.frozen 14;have r_15:w.cell? ⟨R,15,none⟩=some (.bool false):=R1.cell 15;have rf_15:w.frozen? ⟨R,15,none⟩=false:=R1.frozen 15;have R2:Box (stN w R 1 (rwV y0 y1 y2 y3 y4 y5 y6 y7 y8 yp0 yl0 yq0 yp1 yl1 yq1 yp2 yl2 yq2 y9 y10 yb)) R (.int .i64 0::rwV y0 y1 y2 y3 y4 y5 y6 y7 y8 yp0 yl0 yq0 yp1 yl1 yq1 yp2 yl2 yq2 y9 y10 yb).toArray 36:=R1.stL (rwV y0 y1 y2 y3 y4 y5 y6 y7 y8 yp0 yl0 yq0 yp1 yl1 yq1 yp2 yl2 yq2 y9 y10 yb) 1
 have C2':ChgL [R] w (stN w R 1 (rwV y0 y1 y2 y3 y4 y5 y6 y7 y8 yp0 yl0 yq0 yp1 yl1 yq1 yp2 yl2 yq2 y9 y10 yb)):=C1.trans ⟨(zbs R _ w 1).1,(zbs R _ w 1).2.1,(zbs R _ w 1).2.2,Nat.le_of_eq (zb8 R _ w 1).symm,fun b _ hb=>zcp R b (fun hh=>hb (by simp [hh])) _ w 1⟩;clear R1 X1 C1  x_5 x_6 x_7 x_8 x_9 x_10 x_11 x_12 x_13 x_14 x_15 x_16 x_17 x_18 x_19;go_wp2;exact ⟨rfl,_,by cases c₀;simp_all,_,results_none rfl _ _ _,rfl,rfl,R2,C2'⟩
set_option maxRecDepth 20000 in
theorem zk5 (u:TypeId) (pvv:Value) (R pv E:Nat) (l o m:Int) (y0 y1 y2 y3 y4 y5 y6 y7 y8 yp0 yl0 yq0 yp1 yl1 yq1 yp2 yl2 yq2 y9 y10 yb:_) (w:World) (hR:Box w R #[.int .i64 0,.int .i64 0,.int .i64 0,.int .i64 0,.int .i64 0,.int .i64 0,.int .i64 0,.int .i64 0,.int .i64 0,.int .i64 0,.slice none 0 0,.slice none 0 0,.slice none 0 0,.int .i64 0,.int .i64 0,.bool false] 36) (hp:w.cell? ⟨pv,0,none⟩=some (.pointer (some ⟨E,0,none⟩))) (hX:Box w E #[.int .i32 l,.int .u32 0,.int .u32 o,.int .i32 m,.int .u32 0,.int .i64 y0,.int .i64 y1,.int .i64 y2,.int .i64 y3,.int .i64 y4,.int .i64 y5,.int .i64 y6,.int .i64 y7,.int .i64 y8,.slice yp0 yl0 yq0,.slice yp1 yl1 yq1,.slice yp2 yl2 yq2,.int .i64 y9,.int .i64 y10,.bool yb] 110) (hRE:R≠E) (hRp:R≠pv) :
 CallsD Tryz.prog 87 #[.pointer (some ⟨R,0,none⟩),.pointer (some ⟨pv,0,none⟩)] (.panicking [{ v:=.iface u pvv,recovered:=false }]) w fun e u' w'=>e=.returned (.tuple #[])∧u'=(.panicking [{ v:=.iface u pvv,recovered:=true }])∧Box w' R #[.int .i64 9,.int .i64 y0,.int .i64 y1,.int .i64 y2,.int .i64 y3,.int .i64 y4,.int .i64 y5,.int .i64 y6,.int .i64 y7,.int .i64 y8,.slice yp0 yl0 yq0,.slice yp1 yl1 yq1,.slice yp2 yl2 yq2,.int .i64 y9,.int .i64 y10,.bool yb] 36∧ChgL [R] w w':=by
 have x_5:w.cell? ⟨E,5,none⟩=some (.int .i64 y0):=hX.cell 5;have x_6:w.cell? ⟨E,6,none⟩=some (.int .i64 y1):=hX.cell 6;have x_7:w.cell? ⟨E,7,none⟩=some (.int .i64 y2):=hX.cell 7;have x_8:w.cell? ⟨E,8,none⟩=some (.int .i64 y3):=hX.cell 8;have x_9:w.cell? ⟨E,9,none⟩=some (.int .i64 y4):=hX.cell 9;have x_10:w.cell? ⟨E,10,none⟩=some (.int .i64 y5):=hX.cell 10;have x_11:w.cell? ⟨E,11,none⟩=some (.int .i64 y6):=hX.cell 11;have x_12:w.cell? ⟨E,12,none⟩=some (.int .i64 y7):=hX.cell 12;have x_13:w.cell? ⟨E,13,none⟩=some (.int .i64 y8):=hX.cell 13;have x_14:w.cell? ⟨E,14,none⟩=some (.slice yp0 yl0 yq0):=hX.cell 14;have x_15:w.cell? ⟨E,15,none⟩=some (.slice yp1 yl1 yq1):=hX.cell 15;have x_16:w.cell? ⟨E,16,none⟩=some (.slice yp2 yl2 yq2):=hX.cell 16;have x_17:w.cell? ⟨E,17,none⟩=some (.int .i64 y9):=hX.cell 17;have x_18:w.cell? ⟨E,18,none⟩=some (.int .i64 y10):=hX.cell 18;have x_19:w.cell? ⟨E,19,none⟩=some (.bool yb):=hX.cell 19;have R1:Box (w.setCell ⟨R,0,none⟩ (.int .i64 9)) R (.int .i64 9::rwY).toArray 36:=hR.setc 0 _;have C1:ChgL [R] w (w.setCell ⟨R,0,none⟩ (.int .i64 9)):=(ChgL.refl _ _).st _ 0 _ (by simp);have X1:Box (w.setCell ⟨R,0,none⟩ (.int .i64 9)) E #[.int .i32 l,.int .u32 0,.int .u32 o,.int .i32 m,.int .u32 0,.int .i64 y0,.int .i64 y1,.int .i64 y2,.int .i64 y3,.int .i64 y4,.int .i64 y5,.int .i64 y6,.int .i64 y7,.int .i64 y8,.slice yp0 yl0 yq0,.slice yp1 yl1 yq1,.slice yp2 yl2 yq2,.int .i64 y9,.int .i64 y10,.bool yb] 110:=hX.seto 0 _ (fun h=>hRE h.symm);have hp1:(w.setCell ⟨R,0,none⟩ (.int .i64 9)).cell? ⟨pv,0,none⟩=some (.pointer (some ⟨E,0,none⟩)):=(World.cell?_setCell_other _ ⟨R,0,none⟩ ⟨pv,0,none⟩ _ (by simp [hRp])).trans hp;have r0:w.cell? ⟨R,0,none⟩=some (.int .i64 0):=hR.cell 0;have rf0:w.frozen? ⟨R,0,none⟩=false:=hR.frozen 0;refine callsD_of_wpS Tryz.func87 rfl fun c₀ cs hu=>?_
 apply wpS_seq
 apply wpS_seq
 apply wpS_region
 simp [wpOpsS,go_sem,recoverD,hu,Tryz.ntmps87,Exit.thenS]
 refine wpS_cond (t:=true) (by simp [Act.eval,Array.replicate]) ?_
 simp only [if_true]
 apply wpS_region
 simp [wpOpsS,go_sem,r0,rf0,Exit.thenS]
 clear r0 rf0 hR hX hp;refine wpS_of_wp ?_;obtain ⟨W,hW⟩:∃ x,x=(w.setCell ⟨R,0,none⟩ (.int .i64 9)):=⟨_,rfl⟩;rw [← hW] at R1 X1 hp1 C1 ⊢;have e_5:W.cell? ⟨E,5,none⟩=some (.int .i64 y0):=X1.cell 5;have e_6:W.cell? ⟨E,6,none⟩=some (.int .i64 y1):=X1.cell 6;have e_7:W.cell? ⟨E,7,none⟩=some (.int .i64 y2):=X1.cell 7;have e_8:W.cell? ⟨E,8,none⟩=some (.int .i64 y3):=X1.cell 8;have e_9:W.cell? ⟨E,9,none⟩=some (.int .i64 y4):=X1.cell 9;have e_10:W.cell? ⟨E,10,none⟩=some (.int .i64 y5):=X1.cell 10;have e_11:W.cell? ⟨E,11,none⟩=some (.int .i64 y6):=X1.cell 11;have e_12:W.cell? ⟨E,12,none⟩=some (.int .i64 y7):=X1.cell 12;have e_13:W.cell? ⟨E,13,none⟩=some (.int .i64 y8):=X1.cell 13;have e_14:W.cell? ⟨E,14,none⟩=some (.slice yp0 yl0 yq0):=X1.cell 14;have e_15:W.cell? ⟨E,15,none⟩=some (.slice yp1 yl1 yq1):=X1.cell 15;have e_16:W.cell? ⟨E,16,none⟩=some (.slice yp2 yl2 yq2):=X1.cell 16;have e_17:W.cell? ⟨E,17,none⟩=some (.int .i64 y9):=X1.cell 17;have e_18:W.cell? ⟨E,18,none⟩=some (.int .i64 y10):=X1.cell 18;have e_19:W.cell? ⟨E,19,none⟩=some (.bool yb):=X1.cell 19;have r_1:W.cell? ⟨R,1,none⟩=some (.int .i64 0):=R1.cell 1;have rf_1:W.frozen? ⟨R,1,none⟩=false:=R1.frozen 1;have r_2:W.cell? ⟨R,2,none⟩=some (.int .i64 0):=R1.cell 2;have rf_2:W.frozen? ⟨R,2,none⟩=false:=R1.frozen 2;have r_3:W.cell? ⟨R,3,none⟩=some (.int .i64 0):=R1.cell 3;have rf_3:W.frozen? ⟨R,3,none⟩=false:=R1.frozen 3;have r_4:W.cell? ⟨R,4,none⟩=some (.int .i64 0):=R1.cell 4;have rf_4:W.frozen? ⟨R,4,none⟩=false:=R1.frozen 4;have r_5:W.cell? ⟨R,5,none⟩=some (.int .i64 0):=R1.cell 5;have rf_5:W.frozen? ⟨R,5,none⟩=false:=R1.frozen 5;have r_6:W.cell? ⟨R,6,none⟩=some (.int .i64 0):=R1.cell 6;have rf_6:W.frozen? ⟨R,6,none⟩=false:=R1.frozen 6;have r_7:W.cell? ⟨R,7,none⟩=some (.int .i64 0):=R1.cell 7;have rf_7:W.frozen? ⟨R,7,none⟩=false:=R1.frozen 7;have r_8:W.cell? ⟨R,8,none⟩=some (.int .i64 0):=R1.cell 8;have rf_8:W.frozen? ⟨R,8,none⟩=false:=R1.frozen 8;have r_9:W.cell? ⟨R,9,none⟩=some (.int .i64 0):=R1.cell 9;have rf_9:W.frozen? ⟨R,9,none⟩=false:=R1.frozen 9;have r_10:W.cell? ⟨R,10,none⟩=some (.slice none 0 0):=R1.cell 10;have rf_10:W.frozen? ⟨R,10,none⟩=false:=R1.frozen 10;have r_11:W.cell? ⟨R,11,none⟩=some (.slice none 0 0):=R1.cell 11;have rf_11:W.frozen? ⟨R,11,none⟩=false:=R1.frozen 11;have r_12:W.cell? ⟨R,12,none⟩=some (.slice none 0 0):=R1.cell 12;have rf_12:W.frozen? ⟨R,12,none⟩=false:=R1.frozen 12;have r_13:W.cell? ⟨R,13,none⟩=some (.int .i64 0):=R1.cell 13;have rf_13:W.frozen? ⟨R,13,none⟩=false:=R1.frozen 13;have r_14:W.cell? ⟨R,14,none⟩=some (.int .i64 0):=R1.cell 14;have rf_14:W.frozen? ⟨R,14,none⟩=false:=R1.frozen 14;have r_15:W.cell? ⟨R,15,none⟩=some (.bool false):=R1.cell 15
 have rf_15:W.frozen? ⟨R,15,none⟩=false:=R1.frozen 15;have R2:Box (stN W R 1 (rwV y0 y1 y2 y3 y4 y5 y6 y7 y8 yp0 yl0 yq0 yp1 yl1 yq1 yp2 yl2 yq2 y9 y10 yb)) R (.int .i64 9::rwV y0 y1 y2 y3 y4 y5 y6 y7 y8 yp0 yl0 yq0 yp1 yl1 yq1 yp2 yl2 yq2 y9 y10 yb).toArray 36:=R1.stL (rwV y0 y1 y2 y3 y4 y5 y6 y7 y8 yp0 yl0 yq0 yp1 yl1 yq1 yp2 yl2 yq2 y9 y10 yb) 1;have C2':ChgL [R] w (stN W R 1 (rwV y0 y1 y2 y3 y4 y5 y6 y7 y8 yp0 yl0 yq0 yp1 yl1 yq1 yp2 yl2 yq2 y9 y10 yb)):=C1.trans ⟨(zbs R _ W 1).1,(zbs R _ W 1).2.1,(zbs R _ W 1).2.2,Nat.le_of_eq (zb8 R _ W 1).symm,fun b _ hb=>zcp R b (fun hh=>hb (by simp [hh])) _ W 1⟩;clear R1 X1 C1 hW x_5 x_6 x_7 x_8 x_9 x_10 x_11 x_12 x_13 x_14 x_15 x_16 x_17 x_18 x_19;go_wp2;exact ⟨rfl,_,rfl,_,results_none rfl _ _ _,rfl,rfl,R2,C2'⟩
set_option maxRecDepth 20000 in
theorem ziu:ToV zan zaR 191:=fun cs d hi w r hhi hn=>by
 obtain ⟨ao1,cap1,rfl,h1,k0⟩:=zbz r;clear r;unfold zaR at hn;have R1:=hid h1;clear h1;have Q0:=hid k0;clear k0;have T0:=zaz w #[.int .i64 d.stamp,.slice ao1 d.bytes.1 cap1] #[.int .i64 0,.slice none 0 0] 76 76
 go_enter Tryz.func191,Tryz.ntmps191
 go_wp2_with fail
 refine (zdD _ d.bytes hi _ (zag.rd_below R1.out T0.bel hhi) (Nat.le_trans hhi T0.bel.size) (by omega)).mono ?_;rintro e w1 ⟨v0,rfl,o0,b0⟩;obtain ⟨bo1,bcap1,hv⟩:=zby o0;obtain rfl:=za2 hv;clear hv;have T0c:=T0.call b0;have z0:=T0.b2.lt;have y0:=b0.size;have c0_1:w1.cell? ⟨w.heap.size,1,none⟩=some (.slice ao1 d.bytes.1 cap1):=T0c.b1.cell 1;have c0f_1:w1.frozen? ⟨w.heap.size,1,none⟩=false:=T0c.b1.frozen 1;have T1x:Two w (w1.setCell ⟨w.heap.size,1,none⟩ (.slice bo1 d.bytes.1 bcap1)) #[.int .i64 d.stamp,.slice bo1 d.bytes.1 bcap1] #[.int .i64 0,.slice none 0 0] 76 76:=⟨T0c.b1.stL [.slice bo1 d.bytes.1 bcap1] 1,T0c.b2.seto _ _ (by omega),T0c.bel.setCell (Nat.le_refl _) _⟩;have O1_0:=(o0.stN w.heap.size 1 [.slice bo1 d.bytes.1 bcap1] (by omega))
 have e1:(w1.setCell ⟨w.heap.size,1,none⟩ (.slice bo1 d.bytes.1 bcap1)).heap.size=w1.heap.size:=by simp
 clear o0 b0
 go_upto_region 2 with fail
 obtain ⟨W1,hW1⟩:∃ x,x=w1.setCell ⟨w.heap.size,1,none⟩ (.slice bo1 d.bytes.1 bcap1):=⟨_,rfl⟩
 have O1:Hid (OwnT zag W1 (w.heap.size+1+1) (w1.heap.size) d.bytes [.slice bo1 d.bytes.1 bcap1]):=by rw [hW1];exact OwnT.weaken O1_0 (by simp) (Nat.le_refl _)
 rw [← hW1] at T1x e1 ⊢;clear hW1 O1_0 T0c c0_1 c0f_1;have y_0:W1.cell? ⟨w.heap.size,0,none⟩=some (.int .i64 d.stamp):=T1x.b1.cell 0;have y_1:W1.cell? ⟨w.heap.size,1,none⟩=some (.slice bo1 d.bytes.1 bcap1):=T1x.b1.cell 1;have r_0:W1.cell? ⟨w.heap.size+1,0,none⟩=some (.int .i64 0):=T1x.b2.cell 0;have rf_0:W1.frozen? ⟨w.heap.size+1,0,none⟩=false:=T1x.b2.frozen 0;have r_1:W1.cell? ⟨w.heap.size+1,1,none⟩=some (.slice none 0 0):=T1x.b2.cell 1;have rf_1:W1.frozen? ⟨w.heap.size+1,1,none⟩=false:=T1x.b2.frozen 1;have HB:=hid T1x.bel;have zz:=T1x.b2.lt;clear T1x;go_wp2;refine bodyPost_ret (v:=.agg #[.int .i64 d.stamp,.slice bo1 d.bytes.1 bcap1]) (by simp [results,Tryz.results191,go_sem,r_0,y_0,r_1,y_1]) rfl ?_;have F:OwnT zan W1 (w.heap.size+1+1) w1.heap.size d ([.int .i64 d.stamp]++[.slice bo1 d.bytes.1 bcap1]):=OwnT.conv (OwnT.pre (A:=layI) (a:=d.stamp) (c:=[.int .i64 d.stamp]) ⟨rfl,Q0.out,rfl⟩ O1.out);refine ⟨[.int .i64 d.stamp,.slice bo1 d.bytes.1 bcap1],rfl,?_,?_⟩
 ·exact OwnT.finb (F.weaken (Nat.le_refl _) (by omega)) (b:=w.heap.size+1) (by omega) (by omega) 0 [.int .i64 d.stamp,.slice bo1 d.bytes.1 bcap1] _ rfl
 ·exact HB.out.trans (za1 (by omega) [.int .i64 d.stamp,.slice bo1 d.bytes.1 bcap1] 0)
set_option maxRecDepth 20000 in
theorem zhi:ToF (zan.slice 76) (szSl zaR) 190 191:=fun v d hi w h hhi hn=>by
 obtain ⟨n,x⟩:=d;obtain ⟨ao,cap,hv,hm,hc⟩:=h
 cases hv
 have hn1:=zcK hn;have hn2:∀ i,i<n→zaR (x i)≤1048576:=fun i hi=>zbK hn hi
 simp only at hn1 hm hc
 clear hn
 go_enter Tryz.func190,Tryz.ntmps190
 go_wp2_with (at_make;refine zcq zan [.int .i64 0,.slice none 0 0] _ 76 32 (zgQ).hs rfl Tryz.underlying71 (zgQ).hi x (fun _=>[]) _ rfl _ _ rfl _ _ n rfl rfl rfl rfl (by omega) (by omega) ?_;intro w1 sp1 hb1)
 go_loopw [12] (fun i wr=>∃ k:Nat,k≤n∧i=.int .i64 k∧∃ ce Ls,SlP zan 76 wr w.heap.size w.heap.size n n k x ce Ls∧Below w.heap.size w wr) (fun i _=>n-(intOf i).toNat)
 case atStart=>exact ⟨0,Nat.zero_le _,rfl,_,_,sp1,hb1⟩
 case round=>
  clear sp1 hb1;obtain ⟨k,hk,rfl,ce,Ls,sp,hb⟩:=hrel
  by_cases hlt:k<n
  ·obtain ⟨b,off,rfl,hblt,hel⟩:=hc (by omega)
   obtain ⟨ck,hrk,hcell⟩:=zat (t:=0) hel hb hhi hblt hlt;obtain ⟨ao1,cap1,rfl,-⟩:=zbz hrk;have c0:wr.cell? ⟨b,off+k*2,none⟩=some (.int .i64 (x k).stamp):=hcell 0 (by decide);have c1:wr.cell? ⟨b,off+k*2+1,none⟩=some (.slice ao1 (x k).bytes.1 cap1):=hcell 1 (by decide);clear hc hel hcell
   go_wp2_with fail
   refine (ziu _ (x k) hi wr hrk (Nat.le_trans hhi hb.size) (hn2 k hlt)).mono ?_;rintro e w2 ⟨cs',rfl,o2,hb2⟩;obtain ⟨bao1,bcap1,rfl⟩:=zd1 o2;obtain ⟨z0,s0⟩:=sp.some hb2 hlt (show 0<zan.sz by decide);have s0:w2.cell? ⟨w.heap.size,k*2,none⟩=some z0:=s0;have sf0:=(sp.below hb2).frozen (k*2);obtain ⟨z1,s1⟩:=sp.some hb2 hlt (show 1<zan.sz by decide);have s1:w2.cell? ⟨w.heap.size,k*2+1,none⟩=some z1:=s1;have sf1:=(sp.below hb2).frozen (k*2+1);have N:=sp.next hb2 hlt o2 hb.size;have N2:Below w.heap.size w (stN w2 w.heap.size (k*zan.sz) [.int .i64 (x k).stamp,.slice bao1 (x k).bytes.1 bcap1]):=(hb.trans (hb2.mono hb.size)).trans (za1 (Nat.le_refl _) _ _);clear o2 hb2 sp hb
   go_wp2_with fail
   go_roundw
   case rel=>
    obtain ⟨ce',Ls',N⟩:=N;exact ⟨k+1,by omega,by go_num,ce',Ls',N,N2⟩
   case measure=>simp [intOf];omega
  ·obtain rfl:k=n:=by omega
   go_wp2;go_ret;exact ⟨_,rfl,sp.done (Nat.le_refl _),hb⟩
set_option maxRecDepth 20000 in
theorem ziv:ToV zad zaA 164:=fun cs d hi w r hhi hn=>by
 obtain ⟨ao1,cap1,rfl,h1⟩:=zbF r;clear r;unfold zaA at hn;have R1:=hid h1;clear h1;have T0:=zaz w #[.bool d.wiped,.slice ao1 d.blocks.1 cap1] #[.bool false,.slice none 0 0] 73 73
 go_enter Tryz.func164,Tryz.ntmps164
 go_wp2_with fail
 refine (zhi _ d.blocks hi _ ((zan.slice 76).rd_below R1.out T0.bel hhi) (Nat.le_trans hhi T0.bel.size) (by omega)).mono ?_;rintro e w1 ⟨v0,rfl,o0,b0⟩;obtain ⟨bo1,bcap1,hv⟩:=zb9 o0;obtain rfl:=za2 hv;clear hv;have T0c:=T0.call b0;have z0:=T0.b2.lt;have y0:=b0.size;have c0_1:w1.cell? ⟨w.heap.size,1,none⟩=some (.slice ao1 d.blocks.1 cap1):=T0c.b1.cell 1;have c0f_1:w1.frozen? ⟨w.heap.size,1,none⟩=false:=T0c.b1.frozen 1;have T1x:Two w (w1.setCell ⟨w.heap.size,1,none⟩ (.slice bo1 d.blocks.1 bcap1)) #[.bool d.wiped,.slice bo1 d.blocks.1 bcap1] #[.bool false,.slice none 0 0] 73 73:=⟨T0c.b1.stL [.slice bo1 d.blocks.1 bcap1] 1,T0c.b2.seto _ _ (by omega),T0c.bel.setCell (Nat.le_refl _) _⟩;have O1_0:=(o0.stN w.heap.size 1 [.slice bo1 d.blocks.1 bcap1] (by omega))
 have e1:(w1.setCell ⟨w.heap.size,1,none⟩ (.slice bo1 d.blocks.1 bcap1)).heap.size=w1.heap.size:=by simp
 clear o0 b0
 go_upto_region 2 with fail
 obtain ⟨W1,hW1⟩:∃ x,x=w1.setCell ⟨w.heap.size,1,none⟩ (.slice bo1 d.blocks.1 bcap1):=⟨_,rfl⟩
 have O1:Hid (OwnT (zan.slice 76) W1 (w.heap.size+1+1) (w1.heap.size) d.blocks [.slice bo1 d.blocks.1 bcap1]):=by rw [hW1];exact OwnT.weaken O1_0 (by simp) (Nat.le_refl _)
 rw [← hW1] at T1x e1 ⊢;clear hW1 O1_0 T0c c0_1 c0f_1;have y_0:W1.cell? ⟨w.heap.size,0,none⟩=some (.bool d.wiped):=T1x.b1.cell 0;have y_1:W1.cell? ⟨w.heap.size,1,none⟩=some (.slice bo1 d.blocks.1 bcap1):=T1x.b1.cell 1;have r_0:W1.cell? ⟨w.heap.size+1,0,none⟩=some (.bool false):=T1x.b2.cell 0;have rf_0:W1.frozen? ⟨w.heap.size+1,0,none⟩=false:=T1x.b2.frozen 0;have r_1:W1.cell? ⟨w.heap.size+1,1,none⟩=some (.slice none 0 0):=T1x.b2.cell 1;have rf_1:W1.frozen? ⟨w.heap.size+1,1,none⟩=false:=T1x.b2.frozen 1;have HB:=hid T1x.bel;have zz:=T1x.b2.lt;clear T1x;go_wp2;refine bodyPost_ret (v:=.agg #[.bool d.wiped,.slice bo1 d.blocks.1 bcap1]) (by simp [results,Tryz.results164,go_sem,r_0,y_0,r_1,y_1]) rfl ?_;have F:OwnT zad W1 (w.heap.size+1+1) w1.heap.size d ([.bool d.wiped]++[.slice bo1 d.blocks.1 bcap1]):=OwnT.conv (OwnT.pre (A:=layB) (a:=d.wiped) (c:=[.bool d.wiped]) ⟨rfl,trivial,rfl⟩ O1.out);refine ⟨[.bool d.wiped,.slice bo1 d.blocks.1 bcap1],rfl,?_,?_⟩
 ·exact OwnT.finb (F.weaken (Nat.le_refl _) (by omega)) (b:=w.heap.size+1) (by omega) (by omega) 0 [.bool d.wiped,.slice bo1 d.blocks.1 bcap1] _ rfl
 ·exact HB.out.trans (za1 (by omega) [.bool d.wiped,.slice bo1 d.blocks.1 bcap1] 0)
set_option maxRecDepth 20000 in
theorem zhj:ToF (zad.slice 73) (szSl zaA) 163 164:=fun v d hi w h hhi hn=>by
 obtain ⟨n,x⟩:=d;obtain ⟨ao,cap,hv,hm,hc⟩:=h
 cases hv
 have hn1:=zcK hn;have hn2:∀ i,i<n→zaA (x i)≤1048576:=fun i hi=>zbK hn hi
 simp only at hn1 hm hc
 clear hn
 go_enter Tryz.func163,Tryz.ntmps163
 go_wp2_with (at_make;refine zcq zad [.bool false,.slice none 0 0] _ 73 32 (zgR).hs rfl Tryz.underlying70 (zgR).hi x (fun _=>[]) _ rfl _ _ rfl _ _ n rfl rfl rfl rfl (by omega) (by omega) ?_;intro w1 sp1 hb1)
 go_loopw [12] (fun i wr=>∃ k:Nat,k≤n∧i=.int .i64 k∧∃ ce Ls,SlP zad 73 wr w.heap.size w.heap.size n n k x ce Ls∧Below w.heap.size w wr) (fun i _=>n-(intOf i).toNat)
 case atStart=>exact ⟨0,Nat.zero_le _,rfl,_,_,sp1,hb1⟩
 case round=>
  clear sp1 hb1;obtain ⟨k,hk,rfl,ce,Ls,sp,hb⟩:=hrel
  by_cases hlt:k<n
  ·obtain ⟨b,off,rfl,hblt,hel⟩:=hc (by omega)
   obtain ⟨ck,hrk,hcell⟩:=zat (t:=0) hel hb hhi hblt hlt;obtain ⟨ao1,cap1,rfl,-⟩:=zbF hrk;have c0:wr.cell? ⟨b,off+k*2,none⟩=some (.bool (x k).wiped):=hcell 0 (by decide);have c1:wr.cell? ⟨b,off+k*2+1,none⟩=some (.slice ao1 (x k).blocks.1 cap1):=hcell 1 (by decide);clear hc hel hcell
   go_wp2_with fail
   refine (ziv _ (x k) hi wr hrk (Nat.le_trans hhi hb.size) (hn2 k hlt)).mono ?_;rintro e w2 ⟨cs',rfl,o2,hb2⟩;obtain ⟨bao1,bcap1,rfl⟩:=zfi o2;obtain ⟨z0,s0⟩:=sp.some hb2 hlt (show 0<zad.sz by decide);have s0:w2.cell? ⟨w.heap.size,k*2,none⟩=some z0:=s0;have sf0:=(sp.below hb2).frozen (k*2);obtain ⟨z1,s1⟩:=sp.some hb2 hlt (show 1<zad.sz by decide);have s1:w2.cell? ⟨w.heap.size,k*2+1,none⟩=some z1:=s1;have sf1:=(sp.below hb2).frozen (k*2+1);have N:=sp.next hb2 hlt o2 hb.size;have N2:Below w.heap.size w (stN w2 w.heap.size (k*zad.sz) [.bool (x k).wiped,.slice bao1 (x k).blocks.1 bcap1]):=(hb.trans (hb2.mono hb.size)).trans (za1 (Nat.le_refl _) _ _);clear o2 hb2 sp hb
   go_wp2_with fail
   go_roundw
   case rel=>
    obtain ⟨ce',Ls',N⟩:=N;exact ⟨k+1,by omega,by go_num,ce',Ls',N,N2⟩
   case measure=>simp [intOf];omega
  ·obtain rfl:k=n:=by omega
   go_wp2;go_ret;exact ⟨_,rfl,sp.done (Nat.le_refl _),hb⟩
theorem ziw:ToS (zad.slice 73) (szSl zaA) 129:=fun v d hi w h hhi hn=>by
 have C:=zhj v d hi w h hhi hn;obtain ⟨ao,cap,hv,hm,hc⟩:=h
 cases hv
 clear hm hc
 go_enter Tryz.func129,Tryz.ntmps129
 go_wp2_with fail
 refine C.mono ?_;rintro e w1 ⟨v1,rfl,o1,b1⟩;have HO:=hid o1;have HB:=hid b1;clear o1 b1 C;go_wp2;go_ret;exact ⟨v1,rfl,HO.out,HB.out⟩
theorem zgc:ToF ((zad.slice 73).slice 70) (szSl (szSl zaA)) 128 129:=fun v d hi w h hhi hn=>by
 obtain ⟨n,x⟩:=d;obtain ⟨ao,cap,hv,hm,hc⟩:=h
 cases hv
 have hn1:=zcK hn;have hn2:∀ i,i<n→szSl zaA (x i)≤1048576:=fun i hi=>zbK hn hi
 simp only at hn1 hm hc
 clear hn
 go_enter Tryz.func128,Tryz.ntmps128
 go_wp2_with (at_make;refine zcq (zad.slice 73) [.slice none 0 0] _ 70 24 zfp.hs rfl Tryz.underlying31 zfp.hi x (fun _=>[]) _ rfl _ _ rfl _ _ n rfl rfl rfl rfl (by omega) (by omega) ?_;intro w1 sp1 hb1)
 go_loopw [12] (fun i wr=>∃ k:Nat,k≤n∧i=.int .i64 k∧∃ ce Ls,SlP (zad.slice 73) 70 wr w.heap.size w.heap.size n n k x ce Ls∧Below w.heap.size w wr) (fun i _=>n-(intOf i).toNat)
 case atStart=>exact ⟨0,Nat.zero_le _,rfl,_,_,sp1,hb1⟩
 case round=>
  clear sp1 hb1;obtain ⟨k,hk,rfl,ce,Ls,sp,hb⟩:=hrel
  by_cases hlt:k<n
  ·obtain ⟨b,off,rfl,hblt,hel⟩:=hc (by omega)
   obtain ⟨ck,hrk,hcell⟩:=zat (t:=0) hel hb hhi hblt hlt;obtain ⟨ao1,cap1,rfl⟩:=zbV hrk
   have c0:wr.cell? ⟨b,off+k,none⟩=some (.slice ao1 (x k).1 cap1):=by
    have:=hcell 0 (by decide)
    have e:off+(k*(zad.slice 73).sz+0)=off+k:=by show off+(k*1+0)=off+k;omega
    rw [e] at this;exact this
   clear hc hel hcell
   go_wp2_with fail
   refine (ziw _ (x k) hi wr hrk (Nat.le_trans hhi hb.size) (hn2 k hlt)).mono ?_;rintro e w2 ⟨v2,rfl,o2,hb2⟩;obtain ⟨bao1,bcap1,hv2⟩:=zb9 o2;obtain rfl:=za2 hv2;obtain ⟨z0,s0⟩:=sp.some hb2 hlt (show 0<(zad.slice 73).sz by decide)
   have e0:k*(zad.slice 73).sz+0=k:=by show k*1+0=k;omega
   rw [e0] at s0;have sf0:=(sp.below hb2).frozen k;have N:=sp.next hb2 hlt o2 hb.size
   have e1:k*(zad.slice 73).sz=k:=by show k*1=k;omega
   rw [e1] at N;have N2:Below w.heap.size w (stN w2 w.heap.size k [.slice bao1 (x k).1 bcap1]):=(hb.trans (hb2.mono hb.size)).trans (za1 (Nat.le_refl _) _ _);clear o2 hb2 sp hb hv2
   go_wp2_with fail
   go_roundw
   case rel=>
    obtain ⟨ce',Ls',N⟩:=N;exact ⟨k+1,by omega,by go_num,ce',Ls',N,N2⟩
   case measure=>simp [intOf];omega
  ·obtain rfl:k=n:=by omega
   go_wp2;go_ret;exact ⟨_,rfl,sp.done (Nat.le_refl _),hb⟩
set_option maxRecDepth 20000 in
theorem zix:ToV zae zbg 86:=fun cs d hi w r hhi hn=>by
 obtain ⟨ao1,cap1,ao2,cap2,ao3,cap3,rfl,h1,h2,h3,k0,k4,k5⟩:=zaV r;clear r;unfold zbg at hn;have R1:=hid h1;have R2:=hid h2;have R3:=hid h3;clear h1 h2 h3;have Q0:=hid k0;have Q4:=hid k4;have Q5:=hid k5;clear k0 k4 k5;have T0:=zaz w (rwW d ao1 cap1 ao2 cap2 ao3 cap3).toArray (rwV 0 0 0 0 0 0 0 0 0 none 0 0 none 0 0 none 0 0 0 0 false).toArray 34 34
 go_enter Tryz.func86,Tryz.ntmps86
 go_wp2_with fail
 refine (zgc _ d.groups hi _ (((zad.slice 73).slice 70).rd_below R1.out T0.bel hhi) (Nat.le_trans hhi T0.bel.size) (by omega)).mono ?_;rintro e w1 ⟨v0,rfl,o0,b0⟩;obtain ⟨bo1,bcap1,hv⟩:=zb9 o0;obtain rfl:=za2 hv;clear hv;have T0c:=T0.call b0;have z0:=T0.b2.lt;have y0:=b0.size;have c0_9:w1.cell? ⟨w.heap.size,9,none⟩=some (.slice ao1 d.groups.1 cap1):=T0c.b1.cell 9;have c0f_9:w1.frozen? ⟨w.heap.size,9,none⟩=false:=T0c.b1.frozen 9;have T1x:Two w (w1.setCell ⟨w.heap.size,9,none⟩ (.slice bo1 d.groups.1 bcap1)) (rwW d bo1 bcap1 ao2 cap2 ao3 cap3).toArray (rwV 0 0 0 0 0 0 0 0 0 none 0 0 none 0 0 none 0 0 0 0 false).toArray 34 34:=⟨T0c.b1.stL [.slice bo1 d.groups.1 bcap1] 9,T0c.b2.seto _ _ (by omega),T0c.bel.setCell (Nat.le_refl _) _⟩;have O1_0:=(o0.stN w.heap.size 9 [.slice bo1 d.groups.1 bcap1] (by omega))
 have e1:(w1.setCell ⟨w.heap.size,9,none⟩ (.slice bo1 d.groups.1 bcap1)).heap.size=w1.heap.size:=by simp
 clear o0 b0
 go_upto_region 2 with fail
 obtain ⟨W1,hW1⟩:∃ x,x=w1.setCell ⟨w.heap.size,9,none⟩ (.slice bo1 d.groups.1 bcap1):=⟨_,rfl⟩
 have O1:Hid (OwnT ((zad.slice 73).slice 70) W1 (w.heap.size+1+1) (w1.heap.size) d.groups [.slice bo1 d.groups.1 bcap1]):=by rw [hW1];exact OwnT.weaken O1_0 (by simp) (Nat.le_refl _)
 rw [← hW1] at T1x e1 ⊢;clear hW1 O1_0 T0c c0_9 c0f_9;have a1_10:W1.cell? ⟨w.heap.size,10,none⟩=some (.slice ao2 d.on.1 cap2):=T1x.b1.cell 10
 go_wp2_with fail
 refine (zfw _ d.on hi _ (zao.rd_below R2.out T1x.bel hhi) (Nat.le_trans hhi T1x.bel.size) (by omega)).mono ?_;rintro e w2 ⟨v1,rfl,o1,b1⟩;obtain ⟨bo2,bcap2,hv⟩:=zcH o1;obtain rfl:=za2 hv;clear hv;have T1c:=T1x.call b1;have z1:=T1x.b2.lt;have y1:=b1.size;have c1_10:w2.cell? ⟨w.heap.size,10,none⟩=some (.slice ao2 d.on.1 cap2):=T1c.b1.cell 10;have c1f_10:w2.frozen? ⟨w.heap.size,10,none⟩=false:=T1c.b1.frozen 10;have T2x:Two w (w2.setCell ⟨w.heap.size,10,none⟩ (.slice bo2 d.on.1 bcap2)) (rwW d bo1 bcap1 bo2 bcap2 ao3 cap3).toArray (rwV 0 0 0 0 0 0 0 0 0 none 0 0 none 0 0 none 0 0 0 0 false).toArray 34 34:=⟨T1c.b1.stL [.slice bo2 d.on.1 bcap2] 10,T1c.b2.seto _ _ (by omega),T1c.bel.setCell (Nat.le_refl _) _⟩;have O1_1:=(O1.out.call b1).stN w.heap.size 10 [.slice bo2 d.on.1 bcap2] (by omega);have O2_1:=(o1.stN w.heap.size 10 [.slice bo2 d.on.1 bcap2] (by omega))
 have e2:(w2.setCell ⟨w.heap.size,10,none⟩ (.slice bo2 d.on.1 bcap2)).heap.size=w2.heap.size:=by simp
 clear o1 b1 O1 T1x a1_10
 go_upto_region 3 with fail
 obtain ⟨W2,hW2⟩:∃ x,x=w2.setCell ⟨w.heap.size,10,none⟩ (.slice bo2 d.on.1 bcap2):=⟨_,rfl⟩
 have O1:Hid (OwnT ((zad.slice 73).slice 70) W2 (w.heap.size+1+1) (w1.heap.size) d.groups [.slice bo1 d.groups.1 bcap1]):=by rw [hW2];exact O1_1
 have O2:Hid (OwnT zao W2 (W1.heap.size) (w2.heap.size) d.on [.slice bo2 d.on.1 bcap2]):=by rw [hW2];exact O2_1
 rw [← hW2] at T2x e2 ⊢;clear hW2 O1_1 O2_1 T1c c1_10 c1f_10;have a2_11:W2.cell? ⟨w.heap.size,11,none⟩=some (.slice ao3 d.tapes.1 cap3):=T2x.b1.cell 11
 go_wp2_with fail
 refine (zh3 _ d.tapes hi _ ((zaj.slice 80).rd_below R3.out T2x.bel hhi) (Nat.le_trans hhi T2x.bel.size) (by omega)).mono ?_;rintro e w3 ⟨v2,rfl,o2,b2⟩;obtain ⟨bo3,bcap3,hv⟩:=zb9 o2;obtain rfl:=za2 hv;clear hv;have T2c:=T2x.call b2;have z2:=T2x.b2.lt;have y2:=b2.size;have c2_11:w3.cell? ⟨w.heap.size,11,none⟩=some (.slice ao3 d.tapes.1 cap3):=T2c.b1.cell 11;have c2f_11:w3.frozen? ⟨w.heap.size,11,none⟩=false:=T2c.b1.frozen 11;have T3x:Two w (w3.setCell ⟨w.heap.size,11,none⟩ (.slice bo3 d.tapes.1 bcap3)) (rwW d bo1 bcap1 bo2 bcap2 bo3 bcap3).toArray (rwV 0 0 0 0 0 0 0 0 0 none 0 0 none 0 0 none 0 0 0 0 false).toArray 34 34:=⟨T2c.b1.stL [.slice bo3 d.tapes.1 bcap3] 11,T2c.b2.seto _ _ (by omega),T2c.bel.setCell (Nat.le_refl _) _⟩;have O1_2:=(O1.out.call b2).stN w.heap.size 11 [.slice bo3 d.tapes.1 bcap3] (by omega);have O2_2:=(O2.out.call b2).stN w.heap.size 11 [.slice bo3 d.tapes.1 bcap3] (by omega);have O3_2:=(o2.stN w.heap.size 11 [.slice bo3 d.tapes.1 bcap3] (by omega))
 have e3:(w3.setCell ⟨w.heap.size,11,none⟩ (.slice bo3 d.tapes.1 bcap3)).heap.size=w3.heap.size:=by simp
 clear o2 b2 O1 O2 T2x a2_11
 go_upto_region 4 with fail
 obtain ⟨W3,hW3⟩:∃ x,x=w3.setCell ⟨w.heap.size,11,none⟩ (.slice bo3 d.tapes.1 bcap3):=⟨_,rfl⟩
 have O1:Hid (OwnT ((zad.slice 73).slice 70) W3 (w.heap.size+1+1) (w1.heap.size) d.groups [.slice bo1 d.groups.1 bcap1]):=by rw [hW3];exact O1_2
 have O2:Hid (OwnT zao W3 (W1.heap.size) (w2.heap.size) d.on [.slice bo2 d.on.1 bcap2]):=by rw [hW3];exact O2_2
 have O3:Hid (OwnT (zaj.slice 80) W3 (W2.heap.size) (w3.heap.size) d.tapes [.slice bo3 d.tapes.1 bcap3]):=by rw [hW3];exact O3_2
 rw [← hW3] at T3x e3 ⊢;clear hW3 O1_2 O2_2 O3_2 T2c c2_11 c2f_11;have y_0:W3.cell? ⟨w.heap.size,0,none⟩=some (.int .i64 (d.shape 0)):=T3x.b1.cell 0;have y_1:W3.cell? ⟨w.heap.size,1,none⟩=some (.int .i64 (d.shape 1)):=T3x.b1.cell 1;have y_2:W3.cell? ⟨w.heap.size,2,none⟩=some (.int .i64 (d.shape 2)):=T3x.b1.cell 2;have y_3:W3.cell? ⟨w.heap.size,3,none⟩=some (.int .i64 (d.shape 3)):=T3x.b1.cell 3;have y_4:W3.cell? ⟨w.heap.size,4,none⟩=some (.int .i64 (d.shape 4)):=T3x.b1.cell 4;have y_5:W3.cell? ⟨w.heap.size,5,none⟩=some (.int .i64 (d.shape 5)):=T3x.b1.cell 5;have y_6:W3.cell? ⟨w.heap.size,6,none⟩=some (.int .i64 (d.shape 6)):=T3x.b1.cell 6;have y_7:W3.cell? ⟨w.heap.size,7,none⟩=some (.int .i64 (d.shape 7)):=T3x.b1.cell 7;have y_8:W3.cell? ⟨w.heap.size,8,none⟩=some (.int .i64 (d.shape 8)):=T3x.b1.cell 8;have y_9:W3.cell? ⟨w.heap.size,9,none⟩=some (.slice bo1 d.groups.1 bcap1):=T3x.b1.cell 9;have y_10:W3.cell? ⟨w.heap.size,10,none⟩=some (.slice bo2 d.on.1 bcap2):=T3x.b1.cell 10;have y_11:W3.cell? ⟨w.heap.size,11,none⟩=some (.slice bo3 d.tapes.1 bcap3):=T3x.b1.cell 11;have y_12:W3.cell? ⟨w.heap.size,12,none⟩=some (.int .i64 d.writes):=T3x.b1.cell 12;have y_13:W3.cell? ⟨w.heap.size,13,none⟩=some (.int .i64 d.stop):=T3x.b1.cell 13;have y_14:W3.cell? ⟨w.heap.size,14,none⟩=some (.bool d.down):=T3x.b1.cell 14;have r_0:W3.cell? ⟨w.heap.size+1,0,none⟩=some (.int .i64 0):=T3x.b2.cell 0;have rf_0:W3.frozen? ⟨w.heap.size+1,0,none⟩=false:=T3x.b2.frozen 0;have r_1:W3.cell? ⟨w.heap.size+1,1,none⟩=some (.int .i64 0):=T3x.b2.cell 1;have rf_1:W3.frozen? ⟨w.heap.size+1,1,none⟩=false:=T3x.b2.frozen 1;have r_2:W3.cell? ⟨w.heap.size+1,2,none⟩=some (.int .i64 0):=T3x.b2.cell 2;have rf_2:W3.frozen? ⟨w.heap.size+1,2,none⟩=false:=T3x.b2.frozen 2;have r_3:W3.cell? ⟨w.heap.size+1,3,none⟩=some (.int .i64 0):=T3x.b2.cell 3;have rf_3:W3.frozen? ⟨w.heap.size+1,3,none⟩=false:=T3x.b2.frozen 3;have r_4:W3.cell? ⟨w.heap.size+1,4,none⟩=some (.int .i64 0):=T3x.b2.cell 4;have rf_4:W3.frozen? ⟨w.heap.size+1,4,none⟩=false:=T3x.b2.frozen 4;have r_5:W3.cell? ⟨w.heap.size+1,5,none⟩=some (.int .i64 0):=T3x.b2.cell 5;have rf_5:W3.frozen? ⟨w.heap.size+1,5,none⟩=false:=T3x.b2.frozen 5;have r_6:W3.cell? ⟨w.heap.size+1,6,none⟩=some (.int .i64 0):=T3x.b2.cell 6;have rf_6:W3.frozen? ⟨w.heap.size+1,6,none⟩=false:=T3x.b2.frozen 6;have r_7:W3.cell? ⟨w.heap.size+1,7,none⟩=some (.int .i64 0):=T3x.b2.cell 7;have rf_7:W3.frozen? ⟨w.heap.size+1,7,none⟩=false:=T3x.b2.frozen 7;have r_8:W3.cell? ⟨w.heap.size+1,8,none⟩=some (.int .i64 0):=T3x.b2.cell 8;have rf_8:W3.frozen? ⟨w.heap.size+1,8,none⟩=false:=T3x.b2.frozen 8;have r_9:W3.cell? ⟨w.heap.size+1,9,none⟩=some (.slice none 0 0):=T3x.b2.cell 9;have rf_9:W3.frozen? ⟨w.heap.size+1,9,none⟩=false:=T3x.b2.frozen 9
 have r_10:W3.cell? ⟨w.heap.size+1,10,none⟩=some (.slice none 0 0):=T3x.b2.cell 10;have rf_10:W3.frozen? ⟨w.heap.size+1,10,none⟩=false:=T3x.b2.frozen 10;have r_11:W3.cell? ⟨w.heap.size+1,11,none⟩=some (.slice none 0 0):=T3x.b2.cell 11;have rf_11:W3.frozen? ⟨w.heap.size+1,11,none⟩=false:=T3x.b2.frozen 11;have r_12:W3.cell? ⟨w.heap.size+1,12,none⟩=some (.int .i64 0):=T3x.b2.cell 12;have rf_12:W3.frozen? ⟨w.heap.size+1,12,none⟩=false:=T3x.b2.frozen 12;have r_13:W3.cell? ⟨w.heap.size+1,13,none⟩=some (.int .i64 0):=T3x.b2.cell 13;have rf_13:W3.frozen? ⟨w.heap.size+1,13,none⟩=false:=T3x.b2.frozen 13;have r_14:W3.cell? ⟨w.heap.size+1,14,none⟩=some (.bool false):=T3x.b2.cell 14;have rf_14:W3.frozen? ⟨w.heap.size+1,14,none⟩=false:=T3x.b2.frozen 14;have HB:=hid T3x.bel;have zz:=T3x.b2.lt;clear T3x;go_wp2;refine bodyPost_ret (v:=.agg (rwW d bo1 bcap1 bo2 bcap2 bo3 bcap3).toArray) (by simp [results,Tryz.results86,go_sem,r_0,y_0,r_1,y_1,r_2,y_2,r_3,y_3,r_4,y_4,r_5,y_5,r_6,y_6,r_7,y_7,r_8,y_8,r_9,y_9,r_10,y_10,r_11,y_11,r_12,y_12,r_13,y_13,r_14,y_14]) rfl ?_;have F:OwnT zae W3 (w.heap.size+1+1) w3.heap.size d ((rwS d.shape)++([.slice bo1 d.groups.1 bcap1]++([.slice bo2 d.on.1 bcap2]++([.slice bo3 d.tapes.1 bcap3]++([.int .i64 d.writes]++([.int .i64 d.stop]++[.bool d.down])))))):=OwnT.conv (OwnT.pre (A:=(zeC 9)) (a:=d.shape) (c:=(rwS d.shape)) ⟨rfl,Q0.out,rfl⟩ (OwnT.two O1.out (OwnT.two O2.out (OwnT.two O3.out (OwnT.pre (A:=layI) (a:=d.writes) (c:=[.int .i64 d.writes]) ⟨rfl,Q4.out,rfl⟩ (OwnT.pre (A:=layI) (a:=d.stop) (c:=[.int .i64 d.stop]) ⟨rfl,Q5.out,rfl⟩ (OwnT.nil (A:=layB) (a:=d.down) (c:=[.bool d.down]) ⟨rfl,trivial,rfl⟩ _ _))) (Nat.le_refl _) (by omega) (by omega)) (by omega) (by omega) (by omega)) (by omega) (by omega) (by omega)));refine ⟨(rwW d bo1 bcap1 bo2 bcap2 bo3 bcap3),rfl,?_,?_⟩
 ·exact OwnT.finb (F.weaken (Nat.le_refl _) (by omega)) (b:=w.heap.size+1) (by omega) (by omega) 0 (rwW d bo1 bcap1 bo2 bcap2 bo3 bcap3) _ rfl
 ·exact HB.out.trans (za1 (by omega) (rwW d bo1 bcap1 bo2 bcap2 bo3 bcap3) 0)
set_option maxRecDepth 20000 in
theorem zmh (E:Nat) (v0 v1 v2 v3 v4 v5 v6 v7 v8 vp0 vl0 vq0 vp1 vl1 vq1 vp2 vl2 vq2 v9 v10 vb:_) (d:WorldD) (K:List Nat) (T:Nat) (kd sq:Int) (w:World) (hX:Box w E #[.int .i32 0,.int .u32 0,.int .u32 0,.int .i32 0,.int .u32 0,.int .i64 v0,.int .i64 v1,.int .i64 v2,.int .i64 v3,.int .i64 v4,.int .i64 v5,.int .i64 v6,.int .i64 v7,.int .i64 v8,.slice vp0 vl0 vq0,.slice vp1 vl1 vq1,.slice vp2 vl2 vq2,.int .i64 v9,.int .i64 v10,.bool vb] 110) (hO:EncO w E d [.int .i64 v0,.int .i64 v1,.int .i64 v2,.int .i64 v3,.int .i64 v4,.int .i64 v5,.int .i64 v6,.int .i64 v7,.int .i64 v8,.slice vp0 vl0 vq0,.slice vp1 vl1 vq1,.slice vp2 vl2 vq2,.int .i64 v9,.int .i64 v10,.bool vb] K) (hT:T<d.tapes.1) (hn:(d.tapes.2 T).recs.1≤1048576) (hpw:¬ (v10≠-1∧v10≤v9)) (hwr:-9223372036854775808≤d.writes∧d.writes+1≤9223372036854775807) :
 Calls Tryz.prog 96 #[.pointer (some ⟨E,0,none⟩),.int .i64 (T:Int),.int .i64 kd,.int .i64 sq] w fun e w'=>e=.returned (.tuple #[])∧∃ cs' K',Box w' E (([.int .i32 0,.int .u32 0,.int .u32 0,.int .i32 0,.int .u32 0]:List Value)++cs').toArray 110∧EncO w' E { zcP d T kd sq with writes:=d.writes+1 } cs' K'∧(∀ b,b∈K'→b∈K∨w.heap.size≤b)∧ChgL (E::K) w w':=by
 have hmf:∀ (fn:Fn) (first cap:Array Value) (w:World),(Instr.makeFunc fn first cap).run Tryz.prog w=.ok (.func fn first cap) w:=fun _ _ _ _=>rfl;have hE:E<w.heap.size:=hX.lt;have TB:=zbQ w #[.int .i64 (T:Int)] #[.int .i64 kd] #[.int .i64 sq] 2 2 2;have X1:=hX.below TB.bel hE
 go_enter Tryz.func96,Tryz.ntmps96
 go_upto_region 1 with fail
 obtain ⟨W,hW⟩:∃ x,x=(((w.alloc (.cells #[.int .i64 (T:Int)] 2)).alloc (.cells #[.int .i64 kd] 2)).alloc (.cells #[.int .i64 sq] 2)):=⟨_,rfl⟩;rw [← hW] at TB X1 ⊢;have zW:w.heap.size≤W.heap.size:=TB.bel.size;clear hW hX;have O1:EncO W E d (rwV v0 v1 v2 v3 v4 v5 v6 v7 v8 vp0 vl0 vq0 vp1 vl1 vq1 vp2 vl2 vq2 v9 v10 vb) K:=⟨Lay.own_kept _ hO.own (fun b hb=>TB.bel.block b (zae.own_lt hO.own b hb)),hO.nd,hO.ne⟩;have CR:=zfX E v0 v1 v2 v3 v4 v5 v6 v7 v8 vp0 vl0 vq0 vp1 vl1 vq1 vp2 vl2 vq2 v9 v10 vb d (zcP d T kd sq) K w.heap.size (w.heap.size+1) (w.heap.size+1+1) W X1 O1 hpw hwr (fun W' hX' hO' hC'=>zit E d _ K _ _ _ T kd sq hT hn W' hX' hO' ((World.cell?_of_block (hC'.block (w.heap.size) TB.b1.lt (by simp;omega))).trans (TB.b1.cell 0)) ((World.cell?_of_block (hC'.block (w.heap.size+1) TB.b2.lt (by simp;omega))).trans (TB.b2.cell 0)) ((World.cell?_of_block (hC'.block (w.heap.size+1+1) TB.b3.lt (by simp;omega))).trans (TB.b3.cell 0)) ⟨by have:=hC'.size;have:=TB.b3.lt;omega,fun hb=>by have:=zae.own_lt hO.own _ hb;omega⟩ ⟨by have:=hC'.size;have:=TB.b3.lt;omega,fun hb=>by have:=zae.own_lt hO.own _ hb;omega⟩ ⟨by have:=hC'.size;have:=TB.b3.lt;omega,fun hb=>by have:=zae.own_lt hO.own _ hb;omega⟩);have HCR:=CR;clear CR hO hpw hwr O1 X1
 go_wp2_with (go_at_call 140;refine HCR.mono ?_;rintro e w5 ⟨rfl,cs',K',X5,O5,s5,C5⟩)
 go_end0
 exact ⟨rfl,cs',K',X5,O5,fun b hb=>(s5 b hb).imp id (fun h=>by omega),(ChgL.of_below TB.bel).trans C5⟩
set_option maxRecDepth 20000 in
theorem zjx (E:Nat) (v0 v1 v2 v3 v4 v5 v6 v7 v8 vp0 vl0 vq0 vp1 vl1 vq1 vp2 vl2 vq2 v9 v10 vb:_) (d:WorldD) (K:List Nat) (T:Nat) (kd sq:Int) (w:World) (hX:Box w E #[.int .i32 0,.int .u32 0,.int .u32 0,.int .i32 0,.int .u32 0,.int .i64 v0,.int .i64 v1,.int .i64 v2,.int .i64 v3,.int .i64 v4,.int .i64 v5,.int .i64 v6,.int .i64 v7,.int .i64 v8,.slice vp0 vl0 vq0,.slice vp1 vl1 vq1,.slice vp2 vl2 vq2,.int .i64 v9,.int .i64 v10,.bool vb] 110) (h1:∀ x,x∈([.int .i64 v0,.int .i64 v1,.int .i64 v2,.int .i64 v3,.int .i64 v4,.int .i64 v5,.int .i64 v6,.int .i64 v7,.int .i64 v8,.slice vp0 vl0 vq0,.slice none 0 0,.slice vp2 vl2 vq2,.int .i64 v9,.int .i64 v10,.bool true]:List Value)→x.oneCell'=true) (hs:v10≠-1) (hw:v10≤v9) :
 Calls Tryz.prog 96 #[.pointer (some ⟨E,0,none⟩),.int .i64 (T:Int),.int .i64 kd,.int .i64 sq] w fun e w'=>e=.panicked [{ v:=.iface 215 (.agg #[]),recovered:=false }]∧Box w' E #[.int .i32 0,.int .u32 0,.int .u32 1,.int .i32 0,.int .u32 0,.int .i64 v0,.int .i64 v1,.int .i64 v2,.int .i64 v3,.int .i64 v4,.int .i64 v5,.int .i64 v6,.int .i64 v7,.int .i64 v8,.slice vp0 vl0 vq0,.slice none 0 0,.slice vp2 vl2 vq2,.int .i64 v9,.int .i64 v10,.bool true] 110∧ChgL [E] w w':=by
 have hmf:∀ (fn:Fn) (first cap:Array Value) (w:World),(Instr.makeFunc fn first cap).run Tryz.prog w=.ok (.func fn first cap) w:=fun _ _ _ _=>rfl;have hE:E<w.heap.size:=hX.lt;have TB:=zbQ w #[.int .i64 (T:Int)] #[.int .i64 kd] #[.int .i64 sq] 2 2 2;have X1:=hX.below TB.bel hE
 go_enter Tryz.func96,Tryz.ntmps96
 go_upto_region 1 with fail
 obtain ⟨W,hW⟩:∃ x,x=(((w.alloc (.cells #[.int .i64 (T:Int)] 2)).alloc (.cells #[.int .i64 kd] 2)).alloc (.cells #[.int .i64 sq] 2)):=⟨_,rfl⟩;rw [← hW] at TB X1 ⊢;have zW:w.heap.size≤W.heap.size:=TB.bel.size;clear hW hX;have CR:=fun fv=>zhh E v0 v1 v2 v3 v4 v5 v6 v7 v8 vp0 vl0 vq0 vp1 vl1 vq1 vp2 vl2 vq2 v9 v10 vb fv W X1 h1 hs hw;clear h1 hs hw X1
 go_wp2_with (go_at_call 140;refine (CR _).mono ?_;rintro e w5 ⟨rfl,X5,C5⟩)
 exact ⟨rfl,rfl,X5,(ChgL.of_below TB.bel).trans C5⟩
def laidT (x:TapeD) (r:RecD):TapeD:=⟨false,(x.recs.1+1,upd x.recs.2 x.recs.1 r)⟩
def znK (d:WorldD) (T:Nat) (r:RecD):WorldD:={ d with tapes:=(d.tapes.1,upd d.tapes.2 T (laidT (d.tapes.2 T) r)) }
end Go.Proofs.YthbpmbgfddpffaaGreat
