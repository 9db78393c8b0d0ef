/- A region that draws its order and holds calls that may come up in either order and a variable that is made somewhere among them: the steps one by one, whole structs at once. -/
import Derived.Test.YtbjkjcfodljamaaGreatZPitemsag
import Derived.Test.YtbjkjcfodljamaaGreatZPitemsan
import Derived.Test.YtbjkjcfodljamaaGreatZPitemsad
import Derived.Test.YtbjkjcfodljamaaGreatZPitemsak
import Derived.Test.YtbjkjcfodljamaaGreatZPitemsae
import Derived.Test.YtbjkjcfodljamaaGreatRows
import Derived.Test.YtbjkjcfodljamaaGreatZPitemsaa
import Derived.Test.YtbjkjcfodljamaaGreatZPitemsaf
import Derived.Test.YtbjkjcfodljamaaGreatZPitemsao
import Derived.Deep.DeepCutAuto
import Derived.Deep.RegionLaw
set_option linter.unusedVariables false
set_option linter.unusedSimpArgs false
namespace Go.Proofs.YtbjkjcfodljamaaGreat
open Go.RowKit
section
variable {ops:Array Oper} {Q:Exit → Act → World → Prop} {md:Region.Mode} {S:World → Prop} {L:Nat}
theorem load_yield {o:Oper} {a:Act} (T:TypeId) (x:Operand) (ho:o.op = .load T x) (hg:o.guard = none) (b:Nat) (hx:a.eval x = .pointer (some ⟨b,0,none⟩)) {cs:List Value} (hB:∀ w,S w → Box w b cs.toArray T) {fs:Array Field} (hu:Tryz.prog.underlying T = some (.struct fs)) {n:Nat} (hi:(Tryz.prog.info? T).map (·.size) = some n) (hl:cs.length = n):YieldsIf Tryz.prog ops S o (.agg cs.toArray) a:=by
  refine .inl ⟨by simp [Region.wanted,hg],fun w hS => ?_⟩;unfold execOp
  simp only [ho,hx,Instr.loadAt,Instr.sureAddr,Sem.run_bind,Sem.run_pure,Result.andThen_ok,run_loadVar_row w b T T cs.toArray (0,0) (.struct fs) (hB w hS) hu rfl (by rw [hi];simp [hl])]
end
theorem below_drew (w:World):Below w.heap.size w w.drew:=⟨rfl,rfl,rfl,Nat.le_refl _,fun _ _ => rfl⟩
end Go.Proofs.YtbjkjcfodljamaaGreat
namespace Go.Proofs.YtbjkjcfodljamaaGreat
open Go.RowKit F256
set_option maxHeartbeats 8000000 in
set_option maxRecDepth 20000 in
theorem eqRecsResult_is:EqV layRecsResult 10:=fun c1 c2 d h1 h2 w r1 r2 u1 u2 => by
  obtain ⟨ao1,cap1,rfl,g1,-⟩:=RecsResult_rd r1;obtain ⟨bao1,bcap1,rfl,q1,-⟩:=RecsResult_rd r2;clear r1 r2;have G1:Hid ((layRec.slice 81).rd w h1 d.recs [.slice ao1 d.recs.1 cap1]):=g1;have E1:Hid ((layRec.slice 81).rd w h2 d.recs [.slice bao1 d.recs.1 bcap1]):=q1;clear g1 q1
  go_enter Tryz.func10,Tryz.ntmps10
  go_wp2_with fail
  have T0:=two_newb w #[.int .i64 d.code,.slice ao1 d.recs.1 cap1] #[.int .i64 d.code,.slice bao1 d.recs.1 bcap1] 32 32;refine (eqRecS_is _ _ d.recs h1 h2 _ ((layRec.slice 81).rd_below G1.out T0.bel u1) ((layRec.slice 81).rd_below E1.out T0.bel u2) (Nat.le_trans u1 T0.bel.size) (Nat.le_trans u2 T0.bel.size)).mono ?_;rintro e w1 ⟨rfl,b1⟩;have T1:Two w w1 #[.int .i64 d.code,.slice ao1 d.recs.1 cap1] #[.int .i64 d.code,.slice bao1 d.recs.1 bcap1] 32 32:=T0.call b1;clear T0 b1;have B:Hid (Below w.heap.size w w1):=T1.bel;clear T1;go_wp2;go_ret;exact ⟨rfl,B.out⟩
end Go.Proofs.YtbjkjcfodljamaaGreat
namespace Go.Proofs.YtbjkjcfodljamaaGreat
open Go.RowKit F256
set_option maxHeartbeats 4000000 in
theorem markRecsResult_is:MkV layRecsResult cvRecsResultD mkvRecsResultD 13:=fun cs d L j w h nd hj => by
  obtain ⟨ao1,cap1,K1,rfl,hLL,o1,k0⟩:=RecsResult_own h;clear h;have hLM:=hLL.symm;subst hLM;unfold cvRecsResultD at hj ⊢;have Z1:=(layRec.slice 81).own_lt o1;have bz:Below w.heap.size w (w.alloc (.cells #[.int .i64 d.code,.slice ao1 d.recs.1 cap1] 32)):=(Below.refl _ _).alloc (Nat.le_refl _) _;have B0:Hid (Box (w.alloc (.cells #[.int .i64 d.code,.slice ao1 d.recs.1 cap1] 32)) w.heap.size #[.int .i64 d.code,.slice ao1 d.recs.1 cap1] 32):=box_new _ _ _;have CH0:Hid (ChgL (K1) w (w.alloc (.cells #[.int .i64 d.code,.slice ao1 d.recs.1 cap1] 32))):=ChgL.of_below bz;have O0_1:Hid ((layRec.slice 81).own (w.alloc (.cells #[.int .i64 d.code,.slice ao1 d.recs.1 cap1] 32)) d.recs [.slice ao1 d.recs.1 cap1] K1):=(layRec.slice 81).own_kept o1 (fun b hb => bz.block b (Z1 b hb));clear bz o1
  go_enter Tryz.func13,Tryz.ntmps13
  go_wp2_with fail
  refine (markRecS_is _ d.recs K1 (j) _ O0_1.out nd (by omega)).mono ?_;rintro e w1 ⟨rfl,p1,q1⟩;have O1_1:Hid ((layRec.slice 81).own w1 ((mkSl cRecD mkRecD) (j) d.recs) [.slice ao1 d.recs.1 cap1] K1):=p1;have B1:Hid (Box w1 w.heap.size #[.int .i64 d.code,.slice ao1 d.recs.1 cap1] 32):=(q1.block w.heap.size B0.out.lt (fun hb => by have:=Z1 _ hb;omega)).trans B0.out;have CH1:Hid (ChgL (K1) w w1):=CH0.out.sub q1 (fun b hb => hb);clear p1 q1;go_wp2;go_ret;exact ⟨ret_eq (by omega),RecsResult_mk (mkvRecsResultD j d) O1_1.out k0,CH1.out⟩
end Go.Proofs.YtbjkjcfodljamaaGreat
namespace Go.Proofs.YtbjkjcfodljamaaGreat
open Go.RowKit F256
set_option maxHeartbeats 4000000 in
theorem heldRecsResult_is:HdV layRecsResult cvRecsResultD mkvRecsResultD 14:=fun cs d hi j w h hhi hj => by
  obtain ⟨ao1,cap1,rfl,r1,-⟩:=RecsResult_rd h;clear h;unfold cvRecsResultD at hj ⊢;have R1:Hid ((layRec.slice 81).rd w hi ((mkSl cRecD mkRecD) (j) d.recs) [.slice ao1 d.recs.1 cap1]):=r1;clear r1
  change Calls Tryz.prog 14 #[.agg #[.int .i64 d.code,.slice ao1 d.recs.1 cap1],.int .i64 j] w _
  go_enter Tryz.func14,Tryz.ntmps14
  go_wp2_with fail
  have T0:=one_new w #[.int .i64 d.code,.slice ao1 d.recs.1 cap1] 32;refine (heldRecS_is _ d.recs hi (j) _ ((layRec.slice 81).rd_below R1.out T0.bel hhi) (Nat.le_trans hhi T0.bel.size) (by omega)).mono ?_;rintro e w1 ⟨rfl,b1⟩;have T1:One w w1 #[.int .i64 d.code,.slice ao1 d.recs.1 cap1] 32:=T0.call b1
  have hz1:¬ (((j + (cSl cRecD) d.recs:Nat):Int) < 0):=by omega
  have HB:Hid (Below w.heap.size w w1):=T1.bel;clear b1 T1;go_wp2;go_ret;exact ⟨ret_eq (by omega),HB.out⟩
end Go.Proofs.YtbjkjcfodljamaaGreat
namespace Go.Proofs.YtbjkjcfodljamaaGreat
open Go.ChangeShapes Go.WideShapes Go.ChangeAt Go.RowKit F256
theorem res2_RecsResult {w:World} {hi:Nat} {d:RecsResultD} {cs:List Value} (h:layRecsResult.rd w hi d cs):∃ v0 vp vl vq,cs = [.int .i64 v0,.slice vp vl vq]:=by
  obtain ⟨p1,pc1,rfl,-⟩:=RecsResult_rd h;exact ⟨_,_,_,_,rfl⟩
theorem info_RecsResult:(Tryz.prog.info? 32).map (fun i => (i.zero.map (·.cells),i.size)) = some (some #[.int .i64 0,.slice none 0 0],2):=by kernel_rfl
theorem it_ex (d:WorldD):∃ q,ItAns d q:=by
  obtain ⟨x,hx⟩:=world_ex d
  by_cases h:x = 0
  · subst h
    obtain ⟨l,hl⟩:=cnt_ex (recT d.tapes.2 2) (lenT d.tapes.2 2);obtain ⟨m,hm⟩:=live_ex (fun i => recT d.tapes.2 2 (l.getD i 0)) l.length;exact ⟨_,.inr ⟨hx,l,m,hl,hm,rfl⟩⟩
  · exact ⟨_,.inl ⟨x,h,hx,rfl⟩⟩
theorem it_cv {d:WorldD} {q:RecsResultD} (hq:ItAns d q) (hsz:szWorldD d ≤ 1048576):cvRecsResultD q ≤ 90000000:=by
  rcases hq with ⟨x,_,_,rfl⟩ | ⟨h0,l,m,hl,hm,rfl⟩
  · exact Nat.zero_le _
  · have h1:=cRecs_le (liveOf d l m)
    have h2:=live_size (WldAns.ok h0).form.2.2 hsz hl hm
    show (cSl cRecD) (liveOf d l m) ≤ _
    omega
theorem it_det {d:WorldD} {q:RecsResultD} {w:World} {f:Nat} {args:Array Value} (hq:ItAns d q) (h:Calls Tryz.prog f args w (RcPost (ItAns d) w)):Calls Tryz.prog f args w fun e w' => ∃ cs,e = .returned (.agg cs.toArray) ∧ OwnT layRecsResult w' w.heap.size w'.heap.size q cs ∧ Below w.heap.size w w' :=
  h.mono fun e w' ⟨d',cs,h1,h2,h3,h4⟩ => ⟨cs,h1,by rw [hq.one h2];exact h3,h4⟩
theorem size_RR:(Tryz.prog.info? 32).map (·.size) = some 2:=by kernel_rfl
set_option maxHeartbeats 16000000 in
set_option maxRecDepth 20000 in
theorem fnExactItemsOf_walk (d:WorldD) (cs:List Value)  (w:World) (rd0:layWorld.rd w w.heap.size d cs)  :
    Calls Tryz.prog 3 #[.agg cs.toArray] w fun e w' => e = .returned (.bool true) ∧ Below w.heap.size w w':=by
  obtain ⟨v0,v1,v2,v3,v4,v5,v6,v7,v8,vp0,vl0,vq0,vp1,vl1,vq1,vp2,vl2,vq2,v9,v10,vb,rfl⟩:=world15 rd0;have HR:Hid (layWorld.rd w w.heap.size d [.int .i64 v0,.int .i64 v1,.int .i64 v2,.int .i64 v3,.int .i64 v4,.int .i64 v5,.int .i64 v6,.int .i64 v7,.int .i64 v8,.slice vp0 vl0 vq0,.slice vp1 vl1 vq1,.slice vp2 vl2 vq2,.int .i64 v9,.int .i64 v10,.bool vb]):=rd0
  skip
  clear rd0 ;have T0:=one_new w #[.int .i64 v0,.int .i64 v1,.int .i64 v2,.int .i64 v3,.int .i64 v4,.int .i64 v5,.int .i64 v6,.int .i64 v7,.int .i64 v8,.slice vp0 vl0 vq0,.slice vp1 vl1 vq1,.slice vp2 vl2 vq2,.int .i64 v9,.int .i64 v10,.bool vb] 28
  go_enter Tryz.func3,Tryz.ntmps3
  go_wp2_with (refine wp_loadBox 28 (.tmp 1) rfl rfl (w.heap.size) rfl (cs:=[.int .i64 v0,.int .i64 v1,.int .i64 v2,.int .i64 v3,.int .i64 v4,.int .i64 v5,.int .i64 v6,.int .i64 v7,.int .i64 v8,.slice vp0 vl0 vq0,.slice vp1 vl1 vq1,.slice vp2 vl2 vq2,.int .i64 v9,.int .i64 v10,.bool vb]) T0.b1 Tryz.underlying28 size_LW rfl ?_)
  refine (szWorld_is _ d w.heap.size 1048576 _ (layWorld.rd_below HR.out T0.bel (Nat.le_refl _)) T0.bel.size (by omega)).mono ?_;rintro e w1 ⟨x,rfl,hx,b1⟩;have T1:=T0.call b1;have HT1:Hid (One w w1 #[.int .i64 v0,.int .i64 v1,.int .i64 v2,.int .i64 v3,.int .i64 v4,.int .i64 v5,.int .i64 v6,.int .i64 v7,.int .i64 v8,.slice vp0 vl0 vq0,.slice vp1 vl1 vq1,.slice vp2 vl2 vq2,.int .i64 v9,.int .i64 v10,.bool vb] 28):=T1;clear b1 T0
  rcases hx with rfl | ⟨hsz,hx⟩
  · clear T1
    go_wp2;go_ret;exact ⟨rfl,HT1.out.bel⟩
  have hx0:¬ x < 0:=by omega
  clear hx;obtain ⟨q,hq⟩:=it_ex d;obtain ⟨N,hN⟩:∃ N,N = 1 + cvRecsResultD q:=⟨_,rfl⟩
  have hj:1 + cvRecsResultD q ≤ 100000000:=by have:=it_cv hq hsz;omega
  obtain ⟨M,hM⟩:∃ M,M = 1 + cvWorldD d:=⟨_,rfl⟩
  have hk:1 + cvWorldD d ≤ 100000000:=by have:=cvWorld_le d;omega
  have CT:∀ w',Below w1.heap.size w1 w' → Calls Tryz.prog 8 #[.agg #[.int .i64 v0,.int .i64 v1,.int .i64 v2,.int .i64 v3,.int .i64 v4,.int .i64 v5,.int .i64 v6,.int .i64 v7,.int .i64 v8,.slice vp0 vl0 vq0,.slice vp1 vl1 vq1,.slice vp2 vl2 vq2,.int .i64 v9,.int .i64 v10,.bool vb]] w' fun e w'' => ∃ cs',e = .returned (.agg cs'.toArray) ∧ OwnT layWorld w'' w'.heap.size w''.heap.size d cs' ∧ Below w'.heap.size w' w'':=fun w' hb =>
    toWorld_is _ d w.heap.size w' (layWorld.rd_below (layWorld.rd_below HR.out HT1.out.bel (Nat.le_refl _)) hb HT1.out.bel.size) (Nat.le_trans HT1.out.bel.size hb.size) hsz
  have CS:=fun (cs':List Value) (hi:Nat) (w':World) (h1:layWorld.rd w' hi d cs') (h2:hi ≤ w'.heap.size) => it_det hq (specIt_any d  cs' hi w' h1 h2 hsz);have CI:=fun (cs':List Value) (hi:Nat) (w':World) (h1:layWorld.rd w' hi d cs') (h2:hi ≤ w'.heap.size) => it_det hq (implIt_any d  cs' hi w' h1 h2 hsz);have CE:=fun c1 c2 h1 h2 w' => eqRecsResult_is c1 c2 q h1 h2 w';have CW:=fun c1 c2 h1 h2 w' => eqWorld_is c1 c2 d h1 h2 w';have CM:=fun {w':World} {lo hi:Nat} {cs:List Value} (h:OwnT layRecsResult w' lo hi q cs) => mark_T markRecsResult_is h 1 hj;have CK:=fun {w':World} {lo hi:Nat} {cs:List Value} (h:OwnT layWorld w' lo hi d cs) => mark_T markWorld_is h 1 hk;have CH:=fun (cs:List Value) (hi:Nat) (w':World) (h:layRecsResult.rd w' hi (mkvRecsResultD 1 q) cs) (hh:hi ≤ w'.heap.size) => heldRecsResult_is cs q hi 1 w' h hh hj;rw [← hN] at CM CH;rw [← hM] at CK;clear hN hM hj hk hq hsz
  go_wp2_with (refine wp_loadBox 28 (.tmp 1) rfl rfl (w.heap.size) rfl (cs:=[.int .i64 v0,.int .i64 v1,.int .i64 v2,.int .i64 v3,.int .i64 v4,.int .i64 v5,.int .i64 v6,.int .i64 v7,.int .i64 v8,.slice vp0 vl0 vq0,.slice vp1 vl1 vq1,.slice vp2 vl2 vq2,.int .i64 v9,.int .i64 v10,.bool vb]) T1.b1 Tryz.underlying28 size_LW rfl ?_)
  refine (CT _ (Below.refl _ _)).mono ?_;rintro e w2 ⟨c2,rfl,o2,b2⟩;have z1:w.heap.size < w1.heap.size:=T1.b1.lt;clear T1
  go_wp2_with fail
  refine (CS _ _ _ o2.rd (Nat.le_refl _)).mono ?_;rintro e w3 ⟨cS,rfl,oS,b3⟩;obtain ⟨s0,sp,sl,sq,rfl⟩:=res2_RecsResult oS.rd;have z2:w1.heap.size ≤ w2.heap.size:=b2.size;have z3:w2.heap.size ≤ w3.heap.size:=b3.size;have B3:Below w1.heap.size w1 w3:=b2.trans (b3.mono b2.size);clear o2 b2 b3
  go_upto_region 6 with (refine wp_allocStore 32 4 (.tmp 18) [.int .i64 s0,.slice sp sl sq] _ 2 rfl rfl rfl rfl rfl rfl rfl rfl info_RecsResult rfl rfl oS.one ?_)
  have bA:Below w3.heap.size w3 (w3.alloc (.cells #[.int .i64 s0,.slice sp sl sq] 32)):=(Below.refl _ _).alloc (Nat.le_refl _) _;have S4:Box (w3.alloc (.cells #[.int .i64 s0,.slice sp sl sq] 32)) w3.heap.size #[.int .i64 s0,.slice sp sl sq] 32:=box_new _ _ _;obtain ⟨W4,hW4⟩:∃ x,x = w3.alloc (.cells #[.int .i64 s0,.slice sp sl sq] 32):=⟨_,rfl⟩;rw [← hW4] at bA S4 ⊢;have B4:=B3.trans (bA.mono (by omega));have P4:=HT1.out.call B4;have OS4:=oS.call bA;have z4:w3.heap.size < W4.heap.size:=S4.lt;clear bA hW4 oS B3
  go_wp2_with (refine wp_loadBox 28 (.tmp 1) rfl rfl (w.heap.size) rfl (cs:=[.int .i64 v0,.int .i64 v1,.int .i64 v2,.int .i64 v3,.int .i64 v4,.int .i64 v5,.int .i64 v6,.int .i64 v7,.int .i64 v8,.slice vp0 vl0 vq0,.slice vp1 vl1 vq1,.slice vp2 vl2 vq2,.int .i64 v9,.int .i64 v10,.bool vb]) P4.b1 Tryz.underlying28 size_LW rfl ?_)
  refine (CT _ B4).mono ?_;rintro e w5 ⟨cX,rfl,oX,b5⟩;obtain ⟨x0,x1,x2,x3,x4,x5,x6,x7,x8,xp0,xl0,xq0,xp1,xl1,xq1,xp2,xl2,xq2,x9,x10,xb,rfl⟩:=world15O oX;have z5:W4.heap.size ≤ w5.heap.size:=b5.size;have B5:=B4.trans (b5.mono (by omega));have S5:=S4.call b5;have OS5:=OS4.call b5;clear P4 b5 B4 S4 OS4
  go_upto_region 7 with (refine wp_allocStore 38 5 (.tmp 20) [.int .i64 x0,.int .i64 x1,.int .i64 x2,.int .i64 x3,.int .i64 x4,.int .i64 x5,.int .i64 x6,.int .i64 x7,.int .i64 x8,.slice xp0 xl0 xq0,.slice xp1 xl1 xq1,.slice xp2 xl2 xq2,.int .i64 x9,.int .i64 x10,.bool xb] _ 15 rfl rfl rfl rfl rfl rfl rfl rfl info_W rfl rfl oX.one ?_)
  have bA:Below w5.heap.size w5 (w5.alloc (.cells #[.int .i64 x0,.int .i64 x1,.int .i64 x2,.int .i64 x3,.int .i64 x4,.int .i64 x5,.int .i64 x6,.int .i64 x7,.int .i64 x8,.slice xp0 xl0 xq0,.slice xp1 xl1 xq1,.slice xp2 xl2 xq2,.int .i64 x9,.int .i64 x10,.bool xb] 38)):=(Below.refl _ _).alloc (Nat.le_refl _) _;have X6:Box (w5.alloc (.cells #[.int .i64 x0,.int .i64 x1,.int .i64 x2,.int .i64 x3,.int .i64 x4,.int .i64 x5,.int .i64 x6,.int .i64 x7,.int .i64 x8,.slice xp0 xl0 xq0,.slice xp1 xl1 xq1,.slice xp2 xl2 xq2,.int .i64 x9,.int .i64 x10,.bool xb] 38)) w5.heap.size #[.int .i64 x0,.int .i64 x1,.int .i64 x2,.int .i64 x3,.int .i64 x4,.int .i64 x5,.int .i64 x6,.int .i64 x7,.int .i64 x8,.slice xp0 xl0 xq0,.slice xp1 xl1 xq1,.slice xp2 xl2 xq2,.int .i64 x9,.int .i64 x10,.bool xb] 38:=box_new _ _ _;obtain ⟨W6,hW6⟩:∃ x,x = w5.alloc (.cells #[.int .i64 x0,.int .i64 x1,.int .i64 x2,.int .i64 x3,.int .i64 x4,.int .i64 x5,.int .i64 x6,.int .i64 x7,.int .i64 x8,.slice xp0 xl0 xq0,.slice xp1 xl1 xq1,.slice xp2 xl2 xq2,.int .i64 x9,.int .i64 x10,.bool xb] 38):=⟨_,rfl⟩;rw [← hW6] at bA X6 ⊢;have B6:=B5.trans (bA.mono (by omega));have S6:=S5.call bA;have OS6:=OS5.call bA;have OX6:=oX.call bA;have z6:w5.heap.size < W6.heap.size:=X6.lt;clear bA hW6 oX B5 S5 OS5
  go_wp2_with (refine wp_loadBox 38 (.tmp 5) rfl rfl (w5.heap.size) rfl (cs:=[.int .i64 x0,.int .i64 x1,.int .i64 x2,.int .i64 x3,.int .i64 x4,.int .i64 x5,.int .i64 x6,.int .i64 x7,.int .i64 x8,.slice xp0 xl0 xq0,.slice xp1 xl1 xq1,.slice xp2 xl2 xq2,.int .i64 x9,.int .i64 x10,.bool xb]) X6 Tryz.underlying38 size_W rfl ?_)
  refine (CI _ _ _ OX6.rd (by omega)).mono ?_;rintro e w7 ⟨cG,rfl,oG,b7⟩;obtain ⟨g0,gp,gl,gq,rfl⟩:=res2_RecsResult oG.rd;have z7:W6.heap.size ≤ w7.heap.size:=b7.size;have B7:=B6.trans (b7.mono (by omega));have S7:=S6.call b7;have OS7:=OS6.call b7;have X7:=X6.call b7;have OX7:=OX6.call b7;clear b7 B6 S6 OS6 X6 OX6
  go_upto_region 8 with (refine wp_allocStore 32 6 (.tmp 22) [.int .i64 g0,.slice gp gl gq] _ 2 rfl rfl rfl rfl rfl rfl rfl rfl info_RecsResult rfl rfl oG.one ?_)
  have bA:Below w7.heap.size w7 (w7.alloc (.cells #[.int .i64 g0,.slice gp gl gq] 32)):=(Below.refl _ _).alloc (Nat.le_refl _) _;have G8:Box (w7.alloc (.cells #[.int .i64 g0,.slice gp gl gq] 32)) w7.heap.size #[.int .i64 g0,.slice gp gl gq] 32:=box_new _ _ _;obtain ⟨W8,hW8⟩:∃ x,x = w7.alloc (.cells #[.int .i64 g0,.slice gp gl gq] 32):=⟨_,rfl⟩;rw [← hW8] at bA G8 ⊢;have B8:=B7.trans (bA.mono (by omega));have S8:=S7.call bA;have OS8:=OS7.call bA;have X8:=X7.call bA;have OX8:=OX7.call bA;have OG8:=oG.call bA;have z8:w7.heap.size < W8.heap.size:=G8.lt;clear bA hW8 oG B7 S7 OS7 X7 OX7
  go_wp2_with (first | (refine wp_loadBox 32 (.tmp 6) rfl rfl (w7.heap.size) rfl (cs:=[.int .i64 g0,.slice gp gl gq]) G8 Tryz.underlying32 size_RR rfl ?_) | (refine wp_loadBox 32 (.tmp 4) rfl rfl (w3.heap.size) rfl (cs:=[.int .i64 s0,.slice sp sl sq]) S8 Tryz.underlying32 size_RR rfl ?_))
  refine (CE _ _ _ _ _ OG8.rd OS8.rd (by omega) (by omega)).mono ?_;rintro e w9 ⟨rfl,b9⟩;have z9:W8.heap.size ≤ w9.heap.size:=b9.size;have B9:=B8.trans (b9.mono (by omega));have S9:Hid (Box w9 w3.heap.size #[.int .i64 s0,.slice sp sl sq] 32):=S8.call b9;have OS9:Hid (OwnT layRecsResult w9 w2.heap.size w3.heap.size q [.int .i64 s0,.slice sp sl sq]):=OS8.call b9;have X9:Hid (Box w9 w5.heap.size #[.int .i64 x0,.int .i64 x1,.int .i64 x2,.int .i64 x3,.int .i64 x4,.int .i64 x5,.int .i64 x6,.int .i64 x7,.int .i64 x8,.slice xp0 xl0 xq0,.slice xp1 xl1 xq1,.slice xp2 xl2 xq2,.int .i64 x9,.int .i64 x10,.bool xb] 38):=X8.call b9;have OX9:Hid (OwnT layWorld w9 W4.heap.size w5.heap.size d [.int .i64 x0,.int .i64 x1,.int .i64 x2,.int .i64 x3,.int .i64 x4,.int .i64 x5,.int .i64 x6,.int .i64 x7,.int .i64 x8,.slice xp0 xl0 xq0,.slice xp1 xl1 xq1,.slice xp2 xl2 xq2,.int .i64 x9,.int .i64 x10,.bool xb]):=OX8.call b9;have G9:Hid (Box w9 w7.heap.size #[.int .i64 g0,.slice gp gl gq] 32):=G8.call b9;have OG9:Hid (OwnT layRecsResult w9 W6.heap.size w7.heap.size q [.int .i64 g0,.slice gp gl gq]):=OG8.call b9;have HB9:Hid (Below w1.heap.size w1 w9):=B9;have P9:Hid (One w w9 #[.int .i64 v0,.int .i64 v1,.int .i64 v2,.int .i64 v3,.int .i64 v4,.int .i64 v5,.int .i64 v6,.int .i64 v7,.int .i64 v8,.slice vp0 vl0 vq0,.slice vp1 vl1 vq1,.slice vp2 vl2 vq2,.int .i64 v9,.int .i64 v10,.bool vb] 28):=HT1.out.call B9;have CTc:=fun w' (hb:Below w9.heap.size w9 w') => CT w' (HB9.out.trans (hb.mono (by omega)));clear b9 B8 S8 OS8 X8 OX8 G8 OG8 B9
  go_upto_region 10 with fail
  go_cut [31] (fun v wx => v = .bool false ∧ Below w9.heap.size w9 wx)
  case first =>
    have KS:∀ w',Below w9.heap.size w9 w' → (Box w' (w5.heap.size) #[.int .i64 x0,.int .i64 x1,.int .i64 x2,.int .i64 x3,.int .i64 x4,.int .i64 x5,.int .i64 x6,.int .i64 x7,.int .i64 x8,.slice xp0 xl0 xq0,.slice xp1 xl1 xq1,.slice xp2 xl2 xq2,.int .i64 x9,.int .i64 x10,.bool xb] 38 ∧ Box w' (w.heap.size) #[.int .i64 v0,.int .i64 v1,.int .i64 v2,.int .i64 v3,.int .i64 v4,.int .i64 v5,.int .i64 v6,.int .i64 v7,.int .i64 v8,.slice vp0 vl0 vq0,.slice vp1 vl1 vq1,.slice vp2 vl2 vq2,.int .i64 v9,.int .i64 v10,.bool vb] 28):=fun w' hb => ⟨(X9.out).call hb,(P9.out.b1).call hb⟩;have B0:Below w9.heap.size w9 w9.drew:=below_drew _;refine wp_region_L 4 (fun w' => Box w' (w5.heap.size) #[.int .i64 x0,.int .i64 x1,.int .i64 x2,.int .i64 x3,.int .i64 x4,.int .i64 x5,.int .i64 x6,.int .i64 x7,.int .i64 x8,.slice xp0 xl0 xq0,.slice xp1 xl1 xq1,.slice xp2 xl2 xq2,.int .i64 x9,.int .i64 x10,.bool xb] 38 ∧ Box w' (w.heap.size) #[.int .i64 v0,.int .i64 v1,.int .i64 v2,.int .i64 v3,.int .i64 v4,.int .i64 v5,.int .i64 v6,.int .i64 v7,.int .i64 v8,.slice vp0 vl0 vq0,.slice vp1 vl1 vq1,.slice vp2 vl2 vq2,.int .i64 v9,.int .i64 v10,.bool vb] 28) (by kernel_rfl) (KS _ B0) (fun hHeld => ?_);refine wpAnyL_take (i:=0) (oi:=_) (v:=.agg #[.int .i64 x0,.int .i64 x1,.int .i64 x2,.int .i64 x3,.int .i64 x4,.int .i64 x5,.int .i64 x6,.int .i64 x7,.int .i64 x8,.slice xp0 xl0 xq0,.slice xp1 xl1 xq1,.slice xp2 xl2 xq2,.int .i64 x9,.int .i64 x10,.bool xb]) 16 rfl (by kernel_rfl) (fun _ _ _ h => h) (load_yield 38 (.tmp 5) rfl rfl (w5.heap.size) rfl (cs:=[.int .i64 x0,.int .i64 x1,.int .i64 x2,.int .i64 x3,.int .i64 x4,.int .i64 x5,.int .i64 x6,.int .i64 x7,.int .i64 x8,.slice xp0 xl0 xq0,.slice xp1 xl1 xq1,.slice xp2 xl2 xq2,.int .i64 x9,.int .i64 x10,.bool xb]) (fun w' h => h.1) Tryz.underlying38 size_W rfl) (by assumption) ?_
    try simp only [Act.put,SL]
    refine wpAnyL_take (i:=1) (oi:=_) (v:=.agg #[.int .i64 v0,.int .i64 v1,.int .i64 v2,.int .i64 v3,.int .i64 v4,.int .i64 v5,.int .i64 v6,.int .i64 v7,.int .i64 v8,.slice vp0 vl0 vq0,.slice vp1 vl1 vq1,.slice vp2 vl2 vq2,.int .i64 v9,.int .i64 v10,.bool vb]) 16 rfl (by kernel_rfl) (fun _ _ _ h => h) (load_yield 28 (.tmp 1) rfl rfl (w.heap.size) rfl (cs:=[.int .i64 v0,.int .i64 v1,.int .i64 v2,.int .i64 v3,.int .i64 v4,.int .i64 v5,.int .i64 v6,.int .i64 v7,.int .i64 v8,.slice vp0 vl0 vq0,.slice vp1 vl1 vq1,.slice vp2 vl2 vq2,.int .i64 v9,.int .i64 v10,.bool vb]) (fun w' h => h.2) Tryz.underlying28 size_LW rfl) (by assumption) ?_
    try simp only [Act.put,SL]
    refine wpAnyL_one (i:=2) (o:=_) rfl (by kernel_rfl) (fun KC hKC => ?_);refine step_call rfl 8 _ _ rfl #[.agg #[.int .i64 v0,.int .i64 v1,.int .i64 v2,.int .i64 v3,.int .i64 v4,.int .i64 v5,.int .i64 v6,.int .i64 v7,.int .i64 v8,.slice vp0 vl0 vq0,.slice vp1 vl1 vq1,.slice vp2 vl2 vq2,.int .i64 v9,.int .i64 v10,.bool vb]] ?_ Tryz.func8 (by kernel_rfl) (by kernel_rfl) (CTc _ B0) ?_
    · simp [Act.eval,Act.put]
    rintro ee wb ⟨cs',rfl,oR,bb⟩;have bR:Below w9.heap.size w9 wb:=B0.trans (bb.mono B0.size);refine ⟨_,rfl,?_⟩;refine hKC.out _ _ (KS _ bR) (fun hHeld => ?_);clear hKC KC
    try simp only [Act.put,SL]
    refine wpAnyL_one (i:=3) (o:=_) rfl (by kernel_rfl) (fun KC hKC => ?_);refine step_call rfl 11 _ _ rfl #[.agg #[.int .i64 x0,.int .i64 x1,.int .i64 x2,.int .i64 x3,.int .i64 x4,.int .i64 x5,.int .i64 x6,.int .i64 x7,.int .i64 x8,.slice xp0 xl0 xq0,.slice xp1 xl1 xq1,.slice xp2 xl2 xq2,.int .i64 x9,.int .i64 x10,.bool xb],.agg cs'.toArray] ?_ Tryz.func11 (by kernel_rfl) (by kernel_rfl) (CW _ _ _ _ _ ((OX9.out).call bR).rd oR.rd (Nat.le_trans (by omega) bR.size) (Nat.le_refl _)) ?_
    · simp [Act.eval,Act.put]
    rintro ee wc' ⟨rfl,bc⟩;have bC:Below w9.heap.size w9 wc':=bR.trans (bc.mono bR.size);refine ⟨_,rfl,?_⟩;refine hKC.out _ _ (KS _ bC) (fun hHeld => ?_);clear hKC KC
    try simp only [Act.put,SL]
    refine wpAnyL_last (o:=_) rfl (by kernel_rfl) (fun KC hKC => ?_);go_simp;refine hKC.out _ _ ?_;clear hKC KC
    try simp only [Act.put,SL]
    refine wpAnyL_done (by kernel_rfl) ?_ _;go_wp2
    go_meet
    exact ⟨rfl,bC⟩
  case rest =>
    obtain ⟨rfl,b10⟩:=hcut;obtain ⟨w10,rfl⟩:∃ x,x = wc:=⟨_,rfl⟩;clear CTc;have z10:w9.heap.size ≤ w10.heap.size:=b10.size;have B10:=HB9.out.trans (b10.mono (by omega));have S10:=S9.out.call b10;have OS10:=OS9.out.call b10;have X10:=X9.out.call b10;have OX10:=OX9.out.call b10;have G10:=G9.out.call b10;have OG10:=OG9.out.call b10;clear b10 HB9 S9 OS9 X9 OX9 G9 OG9 P9
    have hm0:¬ (M:Int) < 0:=by omega
    go_wp2_with (refine wp_loadBox 38 (.tmp 5) rfl rfl (w5.heap.size) rfl (cs:=[.int .i64 x0,.int .i64 x1,.int .i64 x2,.int .i64 x3,.int .i64 x4,.int .i64 x5,.int .i64 x6,.int .i64 x7,.int .i64 x8,.slice xp0 xl0 xq0,.slice xp1 xl1 xq1,.slice xp2 xl2 xq2,.int .i64 x9,.int .i64 x10,.bool xb]) X10 Tryz.underlying38 size_W rfl ?_)
    refine (CK OX10).mono ?_;rintro e w11 ⟨rfl,OX11,c11⟩;have z11:w10.heap.size ≤ w11.heap.size:=c11.size;have B11:=B10.trans (c11.bel (B:=w1.heap.size) (by omega) (by omega));have S11:=S10.chg c11 (.inl (by omega));have OS11:=OS10.chg c11 (.inl (by omega));have G11:=G10.chg c11 (.inr (by omega));have OG11:=OG10.chg c11 (.inr (by omega));have u_0:w11.cell? ⟨w7.heap.size,0,none⟩ = some (.int .i64 g0):=G11.cell 0;have u_1:w11.cell? ⟨w7.heap.size,1,none⟩ = some (.slice gp gl gq):=G11.cell 1;have y_0:w11.cell? ⟨w3.heap.size,0,none⟩ = some (.int .i64 s0):=S11.cell 0;have y_1:w11.cell? ⟨w3.heap.size,1,none⟩ = some (.slice sp sl sq):=S11.cell 1;clear OX11 c11 B10 S10 OS10 X10 OX10 G10 OG10
    go_wp2_with fail
    refine (CE _ _ _ _ _ OG11.rd OS11.rd (by omega) (by omega)).mono ?_;rintro e w12 ⟨rfl,b12⟩;have z12:w11.heap.size ≤ w12.heap.size:=b12.size;have B12:=B11.trans (b12.mono (by omega));have S12:=S11.call b12;have OS12:=OS11.call b12;have G12:=G11.call b12;have OG12:=OG11.call b12;clear b12 B11 S11 OS11 G11 OG11 u_0 u_1 y_0 y_1
    go_wp2_with (refine wp_loadBox 32 (.tmp 6) rfl rfl (w7.heap.size) rfl (cs:=[.int .i64 g0,.slice gp gl gq]) G12 Tryz.underlying32 size_RR rfl ?_)
    refine (CM OG12).mono ?_;rintro e w13 ⟨rfl,OG13,c13⟩;have z13:w12.heap.size ≤ w13.heap.size:=c13.size;have B13:=B12.trans (c13.bel (B:=w1.heap.size) (by omega) (by omega));have S13:=S12.chg c13 (.inl (by omega));have OS13:=OS12.chg c13 (.inl (by omega));have G13:=G12.chg c13 (.inr (by omega));clear c13 B12 S12 OS12 G12 OG12
    go_wp2_with (refine wp_loadBox 32 (.tmp 6) rfl rfl (w7.heap.size) rfl (cs:=[.int .i64 g0,.slice gp gl gq]) G13 Tryz.underlying32 size_RR rfl ?_)
    refine (CH _ _ _ OG13.rd (by omega)).mono ?_;rintro e w14 ⟨rfl,b14⟩;have z14:w13.heap.size ≤ w14.heap.size:=b14.size;have B14:=B13.trans (b14.mono (by omega));have S14:=S13.call b14;have OS14:=OS13.call b14;have G14:=G13.call b14;have OG14:=OG13.call b14;have P14:=HT1.out.call B14;clear b14 B13 S13 OS13 G13 OG13
    have hn0:¬ (N:Int) < 0:=by omega
    go_wp2_with (refine wp_loadBox 28 (.tmp 1) rfl rfl (w.heap.size) rfl (cs:=[.int .i64 v0,.int .i64 v1,.int .i64 v2,.int .i64 v3,.int .i64 v4,.int .i64 v5,.int .i64 v6,.int .i64 v7,.int .i64 v8,.slice vp0 vl0 vq0,.slice vp1 vl1 vq1,.slice vp2 vl2 vq2,.int .i64 v9,.int .i64 v10,.bool vb]) P14.b1 Tryz.underlying28 size_LW rfl ?_)
    refine (CT _ B14).mono ?_;rintro e w15 ⟨c15,rfl,o15,b15⟩
    go_wp2_with fail
    refine (CI _ _ _ o15.rd (Nat.le_refl _)).mono ?_;rintro e w16 ⟨cH,rfl,oH,b16⟩;obtain ⟨h0,hp,hl,hq,rfl⟩:=res2_RecsResult oH.rd;have z15:w14.heap.size ≤ w15.heap.size:=b15.size;have z16:w15.heap.size ≤ w16.heap.size:=b16.size;have B16:=(B14.trans (b15.mono (by omega))).trans (b16.mono (by omega));have S16:=(S14.call b15).call b16;have OS16:=(OS14.call b15).call b16;have G16:=(G14.call b15).call b16;have OG16:=(OG14.call b15).call b16;clear P14 o15 b15 b16 B14 S14 OS14 G14 OG14
    go_upto_region 25 with (refine wp_allocStore 32 10 (.tmp 56) [.int .i64 h0,.slice hp hl hq] _ 2 rfl rfl rfl rfl rfl rfl rfl rfl info_RecsResult rfl rfl oH.one ?_)
    have bA:Below w16.heap.size w16 (w16.alloc (.cells #[.int .i64 h0,.slice hp hl hq] 32)):=(Below.refl _ _).alloc (Nat.le_refl _) _;have H17:Box (w16.alloc (.cells #[.int .i64 h0,.slice hp hl hq] 32)) w16.heap.size #[.int .i64 h0,.slice hp hl hq] 32:=box_new _ _ _;obtain ⟨W17,hW17⟩:∃ x,x = w16.alloc (.cells #[.int .i64 h0,.slice hp hl hq] 32):=⟨_,rfl⟩;rw [← hW17] at bA H17 ⊢;have B17:=B16.trans (bA.mono (by omega));have S17:=S16.call bA;have OS17:=OS16.call bA;have G17:=G16.call bA;have OG17:=OG16.call bA;have OH17:=oH.call bA;have z17:w16.heap.size < W17.heap.size:=H17.lt;clear bA hW17 oH B16 S16 OS16 G16 OG16
    go_wp2_with (first | (refine wp_loadBox 32 (.tmp 10) rfl rfl (w16.heap.size) rfl (cs:=[.int .i64 h0,.slice hp hl hq]) H17 Tryz.underlying32 size_RR rfl ?_) | (refine wp_loadBox 32 (.tmp 4) rfl rfl (w3.heap.size) rfl (cs:=[.int .i64 s0,.slice sp sl sq]) S17 Tryz.underlying32 size_RR rfl ?_))
    refine (CE _ _ _ _ _ OH17.rd OS17.rd (by omega) (by omega)).mono ?_;rintro e w18 ⟨rfl,b18⟩;have z18:W17.heap.size ≤ w18.heap.size:=b18.size;have B18:=B17.trans (b18.mono (by omega));have G18:=G17.call b18;have OG18:=OG17.call b18;clear b18 B17 S17 OS17 G17 OG17 OH17 H17
    go_wp2_with (refine wp_loadBox 32 (.tmp 6) rfl rfl (w7.heap.size) rfl (cs:=[.int .i64 g0,.slice gp gl gq]) G18 Tryz.underlying32 size_RR rfl ?_)
    refine (CH _ _ _ OG18.rd (by omega)).mono ?_;rintro e w19 ⟨rfl,b19⟩;have HB:Hid (Below w.heap.size w w19):=(HT1.out.call (B18.trans (b19.mono (by omega)))).bel;clear b19 B18 G18 OG18;go_wp2;go_ret;exact ⟨rfl,HB.out⟩
set_option maxRecDepth 100000 in
theorem fnExactItemsOf_lifted (os:Os) (started:os.Started) (H:Type) (enc:TypeId × Value → H) :
    ReturnsInHanded {} Tryz.checked os 3 .any (Rows.fnExactItemsOfSpec.pre6 enc Tryz.prog Tryz.f3 Rows.fnExactItemsOfRow.domain false) (Rows.fnExactItemsOfSpec.post enc Tryz.prog Tryz.f3 false true false false):=by
  refine returnsInHanded_of_change (C:=Tryz.checked) frame_own started (by kernel_rfl) Tryz.func3
    (ChangeSpec.witness6 (enc:=enc) (C:=Tryz.checked) false ⟨#[],#[.agg #[.int .i64 0,.int .i64 0,.int .i64 0,.int .i64 0,.int .i64 0,.int .i64 0,.int .i64 0,.int .i64 0,.int .i64 0,.slice none 0 0,.slice none 0 0,.slice none 0 0,.int .i64 0,.int .i64 0,.bool false]],[]⟩ 8 (by kernel_rfl) (by kernel_rfl) (by kernel_rfl) (by kernel_rfl)) ?_
  intro W base args ds gs before hval0 hW hcnd _;have hval:∀ (j:Nat) t v,Tryz.f3.params[j]? = some t → args[j]? = some v → Value.okWide Tryz.prog W .any base t v:=hval0;have hW':=hW;obtain ⟨p,q,hA0,hV,rfl,hfz,hnd⟩:=hW;have hA:DataW.TrodAll enc Tryz.prog W 0 (fun _ => true) true Tryz.f3.params.toList args.toList ds p:=hA0;rw [Tryz.params3] at hA hval;obtain ⟨v0,vs0,d0,ds0,p0,q0,hargs,rfl,rfl,h0,r0⟩:=trodAll_cons hA;obtain ⟨rfl,rfl,rfl⟩:=trodAll_nil r0
  obtain rfl:args = #[v0]:=by cases args;simp_all
  obtain ⟨rfl,rfl⟩:=trodVars_none hV;have k0:=h0
  have lt0:∀ x ∈ p0,x.block < W.heap.size:=by obtain ⟨m,hm⟩:=k0;exact DataW.trod_lt m _ _ _ hm
  obtain ⟨cs0,a0,rfl,rd0⟩:=struct_of_trod opensWorld Tryz.underlying28 (hval 0 28 v0 rfl rfl) h0;clear hA0 hval0;refine (fnExactItemsOf_walk a0 cs0 W rd0).mono fun e W' ⟨he,bel⟩ => ?_;subst he;exact ⟨_,rfl,_,_,_,[],_,[],hW',trodAll_mk1 (shut_bool Tryz.underlying4 _),(trodAll_cons_mk (Below.trod frame_laid (by kernel_rfl) (of_decide_eq_true (by kernel_rfl)) k0 bel lt0) trodAll_mk0),rfl,bel.frame _,fun h => by cases h⟩
end Go.Proofs.YtbjkjcfodljamaaGreat