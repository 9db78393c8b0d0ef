/- The work that strikes records, under power and where it fails; withPower over it. -/
import Derived.Shelf.Abstract
import Derived.Test.YtclclojenogpbaaGreatZPdropiaq
set_option linter.unusedVariables false
set_option linter.unusedSimpArgs false
set_option maxHeartbeats 16000000
namespace Go.Proofs.YtclclojenogpbaaGreat
open Go.RowKit F256
def zg2 (x:TapeD) (r:RecD):TapeD:=⟨false,(x.recs.1+1,upd x.recs.2 x.recs.1 r)⟩
def zbR (d:WorldD) (T:Nat) (r:RecD):WorldD:={ d with tapes:=(d.tapes.1,upd d.tapes.2 T (zg2 (d.tapes.2 T) r)) }
theorem zlG {α:Type} {E:Lay α} {t:TypeId} {w:World} {p:Nat×(Nat→α)} {v:Value} {K:List Nat} (h:(E.slice t).own w p [v] K):∃ ao cap,v=.slice ao p.1 cap:=by
 obtain ⟨v',ce,Ls,e,_,hr,_⟩:=h
 cases e
 rcases hr.2 with ⟨rfl,h0⟩ | ⟨g,cap,cur,rfl,_⟩
 ·exact ⟨none,0,by rw [h0]⟩
 ·exact ⟨_,_,rfl⟩
theorem zfF {α:Type} {E:Lay α} {T e:TypeId} {by_:Nat} {zs:List Value} (I:ElInfo E T e by_ zs) (ty:TypeId) {w0 W:World} {n:Nat} {v:Value} {x:Nat→α} {L:List Nat} (h:(E.slice e).own w0 (n,x) [v] L) (nd:L.Nodup) (hW:Below w0.heap.size w0 W) {d:α} {cs:List Value} {La:List Nat} (ha:E.own W d cs La) (hnd:La.Nodup) (hLa:∀ b,b∈La→w0.heap.size≤b) (b c:Nat) (hcell:∀ j,j<E.sz→W.cell? ⟨b,j,none⟩=cs[j]?) (hn:n≤10000000) :
 ∃ ao cap w' L',(Builtin.append_ #[T,T] ty #[v,.slice (some ⟨b,0,none⟩) 1 c]).run Tryz.prog W=.ok (.slice ao (n+1) cap) w'∧Turn (E.slice e) w0 L w' (n+1,upd x n d) [.slice ao (n+1) cap] L':=by
 obtain ⟨v',w',L',hr,ht⟩:=zfW I ty h nd hW ha hnd hLa b c hcell hn;obtain ⟨ao,cap,rfl⟩:=zlG ht.own;exact ⟨ao,cap,w',L',hr,ht⟩
theorem zgh {w:World} {lo hi:Nat} {r:RecD} {cs:List Value} (h:OwnT zab w lo hi r cs):∃ s6 m6 s7 m7 s8 m8,cs=[.int .i64 r.kind,.int .i64 r.seq,.string r.name,.int .i64 r.length,.int .i64 r.group,.int .i64 r.row,.slice s6 r.rows.1 m6,.slice s7 r.data.1 m7,.slice s8 r.delta.1 m8]:=by
 obtain ⟨M,h1,_⟩:=h;obtain ⟨a,b,c,e,f,g,K6,K7,K8,rfl,_⟩:=zio h1;exact ⟨a,b,c,e,f,g,rfl⟩
theorem zlH {w0 W:World} {p:Nat×(Nat→RecD)} {v:Value} {K9:List Nat} (o9:(zab.slice 72).own w0 p [v] K9) (nd9:K9.Nodup) (hn:p.1≤10000000) (hW:Below w0.heap.size w0 W) {r:RecD} {cs:List Value} {La:List Nat} (ha:zab.own W r cs La) (hnd:La.Nodup) (hLa:∀ b,b∈La→w0.heap.size≤b) (b:Nat) (hcell:∀ j,W.cell? ⟨b,j,none⟩=cs[j]?) :
 ∃ ao cap w' L',(Builtin.append_ #[67,67] 67 #[v,.slice (some ⟨b,0,none⟩) 1 1]).run Tryz.prog W=.ok (.slice ao (p.1+1) cap) w'∧Turn (zab.slice 72) w0 K9 w' (p.1+1,upd p.2 p.1 r) [.slice ao (p.1+1) cap] L':=
 zfF zc7 67 o9 nd9 hW ha hnd hLa b 1 (fun j _=>hcell j) hn
set_option maxRecDepth 20000 in
theorem zh4 (E:Nat) (d:WorldD) (cs:List Value) (K:List Nat) (q0 q1 T:Nat) (r:RecD) (o6 o7 o8:Option Addr) (k6 k7 k8 hi:Nat) (hT:T<d.tapes.1) (hn:(d.tapes.2 T).recs.1≤10000000) (w:World) (hX:Box w E (([.int .i32 1,.int .u32 0,.int .u32 0,.int .i32 0,.int .u32 0]:List Value)++cs).toArray 149) (hO:EncO w E d cs K) (h0:w.cell? ⟨q0,0,none⟩=some (.int .i64 (T:Int))) (h1:Box w q1 #[.int .i64 r.kind,.int .i64 r.seq,.string r.name,.int .i64 r.length,.int .i64 r.group,.int .i64 r.row,.slice o6 r.rows.1 k6,.slice o7 r.data.1 k7,.slice o8 r.delta.1 k8] 72) (hr:zab.rd w hi r [.int .i64 r.kind,.int .i64 r.seq,.string r.name,.int .i64 r.length,.int .i64 r.group,.int .i64 r.row,.slice o6 r.rows.1 k6,.slice o7 r.data.1 k7,.slice o8 r.delta.1 k8]) (hhi:hi≤w.heap.size) (hsz:zaG r≤1048576) (l0:q0<w.heap.size∧q0∉K) (l1:q1∉K) :
 Calls Tryz.prog 218 #[.pointer (some ⟨E,5,none⟩),.pointer (some ⟨q0,0,none⟩),.pointer (some ⟨q1,0,none⟩)] w fun e w'=>e=.returned (.tuple #[])∧∃ cs' K',Box w' E (([.int .i32 1,.int .u32 0,.int .u32 0,.int .i32 0,.int .u32 0]:List Value)++cs').toArray 149∧EncO w' E (zbR d T r) cs' K'∧(∀ b,b∈K'→b∈K∨w.heap.size≤b)∧ChgL (E::K) w w':=by
 have O0:EncO w.drew E d cs K:=hO.chg (ChgL.refl [E] _).drew;obtain ⟨p1,c1,p2,c2,p3,c3,K1,K2,K3,rfl,rfl,WO⟩:=O0.open;obtain ⟨gt,cap,ce,Ls,e3,eL,S3⟩:=zcb WO.t (by omega)
 simp only [List.cons.injEq,Value.slice.injEq,and_true,true_and] at e3
 obtain ⟨rfl,rfl⟩:=e3;subst eL;have nd3:(gt::catN d.tapes.1 Ls).Nodup:=(List.nodup_append.1 (List.nodup_append.1 WO.nd).2.1).2.1;obtain ⟨ao9,cap9,K9,e9,eK9,o9⟩:=zeS (S3.each T hT)
 have nd9:K9.Nodup:=by rw [← eK9];exact zfD (List.nodup_cons.1 nd3).2 hT
 have in9:∀ b,b∈K9→b∈gt::catN d.tapes.1 Ls:=fun b hb=>SlO.sub T hT b (by rw [eK9];exact hb);have inK:∀ b,b∈gt::catN d.tapes.1 Ls→b∈K1++(K2++(gt::catN d.tapes.1 Ls)):=fun b hb=>List.mem_append_right _ (List.mem_append_right _ hb);have hE9:E∉K9:=fun hb=>hO.ne (inK _ (in9 _ hb));have hgt:gt∉K9:=fun hb=>(List.nodup_cons.1 nd3).1 (zaL.2 ⟨T,hT,by rw [eK9];exact hb⟩);have x16:w.cell? ⟨E,16,none⟩=some (.slice (some ⟨gt,0,none⟩) d.tapes.1 c3):=hX.cell 16;have y0:w.drew.cell? ⟨gt,T*2,none⟩=some (.bool (d.tapes.2 T).wiped):=(S3.cell hT (j:=0) (by decide)).trans (by rw [e9];rfl);have y1:w.drew.cell? ⟨gt,T*2+1,none⟩=some (.slice ao9 (d.tapes.2 T).recs.1 cap9):=(S3.cell hT (j:=1) (by decide)).trans (by rw [e9];rfl);have hEl:=hX.lt;have hql:=h1.lt;have hgl:gt<w.drew.heap.size:=S3.lt;have KS:∀ w',ChgL K9 w.drew w'→(w'.cell? ⟨E,16,none⟩=some (.slice (some ⟨gt,0,none⟩) d.tapes.1 c3)∧w'.cell? ⟨q0,0,none⟩=some (.int .i64 (T:Int))∧w'.cell? ⟨gt,T*2+1,none⟩=some (.slice ao9 (d.tapes.2 T).recs.1 cap9)∧w'.cell? ⟨q1,0,none⟩=some (.int .i64 r.kind)∧w'.cell? ⟨q1,1,none⟩=some (.int .i64 r.seq)∧w'.cell? ⟨q1,2,none⟩=some (.string r.name)∧w'.cell? ⟨q1,3,none⟩=some (.int .i64 r.length)∧w'.cell? ⟨q1,4,none⟩=some (.int .i64 r.group)∧w'.cell? ⟨q1,5,none⟩=some (.int .i64 r.row)∧w'.cell? ⟨q1,6,none⟩=some (.slice o6 r.rows.1 k6)∧w'.cell? ⟨q1,7,none⟩=some (.slice o7 r.data.1 k7)∧w'.cell? ⟨q1,8,none⟩=some (.slice o8 r.delta.1 k8)):=fun w' hc=>⟨(World.cell?_of_block (hc.block E hEl hE9)).trans x16,(World.cell?_of_block (hc.block q0 l0.1 (fun hb=>l0.2 (inK _ (in9 _ hb))))).trans h0,(World.cell?_of_block (hc.block gt hgl hgt)).trans y1,(World.cell?_of_block (hc.block q1 hql (fun hb=>l1 (inK _ (in9 _ hb))))).trans (h1.cell 0),(World.cell?_of_block (hc.block q1 hql (fun hb=>l1 (inK _ (in9 _ hb))))).trans (h1.cell 1),(World.cell?_of_block (hc.block q1 hql (fun hb=>l1 (inK _ (in9 _ hb))))).trans (h1.cell 2),(World.cell?_of_block (hc.block q1 hql (fun hb=>l1 (inK _ (in9 _ hb))))).trans (h1.cell 3),(World.cell?_of_block (hc.block q1 hql (fun hb=>l1 (inK _ (in9 _ hb))))).trans (h1.cell 4),(World.cell?_of_block (hc.block q1 hql (fun hb=>l1 (inK _ (in9 _ hb))))).trans (h1.cell 5),(World.cell?_of_block (hc.block q1 hql (fun hb=>l1 (inK _ (in9 _ hb))))).trans (h1.cell 6),(World.cell?_of_block (hc.block q1 hql (fun hb=>l1 (inK _ (in9 _ hb))))).trans (h1.cell 7),(World.cell?_of_block (hc.block q1 hql (fun hb=>l1 (inK _ (in9 _ hb))))).trans (h1.cell 8)⟩
 have CC:=(zgf (rwR r o6 k6 o7 k7 o8 k8) r hi w.drew (zab.rd_below (B:=w.heap.size) hr ⟨rfl,rfl,rfl,Nat.le_refl _,fun _ _=>rfl⟩ hhi) hhi hsz).mono (R':=fun e w'=>∃ s6 m6 s7 m7 s8 m8,e=.returned (.agg (rwR r s6 m6 s7 m7 s8 m8).toArray)∧OwnT zab w' w.drew.heap.size w'.heap.size r (rwR r s6 m6 s7 m7 s8 m8)∧Below w.drew.heap.size w.drew w') (fun e w' ⟨cs',he,o5,b5⟩=>by
  obtain ⟨s6,m6,s7,m7,s8,m8,rfl⟩:=zgh o5
  exact ⟨s6,m6,s7,m7,s8,m8,he,o5,b5⟩)
 have AP:=fun (W:World) (hW:Below w.drew.heap.size w.drew W) (La:List Nat) (cs:List Value) (ha:zab.own W r cs La)=>zlH o9 nd9 hn hW ha
 have i1:(0:Int)≤(T:Int):=by omega
 have i2:(T:Int)<(d.tapes.1:Int):=by omega
 have HX:Hid (Box w.drew E #[.int .i32 1,.int .u32 0,.int .u32 0,.int .i32 0,.int .u32 0,.int .i64 (d.shape 0),.int .i64 (d.shape 1),.int .i64 (d.shape 2),.int .i64 (d.shape 3),.int .i64 (d.shape 4),.int .i64 (d.shape 5),.int .i64 (d.shape 6),.int .i64 (d.shape 7),.int .i64 (d.shape 8),.slice p1 d.groups.1 c1,.slice p2 d.on.1 c2,.slice (some ⟨gt,0,none⟩) d.tapes.1 c3,.int .i64 d.writes,.int .i64 d.stop,.bool d.down] 149):=hX;have HNE:Hid (E∉K1++(K2++(gt::catN d.tapes.1 Ls))):=hO.ne;clear hX hO O0 h1
 go_enter Tryz.func218,Tryz.ntmps218
 go_upto_region 0 with fail
 refine zbz 19 (fun w'=>w'.cell? ⟨E,16,none⟩=some (.slice (some ⟨gt,0,none⟩) d.tapes.1 c3)∧w'.cell? ⟨q0,0,none⟩=some (.int .i64 (T:Int))∧w'.cell? ⟨gt,T*2+1,none⟩=some (.slice ao9 (d.tapes.2 T).recs.1 cap9)∧w'.cell? ⟨q1,0,none⟩=some (.int .i64 r.kind)∧w'.cell? ⟨q1,1,none⟩=some (.int .i64 r.seq)∧w'.cell? ⟨q1,2,none⟩=some (.string r.name)∧w'.cell? ⟨q1,3,none⟩=some (.int .i64 r.length)∧w'.cell? ⟨q1,4,none⟩=some (.int .i64 r.group)∧w'.cell? ⟨q1,5,none⟩=some (.int .i64 r.row)∧w'.cell? ⟨q1,6,none⟩=some (.slice o6 r.rows.1 k6)∧w'.cell? ⟨q1,7,none⟩=some (.slice o7 r.data.1 k7)∧w'.cell? ⟨q1,8,none⟩=some (.slice o8 r.delta.1 k8)) (by kernel_rfl) (KS _ (ChgL.refl _ _)) (fun hHeld=>?_);refine wpAnyL_tv 0 rfl ?_
 try simp only [Act.put,SL]
 refine wpAnyL_tv 1 rfl ?_
 try simp only [Act.put,SL]
 refine wpAnyL_tv 2 rfl ?_
 try simp only [Act.put,SL]
 refine wpAnyL_tv 3 rfl ?_
 try simp only [Act.put,SL]
 refine wpAnyL_tv 4 rfl ?_
 try simp only [Act.put,SL]
 refine wpAnyL_tv 5 rfl ?_
 try simp only [Act.put,SL]
 refine wpAnyL_tv 6 rfl ?_
 try simp only [Act.put,SL]
 refine wpAnyL_tv 7 rfl ?_
 try simp only [Act.put,SL]
 refine wpAnyL_tv 8 rfl ?_
 try simp only [Act.put,SL]
 refine wpAnyL_tv 9 rfl ?_
 try simp only [Act.put,SL]
 refine wpAnyL_tv 10 rfl ?_
 try simp only [Act.put,SL]
 refine wpAnyL_tv 11 rfl ?_
 try simp only [Act.put,SL]
 refine wpAnyL_tv 12 rfl ?_
 try simp only [Act.put,SL]
 refine wpAnyL_tv 13 rfl ?_
 try simp only [Act.put,SL]
 refine zav (i:=14) (o:=_) rfl (by kernel_rfl) (fun KC hKC=>?_)
 refine za9 rfl 166 _ _ rfl #[.agg (rwR r o6 k6 o7 k7 o8 k8).toArray] ?_ Tryz.func166 (by kernel_rfl) (by kernel_rfl) CC ?_;(simp [Act.eval,Act.put]);rintro ee w5 ⟨s6,m6,s7,m7,s8,m8,rfl,o5,b5⟩;have k5:=KS w5 (ChgL.of_below b5);have bA:=bAl w5 (.cells (rwR r s6 m6 s7 m7 s8 m8).toArray 72);have kA:=KS _ (ChgL.of_below (b5.trans (bA.mono b5.size)));obtain ⟨La,a1,a2,a3⟩:=o5;have e1:Below w.drew.heap.size w.drew (w5.alloc (.cells (rwR r s6 m6 s7 m7 s8 m8).toArray 72)):=b5.trans (bA.mono b5.size);have e2:zab.own (w5.alloc (.cells (rwR r s6 m6 s7 m7 s8 m8).toArray 72)) r (rwR r s6 m6 s7 m7 s8 m8) La:=zab.own_kept a1 (fun b hb=>bA.block b (a3 b hb).2);have e3:∀ b,b∈La→w.drew.heap.size≤b:=fun b hb=>(a3 b hb).1;have e4:=zcA w5 (rwR r s6 m6 s7 m7 s8 m8) 72;have e5:=AP (w5.alloc (.cells (rwR r s6 m6 s7 m7 s8 m8).toArray 72)) e1 La (rwR r s6 m6 s7 m7 s8 m8) e2 a2 e3 w5.heap.size e4;clear e1 e2 e3 e4;obtain ⟨s9,m9,w6,L',hrun,TT⟩:=e5;have k6':=KS w6 TT.chg;have f0:w6.frozen? ⟨gt,T*2,none⟩=false:=(World.frozen?_of_block (a:=⟨gt,T*2,none⟩) (TT.chg.block gt S3.lt hgt)).trans (S3.frozen _);have f1:w6.frozen? ⟨gt,T*2+1,none⟩=false:=(World.frozen?_of_block (a:=⟨gt,T*2+1,none⟩) (TT.chg.block gt S3.lt hgt)).trans (S3.frozen _);have t0:w6.cell? ⟨gt,T*2,none⟩=some (.bool (d.tapes.2 T).wiped):=(World.cell?_of_block (a:=⟨gt,T*2,none⟩) (TT.chg.block gt S3.lt hgt)).trans y0;have t1:w6.cell? ⟨gt,T*2+1,none⟩=some (.slice ao9 (d.tapes.2 T).recs.1 cap9):=k6'.2.2.1;refine ⟨_,rfl,?_⟩
 refine hKC.out _ _ (k5) (fun hHeld=>?_);clear hKC KC
 try simp only [Act.put,SL]
 refine zav (i:=15) (o:=_) rfl (by kernel_rfl) (fun KC hKC=>?_);go_simp;refine hKC.out _ _ (kA) (fun hHeld=>?_);clear hKC KC
 try simp only [Act.put,SL]
 refine zav (i:=16) (o:=_) rfl (by kernel_rfl) (fun KC hKC=>?_)
 refine zaZ rfl (.tmp 16) (.tmp 19) rfl ?_ ?_ hrun ?_;(simp [Act.eval,Act.put]);(simp [Act.eval,Act.put])
 refine hKC.out _ _ (k6') (fun hHeld=>?_);clear hKC KC
 try simp only [Act.put,SL]
 refine wpAnyL_tv 17 rfl ?_
 try simp only [Act.put,SL]
 refine wpAnyL_tv 18 rfl ?_
 try simp only [Act.put,SL]
 refine zbx (o:=_) rfl (by kernel_rfl) (fun KC hKC=>?_);go_simp;refine hKC.out _ _ ?_;clear hKC KC
 try simp only [Act.put,SL]
 refine zby (by kernel_rfl) ?_ _
 have TK:Turn zah w.drew (Ls T) w6 (zg2 (d.tapes.2 T) r) [.bool false,(.slice s9 ((d.tapes.2 T).recs.1+1) m9)] L':=by
  rw [eK9];exact ⟨zgo (zg2 (d.tapes.2 T) r) TT.own,TT.nd,TT.sub,TT.chg⟩
 have T7:=S3.turn_at nd3 hT TK (w':=(stN w6 gt (T*zah.sz) [.bool false,(.slice s9 ((d.tapes.2 T).recs.1+1) m9)])) rfl;have WO7:=WO.tapes (Nat.le_refl _) (Nat.zero_le _) T7;have hin:∀ b,b∈gt::catN d.tapes.1 Ls→b≠E:=fun b hb he=>HNE.out (by rw [← he];exact inK b hb);have X7:=HX.out.chgl T7.chg (fun hb=>hin E hb rfl)
 have sub7:∀ b,b∈K1++(K2++(gt::catN d.tapes.1 (upd Ls T L')))→b∈K1++(K2++(gt::catN d.tapes.1 Ls))∨w.heap.size≤b:=fun b hb=>by
  rcases List.mem_append.1 hb with h | h
  ·exact .inl (List.mem_append_left _ h)
  ·rcases List.mem_append.1 h with h | h
   ·exact .inl (List.mem_append_right _ (List.mem_append_left _ h))
   ·rcases T7.sub b h with h | h
    ·exact .inl (inK b h)
    ·exact .inr h.1
 have hE7:E∉K1++(K2++(gt::catN d.tapes.1 (upd Ls T L'))):=fun hm=>by
  rcases sub7 E hm with h | h
  ·exact HNE.out h
  ·omega
 have HO7:Hid (EncO (stN w6 gt (T*zah.sz) [.bool false,(.slice s9 ((d.tapes.2 T).recs.1+1) m9)]) E (zbR d T r) (rwW d p1 c1 p2 c2 (some ⟨gt,0,none⟩) c3) (K1++(K2++((gt::catN d.tapes.1 (upd Ls T L'))++[])))):=WO7.encO hE7;have HC7:Hid (ChgL (E::(K1++(K2++(gt::catN d.tapes.1 Ls)))) w (stN w6 gt (T*zah.sz) [.bool false,(.slice s9 ((d.tapes.2 T).recs.1+1) m9)])):=((ChgL.refl _ w).drew).trans (T7.chg.mono (fun b hb=>List.mem_cons_of_mem _ (inK b hb)));have HX7:Hid (Box (stN w6 gt (T*zah.sz) [.bool false,(.slice s9 ((d.tapes.2 T).recs.1+1) m9)]) E #[.int .i32 1,.int .u32 0,.int .u32 0,.int .i32 0,.int .u32 0,.int .i64 (d.shape 0),.int .i64 (d.shape 1),.int .i64 (d.shape 2),.int .i64 (d.shape 3),.int .i64 (d.shape 4),.int .i64 (d.shape 5),.int .i64 (d.shape 6),.int .i64 (d.shape 7),.int .i64 (d.shape 8),.slice p1 d.groups.1 c1,.slice p2 d.on.1 c2,.slice (some ⟨gt,0,none⟩) d.tapes.1 c3,.int .i64 d.writes,.int .i64 d.stop,.bool d.down] 149):=X7;have HS:Hid (∀ b,b∈K1++(K2++((gt::catN d.tapes.1 (upd Ls T L'))++[]))→b∈K1++(K2++(gt::catN d.tapes.1 Ls))∨w.heap.size≤b):=fun b hb=>sub7 b (by simpa using hb);clear X7 WO7 T7 TK TT WO S3 CC KS sub7 hE7 hin k5 kA k6' hrun o9 nd9 AP;go_wp2
 go_end0
 exact ⟨rfl,_,_,HX7.out,HO7.out,HS.out,HC7.out⟩
set_option maxRecDepth 100000 in
theorem zfG (E:Nat) (v0 v1 v2 v3 v4 v5 v6 v7 v8 vp0 vl0 vq0 vp1 vl1 vq1 vp2 vl2 vq2 v9 v10 vb:_) (d d':WorldD) (K:List Nat) (q0 q1:Nat) (w:World) (hX:Box w E #[.int .i32 0,.int .u32 0,.int .u32 0,.int .i32 0,.int .u32 0,.int .i64 v0,.int .i64 v1,.int .i64 v2,.int .i64 v3,.int .i64 v4,.int .i64 v5,.int .i64 v6,.int .i64 v7,.int .i64 v8,.slice vp0 vl0 vq0,.slice vp1 vl1 vq1,.slice vp2 vl2 vq2,.int .i64 v9,.int .i64 v10,.bool vb] 149) (hO:EncO w E d [.int .i64 v0,.int .i64 v1,.int .i64 v2,.int .i64 v3,.int .i64 v4,.int .i64 v5,.int .i64 v6,.int .i64 v7,.int .i64 v8,.slice vp0 vl0 vq0,.slice vp1 vl1 vq1,.slice vp2 vl2 vq2,.int .i64 v9,.int .i64 v10,.bool vb] K) (hpw:¬ (v10≠-1∧v10≤v9)) (hwr:-9223372036854775808≤d'.writes∧d'.writes+1≤9223372036854775807)
 (hch:∀ W,Box W E #[.int .i32 1,.int .u32 0,.int .u32 0,.int .i32 0,.int .u32 0,.int .i64 v0,.int .i64 v1,.int .i64 v2,.int .i64 v3,.int .i64 v4,.int .i64 v5,.int .i64 v6,.int .i64 v7,.int .i64 v8,.slice vp0 vl0 vq0,.slice vp1 vl1 vq1,.slice vp2 vl2 vq2,.int .i64 v9,.int .i64 v10,.bool vb] 149→EncO W E d [.int .i64 v0,.int .i64 v1,.int .i64 v2,.int .i64 v3,.int .i64 v4,.int .i64 v5,.int .i64 v6,.int .i64 v7,.int .i64 v8,.slice vp0 vl0 vq0,.slice vp1 vl1 vq1,.slice vp2 vl2 vq2,.int .i64 v9,.int .i64 v10,.bool vb] K→ChgL [E] w W→Calls Tryz.prog 218 #[.pointer (some ⟨E,5,none⟩),.pointer (some ⟨q0,0,none⟩),.pointer (some ⟨q1,0,none⟩)] W fun e w'=>e=.returned (.tuple #[])∧∃ cs' K',Box w' E ([.int .i32 1,.int .u32 0,.int .u32 0,.int .i32 0,.int .u32 0]++cs').toArray 149∧EncO w' E d' cs' K'∧(∀ b,b∈K'→b∈K∨W.heap.size≤b)∧ChgL (E::K) W w') :
 Calls Tryz.prog 217 #[.pointer (some ⟨E,0,none⟩),.func (.func 218) #[] #[.pointer (some ⟨q0,0,none⟩),.pointer (some ⟨q1,0,none⟩)]] w fun e w'=>e=.returned (.tuple #[])∧∃ cs' K',Box w' E ([.int .i32 0,.int .u32 0,.int .u32 0,.int .i32 0,.int .u32 0]++cs').toArray 149∧EncO w' E { d' with writes:=d'.writes+1 } cs' K'∧(∀ b,b∈K'→b∈K∨w.heap.size≤b)∧ChgL (E::K) w w':=by
 have HWR:=hid hwr;have CH:=hid hch;have hO':=hid hO
 by_cases hs:v10=-1
 ·have d1:(v10 != -1)=false:=by simpa using hs
  clear hpw hwr hch hO hs;have hE:E<w.heap.size:=hX.lt;have hmf:∀ (fn:Fn) (first cap:Array Value) (w:World),(Instr.makeFunc fn first cap).run Tryz.prog w=.ok (.func fn first cap) w:=fun _ _ _ _=>rfl;have bA:=bAl w (.cells #[.pointer (some ⟨E,0,none⟩)] 132);have P1:=zaq w #[.pointer (some ⟨E,0,none⟩)] 132;have X1:=hX.below bA hE
  go_enter_defers Tryz.func217,Tryz.ntmps217
  go_upto_region 1 with fail
  obtain ⟨W1,hW1⟩:∃ x,x=w.alloc (.cells #[.pointer (some ⟨E,0,none⟩)] 132):=⟨_,rfl⟩;rw [← hW1] at bA P1 X1 ⊢
  have zW:W1.heap.size=w.heap.size+1:=by rw [hW1];simp
  clear hW1;have hp1:W1.cell? ⟨w.heap.size,0,none⟩=some (.pointer (some ⟨E,0,none⟩)):=P1.cell 0;have c0:W1.cell? ⟨E,0,none⟩=some (.int .i32 0):=X1.cell 0;have f0:W1.frozen? ⟨E,0,none⟩=false:=X1.frozen 0;have X2:Box (W1.setCell ⟨E,0,none⟩ (.int .i32 1)) E #[.int .i32 1,.int .u32 0,.int .u32 0,.int .i32 0,.int .u32 0,.int .i64 v0,.int .i64 v1,.int .i64 v2,.int .i64 v3,.int .i64 v4,.int .i64 v5,.int .i64 v6,.int .i64 v7,.int .i64 v8,.slice vp0 vl0 vq0,.slice vp1 vl1 vq1,.slice vp2 vl2 vq2,.int .i64 v9,.int .i64 v10,.bool vb] 149:=X1.setc 0 _;have P2:Box (W1.setCell ⟨E,0,none⟩ (.int .i32 1)) w.heap.size #[.pointer (some ⟨E,0,none⟩)] 132:=P1.seto 0 _ (by omega);have C2':ChgL [E] w (W1.setCell ⟨E,0,none⟩ (.int .i32 1)):=(ChgL.of_below bA).st _ 0 _ (by simp)
  go_upto_region 2 with (go_at_call 240;refine (zeU ⟨E,0,none⟩ _ c0 f0).mono ?_;rintro e w' ⟨rfl,rfl⟩)
  obtain ⟨W2,hW2⟩:∃ x,x=W1.setCell ⟨E,0,none⟩ (.int .i32 1):=⟨_,rfl⟩;rw [← hW2] at X2 P2 C2' ⊢
  have z2:W2.heap.size=w.heap.size+1:=by rw [hW2];simpa using zW
  clear hW2 hp1 c0 f0 X1 P1 bA hX;have hp2:W2.cell? ⟨w.heap.size,0,none⟩=some (.pointer (some ⟨E,0,none⟩)):=P2.cell 0;have x17:W2.cell? ⟨E,17,none⟩=some (.int .i64 v9):=X2.cell 17;have x18:W2.cell? ⟨E,18,none⟩=some (.int .i64 v10):=X2.cell 18
  go_upto_region 3 with fail
  go_quiet (fail)
  go_upto_region 6 with fail
  obtain ⟨W3,hW3⟩:∃ x,x=W2.drewN nq:=⟨_,rfl⟩;rw [← hW3]
  have X3:Box W3 E #[.int .i32 1,.int .u32 0,.int .u32 0,.int .i32 0,.int .u32 0,.int .i64 v0,.int .i64 v1,.int .i64 v2,.int .i64 v3,.int .i64 v4,.int .i64 v5,.int .i64 v6,.int .i64 v7,.int .i64 v8,.slice vp0 vl0 vq0,.slice vp1 vl1 vq1,.slice vp2 vl2 vq2,.int .i64 v9,.int .i64 v10,.bool vb] 149:=by rw [hW3];exact X2
  have P3:Box W3 w.heap.size #[.pointer (some ⟨E,0,none⟩)] 132:=by rw [hW3];exact P2
  have C3':ChgL [E] w W3:=by rw [hW3];exact ⟨C2'.os,C2'.tape,C2'.output,C2'.size,C2'.block⟩
  have z3:W3.heap.size=w.heap.size+1:=by rw [hW3];exact z2
  have hp3:W3.cell? ⟨w.heap.size,0,none⟩=some (.pointer (some ⟨E,0,none⟩)):=P3.cell 0;clear hW3 X2 P2 C2' z2 hp2 x17 x18;have O3:=hO'.out.chg C3'
  have CC:=(CH.out W3 X3 O3 C3').mono (R':=fun e w'=>e=.returned (.tuple #[])∧∃ y0 y1 y2 y3 y4 y5 y6 y7 y8 yp0 yl0 yq0 yp1 yl1 yq1 yp2 yl2 yq2 y9 y10 yb K',Box w' E #[.int .i32 1,.int .u32 0,.int .u32 0,.int .i32 0,.int .u32 0,.int .i64 y0,.int .i64 y1,.int .i64 y2,.int .i64 y3,.int .i64 y4,.int .i64 y5,.int .i64 y6,.int .i64 y7,.int .i64 y8,.slice yp0 yl0 yq0,.slice yp1 yl1 yq1,.slice yp2 yl2 yq2,.int .i64 y9,.int .i64 y10,.bool yb] 149∧EncO w' E d' (rwV y0 y1 y2 y3 y4 y5 y6 y7 y8 yp0 yl0 yq0 yp1 yl1 yq1 yp2 yl2 yq2 y9 y10 yb) K'∧(∀ b,b∈K'→b∈K∨W3.heap.size≤b)∧ChgL (E::K) W3 w') (fun e w' ⟨he,cs',K',hX',hO',hs',hC'⟩=>by
   obtain ⟨y0,y1,y2,y3,y4,y5,y6,y7,y8,yp0,yl0,yq0,yp1,yl1,yq1,yp2,yl2,yq2,y9,y10,yb,rfl⟩:=zbQ hO'.own
   exact ⟨he,y0,y1,y2,y3,y4,y5,y6,y7,y8,yp0,yl0,yq0,yp1,yl1,yq1,yp2,yl2,yq2,y9,y10,yb,K',hX',hO',hs',hC'⟩)
  have hKl:∀ b,b∈K→b<w.heap.size:=fun b hb=>zad.own_lt hO'.out.own b hb
  go_wp2_with (go_at_call 218;refine CC.mono ?_;rintro e w5 ⟨rfl,y0,y1,y2,y3,y4,y5,y6,y7,y8,yp0,yl0,yq0,yp1,yl1,yq1,yp2,yl2,yq2,y9,y10,yb,K5,X5,O5,s5,C5⟩;have P5:=P3.chgl C5 (by intro hm;rcases List.mem_cons.1 hm with h | h;omega;have:=hKl _ h;omega);have hp5:w5.cell? ⟨w.heap.size,0,none⟩=some (.pointer (some ⟨E,0,none⟩)):=P5.cell 0;have x17:w5.cell? ⟨E,17,none⟩=some (.int .i64 y9):=X5.cell 17;have f17:w5.frozen? ⟨E,17,none⟩=false:=X5.frozen 17;have HY9:=hid (zeg O5.own);have zz:IntKind.i64.wrap (y9+1)=y9+1:=by rw [IntKind.wrap_i64];have:=HWR.out;have:=HY9.out;omega)
  refine leaves_cons (f:=241) (args:=#[.pointer (some ⟨E,0,none⟩)]) (by simp) (by simp [go_sem]) ?_;have X6:Box (w5.setCell ⟨E,17,none⟩ (.int .i64 (y9+1))) E #[.int .i32 1,.int .u32 0,.int .u32 0,.int .i32 0,.int .u32 0,.int .i64 y0,.int .i64 y1,.int .i64 y2,.int .i64 y3,.int .i64 y4,.int .i64 y5,.int .i64 y6,.int .i64 y7,.int .i64 y8,.slice yp0 yl0 yq0,.slice yp1 yl1 yq1,.slice yp2 yl2 yq2,.int .i64 (y9+1),.int .i64 y10,.bool yb] 149:=X5.setc 17 _;refine (zc2 ⟨E,0,none⟩ _ _ (X6.cell 0) (X6.frozen 0)).mono ?_;rintro e u' w'' ⟨rfl,rfl,rfl⟩;have X7:Box ((w5.setCell ⟨E,17,none⟩ (.int .i64 (y9+1))).setCell ⟨E,0,none⟩ (.int .i32 0)) E #[.int .i32 0,.int .u32 0,.int .u32 0,.int .i32 0,.int .u32 0,.int .i64 y0,.int .i64 y1,.int .i64 y2,.int .i64 y3,.int .i64 y4,.int .i64 y5,.int .i64 y6,.int .i64 y7,.int .i64 y8,.slice yp0 yl0 yq0,.slice yp1 yl1 yq1,.slice yp2 yl2 yq2,.int .i64 (y9+1),.int .i64 y10,.bool yb] 149:=X6.setc 0 _;have C7:ChgL [E] w5 ((w5.setCell ⟨E,17,none⟩ (.int .i64 (y9+1))).setCell ⟨E,0,none⟩ (.int .i32 0)):=((ChgL.refl _ _).st _ 17 _ (by simp)).st _ 0 _ (by simp)
  have O7:EncO w5 E { d' with writes:=d'.writes+1 } [.int .i64 y0,.int .i64 y1,.int .i64 y2,.int .i64 y3,.int .i64 y4,.int .i64 y5,.int .i64 y6,.int .i64 y7,.int .i64 y8,.slice yp0 yl0 yq0,.slice yp1 yl1 yq1,.slice yp2 yl2 yq2,.int .i64 (y9+1),.int .i64 y10,.bool yb] K5:=by
   rw [← HY9.out];exact ⟨zdQ (y9+1) (by have:=HWR.out;have:=HY9.out;omega) O5.own,O5.nd,O5.ne⟩
  simp only [Leaves,settle]
  refine ⟨_,results_none rfl _ _ _,rfl,_,K5,X7,O7.chg C7,fun b hb=>?_,?_⟩
  ·rcases s5 b hb with h | h
   ·exact .inl h
   ·exact .inr (by omega)
  ·exact (C3'.mono (fun b hb=>by simp at hb;simp [hb])).trans (C5.trans (C7.mono (fun b hb=>by simp at hb;simp [hb])))
 ·have d1:(v10 != -1)=true:=by simpa using hs
  have d2:decide (v10≤v9)=false:=by
   simp only [decide_eq_false_iff_not]
   exact fun h=>hpw ⟨hs,h⟩
  clear hpw hwr hch hO hs;have hE:E<w.heap.size:=hX.lt;have hmf:∀ (fn:Fn) (first cap:Array Value) (w:World),(Instr.makeFunc fn first cap).run Tryz.prog w=.ok (.func fn first cap) w:=fun _ _ _ _=>rfl;have bA:=bAl w (.cells #[.pointer (some ⟨E,0,none⟩)] 132);have P1:=zaq w #[.pointer (some ⟨E,0,none⟩)] 132;have X1:=hX.below bA hE
  go_enter_defers Tryz.func217,Tryz.ntmps217
  go_upto_region 1 with fail
  obtain ⟨W1,hW1⟩:∃ x,x=w.alloc (.cells #[.pointer (some ⟨E,0,none⟩)] 132):=⟨_,rfl⟩;rw [← hW1] at bA P1 X1 ⊢
  have zW:W1.heap.size=w.heap.size+1:=by rw [hW1];simp
  clear hW1;have hp1:W1.cell? ⟨w.heap.size,0,none⟩=some (.pointer (some ⟨E,0,none⟩)):=P1.cell 0;have c0:W1.cell? ⟨E,0,none⟩=some (.int .i32 0):=X1.cell 0;have f0:W1.frozen? ⟨E,0,none⟩=false:=X1.frozen 0;have X2:Box (W1.setCell ⟨E,0,none⟩ (.int .i32 1)) E #[.int .i32 1,.int .u32 0,.int .u32 0,.int .i32 0,.int .u32 0,.int .i64 v0,.int .i64 v1,.int .i64 v2,.int .i64 v3,.int .i64 v4,.int .i64 v5,.int .i64 v6,.int .i64 v7,.int .i64 v8,.slice vp0 vl0 vq0,.slice vp1 vl1 vq1,.slice vp2 vl2 vq2,.int .i64 v9,.int .i64 v10,.bool vb] 149:=X1.setc 0 _;have P2:Box (W1.setCell ⟨E,0,none⟩ (.int .i32 1)) w.heap.size #[.pointer (some ⟨E,0,none⟩)] 132:=P1.seto 0 _ (by omega);have C2':ChgL [E] w (W1.setCell ⟨E,0,none⟩ (.int .i32 1)):=(ChgL.of_below bA).st _ 0 _ (by simp)
  go_upto_region 2 with (go_at_call 240;refine (zeU ⟨E,0,none⟩ _ c0 f0).mono ?_;rintro e w' ⟨rfl,rfl⟩)
  obtain ⟨W2,hW2⟩:∃ x,x=W1.setCell ⟨E,0,none⟩ (.int .i32 1):=⟨_,rfl⟩;rw [← hW2] at X2 P2 C2' ⊢
  have z2:W2.heap.size=w.heap.size+1:=by rw [hW2];simpa using zW
  clear hW2 hp1 c0 f0 X1 P1 bA hX;have hp2:W2.cell? ⟨w.heap.size,0,none⟩=some (.pointer (some ⟨E,0,none⟩)):=P2.cell 0;have x17:W2.cell? ⟨E,17,none⟩=some (.int .i64 v9):=X2.cell 17;have x18:W2.cell? ⟨E,18,none⟩=some (.int .i64 v10):=X2.cell 18
  go_upto_region 3 with fail
  go_quiet (fail)
  go_upto_region 6 with fail
  obtain ⟨W3,hW3⟩:∃ x,x=W2.drewN nq:=⟨_,rfl⟩;rw [← hW3]
  have X3:Box W3 E #[.int .i32 1,.int .u32 0,.int .u32 0,.int .i32 0,.int .u32 0,.int .i64 v0,.int .i64 v1,.int .i64 v2,.int .i64 v3,.int .i64 v4,.int .i64 v5,.int .i64 v6,.int .i64 v7,.int .i64 v8,.slice vp0 vl0 vq0,.slice vp1 vl1 vq1,.slice vp2 vl2 vq2,.int .i64 v9,.int .i64 v10,.bool vb] 149:=by rw [hW3];exact X2
  have P3:Box W3 w.heap.size #[.pointer (some ⟨E,0,none⟩)] 132:=by rw [hW3];exact P2
  have C3':ChgL [E] w W3:=by rw [hW3];exact ⟨C2'.os,C2'.tape,C2'.output,C2'.size,C2'.block⟩
  have z3:W3.heap.size=w.heap.size+1:=by rw [hW3];exact z2
  have hp3:W3.cell? ⟨w.heap.size,0,none⟩=some (.pointer (some ⟨E,0,none⟩)):=P3.cell 0;clear hW3 X2 P2 C2' z2 hp2 x17 x18;have O3:=hO'.out.chg C3'
  have CC:=(CH.out W3 X3 O3 C3').mono (R':=fun e w'=>e=.returned (.tuple #[])∧∃ y0 y1 y2 y3 y4 y5 y6 y7 y8 yp0 yl0 yq0 yp1 yl1 yq1 yp2 yl2 yq2 y9 y10 yb K',Box w' E #[.int .i32 1,.int .u32 0,.int .u32 0,.int .i32 0,.int .u32 0,.int .i64 y0,.int .i64 y1,.int .i64 y2,.int .i64 y3,.int .i64 y4,.int .i64 y5,.int .i64 y6,.int .i64 y7,.int .i64 y8,.slice yp0 yl0 yq0,.slice yp1 yl1 yq1,.slice yp2 yl2 yq2,.int .i64 y9,.int .i64 y10,.bool yb] 149∧EncO w' E d' (rwV y0 y1 y2 y3 y4 y5 y6 y7 y8 yp0 yl0 yq0 yp1 yl1 yq1 yp2 yl2 yq2 y9 y10 yb) K'∧(∀ b,b∈K'→b∈K∨W3.heap.size≤b)∧ChgL (E::K) W3 w') (fun e w' ⟨he,cs',K',hX',hO',hs',hC'⟩=>by
   obtain ⟨y0,y1,y2,y3,y4,y5,y6,y7,y8,yp0,yl0,yq0,yp1,yl1,yq1,yp2,yl2,yq2,y9,y10,yb,rfl⟩:=zbQ hO'.own
   exact ⟨he,y0,y1,y2,y3,y4,y5,y6,y7,y8,yp0,yl0,yq0,yp1,yl1,yq1,yp2,yl2,yq2,y9,y10,yb,K',hX',hO',hs',hC'⟩)
  have hKl:∀ b,b∈K→b<w.heap.size:=fun b hb=>zad.own_lt hO'.out.own b hb
  go_wp2_with (go_at_call 218;refine CC.mono ?_;rintro e w5 ⟨rfl,y0,y1,y2,y3,y4,y5,y6,y7,y8,yp0,yl0,yq0,yp1,yl1,yq1,yp2,yl2,yq2,y9,y10,yb,K5,X5,O5,s5,C5⟩;have P5:=P3.chgl C5 (by intro hm;rcases List.mem_cons.1 hm with h | h;omega;have:=hKl _ h;omega);have hp5:w5.cell? ⟨w.heap.size,0,none⟩=some (.pointer (some ⟨E,0,none⟩)):=P5.cell 0;have x17:w5.cell? ⟨E,17,none⟩=some (.int .i64 y9):=X5.cell 17;have f17:w5.frozen? ⟨E,17,none⟩=false:=X5.frozen 17;have HY9:=hid (zeg O5.own);have zz:IntKind.i64.wrap (y9+1)=y9+1:=by rw [IntKind.wrap_i64];have:=HWR.out;have:=HY9.out;omega)
  refine leaves_cons (f:=241) (args:=#[.pointer (some ⟨E,0,none⟩)]) (by simp) (by simp [go_sem]) ?_;have X6:Box (w5.setCell ⟨E,17,none⟩ (.int .i64 (y9+1))) E #[.int .i32 1,.int .u32 0,.int .u32 0,.int .i32 0,.int .u32 0,.int .i64 y0,.int .i64 y1,.int .i64 y2,.int .i64 y3,.int .i64 y4,.int .i64 y5,.int .i64 y6,.int .i64 y7,.int .i64 y8,.slice yp0 yl0 yq0,.slice yp1 yl1 yq1,.slice yp2 yl2 yq2,.int .i64 (y9+1),.int .i64 y10,.bool yb] 149:=X5.setc 17 _;refine (zc2 ⟨E,0,none⟩ _ _ (X6.cell 0) (X6.frozen 0)).mono ?_;rintro e u' w'' ⟨rfl,rfl,rfl⟩;have X7:Box ((w5.setCell ⟨E,17,none⟩ (.int .i64 (y9+1))).setCell ⟨E,0,none⟩ (.int .i32 0)) E #[.int .i32 0,.int .u32 0,.int .u32 0,.int .i32 0,.int .u32 0,.int .i64 y0,.int .i64 y1,.int .i64 y2,.int .i64 y3,.int .i64 y4,.int .i64 y5,.int .i64 y6,.int .i64 y7,.int .i64 y8,.slice yp0 yl0 yq0,.slice yp1 yl1 yq1,.slice yp2 yl2 yq2,.int .i64 (y9+1),.int .i64 y10,.bool yb] 149:=X6.setc 0 _;have C7:ChgL [E] w5 ((w5.setCell ⟨E,17,none⟩ (.int .i64 (y9+1))).setCell ⟨E,0,none⟩ (.int .i32 0)):=((ChgL.refl _ _).st _ 17 _ (by simp)).st _ 0 _ (by simp)
  have O7:EncO w5 E { d' with writes:=d'.writes+1 } [.int .i64 y0,.int .i64 y1,.int .i64 y2,.int .i64 y3,.int .i64 y4,.int .i64 y5,.int .i64 y6,.int .i64 y7,.int .i64 y8,.slice yp0 yl0 yq0,.slice yp1 yl1 yq1,.slice yp2 yl2 yq2,.int .i64 (y9+1),.int .i64 y10,.bool yb] K5:=by
   rw [← HY9.out];exact ⟨zdQ (y9+1) (by have:=HWR.out;have:=HY9.out;omega) O5.own,O5.nd,O5.ne⟩
  simp only [Leaves,settle]
  refine ⟨_,results_none rfl _ _ _,rfl,_,K5,X7,O7.chg C7,fun b hb=>?_,?_⟩
  ·rcases s5 b hb with h | h
   ·exact .inl h
   ·exact .inr (by omega)
  ·exact (C3'.mono (fun b hb=>by simp at hb;simp [hb])).trans (C5.trans (C7.mono (fun b hb=>by simp at hb;simp [hb])))
set_option maxRecDepth 20000 in
theorem zlI (E:Nat) (v0 v1 v2 v3 v4 v5 v6 v7 v8 vp0 vl0 vq0 vp1 vl1 vq1 vp2 vl2 vq2 v9 v10 vb:_) (d:WorldD) (K:List Nat) (T:Nat) (r:RecD) (o6 o7 o8:Option Addr) (k6 k7 k8 hi:Nat) (w:World) (hX:Box w E #[.int .i32 0,.int .u32 0,.int .u32 0,.int .i32 0,.int .u32 0,.int .i64 v0,.int .i64 v1,.int .i64 v2,.int .i64 v3,.int .i64 v4,.int .i64 v5,.int .i64 v6,.int .i64 v7,.int .i64 v8,.slice vp0 vl0 vq0,.slice vp1 vl1 vq1,.slice vp2 vl2 vq2,.int .i64 v9,.int .i64 v10,.bool vb] 149) (hO:EncO w E d [.int .i64 v0,.int .i64 v1,.int .i64 v2,.int .i64 v3,.int .i64 v4,.int .i64 v5,.int .i64 v6,.int .i64 v7,.int .i64 v8,.slice vp0 vl0 vq0,.slice vp1 vl1 vq1,.slice vp2 vl2 vq2,.int .i64 v9,.int .i64 v10,.bool vb] K) (hT:T<d.tapes.1) (hn:(d.tapes.2 T).recs.1≤10000000) (hr:zab.rd w hi r [.int .i64 r.kind,.int .i64 r.seq,.string r.name,.int .i64 r.length,.int .i64 r.group,.int .i64 r.row,.slice o6 r.rows.1 k6,.slice o7 r.data.1 k7,.slice o8 r.delta.1 k8]) (hiE:hi≤E) (hsr:zaG r≤1048576) (hpw:¬ (v10≠-1∧v10≤v9)) (hwr:-9223372036854775808≤d.writes∧d.writes+1≤9223372036854775807) :
 Calls Tryz.prog 187 #[.pointer (some ⟨E,0,none⟩),.int .i64 (T:Int),.agg #[.int .i64 r.kind,.int .i64 r.seq,.string r.name,.int .i64 r.length,.int .i64 r.group,.int .i64 r.row,.slice o6 r.rows.1 k6,.slice o7 r.data.1 k7,.slice o8 r.delta.1 k8]] w fun e w'=>e=.returned (.tuple #[])∧∃ cs' K',Box w' E (([.int .i32 0,.int .u32 0,.int .u32 0,.int .i32 0,.int .u32 0]:List Value)++cs').toArray 149∧EncO w' E { zbR d T r with writes:=d.writes+1 } cs' K'∧(∀ b,b∈K'→b∈K∨w.heap.size≤b)∧ChgL (E::K) w w':=by
 have hmf:∀ (fn:Fn) (first cap:Array Value) (w:World),(Instr.makeFunc fn first cap).run Tryz.prog w=.ok (.func fn first cap) w:=fun _ _ _ _=>rfl;have hE:E<w.heap.size:=hX.lt;have TB:=zax w #[.int .i64 (T:Int)] (rwR r o6 k6 o7 k7 o8 k8).toArray 2 72;have X1:=hX.below TB.bel hE
 go_enter Tryz.func187,Tryz.ntmps187
 go_upto_region 1 with fail
 obtain ⟨W,hW⟩:∃ x,x=((w.alloc (.cells #[.int .i64 (T:Int)] 2)).alloc (.cells (rwR r o6 k6 o7 k7 o8 k8).toArray 72)):=⟨_,rfl⟩;rw [← hW] at TB X1 ⊢;have zW:w.heap.size≤W.heap.size:=TB.bel.size;clear hW hX;have O1:EncO W E d (rwV v0 v1 v2 v3 v4 v5 v6 v7 v8 vp0 vl0 vq0 vp1 vl1 vq1 vp2 vl2 vq2 v9 v10 vb) K:=⟨Lay.own_kept _ hO.own (fun b hb=>TB.bel.block b (zad.own_lt hO.own b hb)),hO.nd,hO.ne⟩;have CR:=zfG E v0 v1 v2 v3 v4 v5 v6 v7 v8 vp0 vl0 vq0 vp1 vl1 vq1 vp2 vl2 vq2 v9 v10 vb d (zbR d T r) K w.heap.size (w.heap.size+1) W X1 O1 hpw hwr (fun W' hX' hO' hC'=>zh4 E d _ K _ _ T r o6 o7 o8 k6 k7 k8 hi hT hn W' hX' hO' ((World.cell?_of_block (hC'.block w.heap.size TB.b1.lt (by simp;omega))).trans (TB.b1.cell 0)) (TB.b2.chgl hC' (by simp;omega)) (zab.rd_below (zab.rd_below hr TB.bel (by omega)) (hC'.bel (B:=hi) (fun b hb=>by simp at hb;omega) (by omega)) (Nat.le_refl _)) (by have:=hC'.size;omega) hsr ⟨by have:=hC'.size;have:=TB.b2.lt;omega,fun hb=>by have:=zad.own_lt hO.own _ hb;omega⟩ (fun hb=>by have:=zad.own_lt hO.own _ hb;omega));have HCR:=CR;clear CR hO hpw hwr O1 X1
 go_wp2_with (go_at_call 217;refine HCR.mono ?_;rintro e w5 ⟨rfl,cs',K',X5,O5,s5,C5⟩)
 go_end0
 exact ⟨rfl,cs',K',X5,O5,fun b hb=>(s5 b hb).imp id (fun h=>by omega),(ChgL.of_below TB.bel).trans C5⟩
set_option maxRecDepth 20000 in
theorem zi8 (E:Nat) (v0 v1 v2 v3 v4 v5 v6 v7 v8 vp0 vl0 vq0 vp1 vl1 vq1 vp2 vl2 vq2 v9 v10 vb:_) (d:WorldD) (K:List Nat) (T:Nat) (r:RecD) (o6 o7 o8:Option Addr) (k6 k7 k8 hi:Nat) (w:World) (hX:Box w E #[.int .i32 0,.int .u32 0,.int .u32 0,.int .i32 0,.int .u32 0,.int .i64 v0,.int .i64 v1,.int .i64 v2,.int .i64 v3,.int .i64 v4,.int .i64 v5,.int .i64 v6,.int .i64 v7,.int .i64 v8,.slice vp0 vl0 vq0,.slice vp1 vl1 vq1,.slice vp2 vl2 vq2,.int .i64 v9,.int .i64 v10,.bool vb] 149) (h1:∀ x,x∈([.int .i64 v0,.int .i64 v1,.int .i64 v2,.int .i64 v3,.int .i64 v4,.int .i64 v5,.int .i64 v6,.int .i64 v7,.int .i64 v8,.slice vp0 vl0 vq0,.slice none 0 0,.slice vp2 vl2 vq2,.int .i64 v9,.int .i64 v10,.bool true]:List Value)→x.oneCell'=true) (hs:v10≠-1) (hw:v10≤v9) :
 Calls Tryz.prog 187 #[.pointer (some ⟨E,0,none⟩),.int .i64 (T:Int),.agg #[.int .i64 r.kind,.int .i64 r.seq,.string r.name,.int .i64 r.length,.int .i64 r.group,.int .i64 r.row,.slice o6 r.rows.1 k6,.slice o7 r.data.1 k7,.slice o8 r.delta.1 k8]] w fun e w'=>e=.panicked [{ v:=.iface 275 (.agg #[]),recovered:=false }]∧Box w' E #[.int .i32 0,.int .u32 0,.int .u32 1,.int .i32 0,.int .u32 0,.int .i64 v0,.int .i64 v1,.int .i64 v2,.int .i64 v3,.int .i64 v4,.int .i64 v5,.int .i64 v6,.int .i64 v7,.int .i64 v8,.slice vp0 vl0 vq0,.slice none 0 0,.slice vp2 vl2 vq2,.int .i64 v9,.int .i64 v10,.bool true] 149∧ChgL [E] w w':=by
 have hmf:∀ (fn:Fn) (first cap:Array Value) (w:World),(Instr.makeFunc fn first cap).run Tryz.prog w=.ok (.func fn first cap) w:=fun _ _ _ _=>rfl;have hE:E<w.heap.size:=hX.lt;have TB:=zax w #[.int .i64 (T:Int)] (rwR r o6 k6 o7 k7 o8 k8).toArray 2 72;have X1:=hX.below TB.bel hE
 go_enter Tryz.func187,Tryz.ntmps187
 go_upto_region 1 with fail
 obtain ⟨W,hW⟩:∃ x,x=((w.alloc (.cells #[.int .i64 (T:Int)] 2)).alloc (.cells (rwR r o6 k6 o7 k7 o8 k8).toArray 72)):=⟨_,rfl⟩;rw [← hW] at TB X1 ⊢;have zW:w.heap.size≤W.heap.size:=TB.bel.size;clear hW hX;have CR:=fun fv=>zgZ E v0 v1 v2 v3 v4 v5 v6 v7 v8 vp0 vl0 vq0 vp1 vl1 vq1 vp2 vl2 vq2 v9 v10 vb fv W X1 h1 hs hw;clear h1 hs hw X1
 go_wp2_with (go_at_call 217;refine (CR _).mono ?_;rintro e w5 ⟨rfl,X5,C5⟩)
 exact ⟨rfl,rfl,X5,(ChgL.of_below TB.bel).trans C5⟩
inductive Outc where
 | done (c:Int) (d:WorldD)
 | cut (d:WorldD)
def rawO (ch:WorldD→WorldD) (d:WorldD):Outc:=if d.stop≠-1∧d.stop≤d.writes then .cut d else .done 0 { ch d with writes:=d.writes+1 }
def Outc.next (o:Outc) (f:WorldD→Outc):Outc:=match o with
 | .done c d=>if c=0 then f d else .done c d
 | .cut d=>.cut d
def runO (f:Nat→WorldD→Outc):Nat→Nat→WorldD→Outc
 | 0,_,d=>.done 0 d
 | m+1,k,d=>(f k d).next (runO f m (k+1))
def EncB (w:World) (E:Nat) (d:WorldD) (K:List Nat):Prop:=∃ cs,Box w E (([.int .i32 0,.int .u32 0,.int .u32 0,.int .i32 0,.int .u32 0]:List Value)++cs).toArray 149∧EncO w E d cs K
def EncF (w:World) (E:Nat) (d:WorldD) (K:List Nat):Prop:=∃ cs,Box w E (([.int .i32 0,.int .u32 0,.int .u32 1,.int .i32 0,.int .u32 0]:List Value)++cs).toArray 149∧EncO w E (cutW d) cs K
def RunP (rv:Int→Value) (o:Outc) (E:Nat) (w:World) (K:List Nat) (e:Ending) (w':World):Prop:=match o with
 | .done c d=>e=.returned (rv c)∧∃ K',EncB w' E d K'∧(∀ b,b∈K'→b∈K∨w.heap.size≤b)∧ChgL (E::K) w w'
 | .cut d=>e=.panicked [{ v:=.iface 275 (.agg #[]),recovered:=false }]∧∃ K',EncF w' E d K'∧(∀ b,b∈K'→b∈K∨w.heap.size≤b)∧ChgL (E::K) w w'
theorem EncB.lt {w:World} {E:Nat} {d:WorldD} {K:List Nat} (h:EncB w E d K):E<w.heap.size:=by
 obtain ⟨cs,h1,_⟩:=h;exact h1.lt
theorem EncB.Klt {w:World} {E:Nat} {d:WorldD} {K:List Nat} (h:EncB w E d K):∀ b,b∈K→b<w.heap.size:=by
 obtain ⟨cs,_,h2⟩:=h;exact fun b hb=>zad.own_lt h2.own b hb
theorem EncB.below {w w':World} {E:Nat} {d:WorldD} {K:List Nat} (h:EncB w E d K) (hb:Below w.heap.size w w'):EncB w' E d K:=by
 obtain ⟨cs,h1,h2⟩:=h;exact ⟨cs,h1.below hb h1.lt,Lay.own_kept _ h2.own (fun b hk=>hb.block b (zad.own_lt h2.own b hk)),h2.nd,h2.ne⟩
theorem zc3 {E:Nat} {K K1:List Nat} {w w1 w2:World} (h:ChgL (E::K) w w1) (hk:∀ b,b∈K1→b∈K∨w.heap.size≤b) (h2:ChgL (E::K1) w1 w2):ChgL (E::K) w w2:=
 ⟨h2.os.trans h.os,h2.tape.trans h.tape,h2.output.trans h.output,Nat.le_trans h.size h2.size,fun b hb hn=>by
  refine (h2.block b (Nat.lt_of_lt_of_le hb h.size) (fun hm=>?_)).trans (h.block b hb hn)
  rcases List.mem_cons.1 hm with rfl | hm
  ·exact hn (List.mem_cons_self ..)
  ·rcases hk b hm with h3 | h3
   ·exact hn (List.mem_cons_of_mem _ h3)
   ·omega⟩
theorem RunP.after {rv:Int→Value} {o:Outc} {E:Nat} {w w1 w2:World} {K K1:List Nat} {e:Ending} (hk:∀ b,b∈K1→b∈K∨w.heap.size≤b) (hc:ChgL (E::K) w w1) (h:RunP rv o E w1 K1 e w2):RunP rv o E w K e w2:=by
 have hz:=hc.size
 cases o with
 | done c d=>
  obtain ⟨h1,K',h2,h3,h4⟩:=h
  exact ⟨h1,K',h2,fun b hb=>by
   rcases h3 b hb with h | h
   ·exact hk b h
   ·exact .inr (by omega),zc3 hc hk h4⟩
 | cut d=>
  obtain ⟨h1,K',h2,h3,h4⟩:=h
  exact ⟨h1,K',h2,fun b hb=>by
   rcases h3 b hb with h | h
   ·exact hk b h
   ·exact .inr (by omega),zc3 hc hk h4⟩
def zh5 (F:Nat):Prop:=∀ (args:Array Value) (w:World),(callFunc F args).run Tryz.prog w=.ok (.enter F args) w
def zlJ (o:Outc) (P:WorldD→Prop):Prop:=match o with
 | .done c d=>c=0→P d
 | .cut _=>True
def zh6 (f:Nat→WorldD→Outc) (fit:Nat→WorldD→Prop):Nat→Nat→WorldD→Prop
 | 0,_,_=>True
 | m+1,k,d=>fit k d∧zlJ (f k d) (zh6 f fit m (k+1))
theorem zh7 {F : Nat} {fn : Func} (hfn : Tryz.prog.funcs[F]? = some fn) (hnm : (fn.name == "runtime.NumGoroutine") = false) (hbd : fn.body.isSome = true) : zh5 F := fun args w => by
 have hn' : ¬ fn.name = "runtime.NumGoroutine" := by simpa using hnm
 have hb':¬ fn.body=none:=by intro h;rw [h] at hbd;cases hbd
 simp [callFunc,hfn,hn',hb']
def CarP (o:Outc) (E cb:Nat) (w:World) (K:List Nat) (e:Ending) (w':World):Prop:=match o with
 | .done c d=>e=.returned (.tuple #[])∧∃ K',EncB w' E d K'∧(∀ b,b∈K'→b∈K∨w.heap.size≤b)∧Box w' cb #[.int .i64 c] 2∧ChgL (E::cb::K) w w'
 | .cut d=>e=.panicked [{ v:=.iface 275 (.agg #[]),recovered:=false }]∧∃ K',EncF w' E d K'∧(∀ b,b∈K'→b∈K∨w.heap.size≤b)∧ChgL (E::K) w w'
def Outc.told:Outc→WorldResultD
 | .done _ d=>⟨0,d⟩
 | .cut d=>⟨9,cutW d⟩
def Outc.code:Outc→Int
 | .done c _=>c
 | .cut _=>0
def Outc.final:Outc→WorldResultD
 | .done c d=>if c=0 then ⟨0,d⟩ else ⟨c,zgA⟩
 | .cut d=>⟨9,cutW d⟩
theorem zjC:(Tryz.prog.info? 46).map (fun i=>(i.zero.map (·.cells),i.size))=some (some #[.int .i64 0,.int .i64 0,.int .i64 0,.int .i64 0,.int .i64 0,.int .i64 0,.int .i64 0,.int .i64 0,.int .i64 0,.int .i64 0,.slice none 0 0,.slice none 0 0,.slice none 0 0,.int .i64 0,.int .i64 0,.bool false],16):=by kernel_rfl
theorem zm8 {w:World} {lo hi:Nat} {q:WorldResultD} {cs:List Value} (h:OwnT zaA w lo hi q cs):∃ r0 y0 y1 y2 y3 y4 y5 y6 y7 y8 yp0 yl0 yq0 yp1 yl1 yq1 yp2 yl2 yq2 y9 y10 yb,cs=[.int .i64 r0,.int .i64 y0,.int .i64 y1,.int .i64 y2,.int .i64 y3,.int .i64 y4,.int .i64 y5,.int .i64 y6,.int .i64 y7,.int .i64 y8,.slice yp0 yl0 yq0,.slice yp1 yl1 yq1,.slice yp2 yl2 yq2,.int .i64 y9,.int .i64 y10,.bool yb]:=by
 obtain ⟨M,h1,_⟩:=h;obtain ⟨c,d',K1,M1,rfl,_,⟨rfl,_⟩,h2⟩:=h1;obtain ⟨y0,y1,y2,y3,y4,y5,y6,y7,y8,yp0,yl0,yq0,yp1,yl1,yq1,yp2,yl2,yq2,y9,y10,yb,rfl⟩:=zbQ h2;exact ⟨_,y0,y1,y2,y3,y4,y5,y6,y7,y8,yp0,yl0,yq0,yp1,yl1,yq1,yp2,yl2,yq2,y9,y10,yb,rfl⟩
set_option maxRecDepth 20000 in
theorem zkw (b:Nat) (v0 v1 v2 v3 v4 v5 v6 v7 v8 vp0 vl0 vq0 vp1 vl1 vq1 vp2 vl2 vq2 v9 v10 vb:_) (w:World) (hB:Box w b #[.int .i64 v0,.int .i64 v1,.int .i64 v2,.int .i64 v3,.int .i64 v4,.int .i64 v5,.int .i64 v6,.int .i64 v7,.int .i64 v8,.slice vp0 vl0 vq0,.slice vp1 vl1 vq1,.slice vp2 vl2 vq2,.int .i64 v9,.int .i64 v10,.bool vb] 38) (hd:vb=false) (hs:v10≠-1) (hw:v10≤v9) :
 Calls Tryz.prog 208 #[.pointer (some ⟨b,0,none⟩)] w fun e w'=>e=.returned (.bool false)∧Box w' b #[.int .i64 v0,.int .i64 v1,.int .i64 v2,.int .i64 v3,.int .i64 v4,.int .i64 v5,.int .i64 v6,.int .i64 v7,.int .i64 v8,.slice vp0 vl0 vq0,.slice none 0 0,.slice vp2 vl2 vq2,.int .i64 v9,.int .i64 v10,.bool true] 38∧ChgL [b] w w':=by
 subst hd
 have d1:(v10 != -1)=true:=by simpa using hs
 have d2:decide (v10≤v9)=true:=by simpa using hw
 have x12:w.cell? ⟨b,12,none⟩=some (.int .i64 v9):=hB.cell 12;have x13:w.cell? ⟨b,13,none⟩=some (.int .i64 v10):=hB.cell 13;have x14:w.cell? ⟨b,14,none⟩=some (.bool false):=hB.cell 14;clear hs hw
 go_enter Tryz.func208,Tryz.ntmps208
 go_upto_region 3 with fail
 go_quiet (fail)
 go_upto_region 4 with fail
 obtain ⟨W,hW⟩:∃ x,x=w.drewN nq:=⟨_,rfl⟩;rw [← hW]
 have X1:Box W b (rwV v0 v1 v2 v3 v4 v5 v6 v7 v8 vp0 vl0 vq0 vp1 vl1 vq1 vp2 vl2 vq2 v9 v10 false).toArray 38:=by rw [hW];exact hB
 have C1:ChgL [b] w W:=by rw [hW];exact ⟨rfl,rfl,rfl,Nat.le_refl _,fun _ _ _=>rfl⟩
 clear hW x12 x13 x14 hB;have y0:W.cell? ⟨b,14,none⟩=some (.bool false):=X1.cell 14;have yf0:W.frozen? ⟨b,14,none⟩=false:=X1.frozen 14;have X2:Box (W.setCell ⟨b,14,none⟩ (.bool true)) b (rwV v0 v1 v2 v3 v4 v5 v6 v7 v8 vp0 vl0 vq0 vp1 vl1 vq1 vp2 vl2 vq2 v9 v10 true).toArray 38:=X1.setc 14 _;have y1:(W.setCell ⟨b,14,none⟩ (.bool true)).cell? ⟨b,10,none⟩=some (.slice vp1 vl1 vq1):=X2.cell 10;have yf1:(W.setCell ⟨b,14,none⟩ (.bool true)).frozen? ⟨b,10,none⟩=false:=X2.frozen 10;have X3:Box ((W.setCell ⟨b,14,none⟩ (.bool true)).setCell ⟨b,10,none⟩ (.slice none 0 0)) b (rwV v0 v1 v2 v3 v4 v5 v6 v7 v8 vp0 vl0 vq0 none 0 0 vp2 vl2 vq2 v9 v10 true).toArray 38:=X2.setc 10 _;have C3:ChgL [b] w ((W.setCell ⟨b,14,none⟩ (.bool true)).setCell ⟨b,10,none⟩ (.slice none 0 0)):=(C1.st _ 14 _ (by simp)).st _ 10 _ (by simp);clear X1 X2 C1;go_wp2;go_ret;exact ⟨rfl,X3,C3⟩
set_option maxRecDepth 20000 in
theorem zlK (b:Nat) (v0 v1 v2 v3 v4 v5 v6 v7 v8 vp0 vl0 vq0 vp1 vl1 vq1 vp2 vl2 vq2 v9 v10 vb:_) (w:World) (hB:Box w b #[.int .i64 v0,.int .i64 v1,.int .i64 v2,.int .i64 v3,.int .i64 v4,.int .i64 v5,.int .i64 v6,.int .i64 v7,.int .i64 v8,.slice vp0 vl0 vq0,.slice vp1 vl1 vq1,.slice vp2 vl2 vq2,.int .i64 v9,.int .i64 v10,.bool vb] 38) (hd:vb=false) (d1:(v10 != -1)=false) (hwr:-9223372036854775808≤v9∧v9+1≤9223372036854775807) :
 Calls Tryz.prog 208 #[.pointer (some ⟨b,0,none⟩)] w fun e w'=>e=.returned (.bool true)∧Box w' b #[.int .i64 v0,.int .i64 v1,.int .i64 v2,.int .i64 v3,.int .i64 v4,.int .i64 v5,.int .i64 v6,.int .i64 v7,.int .i64 v8,.slice vp0 vl0 vq0,.slice vp1 vl1 vq1,.slice vp2 vl2 vq2,.int .i64 (v9+1),.int .i64 v10,.bool vb] 38∧ChgL [b] w w':=by
 have HD:=hid hd;obtain ⟨vc,hvc⟩:∃ x:Bool,x=vb:=⟨_,rfl⟩
 have zz:IntKind.i64.wrap (v9+1)=v9+1:=by rw [IntKind.wrap_i64];omega
 have x12:w.cell? ⟨b,12,none⟩=some (.int .i64 v9):=hB.cell 12;have x13:w.cell? ⟨b,13,none⟩=some (.int .i64 v10):=hB.cell 13
 have x14:w.cell? ⟨b,14,none⟩=some (.bool false):=by rw [← HD.out];exact hB.cell 14
 clear hwr hd
 go_enter Tryz.func208,Tryz.ntmps208
 go_upto_region 3 with fail
 go_quiet (fail)
 go_upto_region 7 with fail
 obtain ⟨W,hW⟩:∃ x,x=w.drewN nq:=⟨_,rfl⟩;rw [← hW]
 have X1:Box W b (rwV v0 v1 v2 v3 v4 v5 v6 v7 v8 vp0 vl0 vq0 vp1 vl1 vq1 vp2 vl2 vq2 v9 v10 vb).toArray 38:=by rw [hW];exact hB
 have C1:ChgL [b] w W:=by rw [hW];exact ⟨rfl,rfl,rfl,Nat.le_refl _,fun _ _ _=>rfl⟩
 clear hW x12 x13 x14 hB;have y0:W.cell? ⟨b,12,none⟩=some (.int .i64 v9):=X1.cell 12;have yf0:W.frozen? ⟨b,12,none⟩=false:=X1.frozen 12;have X2:Box (W.setCell ⟨b,12,none⟩ (.int .i64 (v9+1))) b #[.int .i64 v0,.int .i64 v1,.int .i64 v2,.int .i64 v3,.int .i64 v4,.int .i64 v5,.int .i64 v6,.int .i64 v7,.int .i64 v8,.slice vp0 vl0 vq0,.slice vp1 vl1 vq1,.slice vp2 vl2 vq2,.int .i64 (v9+1),.int .i64 v10,.bool vb] 38:=X1.setc 12 _;have C2':ChgL [b] w (W.setCell ⟨b,12,none⟩ (.int .i64 (v9+1))):=C1.st _ 12 _ (by simp);clear X1 C1;go_wp2;go_ret;exact ⟨rfl,X2,C2'⟩
set_option maxRecDepth 20000 in
theorem zlL (b:Nat) (v0 v1 v2 v3 v4 v5 v6 v7 v8 vp0 vl0 vq0 vp1 vl1 vq1 vp2 vl2 vq2 v9 v10 vb:_) (w:World) (hB:Box w b #[.int .i64 v0,.int .i64 v1,.int .i64 v2,.int .i64 v3,.int .i64 v4,.int .i64 v5,.int .i64 v6,.int .i64 v7,.int .i64 v8,.slice vp0 vl0 vq0,.slice vp1 vl1 vq1,.slice vp2 vl2 vq2,.int .i64 v9,.int .i64 v10,.bool vb] 38) (hd:vb=false) (d1:(v10 != -1)=true) (d2:decide (v10≤v9)=false) (hwr:-9223372036854775808≤v9∧v9+1≤9223372036854775807) :
 Calls Tryz.prog 208 #[.pointer (some ⟨b,0,none⟩)] w fun e w'=>e=.returned (.bool true)∧Box w' b #[.int .i64 v0,.int .i64 v1,.int .i64 v2,.int .i64 v3,.int .i64 v4,.int .i64 v5,.int .i64 v6,.int .i64 v7,.int .i64 v8,.slice vp0 vl0 vq0,.slice vp1 vl1 vq1,.slice vp2 vl2 vq2,.int .i64 (v9+1),.int .i64 v10,.bool vb] 38∧ChgL [b] w w':=by
 have HD:=hid hd;obtain ⟨vc,hvc⟩:∃ x:Bool,x=vb:=⟨_,rfl⟩
 have zz:IntKind.i64.wrap (v9+1)=v9+1:=by rw [IntKind.wrap_i64];omega
 have x12:w.cell? ⟨b,12,none⟩=some (.int .i64 v9):=hB.cell 12;have x13:w.cell? ⟨b,13,none⟩=some (.int .i64 v10):=hB.cell 13
 have x14:w.cell? ⟨b,14,none⟩=some (.bool false):=by rw [← HD.out];exact hB.cell 14
 clear hwr hd
 go_enter Tryz.func208,Tryz.ntmps208
 go_upto_region 3 with fail
 go_quiet (fail)
 go_upto_region 7 with fail
 obtain ⟨W,hW⟩:∃ x,x=w.drewN nq:=⟨_,rfl⟩;rw [← hW]
 have X1:Box W b (rwV v0 v1 v2 v3 v4 v5 v6 v7 v8 vp0 vl0 vq0 vp1 vl1 vq1 vp2 vl2 vq2 v9 v10 vb).toArray 38:=by rw [hW];exact hB
 have C1:ChgL [b] w W:=by rw [hW];exact ⟨rfl,rfl,rfl,Nat.le_refl _,fun _ _ _=>rfl⟩
 clear hW x12 x13 x14 hB;have y0:W.cell? ⟨b,12,none⟩=some (.int .i64 v9):=X1.cell 12;have yf0:W.frozen? ⟨b,12,none⟩=false:=X1.frozen 12;have X2:Box (W.setCell ⟨b,12,none⟩ (.int .i64 (v9+1))) b #[.int .i64 v0,.int .i64 v1,.int .i64 v2,.int .i64 v3,.int .i64 v4,.int .i64 v5,.int .i64 v6,.int .i64 v7,.int .i64 v8,.slice vp0 vl0 vq0,.slice vp1 vl1 vq1,.slice vp2 vl2 vq2,.int .i64 (v9+1),.int .i64 v10,.bool vb] 38:=X1.setc 12 _;have C2':ChgL [b] w (W.setCell ⟨b,12,none⟩ (.int .i64 (v9+1))):=C1.st _ 12 _ (by simp);clear X1 C1;go_wp2;go_ret;exact ⟨rfl,X2,C2'⟩
theorem zmt (b:Nat) (v0 v1 v2 v3 v4 v5 v6 v7 v8 vp0 vl0 vq0 vp1 vl1 vq1 vp2 vl2 vq2 v9 v10 vb:_) (w:World) (hB:Box w b #[.int .i64 v0,.int .i64 v1,.int .i64 v2,.int .i64 v3,.int .i64 v4,.int .i64 v5,.int .i64 v6,.int .i64 v7,.int .i64 v8,.slice vp0 vl0 vq0,.slice vp1 vl1 vq1,.slice vp2 vl2 vq2,.int .i64 v9,.int .i64 v10,.bool vb] 38) (hd:vb=false) (hpw:¬ (v10≠-1∧v10≤v9)) (hwr:-9223372036854775808≤v9∧v9+1≤9223372036854775807) :
 Calls Tryz.prog 208 #[.pointer (some ⟨b,0,none⟩)] w fun e w'=>e=.returned (.bool true)∧Box w' b #[.int .i64 v0,.int .i64 v1,.int .i64 v2,.int .i64 v3,.int .i64 v4,.int .i64 v5,.int .i64 v6,.int .i64 v7,.int .i64 v8,.slice vp0 vl0 vq0,.slice vp1 vl1 vq1,.slice vp2 vl2 vq2,.int .i64 (v9+1),.int .i64 v10,.bool vb] 38∧ChgL [b] w w':=by
 by_cases hs:v10=-1
 ·exact zlK b v0 v1 v2 v3 v4 v5 v6 v7 v8 vp0 vl0 vq0 vp1 vl1 vq1 vp2 vl2 vq2 v9 v10 vb w hB hd (by simpa using hs) hwr
 ·exact zlL b v0 v1 v2 v3 v4 v5 v6 v7 v8 vp0 vl0 vq0 vp1 vl1 vq1 vp2 vl2 vq2 v9 v10 vb w hB hd (by simpa using hs) (by simp only [decide_eq_false_iff_not];exact fun h=>hpw ⟨hs,h⟩) hwr
end Go.Proofs.YtclclojenogpbaaGreat
