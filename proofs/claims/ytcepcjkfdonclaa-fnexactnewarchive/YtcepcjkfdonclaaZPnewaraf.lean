/- Desks whose queues are all empty, and archives over them, as laid data; the laws' helpers over them. -/
import Derived.Test.YtcepcjkfdonclaaZPnewarae
import Derived.Test.YtcepcjkfdonclaaZPnewarad
import Derived.Deep.MidRow
import Derived.Deep.DeepCutAuto
import Derived.Deep.RegionLaw
import Derived.Laws.Tables
import Derived.Laws.Rows
import Derived.Test.YtcepcjkfdonclaaZPnewaraa
import Derived.OrdersHeld
import Derived.Deep.RegionHeld
import Derived.Test.YtcepcjkfdonclaaZPnewarac
import Derived.Laws.CopyOwn
import Derived.Maps.AppendAt
import Derived.Test.YtcepcjkfdonclaaZPnewarab
set_option linter.unusedVariables false
set_option linter.unusedSimpArgs false
namespace Go.Proofs.Ytcepcjkfdonclaa
open Go.RowKit F256
structure DeskND where
  n:Nat
  x:Int
def rdND (w:World) (hi:Nat) (d:DeskND) (cs:List Value):Prop:=∃ ao cap,cs = [.slice ao d.n cap,.slice none 0 0,.slice none 0 0,.int .i64 0,.int .i64 d.x] ∧ NilRow w (.slice ao d.n cap) d.n ∧ ∀ a,ao = some a → a.block < hi
def ownND (w:World) (d:DeskND) (cs:List Value) (L:List Nat):Prop:=∃ ao cap,cs = [.slice ao d.n cap,.slice none 0 0,.slice none 0 0,.int .i64 0,.int .i64 d.x] ∧ NilRow w (.slice ao d.n cap) d.n ∧ ((d.n = 0 ∧ ao = none ∧ L = []) ∨ ∃ a,d.n ≠ 0 ∧ ao = some a ∧ L = [a.block])
theorem nilRow_lt {w:World} {a:Addr} {n cap:Nat} (h:NilRow w (.slice (some a) n cap) n) (hn:n ≠ 0):a.block < w.heap.size:=by
  obtain ⟨_,ao,cap',hv,h2⟩:=h
  cases hv
  obtain ⟨b,off,hb,h3⟩:=h2 hn
  cases hb
  exact block_lt_of_cell (h3 0 (by omega))
theorem nilRow_kept {w w':World} {ao:Option Addr} {n cap:Nat} (h:NilRow w (.slice ao n cap) n) (hk:∀ a,ao = some a → n ≠ 0 → w'.heap[a.block]? = w.heap[a.block]?):NilRow w' (.slice ao n cap) n:=by
  obtain ⟨h1,ao',cap',hv,h2⟩:=h
  cases hv
  refine ⟨h1,_,_,rfl,fun hn => ?_⟩;obtain ⟨b,off,hb,h3⟩:=h2 hn;refine ⟨b,off,hb,fun i hi => ?_⟩;have e:=hk _ hb hn;have:=h3 i hi;unfold World.cell? at this ⊢;rw [e];exact this
def layDeskN:Lay DeskND where
  sz:=5
  rd:=rdND
  own:=ownND
  rd_len:=fun h => by obtain ⟨_,_,rfl,_⟩:=h;rfl
  rd_below:=fun h hb hhi => by
    obtain ⟨ao,cap,h1,h2,h3⟩:=h;exact ⟨ao,cap,h1,nilRow_kept h2 (fun a ha hn => hb.block _ (by subst ha;exact Nat.lt_of_lt_of_le (h3 a rfl) hhi)),h3⟩
  rd_mono:=fun h hh => by
    obtain ⟨ao,cap,h1,h2,h3⟩:=h;exact ⟨ao,cap,h1,h2,fun a ha => Nat.lt_of_lt_of_le (h3 a ha) hh⟩
  own_len:=fun h => by obtain ⟨_,_,rfl,_⟩:=h;rfl
  own_kept:=fun h hk => by
    obtain ⟨ao,cap,h1,h2,h3⟩:=h;refine ⟨ao,cap,h1,nilRow_kept h2 (fun a ha hn => ?_),h3⟩
    rcases h3 with ⟨h3,_⟩ | ⟨a',_,h4,rfl⟩
    · exact absurd h3 hn
    · rw [ha] at h4
      cases h4
      exact hk _ (by simp)
  own_lt:=fun h b hb => by
    obtain ⟨ao,cap,h1,h2,h3⟩:=h
    rcases h3 with ⟨_,_,rfl⟩ | ⟨a',hn,rfl,rfl⟩
    · cases hb
    · simp only [List.mem_singleton] at hb
      rw [hb];exact nilRow_lt h2 hn
  own_rd:=fun h hh => by
    obtain ⟨ao,cap,h1,h2,h3⟩:=h;refine ⟨ao,cap,h1,h2,fun a ha => ?_⟩
    rcases h3 with ⟨_,h4,_⟩ | ⟨a',_,h4,rfl⟩
    · rw [ha] at h4
      cases h4
    · rw [ha] at h4
      cases h4
      exact hh _ (by simp)
  own_one:=fun h u hu => by
    obtain ⟨ao,cap,rfl,_⟩:=h
    simp only [List.mem_cons,List.not_mem_nil,or_false] at hu
    rcases hu with rfl | rfl | rfl | rfl | rfl <;> rfl
theorem DeskN_rd {w:World} {hi:Nat} {d:DeskND} {cs:List Value} (h:layDeskN.rd w hi d cs):∃ ao0 cap0,cs = [.slice ao0 d.n cap0,.slice none 0 0,.slice none 0 0,.int .i64 0,.int .i64 d.x] ∧ NilRow w (.slice ao0 d.n cap0) d.n:=by
  obtain ⟨ao,cap,h1,h2,_⟩:=h;exact ⟨ao,cap,h1,h2⟩
def cvDeskND (_:DeskND):Nat:=0
def mkvDeskND (_:Nat) (d:DeskND):DeskND:=d
theorem eqDeskN_is:EqV layDeskN 30:=fun c1 c2 d h1 h2 w r1 r2 u1 u2 => by
  obtain ⟨ao,cap,rfl,n1⟩:=DeskN_rd r1;obtain ⟨bo,bap,rfl,n2⟩:=DeskN_rd r2;exact eqDesk_nils n1 n2
theorem ret_nat {K:Nat}:(Ending.returned (.int .i64 ((K:Nat):Int))) = .returned (.int .i64 ((K + 0:Nat):Int)):=rfl
theorem markDeskN_is:MkV layDeskN cvDeskND mkvDeskND 32:=fun cs d L j w h nd hj => by
  have h':=h;obtain ⟨ao,cap,rfl,n1,_⟩:=h;refine (markDesk_nils (x:=d.x) n1 (K:=(j:Int)) (by omega)).mono ?_;rintro e w' ⟨rfl,b⟩;exact ⟨ret_nat,layDeskN.own_kept h' (fun b' hb' => b.block b' (layDeskN.own_lt h' b' hb')),ChgL.of_below b⟩
theorem heldDeskN_is:HdV layDeskN cvDeskND mkvDeskND 34:=fun cs d hi j w h hhi hj => by
  obtain ⟨ao,cap,rfl,n1⟩:=DeskN_rd (d:=d) h;refine (heldDesk_nils (x:=d.x) n1 (K:=(j:Int)) (by omega)).mono ?_;rintro e w' ⟨rfl,b⟩;exact ⟨ret_nat,b⟩
structure ArchiveD where
  world:WorldD
  desk:DeskND
def layArchive:Lay ArchiveD:=(layWorld.two layDeskN).as fun d => (d.world,d.desk)
def cvArchiveD (d:ArchiveD):Nat:=cvWorldD d.world + cvDeskND d.desk
def mkvArchiveD (j:Nat) (d:ArchiveD):ArchiveD:=⟨mkvWorldD (j) d.world,mkvDeskND (j + cvWorldD d.world) d.desk⟩
structure ArchiveResultD where
  code:Int
  id:Int
  archive:ArchiveD
def layArchiveResult:Lay ArchiveResultD:=(layI.two (layI.two layArchive)).as fun d => (d.code,d.id,d.archive)
def cvArchiveResultD (d:ArchiveResultD):Nat:=cvArchiveD d.archive
def mkvArchiveResultD (j:Nat) (d:ArchiveResultD):ArchiveResultD:=⟨d.code,d.id,mkvArchiveD (j) d.archive⟩
theorem box_pre {w:World} {b:Nat} {t:TypeId} {c c1 c2:List Value} (h:Box w b c.toArray t) (hc:c = c1 ++ c2):w.rangeAt b 0 c1:=fun j v hv => by
  rw [Nat.zero_add,h.cell j,hc];have hj:j < c1.length:=(List.getElem?_eq_some_iff.1 hv).1
  simp only [List.getElem?_toArray]
  rw [List.getElem?_append_left hj];exact hv
theorem box_suf {w:World} {b n:Nat} {t:TypeId} {c c1 c2:List Value} (h:Box w b c.toArray t) (hc:c = c1 ++ c2) (hn:c1.length = n):w.rangeAt b n c2:=fun j v hv => by
  rw [h.cell (n + j),hc]
  simp only [List.getElem?_toArray]
  rw [List.getElem?_append_right (by omega),hn,Nat.add_sub_cancel_left];exact hv
theorem szl {T:TypeId} {n:Nat} {cs:List Value} (h:(Try.prog.info? T).map (·.size) = some n) (hl:cs.length = n):(Try.prog.info? T).map (·.size) = some cs.length:=by rw [h,hl]
theorem sizeN_W:(Try.prog.info? 29).map (·.size) = some 15:=by kernel_rfl
theorem sizeN_D:(Try.prog.info? 34).map (·.size) = some 5:=by kernel_rfl
theorem sizeN_A:(Try.prog.info? 36).map (·.size) = some 20:=by kernel_rfl
theorem sizeN_AR:(Try.prog.info? 38).map (·.size) = some 22:=by kernel_rfl
set_option maxHeartbeats 4000000 in
theorem eqArchive_is:EqV layArchive 16:=fun c1 c2 d h1 h2 w r1 r2 u1 u2 => by
  obtain ⟨a1,e1,hc1,g1,k1⟩:=r1;obtain ⟨a2,e2,hc2,g2,k2⟩:=r2;have la1:a1.length = 15:=layWorld.rd_len g1;have la2:a2.length = 15:=layWorld.rd_len g2;have le1:e1.length = 5:=layDeskN.rd_len k1;have le2:e2.length = 5:=layDeskN.rd_len k2;have H1:Hid (c1 = a1 ++ e1):=hc1;have H2:Hid (c2 = a2 ++ e2):=hc2;have G1:Hid (layWorld.rd w h1 d.world a1):=g1;have G2:Hid (layWorld.rd w h2 d.world a2):=g2;have K1:Hid (layDeskN.rd w h1 d.desk e1):=k1;have K2:Hid (layDeskN.rd w h2 d.desk e2):=k2;have T0:=two_newb w c1.toArray c2.toArray 36 36;clear hc1 hc2 g1 g2 k1 k2
  go_enter Try.func16,Try.ntmps16
  go_wp2_with (first | (refine wpList_load_mid rfl 29 (.tmp 5) rfl (w.heap.size) 0 (by simp [Act.eval,Act.put]) a1 _ (box_pre T0.b1 H1.out) Try.underlying29 rfl (szl sizeN_W la1) ?_) | (refine wpList_load_mid rfl 29 (.tmp 7) rfl (w.heap.size + 1) 0 (by simp [Act.eval,Act.put]) a2 _ (box_pre T0.b2 H2.out) Try.underlying29 rfl (szl sizeN_W la2) ?_))
  refine (eqWorld_is _ _ d.world h1 h2 _ (layWorld.rd_below G1.out T0.bel u1) (layWorld.rd_below G2.out T0.bel u2) (Nat.le_trans u1 T0.bel.size) (Nat.le_trans u2 T0.bel.size)).mono ?_;rintro e w1 ⟨rfl,b1⟩;have T1:=T0.call b1;clear T0 b1
  go_wp2_with (first | (refine wpList_load_mid rfl 34 (.tmp 11) rfl (w.heap.size) 15 (by simp [Act.eval,Act.put]) e1 _ (box_suf T1.b1 H1.out la1) Try.underlying34 rfl (szl sizeN_D le1) ?_) | (refine wpList_load_mid rfl 34 (.tmp 13) rfl (w.heap.size + 1) 15 (by simp [Act.eval,Act.put]) e2 _ (box_suf T1.b2 H2.out la2) Try.underlying34 rfl (szl sizeN_D le2) ?_))
  refine (eqDeskN_is _ _ d.desk h1 h2 _ (layDeskN.rd_below K1.out T1.bel u1) (layDeskN.rd_below K2.out T1.bel u2) (Nat.le_trans u1 T1.bel.size) (Nat.le_trans u2 T1.bel.size)).mono ?_;rintro e w2 ⟨rfl,b2⟩;have B:Hid (Below w.heap.size w w2):=(T1.call b2).bel;clear T1 b2;go_wp2;go_ret;exact ⟨rfl,B.out⟩
set_option maxHeartbeats 4000000 in
theorem markArchive_is:MkV layArchive cvArchiveD mkvArchiveD 17:=fun cs d L j w h nd hj => by
  obtain ⟨a1,e1,K,M,hc,rfl,o1,o2⟩:=h;have la:a1.length = 15:=layWorld.own_len o1;have le:e1.length = 5:=layDeskN.own_len o2;obtain ⟨n0,m0,dj⟩:=List.nodup_append.1 nd;have ZK:=layWorld.own_lt o1;have ZM:=layDeskN.own_lt o2;have HC:Hid (cs = a1 ++ e1):=hc;have bz:Below w.heap.size w (w.alloc (.cells cs.toArray 36)):=(Below.refl _ _).alloc (Nat.le_refl _) _;have X0:Box (w.alloc (.cells cs.toArray 36)) w.heap.size cs.toArray 36:=box_new _ _ _;have O1:=layWorld.own_kept o1 (fun b hb => bz.block b (ZK b hb));have O2:=layDeskN.own_kept o2 (fun b hb => bz.block b (ZM b hb));have CH0:ChgL (K ++ M) w (w.alloc (.cells cs.toArray 36)):=ChgL.of_below bz
  have hj1:j + cvWorldD d.world ≤ 100000000:=by unfold cvArchiveD cvDeskND at hj;omega
  have C1:=fun w' h' => markWorld_is a1 d.world K j w' h' n0 hj1;clear o1 o2 hc bz hj;obtain ⟨N,hN⟩:∃ N,N = j + cvWorldD d.world:=⟨_,rfl⟩;rw [← hN] at C1 hj1;have HN:Hid (N = j + cvWorldD d.world):=hN;clear hN
  go_enter Try.func17,Try.ntmps17
  go_wp2_with (refine wpList_load_mid rfl 29 (.tmp 5) rfl (w.heap.size) 0 (by simp [Act.eval,Act.put]) a1 _ (box_pre X0 HC.out) Try.underlying29 rfl (szl sizeN_W la) ?_)
  refine (C1 _ O1).mono ?_;rintro e w1 ⟨rfl,p1,q1⟩;have X1:=X0.chgl q1 (fun hb => by have:=ZK _ hb;omega);have O3:=layDeskN.own_chgL O2 q1 (fun b hb hx => dj b hx b hb rfl);have HP:Hid (layWorld.own w1 (mkvWorldD j d.world) a1 K):=p1;have CH1:Hid (ChgL (K ++ M) w w1):=CH0.sub q1 (fun b hb => List.mem_append_left _ hb);clear O1 O2 X0 CH0 p1 q1
  go_wp2_with (refine wpList_load_mid rfl 34 (.tmp 9) rfl (w.heap.size) 15 (by simp [Act.eval,Act.put]) e1 _ (box_suf X1 HC.out la) Try.underlying34 rfl (szl sizeN_D le) ?_)
  refine (markDeskN_is e1 d.desk M N _ O3 m0 hj1).mono ?_;rintro e w2 ⟨rfl,p2,q2⟩;have HP2:Hid (layDeskN.own w2 (mkvDeskND N d.desk) e1 M):=p2;have HW2:Hid (layWorld.own w2 (mkvWorldD j d.world) a1 K):=layWorld.own_chgL HP.out q2 (fun b hb hx => dj b hb b hx rfl);have CH2:Hid (ChgL (K ++ M) w w2):=CH1.out.sub q2 (fun b hb => List.mem_append_right _ hb);clear p2 q2 X1 O3;go_wp2;go_ret;exact ⟨ret_eq (by have:=HN.out;unfold cvArchiveD;omega),⟨a1,e1,K,M,HC.out,rfl,HW2.out,HP2.out⟩,CH2.out⟩
set_option maxHeartbeats 4000000 in
theorem heldArchive_is:HdV layArchive cvArchiveD mkvArchiveD 18:=fun cs d hi j w h hhi hj => by
  obtain ⟨a1,e1,hc,g1,k1⟩:=h;have la:a1.length = 15:=layWorld.rd_len g1;have le:e1.length = 5:=layDeskN.rd_len k1;have HC:Hid (cs = a1 ++ e1):=hc;have G1:Hid (layWorld.rd w hi (mkvWorldD j d.world) a1):=g1;have K1:Hid (layDeskN.rd w hi d.desk e1):=k1
  have hj1:j + cvWorldD d.world ≤ 100000000:=by unfold cvArchiveD cvDeskND at hj;omega
  obtain ⟨N,hN⟩:∃ N,N = j + cvWorldD d.world:=⟨_,rfl⟩;have C1:=fun w' h' hh' => heldWorld_is a1 d.world hi j w' h' hh' hj1;rw [← hN] at C1 hj1;have HN:Hid (N = j + cvWorldD d.world):=hN;have T0:=one_new w cs.toArray 36
  have hz:¬ ((N:Int) < 0):=by omega
  clear hc g1 k1 hj hN
  go_enter Try.func18,Try.ntmps18
  go_wp2_with (refine wpList_load_mid rfl 29 (.tmp 5) rfl (w.heap.size) 0 (by simp [Act.eval,Act.put]) a1 _ (box_pre T0.b1 HC.out) Try.underlying29 rfl (szl sizeN_W la) ?_)
  refine (C1 _ (layWorld.rd_below G1.out T0.bel hhi) (Nat.le_trans hhi T0.bel.size)).mono ?_;rintro e w1 ⟨rfl,b1⟩;have T1:=T0.call b1;clear T0 b1
  go_wp2_with (refine wpList_load_mid rfl 34 (.tmp 11) rfl (w.heap.size) 15 (by simp [Act.eval,Act.put]) e1 _ (box_suf T1.b1 HC.out la) Try.underlying34 rfl (szl sizeN_D le) ?_)
  refine (heldDeskN_is e1 d.desk hi N _ (layDeskN.rd_below K1.out T1.bel hhi) (Nat.le_trans hhi T1.bel.size) hj1).mono ?_;rintro e w2 ⟨he,b2⟩;obtain rfl:e = .returned (.int .i64 (N:Int)):=he;have B:Hid (Below w.heap.size w w2):=(T1.call b2).bel;clear T1 b2;go_wp2;go_ret;exact ⟨ret_eq (by have:=HN.out;unfold cvArchiveD cvDeskND;omega),B.out⟩
set_option maxHeartbeats 4000000 in
theorem eqArchiveResult_is:EqV layArchiveResult 7:=fun c1 c2 d h1 h2 w r1 r2 u1 u2 => by
  obtain ⟨_,_,q1,⟨rfl,_⟩,⟨_,a1,rfl,⟨rfl,_⟩,g1⟩⟩:=r1;obtain ⟨_,_,q2,⟨rfl,_⟩,⟨_,a2,rfl,⟨rfl,_⟩,g2⟩⟩:=r2;have q1':c1 = .int .i64 d.code :: .int .i64 d.id :: a1:=q1;have q2':c2 = .int .i64 d.code :: .int .i64 d.id :: a2:=q2;clear q1 q2;subst q1' q2';have la1:a1.length = 20:=layArchive.rd_len g1;have la2:a2.length = 20:=layArchive.rd_len g2;have G1:Hid (layArchive.rd w h1 d.archive a1):=g1;have G2:Hid (layArchive.rd w h2 d.archive a2):=g2;clear g1 g2;have T0:=two_newb w (.int .i64 d.code :: .int .i64 d.id :: a1).toArray (.int .i64 d.code :: .int .i64 d.id :: a2).toArray 38 38;have rA1:=box_suf (c1:=[.int .i64 d.code,.int .i64 d.id]) (c2:=a1) T0.b1 rfl (n:=2) rfl;have rA2:=box_suf (c1:=[.int .i64 d.code,.int .i64 d.id]) (c2:=a2) T0.b2 rfl (n:=2) rfl
  go_enter Try.func7,Try.ntmps7
  go_wp2_with (first | (refine wpList_load_mid rfl 36 (.tmp 15) rfl (w.heap.size) 2 (by simp [Act.eval,Act.put]) a1 _ (rA1) Try.underlying36 rfl (szl sizeN_A la1) ?_) | (refine wpList_load_mid rfl 36 (.tmp 17) rfl (w.heap.size + 1) 2 (by simp [Act.eval,Act.put]) a2 _ (rA2) Try.underlying36 rfl (szl sizeN_A la2) ?_))
  refine (eqArchive_is _ _ d.archive h1 h2 _ (layArchive.rd_below G1.out T0.bel u1) (layArchive.rd_below G2.out T0.bel u2) (Nat.le_trans u1 T0.bel.size) (Nat.le_trans u2 T0.bel.size)).mono ?_;rintro e w1 ⟨rfl,b1⟩;have B:Hid (Below w.heap.size w w1):=(T0.call b1).bel;clear T0 b1 rA1 rA2;go_wp2;go_ret;exact ⟨rfl,B.out⟩
set_option maxHeartbeats 4000000 in
theorem markArchiveResult_is:MkV layArchiveResult cvArchiveResultD mkvArchiveResultD 8:=fun cs d L j w h nd hj => by
  have h0:=h;obtain ⟨_,_,K1,M1,hcs,hK,⟨rfl,k1,rfl⟩,⟨_,a1,K2,M2,rfl,rfl,⟨rfl,k2,rfl⟩,o1⟩⟩:=h;have hc:cs = [.int .i64 d.code,.int .i64 d.id] ++ a1:=hcs;obtain rfl:L = M2:=hK;have la:a1.length = 20:=layArchive.own_len o1;have ZK:=layArchive.own_lt o1;have bz:Below w.heap.size w (w.alloc (.cells cs.toArray 38)):=(Below.refl _ _).alloc (Nat.le_refl _) _;have X0:Box (w.alloc (.cells cs.toArray 38)) w.heap.size cs.toArray 38:=box_new _ _ _;have O1:=layArchive.own_kept o1 (fun b hb => bz.block b (ZK b hb));have CH0:ChgL L w (w.alloc (.cells cs.toArray 38)):=ChgL.of_below bz;have rA:=box_suf X0 hc (n:=2) rfl;have C1:=fun w' h' => markArchive_is a1 d.archive L j w' h' nd hj;have HC:Hid (cs = [.int .i64 d.code,.int .i64 d.id] ++ a1):=hc;have Q1:=k1;have Q2:=k2;have HQ1:Hid (-9223372036854775808 ≤ d.code ∧ d.code ≤ 9223372036854775807):=k1;have HQ2:Hid (-9223372036854775808 ≤ d.id ∧ d.id ≤ 9223372036854775807):=k2;clear o1 hcs hc bz hj h0 k1 k2 Q1 Q2;obtain ⟨N,hN⟩:∃ N,N = j + cvArchiveD d.archive:=⟨_,rfl⟩;rw [← hN] at C1;have HN:Hid (N = j + cvArchiveD d.archive):=hN;clear hN
  go_enter Try.func8,Try.ntmps8
  go_wp2_with (refine wpList_load_mid rfl 36 (.tmp 5) rfl (w.heap.size) 2 (by simp [Act.eval,Act.put]) a1 _ (rA) Try.underlying36 rfl (szl sizeN_A la) ?_)
  refine (C1 _ O1).mono ?_;rintro e w1 ⟨rfl,p1,q1⟩;have HP:Hid (layArchive.own w1 (mkvArchiveD j d.archive) a1 L):=p1;have CH1:Hid (ChgL L w w1):=CH0.sub q1 (fun b hb => hb);clear O1 X0 CH0 p1 q1 rA;go_wp2;go_ret;exact ⟨ret_eq (by have:=HN.out;unfold cvArchiveResultD;omega),⟨[.int .i64 d.code],.int .i64 d.id :: a1,[],L,HC.out,rfl,⟨rfl,HQ1.out,rfl⟩,⟨[.int .i64 d.id],a1,[],L,rfl,rfl,⟨rfl,HQ2.out,rfl⟩,HP.out⟩⟩,CH1.out⟩
set_option maxHeartbeats 4000000 in
theorem heldArchiveResult_is:HdV layArchiveResult cvArchiveResultD mkvArchiveResultD 9:=fun cs d hi j w h hhi hj => by
  obtain ⟨_,_,hcs,⟨rfl,_⟩,⟨_,a1,rfl,⟨rfl,_⟩,g1⟩⟩:=h;have hc:cs = [.int .i64 d.code,.int .i64 d.id] ++ a1:=hcs;have la:a1.length = 20:=layArchive.rd_len g1;have G1:Hid (layArchive.rd w hi (mkvArchiveD j d.archive) a1):=g1;have T0:=one_new w cs.toArray 38;have rA:=box_suf T0.b1 hc (n:=2) rfl;obtain ⟨N,hN⟩:∃ N,N = j + cvArchiveD d.archive:=⟨_,rfl⟩;have C1:=fun w' h' hh' => heldArchive_is a1 d.archive hi j w' h' hh' hj;rw [← hN] at C1;have HN:Hid (N = j + cvArchiveD d.archive):=hN
  have hz:¬ ((N:Int) < 0):=by omega
  clear hcs hc g1 hj hN
  go_enter Try.func9,Try.ntmps9
  go_wp2_with (refine wpList_load_mid rfl 36 (.tmp 5) rfl (w.heap.size) 2 (by simp [Act.eval,Act.put]) a1 _ (rA) Try.underlying36 rfl (szl sizeN_A la) ?_)
  refine (C1 _ (layArchive.rd_below G1.out T0.bel hhi) (Nat.le_trans hhi T0.bel.size)).mono ?_;rintro e w1 ⟨rfl,b1⟩;have B:Hid (Below w.heap.size w w1):=(T0.call b1).bel;clear T0 b1 rA;go_wp2;go_ret;exact ⟨ret_eq (by have:=HN.out;unfold cvArchiveResultD;omega),B.out⟩
end Go.Proofs.Ytcepcjkfdonclaa
namespace Go.Proofs.Ytcepcjkfdonclaa
open Go.RowKit F256
theorem own_newW {s:Nat → Int} (hs:∀ i,-9223372036854775808 ≤ s i ∧ s i ≤ 9223372036854775807) {w:World} {g D R lo lt t cap:Nat} {ao:Option Addr} (hg:(s 0 + s 1).toNat = g) (hD:(s 2 + s 3).toNat = D) (hR:(s 4).toNat = R)
    (h1:OwnT ((layDrive.slice 58).slice 55) w lo w.heap.size (g,fun _ => (D,fun _ => freshD R)) [.slice ao g cap]) (h3:(layTape.slice 88).own w (2,fun _ => zeroT) [.slice (some ⟨t,0,none⟩) 2 2] [t]) (hlt:t < lo) (ht:lt ≤ t) (hlo:lo ≤ w.heap.size) :
    OwnT layWorld w lt w.heap.size (newW s) [.int .i64 (s 0),.int .i64 (s 1),.int .i64 (s 2),.int .i64 (s 3),.int .i64 (s 4),.int .i64 (s 5),.int .i64 (s 6),.int .i64 (s 7),.int .i64 (s 8),.slice ao g cap,.slice none 0 0,.slice (some ⟨t,0,none⟩) 2 2,.int .i64 0,.int .i64 (-1),.bool false]:=by
  subst hg hD hR;obtain ⟨K,a1,a2,a3⟩:=h1;refine ⟨K ++ ([] ++ ([t] ++ [])),World_mk (newW s) a1 (own_noInts w _ (fun _ => show (-9223372036854775808:Int) ≤ 0 ∧ (0:Int) ≤ 9223372036854775807 by decide)) h3 hs (show (-9223372036854775808:Int) ≤ 0 ∧ (0:Int) ≤ 9223372036854775807 by decide) (show (-9223372036854775808:Int) ≤ -1 ∧ (-1:Int) ≤ 9223372036854775807 by decide),?_,?_⟩
  · simp only [List.nil_append,List.append_nil]
    refine List.nodup_append.2 ⟨a2,by simp,fun b hb c hc hh => ?_⟩;have:=(a3 b hb).1
    simp at hc
    omega
  · intro b hb
    simp only [List.nil_append,List.append_nil] at hb
    rcases List.mem_append.1 hb with h | h
    · have:=a3 b h;omega
    · simp at h;omega
theorem newBx_A {s:Nat → Int} {w1 w2:World} (h:(layTape.slice 88).own w2 (2,fun _ => zeroT) [.slice (some ⟨w1.heap.size,0,none⟩) 2 2] [w1.heap.size]) (hb:Below w1.heap.size w1 w2) (hz:w1.heap.size < w2.heap.size) :
    NewBx #[.int .i64 (s 0),.int .i64 (s 1),.int .i64 (s 2),.int .i64 (s 3),.int .i64 (s 4),.int .i64 (s 5),.int .i64 (s 6),.int .i64 (s 7),.int .i64 (s 8),.slice none 0 0,.slice none 0 0,.slice (some ⟨w1.heap.size,0,none⟩) 2 2,.int .i64 0,.int .i64 (-1),.bool false] w1 (w2.alloc (.cells #[.int .i64 (s 0),.int .i64 (s 1),.int .i64 (s 2),.int .i64 (s 3),.int .i64 (s 4),.int .i64 (s 5),.int .i64 (s 6),.int .i64 (s 7),.int .i64 (s 8),.slice none 0 0,.slice none 0 0,.slice (some ⟨w1.heap.size,0,none⟩) 2 2,.int .i64 0,.int .i64 (-1),.bool false] 29)) w2.heap.size w1.heap.size :=
  ⟨box_new _ _ _,(layTape.slice 88).own_kept h (fun b hb => Below.heap_alloc w2 _ b (by simp at hb;omega)),hb.size,Nat.le_refl _,by omega,hb.alloc hb.size _⟩
theorem newBx_B {s:Nat → Int} {w1 w3:World} (hX:Box w3 w1.heap.size #[.int .i64 0,.int .i64 0,.int .i64 0,.int .i64 0,.int .i64 0,.int .i64 0,.int .i64 0,.int .i64 0,.int .i64 0,.slice none 0 0,.slice none 0 0,.slice none 0 0,.int .i64 0,.int .i64 0,.bool false] 29) (h:(layTape.slice 88).own w3 (2,fun _ => zeroT) [.slice (some ⟨w1.heap.size + 1,0,none⟩) 2 2] [w1.heap.size + 1]) (hb:Below w1.heap.size w1 w3) :
    NewBx #[.int .i64 (s 0),.int .i64 (s 1),.int .i64 (s 2),.int .i64 (s 3),.int .i64 (s 4),.int .i64 (s 5),.int .i64 (s 6),.int .i64 (s 7),.int .i64 (s 8),.slice none 0 0,.slice none 0 0,.slice (some ⟨w1.heap.size + 1,0,none⟩) 2 2,.int .i64 0,.int .i64 (-1),.bool false] w1 (stN w3 w1.heap.size 0 [.int .i64 (s 0),.int .i64 (s 1),.int .i64 (s 2),.int .i64 (s 3),.int .i64 (s 4),.int .i64 (s 5),.int .i64 (s 6),.int .i64 (s 7),.int .i64 (s 8),.slice none 0 0,.slice none 0 0,.slice (some ⟨w1.heap.size + 1,0,none⟩) 2 2,.int .i64 0,.int .i64 (-1),.bool false]) w1.heap.size (w1.heap.size + 1) :=
  ⟨hX.stL [.int .i64 (s 0),.int .i64 (s 1),.int .i64 (s 2),.int .i64 (s 3),.int .i64 (s 4),.int .i64 (s 5),.int .i64 (s 6),.int .i64 (s 7),.int .i64 (s 8),.slice none 0 0,.slice none 0 0,.slice (some ⟨w1.heap.size + 1,0,none⟩) 2 2,.int .i64 0,.int .i64 (-1),.bool false] 0,own_st h (by simp),Nat.le_refl _,by omega,by omega,hb.trans (stN_below (Nat.le_refl _) _ 0)⟩
set_option maxHeartbeats 16000000 in
set_option maxRecDepth 20000 in
theorem specNew_bad (s:Nat → Int) (hbad:¬ OkShape s) (hs:∀ i,-9223372036854775808 ≤ s i ∧ s i ≤ 9223372036854775807) (w:World) :
    Calls Try.prog 11 #[shapeV s] w (ResPost (NewAns s) w):=by
  have HS:Hid (∀ i,-9223372036854775808 ≤ s i ∧ s i ≤ 9223372036854775807):=hs;clear hs;have T0:=two_newb w #[.int .i64 (s 0),.int .i64 (s 1),.int .i64 (s 2),.int .i64 (s 3),.int .i64 (s 4),.int .i64 (s 5),.int .i64 (s 6),.int .i64 (s 7),.int .i64 (s 8)] #[.int .i64 0,.int .i64 0,.int .i64 0,.int .i64 0,.int .i64 0,.int .i64 0,.int .i64 0,.int .i64 0,.int .i64 0,.int .i64 0,.slice none 0 0,.slice none 0 0,.slice none 0 0,.int .i64 0,.int .i64 0,.bool false] 24 46;have CSh:=fun w' => specShape_any s w';unfold shapeV at CSh ⊢
  go_enter Try.func11,Try.ntmps11
  go_wp2_with fail
  refine (CSh _).mono ?_;rintro e w1 ⟨x,rfl,hx,b1⟩;have T1:Two w w1 #[.int .i64 (s 0),.int .i64 (s 1),.int .i64 (s 2),.int .i64 (s 3),.int .i64 (s 4),.int .i64 (s 5),.int .i64 (s 6),.int .i64 (s 7),.int .i64 (s 8)] #[.int .i64 0,.int .i64 0,.int .i64 0,.int .i64 0,.int .i64 0,.int .i64 0,.int .i64 0,.int .i64 0,.int .i64 0,.int .i64 0,.slice none 0 0,.slice none 0 0,.slice none 0 0,.int .i64 0,.int .i64 0,.bool false] 24 46:=T0.call b1;have HT1:Hid (Two w w1 #[.int .i64 (s 0),.int .i64 (s 1),.int .i64 (s 2),.int .i64 (s 3),.int .i64 (s 4),.int .i64 (s 5),.int .i64 (s 6),.int .i64 (s 7),.int .i64 (s 8)] #[.int .i64 0,.int .i64 0,.int .i64 0,.int .i64 0,.int .i64 0,.int .i64 0,.int .i64 0,.int .i64 0,.int .i64 0,.int .i64 0,.slice none 0 0,.slice none 0 0,.slice none 0 0,.int .i64 0,.int .i64 0,.bool false] 24 46):=T1;have z1:w.heap.size + 1 < w1.heap.size:=T1.b2.lt;clear b1 T0 CSh;have x1_0:w1.cell? ⟨w.heap.size,0,none⟩ = some (.int .i64 (s 0)):=T1.b1.cell 0;have x1_1:w1.cell? ⟨w.heap.size,1,none⟩ = some (.int .i64 (s 1)):=T1.b1.cell 1;have x1_2:w1.cell? ⟨w.heap.size,2,none⟩ = some (.int .i64 (s 2)):=T1.b1.cell 2;have x1_3:w1.cell? ⟨w.heap.size,3,none⟩ = some (.int .i64 (s 3)):=T1.b1.cell 3;have x1_4:w1.cell? ⟨w.heap.size,4,none⟩ = some (.int .i64 (s 4)):=T1.b1.cell 4;have x1_5:w1.cell? ⟨w.heap.size,5,none⟩ = some (.int .i64 (s 5)):=T1.b1.cell 5;have x1_6:w1.cell? ⟨w.heap.size,6,none⟩ = some (.int .i64 (s 6)):=T1.b1.cell 6;have x1_7:w1.cell? ⟨w.heap.size,7,none⟩ = some (.int .i64 (s 7)):=T1.b1.cell 7;have x1_8:w1.cell? ⟨w.heap.size,8,none⟩ = some (.int .i64 (s 8)):=T1.b1.cell 8
  rcases hx with ⟨rfl,hno⟩ | ⟨rfl,hok⟩
  · have HNO:Hid (¬ OkShape s):=hno
    clear hno;have r1_0:w1.cell? ⟨w.heap.size + 1,0,none⟩ = some (.int .i64 0):=T1.b2.cell 0;have r1f_0:w1.frozen? ⟨w.heap.size + 1,0,none⟩ = false:=T1.b2.frozen 0;have r1_1:w1.cell? ⟨w.heap.size + 1,1,none⟩ = some (.int .i64 0):=T1.b2.cell 1;have r1f_1:w1.frozen? ⟨w.heap.size + 1,1,none⟩ = false:=T1.b2.frozen 1;have r1_2:w1.cell? ⟨w.heap.size + 1,2,none⟩ = some (.int .i64 0):=T1.b2.cell 2;have r1f_2:w1.frozen? ⟨w.heap.size + 1,2,none⟩ = false:=T1.b2.frozen 2;have r1_3:w1.cell? ⟨w.heap.size + 1,3,none⟩ = some (.int .i64 0):=T1.b2.cell 3;have r1f_3:w1.frozen? ⟨w.heap.size + 1,3,none⟩ = false:=T1.b2.frozen 3;have r1_4:w1.cell? ⟨w.heap.size + 1,4,none⟩ = some (.int .i64 0):=T1.b2.cell 4;have r1f_4:w1.frozen? ⟨w.heap.size + 1,4,none⟩ = false:=T1.b2.frozen 4;have r1_5:w1.cell? ⟨w.heap.size + 1,5,none⟩ = some (.int .i64 0):=T1.b2.cell 5;have r1f_5:w1.frozen? ⟨w.heap.size + 1,5,none⟩ = false:=T1.b2.frozen 5;have r1_6:w1.cell? ⟨w.heap.size + 1,6,none⟩ = some (.int .i64 0):=T1.b2.cell 6;have r1f_6:w1.frozen? ⟨w.heap.size + 1,6,none⟩ = false:=T1.b2.frozen 6;have r1_7:w1.cell? ⟨w.heap.size + 1,7,none⟩ = some (.int .i64 0):=T1.b2.cell 7;have r1f_7:w1.frozen? ⟨w.heap.size + 1,7,none⟩ = false:=T1.b2.frozen 7;have r1_8:w1.cell? ⟨w.heap.size + 1,8,none⟩ = some (.int .i64 0):=T1.b2.cell 8;have r1f_8:w1.frozen? ⟨w.heap.size + 1,8,none⟩ = false:=T1.b2.frozen 8;have r1_9:w1.cell? ⟨w.heap.size + 1,9,none⟩ = some (.int .i64 0):=T1.b2.cell 9;have r1f_9:w1.frozen? ⟨w.heap.size + 1,9,none⟩ = false:=T1.b2.frozen 9;have r1_10:w1.cell? ⟨w.heap.size + 1,10,none⟩ = some (.slice none 0 0):=T1.b2.cell 10;have r1f_10:w1.frozen? ⟨w.heap.size + 1,10,none⟩ = false:=T1.b2.frozen 10;have r1_11:w1.cell? ⟨w.heap.size + 1,11,none⟩ = some (.slice none 0 0):=T1.b2.cell 11;have r1f_11:w1.frozen? ⟨w.heap.size + 1,11,none⟩ = false:=T1.b2.frozen 11;have r1_12:w1.cell? ⟨w.heap.size + 1,12,none⟩ = some (.slice none 0 0):=T1.b2.cell 12;have r1f_12:w1.frozen? ⟨w.heap.size + 1,12,none⟩ = false:=T1.b2.frozen 12;have r1_13:w1.cell? ⟨w.heap.size + 1,13,none⟩ = some (.int .i64 0):=T1.b2.cell 13;have r1f_13:w1.frozen? ⟨w.heap.size + 1,13,none⟩ = false:=T1.b2.frozen 13;have r1_14:w1.cell? ⟨w.heap.size + 1,14,none⟩ = some (.int .i64 0):=T1.b2.cell 14;have r1f_14:w1.frozen? ⟨w.heap.size + 1,14,none⟩ = false:=T1.b2.frozen 14;have r1_15:w1.cell? ⟨w.heap.size + 1,15,none⟩ = some (.bool false):=T1.b2.cell 15;have r1f_15:w1.frozen? ⟨w.heap.size + 1,15,none⟩ = false:=T1.b2.frozen 15;clear T1;go_wp2;refine bodyPost_ret (v:=.agg #[.int .i64 3,.int .i64 0,.int .i64 0,.int .i64 0,.int .i64 0,.int .i64 0,.int .i64 0,.int .i64 0,.int .i64 0,.int .i64 0,.slice none 0 0,.slice none 0 0,.slice none 0 0,.int .i64 0,.int .i64 0,.bool false]) (by simp [results,Try.results11,go_sem,r1_0,r1_1,r1_2,r1_3,r1_4,r1_5,r1_6,r1_7,r1_8,r1_9,r1_10,r1_11,r1_12,r1_13,r1_14,r1_15]) rfl ?_
    refine ⟨⟨3,zeroW⟩,[.int .i64 3,.int .i64 0,.int .i64 0,.int .i64 0,.int .i64 0,.int .i64 0,.int .i64 0,.int .i64 0,.int .i64 0,.int .i64 0,.slice none 0 0,.slice none 0 0,.slice none 0 0,.int .i64 0,.int .i64 0,.bool false],rfl,.inl ⟨HNO.out,rfl⟩,?_,?_⟩
    · exact own_resCode _ 3 (by decide) _ _
    · exact HT1.out.bel.trans (stN_below (by omega) [.int .i64 3,.int .i64 0,.int .i64 0,.int .i64 0,.int .i64 0,.int .i64 0,.int .i64 0,.int .i64 0,.int .i64 0,.int .i64 0,.slice none 0 0,.slice none 0 0,.slice none 0 0,.int .i64 0,.int .i64 0,.bool false] 0)
  exact absurd hok hbad
set_option maxHeartbeats 16000000 in
set_option maxRecDepth 20000 in
theorem specNew_ok (s:Nat → Int) (hgood:OkShape s) (hs:∀ i,-9223372036854775808 ≤ s i ∧ s i ≤ 9223372036854775807) (w:World) :
    Calls Try.prog 11 #[shapeV s] w (ResPost (NewAns s) w):=by
  have HS:Hid (∀ i,-9223372036854775808 ≤ s i ∧ s i ≤ 9223372036854775807):=hs;clear hs;have T0:=two_newb w #[.int .i64 (s 0),.int .i64 (s 1),.int .i64 (s 2),.int .i64 (s 3),.int .i64 (s 4),.int .i64 (s 5),.int .i64 (s 6),.int .i64 (s 7),.int .i64 (s 8)] #[.int .i64 0,.int .i64 0,.int .i64 0,.int .i64 0,.int .i64 0,.int .i64 0,.int .i64 0,.int .i64 0,.int .i64 0,.int .i64 0,.slice none 0 0,.slice none 0 0,.slice none 0 0,.int .i64 0,.int .i64 0,.bool false] 24 46;have CSh:=fun w' => specShape_any s w';unfold shapeV at CSh ⊢
  go_enter Try.func11,Try.ntmps11
  go_wp2_with fail
  refine (CSh _).mono ?_;rintro e w1 ⟨x,rfl,hx,b1⟩;have T1:Two w w1 #[.int .i64 (s 0),.int .i64 (s 1),.int .i64 (s 2),.int .i64 (s 3),.int .i64 (s 4),.int .i64 (s 5),.int .i64 (s 6),.int .i64 (s 7),.int .i64 (s 8)] #[.int .i64 0,.int .i64 0,.int .i64 0,.int .i64 0,.int .i64 0,.int .i64 0,.int .i64 0,.int .i64 0,.int .i64 0,.int .i64 0,.slice none 0 0,.slice none 0 0,.slice none 0 0,.int .i64 0,.int .i64 0,.bool false] 24 46:=T0.call b1;have HT1:Hid (Two w w1 #[.int .i64 (s 0),.int .i64 (s 1),.int .i64 (s 2),.int .i64 (s 3),.int .i64 (s 4),.int .i64 (s 5),.int .i64 (s 6),.int .i64 (s 7),.int .i64 (s 8)] #[.int .i64 0,.int .i64 0,.int .i64 0,.int .i64 0,.int .i64 0,.int .i64 0,.int .i64 0,.int .i64 0,.int .i64 0,.int .i64 0,.slice none 0 0,.slice none 0 0,.slice none 0 0,.int .i64 0,.int .i64 0,.bool false] 24 46):=T1;have z1:w.heap.size + 1 < w1.heap.size:=T1.b2.lt;clear b1 T0 CSh;have x1_0:w1.cell? ⟨w.heap.size,0,none⟩ = some (.int .i64 (s 0)):=T1.b1.cell 0;have x1_1:w1.cell? ⟨w.heap.size,1,none⟩ = some (.int .i64 (s 1)):=T1.b1.cell 1;have x1_2:w1.cell? ⟨w.heap.size,2,none⟩ = some (.int .i64 (s 2)):=T1.b1.cell 2;have x1_3:w1.cell? ⟨w.heap.size,3,none⟩ = some (.int .i64 (s 3)):=T1.b1.cell 3;have x1_4:w1.cell? ⟨w.heap.size,4,none⟩ = some (.int .i64 (s 4)):=T1.b1.cell 4;have x1_5:w1.cell? ⟨w.heap.size,5,none⟩ = some (.int .i64 (s 5)):=T1.b1.cell 5;have x1_6:w1.cell? ⟨w.heap.size,6,none⟩ = some (.int .i64 (s 6)):=T1.b1.cell 6;have x1_7:w1.cell? ⟨w.heap.size,7,none⟩ = some (.int .i64 (s 7)):=T1.b1.cell 7;have x1_8:w1.cell? ⟨w.heap.size,8,none⟩ = some (.int .i64 (s 8)):=T1.b1.cell 8
  obtain rfl:x = 0:=by
    rcases hx with ⟨_,h⟩ | ⟨h,_⟩
    · exact absurd hgood h
    · exact h
  have hok:=hgood;clear hx hgood;have HOK:Hid (OkShape s):=hok;obtain ⟨G,hG⟩:∃ G:Nat,s 0 + s 1 = (G:Int):=⟨(s 0 + s 1).toNat,by obtain ⟨h1,_⟩:=hok;unfold Shp3 at h1;omega⟩;obtain ⟨D,hD⟩:∃ D:Nat,s 2 + s 3 = (D:Int):=⟨(s 2 + s 3).toNat,by obtain ⟨_,h2,_⟩:=hok;unfold Shp at h2;omega⟩
  have hGb:G ≤ 6:=by obtain ⟨h1,_⟩:=hok;unfold Shp3 at h1;omega
  have hDb:D ≤ 6:=by obtain ⟨_,h2,_⟩:=hok;unfold Shp at h2;omega
  have HG:Hid (s 0 + s 1 = (G:Int)):=hG;have HD:Hid (s 2 + s 3 = (D:Int)):=hD;have CA:=fun w' => l5All_any s HOK.out w';have CD:=fun w' => l5Drives_any s HOK.out w';have CF:=fun w' => l5Fresh_any s HOK.out w';unfold shapeV at CA CD CF;rw [hG] at CA;rw [hD] at CD;clear hok hG hD T1;have HTA:Hid (Two w (w1.alloc (.cells #[.int .i64 0,.int .i64 0,.int .i64 0,.int .i64 0,.int .i64 0,.int .i64 0,.int .i64 0,.int .i64 0,.int .i64 0,.slice none 0 0,.slice none 0 0,.slice none 0 0,.int .i64 0,.int .i64 0,.bool false] 29)) #[.int .i64 (s 0),.int .i64 (s 1),.int .i64 (s 2),.int .i64 (s 3),.int .i64 (s 4),.int .i64 (s 5),.int .i64 (s 6),.int .i64 (s 7),.int .i64 (s 8)] #[.int .i64 0,.int .i64 0,.int .i64 0,.int .i64 0,.int .i64 0,.int .i64 0,.int .i64 0,.int .i64 0,.int .i64 0,.int .i64 0,.slice none 0 0,.slice none 0 0,.slice none 0 0,.int .i64 0,.int .i64 0,.bool false] 24 46):=HT1.out.call ((Below.refl _ _).alloc (Nat.le_refl _) _)
  have zA:(w1.alloc (.cells #[.int .i64 0,.int .i64 0,.int .i64 0,.int .i64 0,.int .i64 0,.int .i64 0,.int .i64 0,.int .i64 0,.int .i64 0,.slice none 0 0,.slice none 0 0,.slice none 0 0,.int .i64 0,.int .i64 0,.bool false] 29)).heap.size = w1.heap.size + 1:=by simp
  obtain ⟨wA,hWA⟩:∃ x,x = w1.alloc (.cells #[.int .i64 0,.int .i64 0,.int .i64 0,.int .i64 0,.int .i64 0,.int .i64 0,.int .i64 0,.int .i64 0,.int .i64 0,.slice none 0 0,.slice none 0 0,.slice none 0 0,.int .i64 0,.int .i64 0,.bool false] 29):=⟨_,rfl⟩
  have XA:Box wA w1.heap.size #[.int .i64 0,.int .i64 0,.int .i64 0,.int .i64 0,.int .i64 0,.int .i64 0,.int .i64 0,.int .i64 0,.int .i64 0,.slice none 0 0,.slice none 0 0,.slice none 0 0,.int .i64 0,.int .i64 0,.bool false] 29:=by rw [hWA];exact box_new _ _ _
  have bA:Below w1.heap.size w1 wA:=by rw [hWA];exact (Below.refl _ _).alloc (Nat.le_refl _) _
  rw [← hWA] at HTA zA;obtain ⟨w2,hrun,sp2,b2'⟩:=run_makeT el_Tape (fun _ => zeroT) (fun _ => []) w1.drew 2 (by omega);obtain ⟨w3,hrun3,sp3,b3'⟩:=run_makeT el_Tape (fun _ => zeroT) (fun _ => []) wA.drew 2 (by omega);have hrun2:(Instr.makeSlice 27 (.int .i64 2) (.int .i64 2)).run Try.prog w1.drew = .ok (.slice (some ⟨w1.heap.size,0,none⟩) 2 2) w2:=hrun;have zD:wA.drew.heap.size = w1.heap.size + 1:=zA;rw [zD] at hrun3 sp3
  have hrun4:(Instr.makeSlice 27 (.int .i64 2) (.int .i64 2)).run Try.prog (w1.alloc (.cells #[.int .i64 0,.int .i64 0,.int .i64 0,.int .i64 0,.int .i64 0,.int .i64 0,.int .i64 0,.int .i64 0,.int .i64 0,.slice none 0 0,.slice none 0 0,.slice none 0 0,.int .i64 0,.int .i64 0,.bool false] 29)).drew = .ok (.slice (some ⟨w1.heap.size + 1,0,none⟩) 2 2) w3:=by rw [← hWA];exact hrun3
  have b2:Below w1.heap.size w1 w2:=⟨b2'.os,b2'.tape,b2'.output,b2'.size,b2'.block⟩;have b3:Below wA.heap.size wA w3:=⟨b3'.os,b3'.tape,b3'.output,b3'.size,b3'.block⟩;have O2:=sp2.two;have O3:=sp3.two;obtain ⟨q0,q1,q2,q3,q4,q5,q6,q7,q8⟩:=box9 (HT1.out.call b2).b1;obtain ⟨p0,p1,p2,p3,p4,p5,p6,p7,p8⟩:=box9 HTA.out.b1;obtain ⟨v0,v1,v2,v3,v4,v5,v6,v7,v8⟩:=box9 ((HT1.out.call b2).call ((Below.refl _ _).alloc (Nat.le_refl _) (.cells #[.int .i64 0,.int .i64 0,.int .i64 0,.int .i64 0,.int .i64 0,.int .i64 0,.int .i64 0,.int .i64 0,.int .i64 0,.slice none 0 0,.slice none 0 0,.slice none 0 0,.int .i64 0,.int .i64 0,.bool false] 29))).b1;obtain ⟨t0,t1,t2,t3,t4,t5,t6,t7,t8⟩:=box9 (HTA.out.call b3).b1;have X3:=XA.call b3;have y3_0:w3.cell? ⟨w1.heap.size,0,none⟩ = some (.int .i64 0):=X3.cell 0;have y3f_0:w3.frozen? ⟨w1.heap.size,0,none⟩ = false:=X3.frozen 0;have y3_1:w3.cell? ⟨w1.heap.size,1,none⟩ = some (.int .i64 0):=X3.cell 1;have y3f_1:w3.frozen? ⟨w1.heap.size,1,none⟩ = false:=X3.frozen 1;have y3_2:w3.cell? ⟨w1.heap.size,2,none⟩ = some (.int .i64 0):=X3.cell 2;have y3f_2:w3.frozen? ⟨w1.heap.size,2,none⟩ = false:=X3.frozen 2;have y3_3:w3.cell? ⟨w1.heap.size,3,none⟩ = some (.int .i64 0):=X3.cell 3;have y3f_3:w3.frozen? ⟨w1.heap.size,3,none⟩ = false:=X3.frozen 3;have y3_4:w3.cell? ⟨w1.heap.size,4,none⟩ = some (.int .i64 0):=X3.cell 4;have y3f_4:w3.frozen? ⟨w1.heap.size,4,none⟩ = false:=X3.frozen 4;have y3_5:w3.cell? ⟨w1.heap.size,5,none⟩ = some (.int .i64 0):=X3.cell 5;have y3f_5:w3.frozen? ⟨w1.heap.size,5,none⟩ = false:=X3.frozen 5;have y3_6:w3.cell? ⟨w1.heap.size,6,none⟩ = some (.int .i64 0):=X3.cell 6;have y3f_6:w3.frozen? ⟨w1.heap.size,6,none⟩ = false:=X3.frozen 6;have y3_7:w3.cell? ⟨w1.heap.size,7,none⟩ = some (.int .i64 0):=X3.cell 7;have y3f_7:w3.frozen? ⟨w1.heap.size,7,none⟩ = false:=X3.frozen 7;have y3_8:w3.cell? ⟨w1.heap.size,8,none⟩ = some (.int .i64 0):=X3.cell 8;have y3f_8:w3.frozen? ⟨w1.heap.size,8,none⟩ = false:=X3.frozen 8;have y3_9:w3.cell? ⟨w1.heap.size,9,none⟩ = some (.slice none 0 0):=X3.cell 9;have y3f_9:w3.frozen? ⟨w1.heap.size,9,none⟩ = false:=X3.frozen 9;have y3_10:w3.cell? ⟨w1.heap.size,10,none⟩ = some (.slice none 0 0):=X3.cell 10;have y3f_10:w3.frozen? ⟨w1.heap.size,10,none⟩ = false:=X3.frozen 10;have y3_11:w3.cell? ⟨w1.heap.size,11,none⟩ = some (.slice none 0 0):=X3.cell 11;have y3f_11:w3.frozen? ⟨w1.heap.size,11,none⟩ = false:=X3.frozen 11;have y3_12:w3.cell? ⟨w1.heap.size,12,none⟩ = some (.int .i64 0):=X3.cell 12;have y3f_12:w3.frozen? ⟨w1.heap.size,12,none⟩ = false:=X3.frozen 12;have y3_13:w3.cell? ⟨w1.heap.size,13,none⟩ = some (.int .i64 0):=X3.cell 13;have y3f_13:w3.frozen? ⟨w1.heap.size,13,none⟩ = false:=X3.frozen 13;have y3_14:w3.cell? ⟨w1.heap.size,14,none⟩ = some (.bool false):=X3.cell 14
  have y3f_14:w3.frozen? ⟨w1.heap.size,14,none⟩ = false:=X3.frozen 14;rw [hWA] at p0 p1 p2 p3 p4 p5 p6 p7 p8;have HX3:Hid (Box w3 w1.heap.size #[.int .i64 0,.int .i64 0,.int .i64 0,.int .i64 0,.int .i64 0,.int .i64 0,.int .i64 0,.int .i64 0,.int .i64 0,.slice none 0 0,.slice none 0 0,.slice none 0 0,.int .i64 0,.int .i64 0,.bool false] 29):=X3;have HO2:Hid ((layTape.slice 88).own w2 (2,fun _ => zeroT) [.slice (some ⟨w1.heap.size,0,none⟩) 2 2] [w1.heap.size]):=O2;have HO3:Hid ((layTape.slice 88).own w3 (2,fun _ => zeroT) [.slice (some ⟨w1.heap.size + 1,0,none⟩) 2 2] [w1.heap.size + 1]):=O3;have HB2:Hid (Below w1.heap.size w1 w2):=b2;have HB3:Hid (Below w1.heap.size w1 w3):=bA.trans (b3.mono bA.size);have z2:w1.heap.size < w2.heap.size:=sp2.lt;clear O2 O3 b2 b3 b2' b3' sp2 sp3 hrun hrun3 XA X3 HTA zA zD bA
  go_upto_region 4 with fail
  go_cut [4] (fun v wx => ∃ P t,v = .pointer (some ⟨P,0,none⟩) ∧ NewBx #[.int .i64 (s 0),.int .i64 (s 1),.int .i64 (s 2),.int .i64 (s 3),.int .i64 (s 4),.int .i64 (s 5),.int .i64 (s 6),.int .i64 (s 7),.int .i64 (s 8),.slice none 0 0,.slice none 0 0,.slice (some ⟨t,0,none⟩) 2 2,.int .i64 0,.int .i64 (-1),.bool false] w1 wx P t)
  case first =>
    go_region
    all_goals
      go_wp2
      go_meet
      first
        | (refine ⟨w2.heap.size,w1.heap.size,rfl,?_⟩;exact newBx_A HO2.out HB2.out (by omega))
        | (refine ⟨w1.heap.size,w1.heap.size + 1,rfl,?_⟩;exact newBx_B HX3.out HO3.out HB3.out)
  case rest =>
    obtain ⟨P,t,rfl,NB⟩:=hcut;obtain ⟨w5,rfl⟩:∃ x,x = wc:=⟨_,rfl⟩;have HN5:Hid (NewBx #[.int .i64 (s 0),.int .i64 (s 1),.int .i64 (s 2),.int .i64 (s 3),.int .i64 (s 4),.int .i64 (s 5),.int .i64 (s 6),.int .i64 (s 7),.int .i64 (s 8),.slice none 0 0,.slice none 0 0,.slice (some ⟨t,0,none⟩) 2 2,.int .i64 0,.int .i64 (-1),.bool false] w1 w5 P t):=NB;have HT5:Hid (Two w w5 #[.int .i64 (s 0),.int .i64 (s 1),.int .i64 (s 2),.int .i64 (s 3),.int .i64 (s 4),.int .i64 (s 5),.int .i64 (s 6),.int .i64 (s 7),.int .i64 (s 8)] #[.int .i64 0,.int .i64 0,.int .i64 0,.int .i64 0,.int .i64 0,.int .i64 0,.int .i64 0,.int .i64 0,.int .i64 0,.int .i64 0,.slice none 0 0,.slice none 0 0,.slice none 0 0,.int .i64 0,.int .i64 0,.bool false] 24 46):=HT1.out.call NB.bel;have zP:w1.heap.size ≤ P:=NB.p1;have zt:t < w5.heap.size:=(layTape.slice 88).own_lt NB.tp t (by simp);have zP5:P < w5.heap.size:=NB.box.lt;have z5:w1.heap.size ≤ w5.heap.size:=NB.bel.size;clear x1_0 x1_1 x1_2 x1_3 x1_4 x1_5 x1_6 x1_7 x1_8 hrun2 hrun4 q0 q1 q2 q3 q4 q5 q6 q7 q8 p0 p1 p2 p3 p4 p5 p6 p7 p8 t0 t1 t2 t3 t4 t5 t6 t7 t8 v0 v1 v2 v3 v4 v5 v6 v7 v8 y3_0 y3f_0 y3_1 y3f_1 y3_2 y3f_2 y3_3 y3f_3 y3_4 y3f_4 y3_5 y3f_5 y3_6 y3f_6 y3_7 y3f_7 y3_8 y3f_8 y3_9 y3f_9 y3_10 y3f_10 y3_11 y3f_11 y3_12 y3f_12 y3_13 y3f_13 y3_14 y3f_14 HX3 HO2 HO3 HB2 HB3 z2 hWA NB;obtain ⟨R,hRr⟩:∃ R,R = (s 4).toNat:=⟨_,rfl⟩;rw [← hRr] at CF;have HRr:Hid (R = (s 4).toNat):=hRr;clear hRr;go_wp2
    go_loopw [5] (fun i wr => ∃ (g:Nat) (ao:Option Addr) (cap:Nat),g ≤ G ∧ i = .int .i64 g ∧ Box wr P #[.int .i64 (s 0),.int .i64 (s 1),.int .i64 (s 2),.int .i64 (s 3),.int .i64 (s 4),.int .i64 (s 5),.int .i64 (s 6),.int .i64 (s 7),.int .i64 (s 8),.slice ao g cap,.slice none 0 0,.slice (some ⟨t,0,none⟩) 2 2,.int .i64 0,.int .i64 (-1),.bool false] 29 ∧ Gat (layDrive.slice 58) 55 wr w5.heap.size (.slice ao g cap) g (fun _ => (D,fun _ => freshD R)) ∧ ChgL [P] w5 wr) (fun i _ => G - (intOf i).toNat)
    case atStart => exact ⟨0,none,0,Nat.zero_le _,rfl,HN5.out.box,Gat.nil _ _ _,ChgL.refl _ _⟩
    case round =>
      obtain ⟨g,ao,cap,hg,rfl,X6,G6,C6⟩:=hrel;obtain ⟨wo,rfl⟩:∃ x,x = wr:=⟨_,rfl⟩;have T6:Two w wo #[.int .i64 (s 0),.int .i64 (s 1),.int .i64 (s 2),.int .i64 (s 3),.int .i64 (s 4),.int .i64 (s 5),.int .i64 (s 6),.int .i64 (s 7),.int .i64 (s 8)] #[.int .i64 0,.int .i64 0,.int .i64 0,.int .i64 0,.int .i64 0,.int .i64 0,.int .i64 0,.int .i64 0,.int .i64 0,.int .i64 0,.slice none 0 0,.slice none 0 0,.slice none 0 0,.int .i64 0,.int .i64 0,.bool false] 24 46:=HT5.out.chgl C6 (by omega);have HT6:Hid (Two w wo #[.int .i64 (s 0),.int .i64 (s 1),.int .i64 (s 2),.int .i64 (s 3),.int .i64 (s 4),.int .i64 (s 5),.int .i64 (s 6),.int .i64 (s 7),.int .i64 (s 8)] #[.int .i64 0,.int .i64 0,.int .i64 0,.int .i64 0,.int .i64 0,.int .i64 0,.int .i64 0,.int .i64 0,.int .i64 0,.int .i64 0,.slice none 0 0,.slice none 0 0,.slice none 0 0,.int .i64 0,.int .i64 0,.bool false] 24 46):=T6;have HX6:Hid (Box wo P #[.int .i64 (s 0),.int .i64 (s 1),.int .i64 (s 2),.int .i64 (s 3),.int .i64 (s 4),.int .i64 (s 5),.int .i64 (s 6),.int .i64 (s 7),.int .i64 (s 8),.slice ao g cap,.slice none 0 0,.slice (some ⟨t,0,none⟩) 2 2,.int .i64 0,.int .i64 (-1),.bool false] 29):=X6;have HG6:Hid (Gat (layDrive.slice 58) 55 wo w5.heap.size (.slice ao g cap) g (fun _ => (D,fun _ => freshD R))):=G6;have HC6:Hid (ChgL [P] w5 wo):=C6;have z6:w5.heap.size ≤ wo.heap.size:=C6.size;obtain ⟨x0,x1,x2,x3,x4,x5,x6,x7,x8⟩:=box9 T6.b1;clear T6 X6 G6 C6
      go_wp2_with fail
      refine (CA _).mono ?_;rintro e wa ⟨rfl,ba⟩;have HBA:Hid (Below wo.heap.size wo wa):=ba;have HTA:Hid (Two w wa #[.int .i64 (s 0),.int .i64 (s 1),.int .i64 (s 2),.int .i64 (s 3),.int .i64 (s 4),.int .i64 (s 5),.int .i64 (s 6),.int .i64 (s 7),.int .i64 (s 8)] #[.int .i64 0,.int .i64 0,.int .i64 0,.int .i64 0,.int .i64 0,.int .i64 0,.int .i64 0,.int .i64 0,.int .i64 0,.int .i64 0,.slice none 0 0,.slice none 0 0,.slice none 0 0,.int .i64 0,.int .i64 0,.bool false] 24 46):=HT6.out.call ba;have za:wo.heap.size ≤ wa.heap.size:=ba.size;clear ba x0 x1 x2 x3 x4 x5 x6 x7 x8
      by_cases hlt:g < G
      · have hd:decide ((g:Int) < (G:Int)) = true:=decide_eq_true (by omega)
        go_wp2
        go_loopw [6,7] (fun v i wx => ∃ (k:Nat) (ao':Option Addr) (cap':Nat),k ≤ D ∧ i = .int .i64 k ∧ v = .slice ao' k cap' ∧ Gat layDrive 58 wx wa.heap.size (.slice ao' k cap') k (fun _ => freshD R) ∧ Below wa.heap.size wa wx) (fun _ i _ => D - (intOf i).toNat)
        case atStart => exact ⟨0,_,_,Nat.zero_le _,rfl,rfl,gat_lit0 _ _,(Below.refl _ _).alloc (Nat.le_refl _) _⟩
        case round =>
          obtain ⟨k,ao',cap',hk,rfl,rfl,G7,B7⟩:=hrel;obtain ⟨wx,rfl⟩:∃ x,x = wr:=⟨_,rfl⟩;have T7:=HTA.out.call B7;have HG7:Hid (Gat layDrive 58 wx wa.heap.size (.slice ao' k cap') k (fun _ => freshD R)):=G7;have HB7:Hid (Below wa.heap.size wa wx):=B7;have zx:wa.heap.size ≤ wx.heap.size:=B7.size;obtain ⟨x0,x1,x2,x3,x4,x5,x6,x7,x8⟩:=box9 T7.b1;clear T7 G7 B7
          go_wp2_with fail
          refine (CD _).mono ?_;rintro e wb ⟨rfl,bb⟩;have HBB:Hid (Below wx.heap.size wx wb):=bb;have T8:=(HTA.out.call HB7.out).call bb;have zb:wx.heap.size ≤ wb.heap.size:=bb.size;clear bb x0 x1 x2 x3 x4 x5 x6 x7 x8
          by_cases hlk:k < D
          · have hd2:decide ((k:Int) < (D:Int)) = true:=decide_eq_true (by omega)
            obtain ⟨x0,x1,x2,x3,x4,x5,x6,x7,x8⟩:=box9 T8.b1;clear T8
            go_wp2_with fail
            refine (CF _).mono ?_;rintro e wf ⟨cf,rfl,of,bf⟩;obtain ⟨fo,fc,rfl⟩:=Drive_cells of;clear x0 x1 x2 x3 x4 x5 x6 x7 x8
            go_wp2_with (at_builtin;refine wp_appendN el_Drive rfl (.tmp 30) (.tmp 33) rfl (lo:=wa.heap.size) (n:=k) (v:=.slice ao' k cap') (x:=fun _ => freshD R) ?_ (HG7.out.below HBB.out) bf of ?_ wf.heap.size 1 ?_ (fun j _ => cells_new wf _ _ j) (by omega) (by omega) ?_;(simp [Act.eval]);(exact (Below.refl _ _).alloc (Nat.le_refl _) _);(simp [Act.eval]);intro v4 w4 g4 b4;obtain ⟨ao4,cap4,rfl⟩:=g4.form)
            go_roundw
            case rel => exact ⟨k + 1,ao4,cap4,by omega,by go_num,rfl,g4.congr (fun i _ => by rw [show upd (fun _ => freshD R) k (freshD R) = fun _ => freshD R from upd_self (fun _ => freshD R) k]),(HB7.out.trans (HBB.out.mono zx)).trans b4⟩
            case measure => simp [intOf];omega
          · obtain rfl:k = D:=by omega
            have hd2:decide ((k:Int) < (k:Int)) = false:=decide_eq_false (by omega);have c9:wb.cell? ⟨P,9,none⟩ = some (.slice ao g cap):=(((HX6.out.call HBA.out).call HB7.out).call HBB.out).cell 9;have OD:OwnT (layDrive.slice 58) wb wo.heap.size wb.heap.size (k,fun _ => freshD R) [.slice ao' k cap']:=(HG7.out.below HBB.out).own.weaken za (Nat.le_refl _);have HOD:Hid (OwnT (layDrive.slice 58) wb wo.heap.size wb.heap.size (k,fun _ => freshD R) [.slice ao' k cap']):=OD;have HBO:Hid (Below wo.heap.size wo wb):=(HBA.out.trans (HB7.out.mono za)).trans (HBB.out.mono (by omega));clear T8 OD;have c9':=(cell_alloc_old wb (.cells #[.slice ao' k cap'] 55) P 9 (by omega)).trans c9
            go_wp2_with (at_builtin;refine wp_appendN el_DriveS rfl (.tmp 36) (.tmp 38) rfl (lo:=w5.heap.size) (n:=g) (v:=.slice ao g cap) (x:=fun _ => (k,fun _ => freshD R)) ?_ HG6.out HBO.out HOD.out ?_ wb.heap.size 1 ?_ (fun j _ => cells_new wb _ _ j) (by omega) (by omega) ?_;(simp [Act.eval]);(exact (Below.refl _ _).alloc (Nat.le_refl _) _);(simp [Act.eval]);intro v4 w4 g4 b4;obtain ⟨ao4,cap4,rfl⟩:=g4.form;have X9:=HX6.out.below b4 zP5;have d9:w4.cell? ⟨P,9,none⟩ = some (.slice ao g cap):=X9.cell 9;have d9f:w4.frozen? ⟨P,9,none⟩ = false:=X9.frozen 9)
            go_roundw
            case rel => exact ⟨g + 1,ao4,cap4,by omega,by go_num,X9.setc 9 (.slice ao4 (g + 1) cap4),(g4.set _ _ _ zP5).congr (fun i _ => by rw [show upd (fun _ => (k,fun _ => freshD R)) g (k,fun _ => freshD R) = fun _ => (k,fun _ => freshD R) from upd_self (fun _ => (k,fun _ => freshD R)) g]),(HC6.out.after b4).st P 9 _ (by simp)⟩
            case measure => simp [intOf];omega
      · obtain rfl:g = G:=by omega
        have hd:decide ((g:Int) < (g:Int)) = false:=decide_eq_false (by omega);have XA:=HX6.out.call HBA.out;have TA:=HTA.out;have y_0:wa.cell? ⟨P,0,none⟩ = some (.int .i64 (s 0)):=XA.cell 0;have y_1:wa.cell? ⟨P,1,none⟩ = some (.int .i64 (s 1)):=XA.cell 1;have y_2:wa.cell? ⟨P,2,none⟩ = some (.int .i64 (s 2)):=XA.cell 2;have y_3:wa.cell? ⟨P,3,none⟩ = some (.int .i64 (s 3)):=XA.cell 3;have y_4:wa.cell? ⟨P,4,none⟩ = some (.int .i64 (s 4)):=XA.cell 4;have y_5:wa.cell? ⟨P,5,none⟩ = some (.int .i64 (s 5)):=XA.cell 5;have y_6:wa.cell? ⟨P,6,none⟩ = some (.int .i64 (s 6)):=XA.cell 6;have y_7:wa.cell? ⟨P,7,none⟩ = some (.int .i64 (s 7)):=XA.cell 7;have y_8:wa.cell? ⟨P,8,none⟩ = some (.int .i64 (s 8)):=XA.cell 8;have y_9:wa.cell? ⟨P,9,none⟩ = some (.slice ao g cap):=XA.cell 9;have y_10:wa.cell? ⟨P,10,none⟩ = some (.slice none 0 0):=XA.cell 10;have y_11:wa.cell? ⟨P,11,none⟩ = some (.slice (some ⟨t,0,none⟩) 2 2):=XA.cell 11;have y_12:wa.cell? ⟨P,12,none⟩ = some (.int .i64 0):=XA.cell 12;have y_13:wa.cell? ⟨P,13,none⟩ = some (.int .i64 (-1)):=XA.cell 13;have y_14:wa.cell? ⟨P,14,none⟩ = some (.bool false):=XA.cell 14;have r_0:wa.cell? ⟨w.heap.size + 1,0,none⟩ = some (.int .i64 0):=TA.b2.cell 0;have rf_0:wa.frozen? ⟨w.heap.size + 1,0,none⟩ = false:=TA.b2.frozen 0;have r_1:wa.cell? ⟨w.heap.size + 1,1,none⟩ = some (.int .i64 0):=TA.b2.cell 1;have rf_1:wa.frozen? ⟨w.heap.size + 1,1,none⟩ = false:=TA.b2.frozen 1;have r_2:wa.cell? ⟨w.heap.size + 1,2,none⟩ = some (.int .i64 0):=TA.b2.cell 2;have rf_2:wa.frozen? ⟨w.heap.size + 1,2,none⟩ = false:=TA.b2.frozen 2;have r_3:wa.cell? ⟨w.heap.size + 1,3,none⟩ = some (.int .i64 0):=TA.b2.cell 3;have rf_3:wa.frozen? ⟨w.heap.size + 1,3,none⟩ = false:=TA.b2.frozen 3;have r_4:wa.cell? ⟨w.heap.size + 1,4,none⟩ = some (.int .i64 0):=TA.b2.cell 4;have rf_4:wa.frozen? ⟨w.heap.size + 1,4,none⟩ = false:=TA.b2.frozen 4;have r_5:wa.cell? ⟨w.heap.size + 1,5,none⟩ = some (.int .i64 0):=TA.b2.cell 5;have rf_5:wa.frozen? ⟨w.heap.size + 1,5,none⟩ = false:=TA.b2.frozen 5;have r_6:wa.cell? ⟨w.heap.size + 1,6,none⟩ = some (.int .i64 0):=TA.b2.cell 6;have rf_6:wa.frozen? ⟨w.heap.size + 1,6,none⟩ = false:=TA.b2.frozen 6;have r_7:wa.cell? ⟨w.heap.size + 1,7,none⟩ = some (.int .i64 0):=TA.b2.cell 7;have rf_7:wa.frozen? ⟨w.heap.size + 1,7,none⟩ = false:=TA.b2.frozen 7;have r_8:wa.cell? ⟨w.heap.size + 1,8,none⟩ = some (.int .i64 0):=TA.b2.cell 8;have rf_8:wa.frozen? ⟨w.heap.size + 1,8,none⟩ = false:=TA.b2.frozen 8;have r_9:wa.cell? ⟨w.heap.size + 1,9,none⟩ = some (.int .i64 0):=TA.b2.cell 9;have rf_9:wa.frozen? ⟨w.heap.size + 1,9,none⟩ = false:=TA.b2.frozen 9;have r_10:wa.cell? ⟨w.heap.size + 1,10,none⟩ = some (.slice none 0 0):=TA.b2.cell 10;have rf_10:wa.frozen? ⟨w.heap.size + 1,10,none⟩ = false:=TA.b2.frozen 10;have r_11:wa.cell? ⟨w.heap.size + 1,11,none⟩ = some (.slice none 0 0):=TA.b2.cell 11
        have rf_11:wa.frozen? ⟨w.heap.size + 1,11,none⟩ = false:=TA.b2.frozen 11;have r_12:wa.cell? ⟨w.heap.size + 1,12,none⟩ = some (.slice none 0 0):=TA.b2.cell 12;have rf_12:wa.frozen? ⟨w.heap.size + 1,12,none⟩ = false:=TA.b2.frozen 12;have r_13:wa.cell? ⟨w.heap.size + 1,13,none⟩ = some (.int .i64 0):=TA.b2.cell 13;have rf_13:wa.frozen? ⟨w.heap.size + 1,13,none⟩ = false:=TA.b2.frozen 13;have r_14:wa.cell? ⟨w.heap.size + 1,14,none⟩ = some (.int .i64 0):=TA.b2.cell 14;have rf_14:wa.frozen? ⟨w.heap.size + 1,14,none⟩ = false:=TA.b2.frozen 14;have r_15:wa.cell? ⟨w.heap.size + 1,15,none⟩ = some (.bool false):=TA.b2.cell 15;have rf_15:wa.frozen? ⟨w.heap.size + 1,15,none⟩ = false:=TA.b2.frozen 15;clear XA TA;go_wp2;refine bodyPost_ret (v:=.agg #[.int .i64 0,.int .i64 (s 0),.int .i64 (s 1),.int .i64 (s 2),.int .i64 (s 3),.int .i64 (s 4),.int .i64 (s 5),.int .i64 (s 6),.int .i64 (s 7),.int .i64 (s 8),.slice ao g cap,.slice none 0 0,.slice (some ⟨t,0,none⟩) 2 2,.int .i64 0,.int .i64 (-1),.bool false]) (by simp [results,Try.results11,go_sem,r_0,r_1,r_2,r_3,r_4,r_5,r_6,r_7,r_8,r_9,r_10,r_11,r_12,r_13,r_14,r_15,y_0,y_1,y_2,y_3,y_4,y_5,y_6,y_7,y_8,y_9,y_10,y_11,y_12,y_13,y_14]) rfl ?_;refine ⟨⟨0,newW s⟩,[.int .i64 0,.int .i64 (s 0),.int .i64 (s 1),.int .i64 (s 2),.int .i64 (s 3),.int .i64 (s 4),.int .i64 (s 5),.int .i64 (s 6),.int .i64 (s 7),.int .i64 (s 8),.slice ao g cap,.slice none 0 0,.slice (some ⟨t,0,none⟩) 2 2,.int .i64 0,.int .i64 (-1),.bool false],rfl,.inr ⟨HOK.out,rfl⟩,?_,?_⟩
        · have F:=own_newW HS.out (show (s 0 + s 1).toNat = g by have:=HG.out;omega) (show (s 2 + s 3).toNat = D by have:=HD.out;omega) HRr.out.symm (HG6.out.below HBA.out).own ((layTape.slice 88).own_kept ((layTape.slice 88).own_kept HN5.out.tp (fun b hb => HC6.out.block b (by simp at hb;omega) (by have:=HN5.out.ne;simp at hb ⊢;omega))) (fun b hb => HBA.out.block b (by simp at hb;omega))) zt (show w.heap.size + 1 + 1 ≤ t by have:=HN5.out.t1;omega) (by omega)
          exact OwnT.finb (own_resOf 0 (by decide) F) (b:=w.heap.size + 1) (by omega) (by omega) 0 [.int .i64 0,.int .i64 (s 0),.int .i64 (s 1),.int .i64 (s 2),.int .i64 (s 3),.int .i64 (s 4),.int .i64 (s 5),.int .i64 (s 6),.int .i64 (s 7),.int .i64 (s 8),.slice ao g cap,.slice none 0 0,.slice (some ⟨t,0,none⟩) 2 2,.int .i64 0,.int .i64 (-1),.bool false] _ rfl
        · exact HTA.out.bel.trans (stN_below (by omega) [.int .i64 0,.int .i64 (s 0),.int .i64 (s 1),.int .i64 (s 2),.int .i64 (s 3),.int .i64 (s 4),.int .i64 (s 5),.int .i64 (s 6),.int .i64 (s 7),.int .i64 (s 8),.slice ao g cap,.slice none 0 0,.slice (some ⟨t,0,none⟩) 2 2,.int .i64 0,.int .i64 (-1),.bool false] 0)
theorem specNew_any (s:Nat → Int) (hs:∀ i,-9223372036854775808 ≤ s i ∧ s i ≤ 9223372036854775807) (w:World):Calls Try.prog 11 #[shapeV s] w (ResPost (NewAns s) w):=by
  by_cases h:OkShape s
  · exact specNew_ok s h hs w
  · exact specNew_bad s h hs w
end Go.Proofs.Ytcepcjkfdonclaa
namespace Go.Proofs.Ytcepcjkfdonclaa
open Go.RowKit F256
theorem SlP.cellz {α:Type} {E:Lay α} {t:TypeId} {w w':World} {lo g cap n k i:Nat} {x:Nat → α} {ce:Nat → List Value} {Ls:Nat → List Nat} {zs:List Value} (h:SlP E t w lo g cap n k x ce Ls) (hb:Below w.heap.size w w') (hi:i < n) {j:Nat} (hj:j < E.sz) (hz:ce i = zs):w'.cell? ⟨g,i * E.sz + j,none⟩ = zs[j]?:=by
  rw [← hz];exact (h.below hb).cell hi hj
theorem blank_of {w:World} {lo hi:Nat} {ao:Option Addr} {cap:Nat} (h:OwnT layBytes w lo hi (4,fun _ => 0) [.slice ao 4 cap]):OwnT layBlock w lo hi blankB [.int .i64 0,.slice ao 4 cap] :=
  OwnT.conv (OwnT.pre (A:=layI) (a:=0) (c:=[.int .i64 0]) ⟨rfl,by omega,rfl⟩ h)
set_option maxHeartbeats 8000000 in
set_option maxRecDepth 20000 in
theorem emptyBlocks_any (R:Nat) (hR:R ≤ 1000) (w:World):Calls Try.prog 28 #[.int .i64 R] w fun e w' => ∃ v,e = .returned v ∧ OwnT (layBlock.slice 68) w' w.heap.size w'.heap.size (R,fun _ => blankB) [v] ∧ Below w.heap.size w w':=by
  go_enter Try.func28,Try.ntmps28
  go_wp2_with (at_make;refine wp_makeT layBlock [.int .i64 0,.slice none 0 0] _ 68 32 el_Block.hs rfl Try.underlying56 el_Block.hi (fun _ => blankB) (fun _ => []) _ rfl _ _ rfl _ _ R rfl rfl rfl rfl (by omega) (by unfold maxLen;omega) ?_;intro w1 sp1 hb1)
  go_loopw [9] (fun i wr => ∃ k:Nat,k ≤ R ∧ i = .int .i64 k ∧ ∃ ce Ls,SlP layBlock 68 wr w.heap.size w.heap.size R R k (fun _ => blankB) ce Ls ∧ (∀ i,k ≤ i → ce i = [.int .i64 0,.slice none 0 0]) ∧ Below w.heap.size w wr) (fun i _ => R - (intOf i).toNat)
  case atStart => exact ⟨0,Nat.zero_le _,rfl,_,_,sp1,fun _ _ => rfl,hb1⟩
  case round =>
    clear sp1 hb1;obtain ⟨k,hk,rfl,ce,Ls,sp,hce,hb⟩:=hrel;obtain ⟨wo,rfl⟩:∃ x,x = wr:=⟨_,rfl⟩;have HSP:Hid (SlP layBlock 68 wo w.heap.size w.heap.size R R k (fun _ => blankB) ce Ls):=sp;have HCE:Hid (∀ i,k ≤ i → ce i = [.int .i64 0,.slice none 0 0]):=hce;have HB:Hid (Below w.heap.size w wo):=hb;have hz:w.heap.size ≤ wo.heap.size:=hb.size;clear sp hce hb
    by_cases hlt:k < R
    · go_wp2_with (at_make;refine wp_makeB _ rfl _ _ rfl _ _ 4 rfl rfl rfl rfl (by omega) ?_;intro w2 o2 b2 l2;have c1:w2.cell? ⟨w.heap.size,k * 2 + 1,none⟩ = some (.slice none 0 0):=HSP.out.cellz b2 hlt (j:=1) (by decide) (HCE.out k (Nat.le_refl _));have f1:w2.frozen? ⟨w.heap.size,k * 2 + 1,none⟩ = false:=(HSP.out.below b2).frozen _)
      obtain ⟨ce',Ls',sp3,h3⟩:=HSP.out.fill b2 hlt (j:=1) (by decide) (.slice (some ⟨wo.heap.size,0,none⟩) 4 4) (a:=blankB) (cs:=[.int .i64 0,.slice (some ⟨wo.heap.size,0,none⟩) 4 4]) (by rw [HCE.out k (Nat.le_refl _)];rfl) (blank_of (ownB_T o2 (Nat.le_refl _) (fun _ => by decide))) hz
      go_roundw
      case rel => exact ⟨k + 1,by omega,by go_num,ce',Ls',sp3.congr (fun i _ => by rw [show upd (fun _ => blankB) k blankB = fun _ => blankB from upd_self (fun _ => blankB) k]),fun i hi => by rw [h3 i (by omega)];exact HCE.out i (by omega),(HB.out.trans (b2.mono hz)).setCell (Nat.le_refl _) _⟩
      case measure => simp [intOf];omega
    · obtain rfl:k = R:=by omega
      go_wp2;go_ret;exact ⟨_,rfl,HSP.out.done (Nat.le_refl _),HB.out⟩
end Go.Proofs.Ytcepcjkfdonclaa
namespace Go.Proofs.Ytcepcjkfdonclaa
open Go.RowKit F256
theorem SlP.keep {α:Type} {E:Lay α} {t:TypeId} {w w':World} {lo g cap n k:Nat} {x:Nat → α} {ce:Nat → List Value} {Ls:Nat → List Nat} (h:SlP E t w lo g cap n k x ce Ls) (hg:w'.heap[g]? = w.heap[g]?) (hk:∀ b,b ∈ catN k Ls → w'.heap[b]? = w.heap[b]?):SlP E t w' lo g cap n k x ce Ls:=by
  refine ⟨⟨h.row.1,?_⟩,h.lens,fun i hi => E.own_kept (h.each i hi) (fun b hb' => hk b (mem_catN.2 ⟨i,hi,hb'⟩)),h.nd,h.low⟩
  rcases h.row.2 with ⟨hn,_⟩ | ⟨g',cap',cur,he,hbg,hgg,rest⟩
  · cases hn
  · cases he
    exact .inr ⟨g,cap,cur,rfl,hbg,hg.trans hgg,rest⟩
theorem one_cell {w:World} {g k:Nat} {v:Option Value} (h:w.cell? ⟨g,k * 1 + 0,none⟩ = v):w.cell? ⟨g,k,none⟩ = v:=by rwa [Nat.mul_one,Nat.add_zero] at h
theorem Two.low {w wc:World} {c1 c2:Array Value} {t1 t2:TypeId} (h:Two w wc c1 c2 t1 t2) {b:Nat} (hb:w.heap.size + 1 < b) (j:Nat) (u:Value):Two w (wc.setCell ⟨b,j,none⟩ u) c1 c2 t1 t2:=⟨h.b1.seto j u (by omega),h.b2.seto j u (by omega),h.bel.setCell (by show w.heap.size ≤ b;omega) _⟩
theorem Two.far {w wc w':World} {c1 c2:Array Value} {t1 t2:TypeId} (h:Two w wc c1 c2 t1 t2) {B:Nat} (hb:Below B wc w') (hB:w.heap.size + 1 < B):Two w w' c1 c2 t1 t2:=⟨h.b1.below hb (by omega),h.b2.below hb (by omega),h.bel.trans (hb.mono (by omega))⟩
theorem one_off (k:Nat):k * (layDrive.slice 58).sz + 0 = k:=by show k * 1 + 0 = k;omega
theorem drive_of {w:World} {lo hi R cap:Nat} {ao:Option Addr} (h:OwnT (layBlock.slice 68) w lo hi (R,fun _ => blankB) [.slice ao R cap]):OwnT layDrive w lo hi (freshD R) [.bool false,.slice ao R cap] :=
  OwnT.conv (OwnT.pre (A:=layB) (a:=false) (c:=[.bool false]) ⟨rfl,trivial,rfl⟩ h)
theorem own_newW2 {s:Nat → Int} (hs:∀ i,-9223372036854775808 ≤ s i ∧ s i ≤ 9223372036854775807) {w:World} {g D R lo hi lt t cap:Nat} {ao:Option Addr} (hg:(s 0 + s 1).toNat = g) (hD:(s 2 + s 3).toNat = D) (hR:(s 4).toNat = R)
    (h1:OwnT ((layDrive.slice 58).slice 55) w lo hi (g,fun _ => (D,fun _ => freshD R)) [.slice ao g cap]) (h3:(layTape.slice 88).own w (2,fun _ => zeroT) [.slice (some ⟨t,0,none⟩) 2 2] [t]) (hlt:hi ≤ t) (ht:lt ≤ lo) (hlo:lo ≤ t) :
    OwnT layWorld w lt w.heap.size (newW s) [.int .i64 (s 0),.int .i64 (s 1),.int .i64 (s 2),.int .i64 (s 3),.int .i64 (s 4),.int .i64 (s 5),.int .i64 (s 6),.int .i64 (s 7),.int .i64 (s 8),.slice ao g cap,.slice none 0 0,.slice (some ⟨t,0,none⟩) 2 2,.int .i64 0,.int .i64 (-1),.bool false]:=by
  subst hg hD hR;obtain ⟨K,a1,a2,a3⟩:=h1;have hw:=(layTape.slice 88).own_lt h3 t (by simp);refine ⟨K ++ ([] ++ ([t] ++ [])),World_mk (newW s) a1 (own_noInts w _ (fun _ => show (-9223372036854775808:Int) ≤ 0 ∧ (0:Int) ≤ 9223372036854775807 by decide)) h3 hs (show (-9223372036854775808:Int) ≤ 0 ∧ (0:Int) ≤ 9223372036854775807 by decide) (show (-9223372036854775808:Int) ≤ -1 ∧ (-1:Int) ≤ 9223372036854775807 by decide),?_,?_⟩
  · simp only [List.nil_append,List.append_nil]
    refine List.nodup_append.2 ⟨a2,by simp,fun b hb c hc hh => ?_⟩;have:=(a3 b hb).2
    simp at hc
    omega
  · intro b hb
    simp only [List.nil_append,List.append_nil] at hb
    rcases List.mem_append.1 hb with h | h
    · have:=a3 b h;omega
    · simp at h;omega
set_option maxHeartbeats 16000000 in
set_option maxRecDepth 20000 in
theorem implNew_any (s:Nat → Int) (hs:∀ i,-9223372036854775808 ≤ s i ∧ s i ≤ 9223372036854775807) (w:World) :
    Calls Try.prog 14 #[shapeV s] w (ResPost (NewAns s) w):=by
  have HS:Hid (∀ i,-9223372036854775808 ≤ s i ∧ s i ≤ 9223372036854775807):=hs;clear hs;have T0:=two_newb w #[.int .i64 (s 0),.int .i64 (s 1),.int .i64 (s 2),.int .i64 (s 3),.int .i64 (s 4),.int .i64 (s 5),.int .i64 (s 6),.int .i64 (s 7),.int .i64 (s 8)] #[.int .i64 0,.int .i64 0,.int .i64 0,.int .i64 0,.int .i64 0,.int .i64 0,.int .i64 0,.int .i64 0,.int .i64 0,.int .i64 0,.slice none 0 0,.slice none 0 0,.slice none 0 0,.int .i64 0,.int .i64 0,.bool false] 24 46;have CSh:=fun w' => implShape_any s w';unfold shapeV at CSh ⊢
  go_enter Try.func14,Try.ntmps14
  go_wp2_with fail
  refine (CSh _).mono ?_;rintro e w1 ⟨x,rfl,hx,b1⟩;have T1:Two w w1 #[.int .i64 (s 0),.int .i64 (s 1),.int .i64 (s 2),.int .i64 (s 3),.int .i64 (s 4),.int .i64 (s 5),.int .i64 (s 6),.int .i64 (s 7),.int .i64 (s 8)] #[.int .i64 0,.int .i64 0,.int .i64 0,.int .i64 0,.int .i64 0,.int .i64 0,.int .i64 0,.int .i64 0,.int .i64 0,.int .i64 0,.slice none 0 0,.slice none 0 0,.slice none 0 0,.int .i64 0,.int .i64 0,.bool false] 24 46:=T0.call b1;have HT1:Hid (Two w w1 #[.int .i64 (s 0),.int .i64 (s 1),.int .i64 (s 2),.int .i64 (s 3),.int .i64 (s 4),.int .i64 (s 5),.int .i64 (s 6),.int .i64 (s 7),.int .i64 (s 8)] #[.int .i64 0,.int .i64 0,.int .i64 0,.int .i64 0,.int .i64 0,.int .i64 0,.int .i64 0,.int .i64 0,.int .i64 0,.int .i64 0,.slice none 0 0,.slice none 0 0,.slice none 0 0,.int .i64 0,.int .i64 0,.bool false] 24 46):=T1;have z1:w.heap.size + 1 < w1.heap.size:=T1.b2.lt;clear b1 T0 CSh;have x1_0:w1.cell? ⟨w.heap.size,0,none⟩ = some (.int .i64 (s 0)):=T1.b1.cell 0;have x1_1:w1.cell? ⟨w.heap.size,1,none⟩ = some (.int .i64 (s 1)):=T1.b1.cell 1;have x1_2:w1.cell? ⟨w.heap.size,2,none⟩ = some (.int .i64 (s 2)):=T1.b1.cell 2;have x1_3:w1.cell? ⟨w.heap.size,3,none⟩ = some (.int .i64 (s 3)):=T1.b1.cell 3;have x1_4:w1.cell? ⟨w.heap.size,4,none⟩ = some (.int .i64 (s 4)):=T1.b1.cell 4;have x1_5:w1.cell? ⟨w.heap.size,5,none⟩ = some (.int .i64 (s 5)):=T1.b1.cell 5;have x1_6:w1.cell? ⟨w.heap.size,6,none⟩ = some (.int .i64 (s 6)):=T1.b1.cell 6;have x1_7:w1.cell? ⟨w.heap.size,7,none⟩ = some (.int .i64 (s 7)):=T1.b1.cell 7;have x1_8:w1.cell? ⟨w.heap.size,8,none⟩ = some (.int .i64 (s 8)):=T1.b1.cell 8
  rcases hx with ⟨rfl,hno⟩ | ⟨rfl,hok⟩
  · have HNO:Hid (¬ OkShape s):=hno
    clear hno;have r1_0:w1.cell? ⟨w.heap.size + 1,0,none⟩ = some (.int .i64 0):=T1.b2.cell 0;have r1f_0:w1.frozen? ⟨w.heap.size + 1,0,none⟩ = false:=T1.b2.frozen 0;have r1_1:w1.cell? ⟨w.heap.size + 1,1,none⟩ = some (.int .i64 0):=T1.b2.cell 1;have r1f_1:w1.frozen? ⟨w.heap.size + 1,1,none⟩ = false:=T1.b2.frozen 1;have r1_2:w1.cell? ⟨w.heap.size + 1,2,none⟩ = some (.int .i64 0):=T1.b2.cell 2;have r1f_2:w1.frozen? ⟨w.heap.size + 1,2,none⟩ = false:=T1.b2.frozen 2;have r1_3:w1.cell? ⟨w.heap.size + 1,3,none⟩ = some (.int .i64 0):=T1.b2.cell 3;have r1f_3:w1.frozen? ⟨w.heap.size + 1,3,none⟩ = false:=T1.b2.frozen 3;have r1_4:w1.cell? ⟨w.heap.size + 1,4,none⟩ = some (.int .i64 0):=T1.b2.cell 4;have r1f_4:w1.frozen? ⟨w.heap.size + 1,4,none⟩ = false:=T1.b2.frozen 4;have r1_5:w1.cell? ⟨w.heap.size + 1,5,none⟩ = some (.int .i64 0):=T1.b2.cell 5;have r1f_5:w1.frozen? ⟨w.heap.size + 1,5,none⟩ = false:=T1.b2.frozen 5;have r1_6:w1.cell? ⟨w.heap.size + 1,6,none⟩ = some (.int .i64 0):=T1.b2.cell 6;have r1f_6:w1.frozen? ⟨w.heap.size + 1,6,none⟩ = false:=T1.b2.frozen 6;have r1_7:w1.cell? ⟨w.heap.size + 1,7,none⟩ = some (.int .i64 0):=T1.b2.cell 7;have r1f_7:w1.frozen? ⟨w.heap.size + 1,7,none⟩ = false:=T1.b2.frozen 7;have r1_8:w1.cell? ⟨w.heap.size + 1,8,none⟩ = some (.int .i64 0):=T1.b2.cell 8;have r1f_8:w1.frozen? ⟨w.heap.size + 1,8,none⟩ = false:=T1.b2.frozen 8;have r1_9:w1.cell? ⟨w.heap.size + 1,9,none⟩ = some (.int .i64 0):=T1.b2.cell 9;have r1f_9:w1.frozen? ⟨w.heap.size + 1,9,none⟩ = false:=T1.b2.frozen 9;have r1_10:w1.cell? ⟨w.heap.size + 1,10,none⟩ = some (.slice none 0 0):=T1.b2.cell 10;have r1f_10:w1.frozen? ⟨w.heap.size + 1,10,none⟩ = false:=T1.b2.frozen 10;have r1_11:w1.cell? ⟨w.heap.size + 1,11,none⟩ = some (.slice none 0 0):=T1.b2.cell 11;have r1f_11:w1.frozen? ⟨w.heap.size + 1,11,none⟩ = false:=T1.b2.frozen 11;have r1_12:w1.cell? ⟨w.heap.size + 1,12,none⟩ = some (.slice none 0 0):=T1.b2.cell 12;have r1f_12:w1.frozen? ⟨w.heap.size + 1,12,none⟩ = false:=T1.b2.frozen 12;have r1_13:w1.cell? ⟨w.heap.size + 1,13,none⟩ = some (.int .i64 0):=T1.b2.cell 13;have r1f_13:w1.frozen? ⟨w.heap.size + 1,13,none⟩ = false:=T1.b2.frozen 13;have r1_14:w1.cell? ⟨w.heap.size + 1,14,none⟩ = some (.int .i64 0):=T1.b2.cell 14;have r1f_14:w1.frozen? ⟨w.heap.size + 1,14,none⟩ = false:=T1.b2.frozen 14;have r1_15:w1.cell? ⟨w.heap.size + 1,15,none⟩ = some (.bool false):=T1.b2.cell 15;have r1f_15:w1.frozen? ⟨w.heap.size + 1,15,none⟩ = false:=T1.b2.frozen 15;clear T1;go_wp2;refine bodyPost_ret (v:=.agg #[.int .i64 3,.int .i64 0,.int .i64 0,.int .i64 0,.int .i64 0,.int .i64 0,.int .i64 0,.int .i64 0,.int .i64 0,.int .i64 0,.slice none 0 0,.slice none 0 0,.slice none 0 0,.int .i64 0,.int .i64 0,.bool false]) (by simp [results,Try.results14,go_sem,r1_0,r1_1,r1_2,r1_3,r1_4,r1_5,r1_6,r1_7,r1_8,r1_9,r1_10,r1_11,r1_12,r1_13,r1_14,r1_15]) rfl ?_
    refine ⟨⟨3,zeroW⟩,[.int .i64 3,.int .i64 0,.int .i64 0,.int .i64 0,.int .i64 0,.int .i64 0,.int .i64 0,.int .i64 0,.int .i64 0,.int .i64 0,.slice none 0 0,.slice none 0 0,.slice none 0 0,.int .i64 0,.int .i64 0,.bool false],rfl,.inl ⟨HNO.out,rfl⟩,?_,?_⟩
    · exact own_resCode _ 3 (by decide) _ _
    · exact HT1.out.bel.trans (stN_below (by omega) [.int .i64 3,.int .i64 0,.int .i64 0,.int .i64 0,.int .i64 0,.int .i64 0,.int .i64 0,.int .i64 0,.int .i64 0,.int .i64 0,.slice none 0 0,.slice none 0 0,.slice none 0 0,.int .i64 0,.int .i64 0,.bool false] 0)
  have HOK:Hid (OkShape s):=hok;obtain ⟨G,hG⟩:∃ G:Nat,s 0 + s 1 = (G:Int):=⟨(s 0 + s 1).toNat,by obtain ⟨h1,_⟩:=hok;unfold Shp3 at h1;omega⟩;obtain ⟨D,hD⟩:∃ D:Nat,s 2 + s 3 = (D:Int):=⟨(s 2 + s 3).toNat,by obtain ⟨_,h2,_⟩:=hok;unfold Shp at h2;omega⟩;obtain ⟨R,hR⟩:∃ R:Nat,s 4 = (R:Int):=⟨(s 4).toNat,by obtain ⟨_,_,h3,_⟩:=hok;omega⟩
  have hGb:G ≤ 6:=by obtain ⟨h1,_⟩:=hok;unfold Shp3 at h1;omega
  have hDb:D ≤ 6:=by obtain ⟨_,h2,_⟩:=hok;unfold Shp at h2;omega
  have hRb:R ≤ 6:=by obtain ⟨_,_,h3,_⟩:=hok;omega
  have HG:Hid (s 0 + s 1 = (G:Int)):=hG;have HD:Hid (s 2 + s 3 = (D:Int)):=hD;have HR:Hid (s 4 = (R:Int)):=hR;have CA:=fun w' => groupCount_any s HOK.out w';have CD:=fun w' => driveCount_any s HOK.out w';have CE:=fun w' => emptyBlocks_any R (by omega) w';unfold shapeV at CA CD;rw [hG] at CA;rw [hD] at CD;rw [← hR] at CE;clear hok hG hD hR T1
  go_wp2_with fail
  refine (CA _).mono ?_;rintro e w2 ⟨rfl,b2⟩;have HT2:Hid (Two w w2 #[.int .i64 (s 0),.int .i64 (s 1),.int .i64 (s 2),.int .i64 (s 3),.int .i64 (s 4),.int .i64 (s 5),.int .i64 (s 6),.int .i64 (s 7),.int .i64 (s 8)] #[.int .i64 0,.int .i64 0,.int .i64 0,.int .i64 0,.int .i64 0,.int .i64 0,.int .i64 0,.int .i64 0,.int .i64 0,.int .i64 0,.slice none 0 0,.slice none 0 0,.slice none 0 0,.int .i64 0,.int .i64 0,.bool false] 24 46):=HT1.out.call b2;have z2:w1.heap.size ≤ w2.heap.size:=b2.size;clear b2 x1_0 x1_1 x1_2 x1_3 x1_4 x1_5 x1_6 x1_7 x1_8
  go_wp2_with (at_make;refine wp_makeT (layDrive.slice 58) [.slice none 0 0] _ 55 24 el_DriveS.hs rfl Try.underlying25 el_DriveS.hi (fun _ => (D,fun _ => freshD R)) (fun _ => []) _ rfl _ _ rfl _ _ G rfl rfl rfl rfl (by omega) (by unfold maxLen;omega) ?_;intro w3 sp3 b3)
  obtain ⟨g0,hg0⟩:∃ x,x = w2.heap.size:=⟨_,rfl⟩
  go_loopw [18] (fun i wr => ∃ (k:Nat) (ce:Nat → List Value) (Ls:Nat → List Nat),k ≤ G ∧ i = .int .i64 k ∧ SlP (layDrive.slice 58) 55 wr w2.heap.size w2.heap.size G G k (fun _ => (D,fun _ => freshD R)) ce Ls ∧ (∀ i,k ≤ i → ce i = [.slice none 0 0]) ∧ Two w wr #[.int .i64 (s 0),.int .i64 (s 1),.int .i64 (s 2),.int .i64 (s 3),.int .i64 (s 4),.int .i64 (s 5),.int .i64 (s 6),.int .i64 (s 7),.int .i64 (s 8)] #[.int .i64 0,.int .i64 0,.int .i64 0,.int .i64 0,.int .i64 0,.int .i64 0,.int .i64 0,.int .i64 0,.int .i64 0,.int .i64 0,.slice none 0 0,.slice none 0 0,.slice none 0 0,.int .i64 0,.int .i64 0,.bool false] 24 46) (fun i _ => G - (intOf i).toNat)
  case atStart => exact ⟨0,_,_,Nat.zero_le _,rfl,sp3,fun _ _ => rfl,HT2.out.call b3⟩
  case round =>
    clear sp3 b3;obtain ⟨k,ce,Ls,hk,rfl,sp,hce,T6⟩:=hrel;obtain ⟨wo,rfl⟩:∃ x,x = wr:=⟨_,rfl⟩;have HSP:Hid (SlP (layDrive.slice 58) 55 wo w2.heap.size w2.heap.size G G k (fun _ => (D,fun _ => freshD R)) ce Ls):=sp;have HCE:Hid (∀ i,k ≤ i → ce i = [.slice none 0 0]):=hce;have HT6:Hid (Two w wo #[.int .i64 (s 0),.int .i64 (s 1),.int .i64 (s 2),.int .i64 (s 3),.int .i64 (s 4),.int .i64 (s 5),.int .i64 (s 6),.int .i64 (s 7),.int .i64 (s 8)] #[.int .i64 0,.int .i64 0,.int .i64 0,.int .i64 0,.int .i64 0,.int .i64 0,.int .i64 0,.int .i64 0,.int .i64 0,.int .i64 0,.slice none 0 0,.slice none 0 0,.slice none 0 0,.int .i64 0,.int .i64 0,.bool false] 24 46):=T6;have zo:w2.heap.size < wo.heap.size:=sp.lt;obtain ⟨x0,x1,x2,x3,x4,x5,x6,x7,x8⟩:=box9 T6.b1
    by_cases hlt:k < G
    · clear sp hce T6
      go_wp2_with fail
      refine (CD _).mono ?_;rintro e wa ⟨rfl,ba⟩;have HBA:Hid (Below wo.heap.size wo wa):=ba;have za:wo.heap.size ≤ wa.heap.size:=ba.size;clear ba x0 x1 x2 x3 x4 x5 x6 x7 x8
      go_wp2_with (at_make;refine wp_makeT layDrive [.bool false,.slice none 0 0] _ 58 32 el_Drive.hs rfl Try.underlying55 el_Drive.hi (fun _ => freshD R) (fun _ => []) _ rfl _ _ rfl _ _ D rfl rfl rfl rfl (by omega) (by unfold maxLen;omega) ?_;intro wb spb bb;have bob:Below wo.heap.size wo wb:=HBA.out.trans (bb.mono za);have c0:wb.cell? ⟨w2.heap.size,k,none⟩ = some (.slice none 0 0):=one_cell (HSP.out.cellz bob hlt (j:=0) (by decide) (HCE.out k (Nat.le_refl _)));have f0:wb.frozen? ⟨w2.heap.size,k,none⟩ = false:=(HSP.out.below bob).frozen _)
      have spO:=(HSP.out.below bob).poke (Nat.le_refl k) hlt (j:=0) (by decide) (.slice (some ⟨wa.heap.size,0,none⟩) D D);rw [HCE.out k (Nat.le_refl _),one_off] at spO;have TC:Two w (wb.setCell ⟨w2.heap.size,k,none⟩ (.slice (some ⟨wa.heap.size,0,none⟩) D D)) #[.int .i64 (s 0),.int .i64 (s 1),.int .i64 (s 2),.int .i64 (s 3),.int .i64 (s 4),.int .i64 (s 5),.int .i64 (s 6),.int .i64 (s 7),.int .i64 (s 8)] #[.int .i64 0,.int .i64 0,.int .i64 0,.int .i64 0,.int .i64 0,.int .i64 0,.int .i64 0,.int .i64 0,.int .i64 0,.int .i64 0,.slice none 0 0,.slice none 0 0,.slice none 0 0,.int .i64 0,.int .i64 0,.bool false] 24 46:=(HT6.out.call bob).low (b:=w2.heap.size) (by omega) _ _;have spI:=spb.keep (w':=wb.setCell ⟨w2.heap.size,k,none⟩ (.slice (some ⟨wa.heap.size,0,none⟩) D D)) (heap_setCell_other wb _ _ _ (by show wa.heap.size ≠ w2.heap.size;omega)) (fun b hb => by rw [catN_zero] at hb;cases hb)
      have cG:(wb.setCell ⟨w2.heap.size,k,none⟩ (.slice (some ⟨wa.heap.size,0,none⟩) D D)).cell? ⟨w2.heap.size,k,none⟩ = some (.slice (some ⟨wa.heap.size,0,none⟩) D D):=by
        have:=spO.cell hlt (j:=0) (by decide);rw [upd_at] at this;exact one_cell this
      obtain ⟨Wc,hWc⟩:∃ x,x = wb.setCell ⟨w2.heap.size,k,none⟩ (.slice (some ⟨wa.heap.size,0,none⟩) D D):=⟨_,rfl⟩;rw [← hWc] at spO TC spI cG ⊢;have HSO:Hid (SlP (layDrive.slice 58) 55 Wc w2.heap.size w2.heap.size G G k (fun _ => (D,fun _ => freshD R)) (upd ce k [.slice (some ⟨wa.heap.size,0,none⟩) D D]) Ls):=spO;have HTC:Hid (Two w Wc #[.int .i64 (s 0),.int .i64 (s 1),.int .i64 (s 2),.int .i64 (s 3),.int .i64 (s 4),.int .i64 (s 5),.int .i64 (s 6),.int .i64 (s 7),.int .i64 (s 8)] #[.int .i64 0,.int .i64 0,.int .i64 0,.int .i64 0,.int .i64 0,.int .i64 0,.int .i64 0,.int .i64 0,.int .i64 0,.int .i64 0,.slice none 0 0,.slice none 0 0,.slice none 0 0,.int .i64 0,.int .i64 0,.bool false] 24 46):=TC;have HSI:Hid (SlP layDrive 58 Wc wa.heap.size wa.heap.size D D 0 (fun _ => freshD R) (fun _ => [.bool false,.slice none 0 0]) (fun _ => [])):=spI;have HCG:Hid (Wc.cell? ⟨w2.heap.size,k,none⟩ = some (.slice (some ⟨wa.heap.size,0,none⟩) D D)):=cG;have zc:wa.heap.size < Wc.heap.size:=spI.lt;clear spO TC spI cG bob bb spb c0 f0 hWc
      go_loopw [32] (fun i wx => ∃ (q:Nat) (ce2:Nat → List Value) (Ls2:Nat → List Nat),q ≤ D ∧ i = .int .i64 q ∧ SlP layDrive 58 wx wa.heap.size wa.heap.size D D q (fun _ => freshD R) ce2 Ls2 ∧ (∀ i,q ≤ i → ce2 i = [.bool false,.slice none 0 0]) ∧ Below wa.heap.size Wc wx) (fun i _ => D - (intOf i).toNat)
      case atStart => exact ⟨0,_,_,Nat.zero_le _,rfl,HSI.out,fun _ _ => rfl,Below.refl _ _⟩
      case round =>
        obtain ⟨q,ce2,Ls2,hq,rfl,sp2,hce2,B7⟩:=hrel;obtain ⟨wx,rfl⟩:∃ x,x = wr:=⟨_,rfl⟩;have HS2:Hid (SlP layDrive 58 wx wa.heap.size wa.heap.size D D q (fun _ => freshD R) ce2 Ls2):=sp2;have HC2:Hid (∀ i,q ≤ i → ce2 i = [.bool false,.slice none 0 0]):=hce2;have HB7:Hid (Below wa.heap.size Wc wx):=B7;have zx:wa.heap.size < wx.heap.size:=sp2.lt;have cx:wx.cell? ⟨w2.heap.size,k,none⟩ = some (.slice (some ⟨wa.heap.size,0,none⟩) D D):=(B7.cell (p:=⟨w2.heap.size,k,none⟩) (by show w2.heap.size < wa.heap.size;omega)).trans HCG.out;have T7:Two w wx #[.int .i64 (s 0),.int .i64 (s 1),.int .i64 (s 2),.int .i64 (s 3),.int .i64 (s 4),.int .i64 (s 5),.int .i64 (s 6),.int .i64 (s 7),.int .i64 (s 8)] #[.int .i64 0,.int .i64 0,.int .i64 0,.int .i64 0,.int .i64 0,.int .i64 0,.int .i64 0,.int .i64 0,.int .i64 0,.int .i64 0,.slice none 0 0,.slice none 0 0,.slice none 0 0,.int .i64 0,.int .i64 0,.bool false] 24 46:=HTC.out.far B7 (by omega);have HT7:Hid (Two w wx #[.int .i64 (s 0),.int .i64 (s 1),.int .i64 (s 2),.int .i64 (s 3),.int .i64 (s 4),.int .i64 (s 5),.int .i64 (s 6),.int .i64 (s 7),.int .i64 (s 8)] #[.int .i64 0,.int .i64 0,.int .i64 0,.int .i64 0,.int .i64 0,.int .i64 0,.int .i64 0,.int .i64 0,.int .i64 0,.int .i64 0,.slice none 0 0,.slice none 0 0,.slice none 0 0,.int .i64 0,.int .i64 0,.bool false] 24 46):=T7;clear sp2 hce2 B7
        by_cases hlq:q < D
        · have y4:wx.cell? ⟨w.heap.size,4,none⟩ = some (.int .i64 (s 4)):=T7.b1.cell 4
          have HCX:Hid (wx.cell? ⟨w2.heap.size,k,none⟩ = some (.slice (some ⟨wa.heap.size,0,none⟩) D D)):=cx;clear T7
          go_upto_region 12 with fail
          go_region_with (go_at_call 28;refine (CE _).mono ?_;rintro ee we ⟨v,rfl,oe,be'⟩;obtain ⟨eo,ec,hv⟩:=sl_formT oe;obtain rfl:=one_eq hv;clear hv;have be:Below wx.heap.size wx we:=⟨be'.os,be'.tape,be'.output,be'.size,be'.block⟩;have ce1:we.cell? ⟨w2.heap.size,k,none⟩ = some (.slice (some ⟨wa.heap.size,0,none⟩) D D):=(be.cell (p:=⟨w2.heap.size,k,none⟩) (by show w2.heap.size < wx.heap.size;omega)).trans HCX.out;have ci1:we.cell? ⟨wa.heap.size,q * 2 + 1,none⟩ = some (.slice none 0 0):=HS2.out.cellz be hlq (j:=1) (by decide) (HC2.out q (Nat.le_refl _));have cf1:we.frozen? ⟨wa.heap.size,q * 2 + 1,none⟩ = false:=(HS2.out.below be).frozen _)
          all_goals
            obtain ⟨ce',Ls',sp3,h3⟩:=HS2.out.fill be hlq (j:=1) (by decide) (.slice eo R ec) (a:=freshD R) (cs:=[.bool false,.slice eo R ec]) (by rw [HC2.out q (Nat.le_refl _)];rfl) (drive_of oe) (by omega);go_wp2
            go_roundw
            case rel => exact ⟨q + 1,ce',Ls',by omega,by go_num,sp3.congr (fun i _ => by rw [show upd (fun _ => freshD R) q (freshD R) = fun _ => freshD R from upd_self (fun _ => freshD R) q]),fun i hi => by rw [h3 i (by omega)];exact HC2.out i (by omega),(HB7.out.trans (be.mono (by omega))).setCell (Nat.le_refl _) _⟩
            case measure => simp [intOf];omega
        · obtain rfl:q = D:=by omega
          clear T7;go_wp2
          go_roundw
          case rel =>
            obtain ⟨K,a1,a2,a3⟩:=HS2.out.done (Nat.le_refl _);have spX:=HSO.out.keep (w':=wx) (HB7.out.block _ (by omega)) (fun b hb => HB7.out.block b (by have:=HSP.out.mem_lt b hb;omega));have spN:=HSP.out.count spX (a:=(q,fun _ => freshD R)) (K:=K) (by rw [upd_at];exact a1) a2 (fun b hb => by have:=(a3 b hb).1;omega) (by omega);exact ⟨k + 1,_,_,by omega,by go_num,spN.congr (fun i _ => by rw [show upd (fun _ => (q,fun _ => freshD R)) k (q,fun _ => freshD R) = fun _ => (q,fun _ => freshD R) from upd_self (fun _ => (q,fun _ => freshD R)) k]),fun i hi => by rw [upd_ne ce _ (by omega)];exact HCE.out i (by omega),HT7.out⟩
          case measure => simp [intOf];omega
    · obtain rfl:k = G:=by omega
      obtain ⟨wt,hrun,spt,bt'⟩:=run_makeT el_Tape (fun _ => zeroT) (fun _ => []) wo.drew 2 (by omega);have hrun2:(Instr.makeSlice 27 (.int .i64 2) (.int .i64 2)).run Try.prog wo.drew = .ok (.slice (some ⟨wo.heap.size,0,none⟩) 2 2) wt:=hrun;have bt:Below wo.heap.size wo wt:=⟨bt'.os,bt'.tape,bt'.output,bt'.size,bt'.block⟩;have TT:=T6.call bt;have HTT:Hid (Two w wt #[.int .i64 (s 0),.int .i64 (s 1),.int .i64 (s 2),.int .i64 (s 3),.int .i64 (s 4),.int .i64 (s 5),.int .i64 (s 6),.int .i64 (s 7),.int .i64 (s 8)] #[.int .i64 0,.int .i64 0,.int .i64 0,.int .i64 0,.int .i64 0,.int .i64 0,.int .i64 0,.int .i64 0,.int .i64 0,.int .i64 0,.slice none 0 0,.slice none 0 0,.slice none 0 0,.int .i64 0,.int .i64 0,.bool false] 24 46):=TT;have HOT:Hid ((layTape.slice 88).own wt (2,fun _ => zeroT) [.slice (some ⟨wo.heap.size,0,none⟩) 2 2] [wo.heap.size]):=spt.two;have HOG:Hid (OwnT ((layDrive.slice 58).slice 55) wt w2.heap.size wo.heap.size (k,fun _ => (D,fun _ => freshD R)) [.slice (some ⟨w2.heap.size,0,none⟩) k k]):=(sp.done (Nat.le_refl _)).call bt;obtain ⟨y0,y1,y2,y3,y4,y5,y6,y7,y8⟩:=box9 TT.b1;have r_0:wt.cell? ⟨w.heap.size + 1,0,none⟩ = some (.int .i64 0):=TT.b2.cell 0;have rf_0:wt.frozen? ⟨w.heap.size + 1,0,none⟩ = false:=TT.b2.frozen 0;have r_1:wt.cell? ⟨w.heap.size + 1,1,none⟩ = some (.int .i64 0):=TT.b2.cell 1;have rf_1:wt.frozen? ⟨w.heap.size + 1,1,none⟩ = false:=TT.b2.frozen 1;have r_2:wt.cell? ⟨w.heap.size + 1,2,none⟩ = some (.int .i64 0):=TT.b2.cell 2;have rf_2:wt.frozen? ⟨w.heap.size + 1,2,none⟩ = false:=TT.b2.frozen 2;have r_3:wt.cell? ⟨w.heap.size + 1,3,none⟩ = some (.int .i64 0):=TT.b2.cell 3;have rf_3:wt.frozen? ⟨w.heap.size + 1,3,none⟩ = false:=TT.b2.frozen 3;have r_4:wt.cell? ⟨w.heap.size + 1,4,none⟩ = some (.int .i64 0):=TT.b2.cell 4;have rf_4:wt.frozen? ⟨w.heap.size + 1,4,none⟩ = false:=TT.b2.frozen 4;have r_5:wt.cell? ⟨w.heap.size + 1,5,none⟩ = some (.int .i64 0):=TT.b2.cell 5;have rf_5:wt.frozen? ⟨w.heap.size + 1,5,none⟩ = false:=TT.b2.frozen 5;have r_6:wt.cell? ⟨w.heap.size + 1,6,none⟩ = some (.int .i64 0):=TT.b2.cell 6;have rf_6:wt.frozen? ⟨w.heap.size + 1,6,none⟩ = false:=TT.b2.frozen 6;have r_7:wt.cell? ⟨w.heap.size + 1,7,none⟩ = some (.int .i64 0):=TT.b2.cell 7;have rf_7:wt.frozen? ⟨w.heap.size + 1,7,none⟩ = false:=TT.b2.frozen 7;have r_8:wt.cell? ⟨w.heap.size + 1,8,none⟩ = some (.int .i64 0):=TT.b2.cell 8;have rf_8:wt.frozen? ⟨w.heap.size + 1,8,none⟩ = false:=TT.b2.frozen 8;have r_9:wt.cell? ⟨w.heap.size + 1,9,none⟩ = some (.int .i64 0):=TT.b2.cell 9;have rf_9:wt.frozen? ⟨w.heap.size + 1,9,none⟩ = false:=TT.b2.frozen 9;have r_10:wt.cell? ⟨w.heap.size + 1,10,none⟩ = some (.slice none 0 0):=TT.b2.cell 10;have rf_10:wt.frozen? ⟨w.heap.size + 1,10,none⟩ = false:=TT.b2.frozen 10;have r_11:wt.cell? ⟨w.heap.size + 1,11,none⟩ = some (.slice none 0 0):=TT.b2.cell 11
      have rf_11:wt.frozen? ⟨w.heap.size + 1,11,none⟩ = false:=TT.b2.frozen 11;have r_12:wt.cell? ⟨w.heap.size + 1,12,none⟩ = some (.slice none 0 0):=TT.b2.cell 12;have rf_12:wt.frozen? ⟨w.heap.size + 1,12,none⟩ = false:=TT.b2.frozen 12;have r_13:wt.cell? ⟨w.heap.size + 1,13,none⟩ = some (.int .i64 0):=TT.b2.cell 13;have rf_13:wt.frozen? ⟨w.heap.size + 1,13,none⟩ = false:=TT.b2.frozen 13;have r_14:wt.cell? ⟨w.heap.size + 1,14,none⟩ = some (.int .i64 0):=TT.b2.cell 14;have rf_14:wt.frozen? ⟨w.heap.size + 1,14,none⟩ = false:=TT.b2.frozen 14;have r_15:wt.cell? ⟨w.heap.size + 1,15,none⟩ = some (.bool false):=TT.b2.cell 15;have rf_15:wt.frozen? ⟨w.heap.size + 1,15,none⟩ = false:=TT.b2.frozen 15;clear TT T6 sp hce bt bt' spt hrun
      go_upto_region 15 with fail
      go_region
      all_goals
        go_wp2;refine bodyPost_ret (v:=.agg #[.int .i64 0,.int .i64 (s 0),.int .i64 (s 1),.int .i64 (s 2),.int .i64 (s 3),.int .i64 (s 4),.int .i64 (s 5),.int .i64 (s 6),.int .i64 (s 7),.int .i64 (s 8),.slice (some ⟨w2.heap.size,0,none⟩) k k,.slice none 0 0,.slice (some ⟨wo.heap.size,0,none⟩) 2 2,.int .i64 0,.int .i64 (-1),.bool false]) (by simp [results,Try.results14,go_sem,r_0,r_1,r_2,r_3,r_4,r_5,r_6,r_7,r_8,r_9,r_10,r_11,r_12,r_13,r_14,r_15]) rfl ?_;refine ⟨⟨0,newW s⟩,[.int .i64 0,.int .i64 (s 0),.int .i64 (s 1),.int .i64 (s 2),.int .i64 (s 3),.int .i64 (s 4),.int .i64 (s 5),.int .i64 (s 6),.int .i64 (s 7),.int .i64 (s 8),.slice (some ⟨w2.heap.size,0,none⟩) k k,.slice none 0 0,.slice (some ⟨wo.heap.size,0,none⟩) 2 2,.int .i64 0,.int .i64 (-1),.bool false],rfl,.inr ⟨HOK.out,rfl⟩,?_,?_⟩
        · have F:=own_newW2 HS.out (show (s 0 + s 1).toNat = k by have:=HG.out;omega) (show (s 2 + s 3).toNat = D by have:=HD.out;omega) (show (s 4).toNat = R by have:=HR.out;omega) HOG.out HOT.out (Nat.le_refl _) (show w.heap.size + 1 + 1 ≤ w2.heap.size by omega) (by omega)
          exact OwnT.finb (own_resOf 0 (by decide) F) (b:=w.heap.size + 1) (by omega) (by omega) 0 [.int .i64 0,.int .i64 (s 0),.int .i64 (s 1),.int .i64 (s 2),.int .i64 (s 3),.int .i64 (s 4),.int .i64 (s 5),.int .i64 (s 6),.int .i64 (s 7),.int .i64 (s 8),.slice (some ⟨w2.heap.size,0,none⟩) k k,.slice none 0 0,.slice (some ⟨wo.heap.size,0,none⟩) 2 2,.int .i64 0,.int .i64 (-1),.bool false] _ rfl
        · exact HTT.out.bel.trans (stN_below (by omega) [.int .i64 0,.int .i64 (s 0),.int .i64 (s 1),.int .i64 (s 2),.int .i64 (s 3),.int .i64 (s 4),.int .i64 (s 5),.int .i64 (s 6),.int .i64 (s 7),.int .i64 (s 8),.slice (some ⟨w2.heap.size,0,none⟩) k k,.slice none 0 0,.slice (some ⟨wo.heap.size,0,none⟩) 2 2,.int .i64 0,.int .i64 (-1),.bool false] 0)
end Go.Proofs.Ytcepcjkfdonclaa
namespace Go.Proofs.Ytcepcjkfdonclaa
open Go.RowKit F256
theorem OwnT.one {α:Type} {A:Lay α} {w:World} {lo hi:Nat} {a:α} {cs:List Value} (h:OwnT A w lo hi a cs):∀ v,v ∈ cs → v.oneCell' = true:=by
  obtain ⟨L,h1,_⟩:=h;exact fun v hv => A.own_one h1 v hv
theorem wp_allocStore {ops:Array Oper} {rest:List Oper} {o1 o2:Oper} {a:Act} {w:World} {Q:Exit → Act → World → Prop} (T:TypeId) (k:Nat) (x:Operand) (cs:List Value) (zs:Array Value) (n:Nat)
    (hop1:o1.op = Op.alloc T) (hop2:o2.op = Op.store T (.tmp k) x) (hg1:o1.guard = none) (hg2:o2.guard = none) (hd1:o1.dst = some k) (hd2:o2.dst = none)
    (hp:(a.put (some k) (.pointer (some ⟨w.heap.size,0,none⟩))).eval (.tmp k) = .pointer (some ⟨w.heap.size,0,none⟩)) (hx:(a.put (some k) (.pointer (some ⟨w.heap.size,0,none⟩))).eval x = .agg cs.toArray)
    (hi:(Try.prog.info? T).map (fun i => (i.zero.map (·.cells),i.size)) = some (some zs,n)) (hz:zs.size = n) (hl:cs.length = n) (h1:∀ v,v ∈ cs → v.oneCell' = true)
    (h:wpList Try.prog ops Q rest (a.put (some k) (.pointer (some ⟨w.heap.size,0,none⟩))) (w.alloc (.cells cs.toArray T))):wpList Try.prog ops Q (o1 :: o2 :: rest) a w:=by
  obtain ⟨i0,hi0⟩:∃ i0,Try.prog.info? T = some i0:=by
    cases h:Try.prog.info? T with
    | none => rw [h] at hi;cases hi
    | some i0 => exact ⟨i0,rfl⟩
  rw [hi0] at hi
  simp only [Option.map_some,Option.some.injEq,Prod.mk.injEq] at hi
  obtain ⟨h2,h3⟩:=hi
  obtain ⟨z,hzz,hzc⟩:∃ z,i0.zero = some z ∧ z.cells = zs:=by
    cases h:i0.zero with
    | none => rw [h] at h2;cases h2
    | some z => rw [h] at h2;exact ⟨z,rfl,by simpa using h2⟩
  have hr:(Instr.alloc T true (.tuple #[])).run Try.prog w = .ok (.pointer (some ⟨w.heap.size,0,none⟩)) (w.alloc (.cells zs T)):=by
    simp [Instr.alloc,zeroValue,typeInfo,hi0,hzz,hzc,newVar,newRow]
  have hw:(w.alloc (.cells zs T)).setRow w.heap.size cs.toArray = w.alloc (.cells cs.toArray T):=by
    have hh:((w.alloc (.cells zs T)).setRow w.heap.size cs.toArray).heap = w.heap.push (.cells cs.toArray T):=by
      apply Array.ext_getElem?
      intro i
      by_cases c:i = w.heap.size
      · subst c
        rw [setRow_heap (w.alloc (.cells zs T)) w.heap.size zs cs.toArray T (0,0) (box_new w zs T),Array.getElem?_push,if_pos rfl]
      · rw [setRow_other _ _ _ _ c,Array.getElem?_push,if_neg c]
        show (w.heap.push _)[i]? = _
        rw [Array.getElem?_push,if_neg c]
    show ({ w with heap:=((w.alloc (.cells zs T)).setRow w.heap.size cs.toArray).heap }:World) = _
    rw [hh];rfl
  refine wpList_plain hg1 fun K hK => ?_;unfold Oper.wp execOp
  simp only [hop1,Sem.run_bind,hr,Result.andThen_ok]
  refine hK _ _ ?_;rw [hd1];refine wpList_store_row hg2 T (.tmp k) x hop2 w.heap.size cs.toArray hp hx T zs (box_new w zs T) (by rw [hi0];simp [h3,hl]) (by simp [hz,hl]) (by simp;exact h1) ?_;rw [hw,hd2];exact h
theorem wp_loadBox {ops:Array Oper} {rest:List Oper} {o:Oper} {a:Act} {w:World} {Q:Exit → Act → World → Prop} (T:TypeId) (x:Operand) (ho:o.op = .load T x) (hgd:o.guard = none) (b:Nat) (hx:a.eval x = .pointer (some ⟨b,0,none⟩)) {cs:List Value} (hB:Box w b cs.toArray T) {fs:Array Field} (hu:Try.prog.underlying T = some (.struct fs)) {n:Nat} (hi:(Try.prog.info? T).map (·.size) = some n) (hl:cs.length = n)
    (h:wpList Try.prog ops Q rest (a.put o.dst (.agg cs.toArray)) w):wpList Try.prog ops Q (o :: rest) a w :=
  wpList_load_row hgd T x ho b hx T cs.toArray (0,0) (.struct fs) hB hu rfl (by rw [hi];simp [hl]) h
theorem OwnT.len {α:Type} {A:Lay α} {w:World} {lo hi:Nat} {a:α} {cs:List Value} (h:OwnT A w lo hi a cs):cs.length = A.sz:=by
  obtain ⟨L,h1,_⟩:=h;exact A.own_len h1
theorem size_LS:(Try.prog.info? 23).map (·.size) = some 9:=by kernel_rfl
end Go.Proofs.Ytcepcjkfdonclaa
namespace Go.Proofs.Ytcepcjkfdonclaa
open Go.RowKit F256
theorem chgL_setRow {w:World} (b:Nat) (cs:Array Value):ChgL [b] w (w.setRow b cs) :=
  ⟨rfl,rfl,rfl,by simp,fun k _ hn => setRow_other w b k cs (fun h => hn (by simp [h]))⟩
theorem wp_storeBox {ops:Array Oper} {rest:List Oper} {o:Oper} {a:Act} {w:World} {Q:Exit → Act → World → Prop} (T:TypeId) (x y:Operand) (ho:o.op = .store T x y) (hgd:o.guard = none) (b:Nat) (hx:a.eval x = .pointer (some ⟨b,0,none⟩)) {cs old:List Value} (hy:a.eval y = .agg cs.toArray) (hB:Box w b old.toArray T) {n:Nat} (hi:(Try.prog.info? T).map (·.size) = some n) (hl:cs.length = n) (hol:old.length = n) (h1:∀ v,v ∈ cs → v.oneCell' = true)
    (h:∀ w',Box w' b cs.toArray T → ChgL [b] w w' → w'.heap.size = w.heap.size → wpList Try.prog ops Q rest (a.put o.dst undef) w'):wpList Try.prog ops Q (o :: rest) a w:=by
  refine wpList_store_row hgd T x y ho b cs.toArray hx hy T old.toArray hB (by rw [hi];simp [hl]) (by simp [hl,hol]) (by simp;exact h1) ?_;exact h _ (setRow_heap w b _ cs.toArray T (0,0) hB) (chgL_setRow b _) (by simp)
theorem ret_box {fn:Func} {R:Ending → World → Prop} {a:Act} {w:World} {p:Tmp} {ty:TypeId} (h:fn.results = #[.cell p ty]) {b:Nat} {cs:List Value} (hp:a.tmps.getD p undef = .pointer (some ⟨b,0,none⟩)) (hB:Box w b cs.toArray ty) {fs:Array Field} (hu:Try.prog.underlying ty = some (.struct fs)) {n:Nat} (hi:(Try.prog.info? ty).map (·.size) = some n) (hl:cs.length = n) (hd:a.defers = []) (hR:R (.returned (.agg cs.toArray)) w):bodyPost Try.prog fn R .ret a w :=
  bodyPost_ret (results_cell_row h a.tmps w b ty cs.toArray (0,0) (.struct fs) hp hB hu rfl (by rw [hi];simp [hl])) hd hR
theorem OwnT.chgk {α:Type} {A:Lay α} {w w':World} {lo hi:Nat} {a:α} {cs:List Value} {K:List Nat} (h:OwnT A w lo hi a cs) (hc:ChgL K w w') (hK:∀ b,b ∈ K → b < lo ∨ hi ≤ b):OwnT A w' lo hi a cs:=by
  obtain ⟨M,h1,h2,h3⟩:=h;exact ⟨M,A.own_kept h1 (fun b hb => hc.block b (A.own_lt h1 b hb) (fun hh => by have:=hK b hh;have:=h3 b hb;omega)),h2,h3⟩
end Go.Proofs.Ytcepcjkfdonclaa
namespace Go.Proofs.Ytcepcjkfdonclaa
open Go.RowKit
section
variable {P:Program} {ops:Array Oper} {Q:Exit → Act → World → Prop} {md:Region.Mode} {S:World → Prop} {L:Nat}
def ClosedP (md:Region.Mode) (ops:Array Oper) (listed:Array Bool):Prop :=
  ∀ j oj,ops[j]? = some oj → listed.getD j false = true → ∀ e ∈ oj.after,Region.binds md e = true → listed.getD e.on false = true
def closedB (md:Region.Mode) (ops:Array Oper) (listed:Array Bool):Bool :=
  (List.range ops.size).all fun j => !listed.getD j false || ((ops[j]?).map (·.after.all fun e => !Region.binds md e || listed.getD e.on false)).getD false
theorem closed_of {listed:Array Bool} (h:closedB md ops listed = true):ClosedP md ops listed:=fun j oj hj hl e he hb => by
  unfold closedB at h;have hlt:j < ops.size:=(Array.getElem?_eq_some_iff.1 hj).1;have h1:=List.all_eq_true.1 h j (List.mem_range.2 hlt);rw [hl,hj] at h1
  simp only [Bool.not_true,Bool.false_or,Option.map_some,Option.getD_some,Array.all_eq_true_iff_forall_mem] at h1
  have h2:=h1 e he;rw [hb] at h2
  simpa using h2
theorem closed_step {listed:Array Bool} {j:Nat} (h:ClosedP md ops listed) (hj:j ∈ Region.ready md ops listed):ClosedP md ops (listed.setIfInBounds j true):=fun k ok hk hl e he hb => by
  obtain ⟨_,o,ho,hall⟩:=mem_ready.1 hj
  by_cases c:j = k
  · subst c
    rw [hk] at ho
    cases ho
    exact getD_set_true (hall e he hb)
  · rw [getD_set_ne false c] at hl
    exact getD_set_true (h k ok hk hl e he hb)
def depB (md:Region.Mode) (ops:Array Oper):Nat → Nat → Nat → Bool
  | 0,l,i => l == i
  | n + 1,l,i => l == i || ((ops[l]?).map (·.after.any fun e => Region.binds md e && depB md ops n e.on i)).getD false
theorem dep_listed {listed:Array Bool} (hc:ClosedP md ops listed):∀ (n l i:Nat),depB md ops n l i = true → listed.getD l false = true → listed.getD i false = true
  | 0,l,i,h,hl => by
    unfold depB at h
    have:l = i:=by simpa using h
    rw [← this];exact hl
  | n + 1,l,i,h,hl => by
    unfold depB at h
    rcases Bool.or_eq_true _ _ ▸ h with h1 | h1
    · have:l = i:=by simpa using h1
      rw [← this];exact hl
    · cases ho:ops[l]? with
      | none => rw [ho] at h1;simp at h1
      | some o =>
        rw [ho] at h1
        simp only [Option.map_some,Option.getD_some] at h1
        obtain ⟨k,hk,hbk⟩:=Array.any_eq_true.1 h1;obtain ⟨hb,hd⟩:=Bool.and_eq_true _ _ ▸ hbk;exact dep_listed hc n _ i hd (hc l o ho hl _ (Array.getElem_mem hk) hb)
theorem dep_waits {listed:Array Bool} (hc:ClosedP md ops listed) {n i:Nat} (hne:L ≠ i) (hd:depB md ops n L i = true) (hi:listed.getD i false = false):L ∉ Region.ready md ops listed:=fun hL => by
  obtain ⟨_,o,ho,hall⟩:=mem_ready.1 hL
  cases n with
  | zero => unfold depB at hd;exact hne (by simpa using hd)
  | succ n =>
    unfold depB at hd
    rcases Bool.or_eq_true _ _ ▸ hd with h1 | h1
    · exact hne (by simpa using h1)
    · rw [ho] at h1
      simp only [Option.map_some,Option.getD_some] at h1
      obtain ⟨k,hk,hbk⟩:=Array.any_eq_true.1 h1;obtain ⟨hb,hd'⟩:=Bool.and_eq_true _ _ ▸ hbk;have:=dep_listed hc n _ i hd' (hall _ (Array.getElem_mem hk) hb);rw [hi] at this
      cases this
theorem unlisted_false {listed:Array Bool} {i:Nat} (h:listed.getD i true = false):listed.getD i false = false:=by
  rcases Nat.lt_or_ge i listed.size with h' | h'
  · simpa [h'] using h
  · simp [Array.getElem?_eq_none h'] at h
end
end Go.Proofs.Ytcepcjkfdonclaa
namespace Go.Proofs.Ytcepcjkfdonclaa
open Go.RowKit
theorem SL {α : Type} : (∀ (l : List α) (i : Nat) (v : α), l.toArray.setIfInBounds i v = (l.set i v).toArray) ∧ (∀ (a : α) (l : List α) (b : α), (a :: l).set 0 b = b :: l) ∧ (∀ (a : α) (l : List α) (n : Nat) (b : α), (a :: l).set (n + 1) b = a :: l.set n b) ∧ (∀ (l : List α) (i : Nat) (h : i < l.toArray.size), l.toArray[i] = l[i]'(by simpa using h)) ∧ (∀ (a : α) (l : List α) (n : Nat) (h : n + 1 < (a :: l).length), (a :: l)[n + 1] = l[n]'(by simpa using h)) ∧ ∀ (a : α) (l : List α) (h : 0 < (a :: l).length), (a :: l)[0] = a := ⟨fun _ _ _ => List.setIfInBounds_toArray .., fun _ _ _ => rfl, fun _ _ _ _ => rfl, fun _ _ _ => rfl, fun _ _ _ _ => rfl, fun _ _ _ => rfl⟩
section
variable {P:Program} {ops:Array Oper} {Q:Exit → Act → World → Prop} {md:Region.Mode} {S:World → Prop} {L:Nat}
def wpAnyM (P:Program) (md:Region.Mode) (ops:Array Oper) (Q:Exit → Act → World → Prop) (S:World → Prop) (L:Nat):Nat → Array Bool → Act → World → Prop
  | 0,listed,a,w => Region.ready md ops listed = [] ∧ Q .normal a w
  | fuel + 1,listed,a,w =>
    (Region.ready md ops listed = [] → Q .normal a w) ∧
    ∀ i ∈ Region.ready md ops listed,wpOp P ops Q i (fun a' w' => ((listed.setIfInBounds i true).getD L false = false → S w') ∧ wpAnyM P md ops Q S L fuel (listed.setIfInBounds i true) a' w') a w
theorem wpAny_of_M:∀ (fuel:Nat) (listed:Array Bool) (a:Act) (w:World),wpAnyM P md ops Q S L fuel listed a w → wpAny P md ops Q fuel listed a w
  | 0,_,_,_,h => h
  | fuel + 1,_,_,_,h => ⟨h.1,fun i hi => wpOp_mono (fun a' w' h' => wpAny_of_M fuel _ a' w' h'.2) (h.2 i hi)⟩
theorem wpAnyM_first {i:Nat} {oi:Oper} {v:Value} (hi:ops[i]? = some oi) (hsel:∀ (j:Nat) (o:Oper) cs b,ops[j]? = some o → o.op ≠ .select cs b)
    (hQ:∀ c a w,Q (.panic c) (a.put oi.dst v) w → Q (.panic c) a w) (hLi:L ≠ i) {n:Nat} (hd:depB md ops n L i = true) :
    ∀ (fuel:Nat) (listed:Array Bool) (a:Act) (w:World),ClosedP md ops listed →
      (∀ j oj,ops[j]? = some oj → j ≠ i → listed.getD j true = false → (∀ e ∈ oj.after,Region.binds md e = true → e.on ≠ i) → oi.apart ops oj = true) →
      i ∈ Region.ready md ops listed → YieldsIf P ops S oi v a → S w →
      wpAnyM P md ops Q S L fuel (listed.setIfInBounds i true) (a.put oi.dst v) w → wpAnyM P md ops Q S L (fuel + 1) listed a w:=by
  intro fuel
  induction fuel with
  | zero =>
    intro listed a w _ _ hr hy hS H;refine ⟨fun h => (by rw [h] at hr;cases hr),fun j hj => ?_⟩
    by_cases hji:j = i
    · subst hji;exact hy.wpOp hi hS ⟨fun _ => hS,H⟩
    · have:=ready_mono hj hji
      rw [H.1] at this
      cases this
  | succ fuel ih =>
    intro listed a w hcl hfree hr hy hS H;refine ⟨fun h => (by rw [h] at hr;cases hr),fun j hj => ?_⟩
    by_cases hji:j = i
    · subst hji;exact hy.wpOp hi hS ⟨fun _ => hS,H⟩
    · have hjL:j ≠ L:=fun h => by
        subst h;exact dep_waits hcl hLi hd (unlisted_false (mem_ready.1 hr).1) hj
      have h1:=H.2 j (ready_mono hj hji);obtain ⟨hjun,oj,hoj,hall⟩:=mem_ready.1 hj
      have hnot:∀ e ∈ oj.after,Region.binds md e = true → e.on ≠ i:=fun e he hb heq => by
        have h1:=hall e he hb;have h0:=unlisted_false (mem_ready.1 hr).1;rw [heq,h0] at h1
        cases h1
      have h2:=wpOp_putIf hoj (hfree j oj hoj hji hjun hnot) (fun cs b => hsel i oi cs b hi) (fun cs b => hsel j oj cs b hoj) hQ hy h1
      have hfree':∀ k ok,ops[k]? = some ok → k ≠ i → (listed.setIfInBounds j true).getD k true = false →
          (∀ e ∈ ok.after,Region.binds md e = true → e.on ≠ i) → oi.apart ops ok = true:=fun k ok hk hki hun hno => by
        refine hfree k ok hk hki ?_ hno
        by_cases hjk:j = k
        · subst hjk;exact hjun
        · rw [getD_set_ne true hjk] at hun;exact hun
      have hLn:(listed.setIfInBounds j true).getD L false = false:=by
        rw [getD_set_ne false hjL]
        cases hg:listed.getD L false with
        | false => rfl
        | true => have:=dep_listed hcl n L i hd hg;rw [unlisted_false (mem_ready.1 hr).1] at this;cases this
      have hLn2:((listed.setIfInBounds i true).setIfInBounds j true).getD L false = false:=by
        rw [← Array.setIfInBounds_comm _ _ hji,getD_set_ne false (Ne.symm hLi)];exact hLn
      refine wpOp_mono (fun a' w' h3 => ⟨fun _ => h3.2.1 hLn2,ih (listed.setIfInBounds j true) a' w' (closed_step hcl hj) hfree' (ready_mono hr (Ne.symm hji)) h3.1 (h3.2.1 hLn2) ?_⟩) h2;rw [Array.setIfInBounds_comm _ _ hji];exact h3.2.2
theorem wpAnyM_pure0 {i:Nat} {oi:Oper} {v:Value} (hi:ops[i]? = some oi) (hsel:∀ (j:Nat) (o:Oper) cs b,ops[j]? = some o → o.op ≠ .select cs b)
    (hQ:∀ c a w,Q (.panic c) (a.put oi.dst v) w → Q (.panic c) a w) (hLi:L ≠ i) :
    ∀ (fuel:Nat) (listed:Array Bool) (a:Act) (w:World),ClosedP md ops listed →
      (∀ j oj,ops[j]? = some oj → j ≠ i → listed.getD j true = false → (∀ e ∈ oj.after,Region.binds md e = true → e.on ≠ i) → oi.apart ops oj = true) →
      i ∈ Region.ready md ops listed → YieldsIf P ops (fun _ => True) oi v a → ((listed.setIfInBounds i true).getD L false = false → S w) →
      wpAnyM P md ops Q S L fuel (listed.setIfInBounds i true) (a.put oi.dst v) w → wpAnyM P md ops Q S L (fuel + 1) listed a w:=by
  intro fuel
  induction fuel with
  | zero =>
    intro listed a w _ _ hr hy hS H;refine ⟨fun h => (by rw [h] at hr;cases hr),fun j hj => ?_⟩
    by_cases hji:j = i
    · subst hji;exact hy.wpOp hi trivial ⟨hS,H⟩
    · have:=ready_mono hj hji
      rw [H.1] at this
      cases this
  | succ fuel ih =>
    intro listed a w hcl hfree hr hy hS H;refine ⟨fun h => (by rw [h] at hr;cases hr),fun j hj => ?_⟩
    by_cases hji:j = i
    · subst hji;exact hy.wpOp hi trivial ⟨hS,H⟩
    · skip
      have h1:=H.2 j (ready_mono hj hji);obtain ⟨hjun,oj,hoj,hall⟩:=mem_ready.1 hj
      have hnot:∀ e ∈ oj.after,Region.binds md e = true → e.on ≠ i:=fun e he hb heq => by
        have h1:=hall e he hb;have h0:=unlisted_false (mem_ready.1 hr).1;rw [heq,h0] at h1
        cases h1
      have h2:=wpOp_putIf hoj (hfree j oj hoj hji hjun hnot) (fun cs b => hsel i oi cs b hi) (fun cs b => hsel j oj cs b hoj) hQ hy h1
      have hfree':∀ k ok,ops[k]? = some ok → k ≠ i → (listed.setIfInBounds j true).getD k true = false →
          (∀ e ∈ ok.after,Region.binds md e = true → e.on ≠ i) → oi.apart ops ok = true:=fun k ok hk hki hun hno => by
        refine hfree k ok hk hki ?_ hno
        by_cases hjk:j = k
        · subst hjk;exact hjun
        · rw [getD_set_ne true hjk] at hun;exact hun
      refine wpOp_mono (fun a' w' h3 => ?_) h2;have hk:((listed.setIfInBounds j true).setIfInBounds i true).getD L false = false → S w':=fun hn => h3.2.1 (by rw [Array.setIfInBounds_comm _ _ (Ne.symm hji)];exact hn);refine ⟨fun hn => ?_,ih (listed.setIfInBounds j true) a' w' (closed_step hcl hj) hfree' (ready_mono hr (Ne.symm hji)) h3.1 hk ?_⟩
      · exact hk (by rw [getD_set_ne false (Ne.symm hLi)];exact hn)
      · rw [Array.setIfInBounds_comm _ _ hji]
        exact h3.2.2
theorem wpAnyM_pure {i:Nat} {oi:Oper} {v:Value} {fuel:Nat} {listed:Array Bool} {a:Act} {w:World} (hi:ops[i]? = some oi)
    (hs:(Region.noSelect ops && Region.free md ops listed i && (Region.ready md ops listed).contains i && !(L == i) && closedB md ops listed) = true)
    (hQ:∀ c a w,Q (.panic c) (a.put oi.dst v) w → Q (.panic c) a w) (hy:YieldsIf P ops (fun _ => True) oi v a) (hS:S w)
    (h:wpAnyM P md ops Q S L fuel (listed.setIfInBounds i true) (a.put oi.dst v) w):wpAnyM P md ops Q S L (fuel + 1) listed a w:=by
  simp only [Bool.and_eq_true,Bool.not_eq_true',beq_eq_false_iff_ne] at hs
  obtain ⟨⟨⟨⟨h1,h2⟩,h3⟩,h4⟩,h6⟩:=hs;exact wpAnyM_pure0 hi (Region.noSelect_spec h1) hQ h4 fuel listed a w (closed_of h6) (Region.free_spec hi h2) (by simpa using h3) hy (fun _ => hS) h
theorem wpAnyM_pureL {i:Nat} {oi:Oper} {v:Value} {fuel:Nat} {listed:Array Bool} {a:Act} {w:World} (hi:ops[i]? = some oi)
    (hs:(Region.noSelect ops && Region.free md ops listed i && (Region.ready md ops listed).contains i && !(L == i) && closedB md ops listed && listed.getD L false) = true)
    (hQ:∀ c a w,Q (.panic c) (a.put oi.dst v) w → Q (.panic c) a w) (hy:YieldsIf P ops (fun _ => True) oi v a)
    (h:wpAnyM P md ops Q S L fuel (listed.setIfInBounds i true) (a.put oi.dst v) w):wpAnyM P md ops Q S L (fuel + 1) listed a w:=by
  simp only [Bool.and_eq_true,Bool.not_eq_true',beq_eq_false_iff_ne] at hs
  obtain ⟨⟨⟨⟨⟨h1,h2⟩,h3⟩,h4⟩,h6⟩,h7⟩:=hs;exact wpAnyM_pure0 hi (Region.noSelect_spec h1) hQ h4 fuel listed a w (closed_of h6) (Region.free_spec hi h2) (by simpa using h3) hy (fun hn => by rw [getD_set_ne false (Ne.symm h4),h7] at hn;cases hn) h
theorem wpAnyM_take {i:Nat} {oi:Oper} {v:Value} {fuel:Nat} {listed:Array Bool} {a:Act} {w:World} (n:Nat) (hi:ops[i]? = some oi)
    (hs:(Region.noSelect ops && Region.free md ops listed i && (Region.ready md ops listed).contains i && !(L == i) && depB md ops n L i && closedB md ops listed) = true)
    (hQ:∀ c a w,Q (.panic c) (a.put oi.dst v) w → Q (.panic c) a w) (hy:YieldsIf P ops S oi v a) (hS:S w)
    (h:wpAnyM P md ops Q S L fuel (listed.setIfInBounds i true) (a.put oi.dst v) w):wpAnyM P md ops Q S L (fuel + 1) listed a w:=by
  simp only [Bool.and_eq_true,Bool.not_eq_true',beq_eq_false_iff_ne] at hs
  obtain ⟨⟨⟨⟨⟨h1,h2⟩,h3⟩,h4⟩,h5⟩,h6⟩:=hs;exact wpAnyM_first hi (Region.noSelect_spec h1) hQ h4 h5 fuel listed a w (closed_of h6) (Region.free_spec hi h2) (by simpa using h3) hy hS h
theorem wpAnyM_one {i:Nat} {o:Oper} {fuel:Nat} {listed:Array Bool} {a:Act} {w:World} (ho:ops[i]? = some o) (hr:Region.ready md ops listed = [i]) (hL:(listed.setIfInBounds i true).getD L false = true)
    (h:∀ K':Act → World → Prop,Shut (∀ a w,wpAnyM P md ops Q S L fuel (listed.setIfInBounds i true) a w → K' a w) → if Region.wanted o (yielded ops a.tmps) = true then Oper.wp P o a w K' Q else K' (a.put o.dst undef) w):wpAnyM P md ops Q S L (fuel + 1) listed a w:=by
  refine ⟨fun h0 => (by rw [hr] at h0;cases h0),fun j hj => ?_⟩;rw [hr] at hj
  obtain rfl:j = i:=by simpa using hj
  exact wpOp_step ho (fun K' hK => h K' (fun a w hW => hK a w ⟨fun hn => (by rw [hL] at hn;cases hn),hW⟩))
theorem wpAnyM_done {listed:Array Bool} {a:Act} {w:World} (hr:Region.ready md ops listed = []) (h:Q .normal a w):∀ fuel,wpAnyM P md ops Q S L fuel listed a w
  | 0 => ⟨hr,h⟩
  | _ + 1 => ⟨fun _ => h,by rw [hr];simp⟩
theorem wp_region_M {id:Nat} {a:Act} {w:World} (L:Nat) (S:World → Prop) (hm:P.follows .mixedOrders = true) (hS:S w.drew)
    (h:S w.drew → wpAnyM P .any ops Q S L ops.size (Array.replicate ops.size false) a w.drew):(Code.region id ops true).wp P Q a w :=
  wp_region_any hm (wpAny_of_M _ _ _ _ (h hS))
end
end Go.Proofs.Ytcepcjkfdonclaa
namespace Go.Proofs.Ytcepcjkfdonclaa
open Go.RowKit F256
end Go.Proofs.Ytcepcjkfdonclaa
namespace Go.Proofs.Ytcepcjkfdonclaa
open Go.RowKit F256
end Go.Proofs.Ytcepcjkfdonclaa
namespace Go.Proofs.Ytcepcjkfdonclaa
open Go.RowKit
section
variable {P:Program} {ops:Array Oper} {Q:Exit → Act → World → Prop} {md:Region.Mode} {S:World → Prop} {L:Nat}
theorem wpAnyM_oneS {i:Nat} {o:Oper} {fuel:Nat} {listed:Array Bool} {a:Act} {w:World} (ho:ops[i]? = some o) (hr:Region.ready md ops listed = [i])
    (h:∀ K':Act → World → Prop,Shut (∀ a w,S w → wpAnyM P md ops Q S L fuel (listed.setIfInBounds i true) a w → K' a w) → if Region.wanted o (yielded ops a.tmps) = true then Oper.wp P o a w K' Q else K' (a.put o.dst undef) w):wpAnyM P md ops Q S L (fuel + 1) listed a w:=by
  refine ⟨fun h0 => (by rw [hr] at h0;cases h0),fun j hj => ?_⟩;rw [hr] at hj
  obtain rfl:j = i:=by simpa using hj
  exact wpOp_step ho (fun K' hK => h K' (fun a w hS hW => hK a w ⟨fun _ => hS,hW⟩))
end
end Go.Proofs.Ytcepcjkfdonclaa
namespace Go.Proofs.Ytcepcjkfdonclaa
open Go.RowKit
theorem step_callv {ops:Array Oper} {o:Oper} {a:Act} {w:World} {K:Act → World → Prop} {Q:Exit → Act → World → Prop} {E:Prop}
    (hw:Region.wanted o (yielded ops a.tmps) = true) (x:Operand) (n:Nat) (caps:Array Value) (args:Array Operand) (ty:Array TypeId) (hop:o.op = Op.call { callee:=Callee.value x,args:=args,argTypes:=ty }) (hx:a.eval x = .func (.func n) #[] caps) (vals:Array Value) (hv:args.map a.eval = vals)
    {fn : Func} (hfn : Try.prog.funcs[n]? = some fn) (hnm : (fn.name == "runtime.NumGoroutine") = false) (hbd : fn.body.isSome = true)
    {R:Ending → World → Prop} (hc:Calls Try.prog n (vals ++ caps) w R) (hK:∀ e w',R e w' → ∃ v,e = .returned v ∧ K (a.put o.dst v) w') :
    if Region.wanted o (yielded ops a.tmps) = true then Oper.wp Try.prog o a w K Q else E:=by
  have hn' : ¬ fn.name = "runtime.NumGoroutine" := by simpa using hnm
  have hb':¬ fn.body = none:=by intro h;rw [h] at hbd;cases hbd
  rw [if_pos hw];unfold Oper.wp
  simp [execOp,hop,hx,resolve,invoke,Result.andThen,Deferred.ofValue,callFunc,Oper.upon,hv,hfn,hn',hb']
  refine hc.mono fun e w' h => ?_;obtain ⟨v,rfl,hk⟩:=hK e w' h;exact hk
end Go.Proofs.Ytcepcjkfdonclaa