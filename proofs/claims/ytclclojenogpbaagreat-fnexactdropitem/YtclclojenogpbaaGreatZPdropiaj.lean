/- What CountedRecs tells, and how much it is. -/
import Derived.Lib.MinMax
import Derived.Laws.StructEq
import Derived.Test.YtclclojenogpbaaGreatZPdropiai
set_option linter.unusedVariables false
set_option linter.unusedSimpArgs false
set_option maxHeartbeats 16000000
namespace Go.Proofs.YtclclojenogpbaaGreat
open Go.RowKit F256
theorem zea {f g:Nat→Nat}:∀ {n:Nat},(∀ i,i<n→f i=g i)→sumN f n=sumN g n
 | 0,_=>rfl
 | n+1,h=>by rw [zaC,zaC,zea (fun i hi=>h i (by omega)),h n (by omega)]
theorem zjw (f g:Nat→Nat) (n:Nat):∀ m,sumN (fun i=>if i<n then f i else g (i-n)) (n+m)=sumN f n+sumN g m
 | 0=>by rw [Nat.add_zero];exact zea (fun i hi=>if_pos hi)
 | m+1=>by
  rw [← Nat.add_assoc,zaC,zjw f g n m,zaC,if_neg (by omega),show n+m-n=m by omega];omega
theorem zmf (f:Nat→Nat) (l:List Nat):sumN (fun i=>f (l.getD i 0)) l.length=(l.map f).sum:=by
 generalize hn:l.length=n
 induction n generalizing l with
 | zero=>obtain rfl:l=[]:=List.eq_nil_of_length_eq_zero hn;rfl
 | succ n ih=>
  have hne:l≠[]:=fun h=>by rw [h] at hn;simp at hn
  have e:=List.dropLast_concat_getLast hne
  have hl:l.dropLast.length=n:=by rw [List.length_dropLast];omega
  have h1:=ih l.dropLast hl;rw [zaC]
  conv=>rhs;rw [← e]
  rw [List.map_append,List.sum_append,← h1]
  congr 1
  ·exact zea (fun i hi=>by
    have:l.getD i 0=l.dropLast.getD i 0:=by
     conv=>lhs;rw [← e]
     exact zgG (by rw [hl];exact hi)
    rw [this])
  ·have:l.getD n 0=l.getLast hne:=by
    conv=>lhs;rw [← e]
    rw [← hl];exact zd6
   rw [this]
   simp
theorem ziS (f:Nat→Nat):∀ (N:Nat) (l:List Nat),l.Nodup→(∀ i,i∈l→i<N)→(l.map f).sum≤sumN f N∧l.length≤N
 | 0,l,_,h=>by
  cases l with
  | nil=>exact ⟨Nat.le_refl _,Nat.le_refl _⟩
  | cons a t=>exact absurd (h a (by simp)) (by omega)
 | N+1,l,nd,h=>by
  by_cases c:N∈l
  ·have p:=List.perm_cons_erase c
   obtain ⟨h1,h2⟩:=ziS f N (l.erase N) (nd.erase N) (fun i hi=>by
    have h3:=(nd.mem_erase_iff).1 hi;have:=h i h3.2
    omega)
   have e1:=(p.map f).sum_nat;have e2:=p.length_eq
   simp only [List.map_cons,List.sum_cons,List.length_cons] at e1 e2
   rw [zaC];omega
  ·obtain ⟨h1,h2⟩:=ziS f N l nd (fun i hi=>by
    have:=h i hi
    by_cases c2:i=N
    ·subst c2;exact absurd hi c
    ·omega)
   rw [zaC];omega
theorem Cnt.nodup {x0:Nat→RecD} {N:Nat} {l:List Nat} (h:Cnt x0 N l):l.Nodup:=h.srt.imp (fun {a b} hab e=>by subst e;exact (zbG x0).irr _ hab)
theorem Cnt.sum {x0:Nat→RecD} {N:Nat} {l:List Nat} (h:Cnt x0 N l) (f:RecD→Nat):sumN (fun i=>f (x0 (l.getD i 0))) l.length≤sumN (fun i=>f (x0 i)) N∧l.length≤N:=by
 have:=ziS (fun i=>f (x0 i)) N l h.nodup (fun i hi=>((h.mem i).1 hi).1);rw [← zmf (fun i=>f (x0 i))] at this;exact this
theorem zhR (x0:Nat→RecD) (M:Nat) (l:List Nat):∀ k,k≤l.length→(∀ j,k≤j→j<l.length→numC (x0 M) (x0 (l.getD j 0))<0)→∃ a,a≤l.length∧(∀ j,a≤j→j<l.length→numC (x0 M) (x0 (l.getD j 0))<0)∧(a=0∨¬ numC (x0 M) (x0 (l.getD (a-1) 0))<0)
 | 0,h,hb=>⟨0,h,hb,.inl rfl⟩
 | k+1,h,hb=>by
  by_cases c:numC (x0 M) (x0 (l.getD k 0))<0
  ·exact zhR x0 M l k (by omega) (fun j h1 h2=>by
    by_cases e:j=k
    ·subst e;exact c
    ·exact hb j (by omega) h2)
  ·exact ⟨k+1,h,hb,.inr c⟩
theorem zjx (x0:Nat→RecD):∀ N,∃ l,Cnt x0 N l
 | 0=>⟨[],Cnt.nil x0⟩
 | N+1=>by
  obtain ⟨l,h⟩:=zjx x0 N
  by_cases c:Fst x0 N
  ·obtain ⟨a,h1,h2,h3⟩:=zhR x0 N l l.length (Nat.le_refl _) (fun j h1 h2=>by omega)
   exact ⟨_,h.ins c a h1 h2 h3⟩
  ·exact ⟨l,h.skip c⟩
theorem zmg (f:RecD→Nat) (tp:Nat→TapeD):sumN (fun i=>f (recT tp 2 i)) (lenT tp 2)=sumN (fun i=>f ((tp 0).recs.2 i)) (tp 0).recs.1+sumN (fun i=>f ((tp 1).recs.2 i)) (tp 1).recs.1:=by
 have e1:lenT tp 1=(tp 0).recs.1:=by simp [lenT]
 have e2:lenT tp 2=(tp 0).recs.1+(tp 1).recs.1:=by simp [lenT]
 rw [e2,← zjw];refine zea (fun i hi=>?_)
 show f (cat2 (recT tp 1) (lenT tp 1) (tp 1).recs.2 i)=_
 rw [e1];unfold cat2
 by_cases c:i<(tp 0).recs.1
 ·rw [if_pos c,if_pos c]
  show f (cat2 (recT tp 0) (lenT tp 0) (tp 0).recs.2 i)=_
  have:=zcE (recT tp 0) (lenT tp 0) (tp 0).recs.2 i;rw [show lenT tp 0+i=i from Nat.zero_add i] at this;rw [this]
 ·rw [if_neg c,if_neg c]
def rec0:RecD:=⟨0,0,ByteArray.empty,0,0,0,(0,fun _=>0),(0,fun _=>0),(0,fun _=>0)⟩
theorem zmh {d:WorldD} (h2:d.tapes.1=2) (hsz:zaS d≤1048576) {l:List Nat} (h:Cnt (recT d.tapes.2 2) (lenT d.tapes.2 2) l):(szSl zaG) (l.length,fun i=>recT d.tapes.2 2 (l.getD i 0))≤1048576:=by
 obtain ⟨s1,s2⟩:=h.sum zaG;rw [zmg] at s1
 have e2:lenT d.tapes.2 2=(d.tapes.2 0).recs.1+(d.tapes.2 1).recs.1:=by simp [lenT]
 have e3:(szSl zaV) d.tapes=2+(zaV (d.tapes.2 0)+zaV (d.tapes.2 1)):=by
  unfold szSl;rw [h2]
  simp [sumN]
 have e4:zaV (d.tapes.2 0)=(d.tapes.2 0).recs.1+sumN (fun i=>zaG ((d.tapes.2 0).recs.2 i)) (d.tapes.2 0).recs.1:=rfl;have e5:zaV (d.tapes.2 1)=(d.tapes.2 1).recs.1+sumN (fun i=>zaG ((d.tapes.2 1).recs.2 i)) (d.tapes.2 1).recs.1:=rfl;have e6:zaS d=(szSl (szSl zau)) d.groups+lenD d.on+(szSl zaV) d.tapes:=rfl
 show l.length+sumN (fun i=>zaG (recT d.tapes.2 2 (l.getD i 0))) l.length≤1048576
 omega
def zmH (P:RecsResultD→Prop) (w:World) (e:Ending) (w':World):Prop:=∃ q cs,e=.returned (.agg cs.toArray)∧P q∧OwnT zbd w' w.heap.size w'.heap.size q cs∧Below w.heap.size w w'
theorem zb5:(Tryz.prog.info? 69).map (·.size)=some 2:=by kernel_rfl
theorem zjy {w:World} {lo hi n cap:Nat} {ao:Option Addr} {f:Nat→RecD} (h:OwnT (zab.slice 72) w lo hi (n,f) [.slice ao n cap]) (c:Int) (hc:-9223372036854775808≤c∧c≤9223372036854775807):OwnT zbd w lo hi ⟨c,(n,f)⟩ [.int .i64 c,.slice ao n cap]:=by
 obtain ⟨L,h1,h2,h3⟩:=h;exact ⟨L,zgK ⟨c,(n,f)⟩ h1 hc,h2,h3⟩
theorem zcn (w:World) (c:Int) (hc:-9223372036854775808≤c∧c≤9223372036854775807) (lo hi:Nat):OwnT zbd w lo hi ⟨c,(0,fun _=>rec0)⟩ [.int .i64 c,.slice none 0 0]:=zjy (OwnT.nil (zgB w _) lo hi) c hc
theorem zlr {w:World} {lo hi:Nat} {p:Nat×(Nat→RecD)} {v:Value} (h:OwnT (zab.slice 72) w lo hi p [v]):∃ ao cap,v=.slice ao p.1 cap:=by
 obtain ⟨L,h1,_⟩:=h;obtain ⟨v',_,_,e,_,h3,_⟩:=h1
 obtain rfl:v=v':=by simpa using e
 rcases h3.2 with ⟨hv,hn⟩ | ⟨g,cap,cur,rfl,_⟩
 ·exact ⟨none,0,by rw [hv,hn]⟩
 ·exact ⟨_,_,rfl⟩
set_option maxRecDepth 100000 in
theorem ziT (v:Value) (m:Nat) (y:Nat→RecD) (r:RecD) (cr:List Value) (hi:Nat) (w:World) (h:(zab.slice 72).rd w hi (m,y) [v]) (hr:zab.rd w hi r cr) (hhi:hi≤w.heap.size) (hm:m≤1048576) :
 Calls Tryz.prog 106 #[v,.agg cr.toArray] w (zbm (∃ i,i<m∧SameR (y i) r) w):=by
 obtain ⟨ao,cap,e,hmm,hc⟩:=h
 obtain rfl:v=.slice ao m cap:=by simpa using e
 have B0:=zaI w cr.toArray 72;have HR:=hid hr;have HC:=hid hc;have HR0:=hr;obtain ⟨b6,bk6,b7,bk7,b8,bk8,rfl,-⟩:=zaO HR0;clear e hmm hc HR0
 go_enter Tryz.func106,Tryz.ntmps106
 go_wp2
 go_loopw [5] (fun z wr=>∃ k:Nat,k≤m∧z=.int .i64 k∧(∀ t,t<k→¬ SameR (y t) r)∧One w wr (rwR r b6 bk6 b7 bk7 b8 bk8).toArray 72) (fun z _=>m-(intOf z).toNat)
 case atStart=>exact ⟨0,Nat.zero_le _,rfl,fun t ht=>by omega,B0⟩
 case round=>
  obtain ⟨k,hk,rfl,hall,hO⟩:=hrel;obtain ⟨wx,rfl⟩:∃ y,y=wr:=⟨_,rfl⟩;have HALL:=hid hall;have HO:=hid hO;have hbl:=hO.bel;have zx:=hbl.size;have XB:Box wx w.heap.size (rwR r b6 bk6 b7 bk7 b8 bk8).toArray 72:=hO.b1;clear hall B0 hO
  by_cases hlt:k<m
  ·obtain ⟨b,off,rfl,hbh,hel⟩:=HC.out (by omega)
   obtain ⟨ce,hy,hcell⟩:=zat (t:=72) hel hbl hhi hbh hlt;have bD:Below wx.heap.size wx wx.drew:=⟨rfl,rfl,rfl,Nat.le_refl _,fun _ _=>rfl⟩;have CS:=zhI (y k) r ce (rwR r b6 bk6 b7 bk7 b8 bk8) hi hi wx.drew (zab.rd_below hy bD (by omega)) (zab.rd_below (zab.rd_below HR.out hbl hhi) bD (by omega)) (by show hi≤wx.heap.size;omega) (by show hi≤wx.heap.size;omega)
   have r1:wx.drew.rangeAt b (off+k*9) ce:=fun j v hv=>by
    have hj:j<9:=by have:=zab.rd_len hy;have e:j<ce.length:=(List.getElem?_eq_some_iff.1 hv).1;rw [this] at e;exact e
    have:=hcell j hj;rw [← Nat.add_assoc] at this;exact this.trans hv
   have r2:wx.drew.rangeAt w.heap.size 0 (rwR r b6 bk6 b7 bk7 b8 bk8):=fun j v hv=>by
    have:=(XB.cell j).trans (by simpa using hv);rw [Nat.zero_add];exact this
   have hce:ce.length=9:=zab.rd_len hy
   have CC:Calls Tryz.prog 161 (#[.agg ce.toArray,.agg (rwR r b6 bk6 b7 bk7 b8 bk8).toArray]++#[]) wx.drew (zbm (SameR (y k) r) wx.drew):=by rw [Array.append_empty];exact CS
   have HBX:=hid XB;obtain ⟨cq,hcq⟩:∃ c:List Value,c=(rwR r b6 bk6 b7 bk7 b8 bk8):=⟨_,rfl⟩
   have hcl:cq.length=9:=by rw [hcq];rfl
   rw [← hcq] at r2 CC;clear hcq
   have i1:(0:Int)≤(k:Int):=by omega
   have i2:(k:Int)<(m:Int):=by omega
   clear hcell hel XB hy CS HC HR
   go_upto_region 4 with fail
   refine zaE 5 (fun w'=>w'.rangeAt b (off+k*9) ce∧w'.rangeAt w.heap.size 0 cq) zb4 ⟨r1,r2⟩ (fun hHeld=>?_);refine wpAnyM_pv 0 rfl ?_
   try simp only [Act.put,SL]
   refine wpAnyM_pv 1 rfl ?_
   try simp only [Act.put,SL]
   refine wpAnyM_pv 2 rfl ?_
   try simp only [Act.put,SL]
   refine zao (i:=3) (oi:=_) 16 rfl (by kernel_rfl) (fun _ _ _ h=>h) (yieldsIf_load_mid (by kernel_rfl) 72 (.tmp 14) rfl b (off+k*9) (by simp [Act.eval,Act.put]) ce _ (fun w h=>h.1) Tryz.underlying72 rfl (zas hce)) (by assumption) ?_
   try simp only [Act.put,SL]
   refine zao (i:=4) (oi:=_) 16 rfl (by kernel_rfl) (fun _ _ _ h=>h) (yieldsIf_load_mid (by kernel_rfl) 72 (.tmp 3) rfl w.heap.size (0) (by simp [Act.eval,Act.put]) cq _ (fun w h=>h.2) Tryz.underlying72 rfl (zas hcl)) (by assumption) ?_
   try simp only [Act.put,SL]
   refine zaB (i:=5) (o:=_) rfl (by kernel_rfl) (by kernel_rfl) (fun KC hKC=>?_);refine zbB (by kernel_rfl) (.func 161) 161 #[] _ _ rfl (by simp [Act.eval,Act.put]) #[.agg ce.toArray,.agg cq.toArray] (by simp [Act.eval,Act.put]) Tryz.func161 (by kernel_rfl) (by kernel_rfl) CC ?_;rintro ee w5 ⟨t,rfl,ht,b5⟩;refine ⟨_,rfl,?_⟩;refine hKC _ _ ?_;clear hKC KC
   try simp only [Act.put,SL]
   refine zaw (by kernel_rfl) ?_ _;have b5':Below wx.heap.size wx w5:=bD.trans b5;have HO5:Hid (One w w5 (rwR r b6 bk6 b7 bk7 b8 bk8).toArray 72):=⟨HBX.out.below b5' HBX.out.lt,hbl.trans (b5'.mono zx)⟩;have HT:=hid ht;clear b5 b5' ht bD r1 r2 CC HBX hHeld hbl HO
   cases t with
   | true=>
    go_wp2;go_ret;exact zaJ rfl ⟨k,hlt,HT.out.1 (by simp)⟩ HO5.out.bel
   | false=>
    go_wp2
    go_roundw
    case rel=>exact ⟨k+1,by omega,by go_num,fun t ht=>by
     by_cases c:t=k
     ·rw [c];intro hs;exact absurd (HT.out.2 hs) (by simp)
     ·exact HALL.out t (by omega),HO5.out⟩
    case measure=>simp [intOf];omega
  ·obtain rfl:k=m:=by omega
   clear hbl XB;go_wp2;go_ret;exact zan rfl (fun ⟨i,h1,h2⟩=>HALL.out i h1 h2) HO.out.bel
set_option maxRecDepth 100000 in
theorem ziU (a r:RecD) (ca cr:List Value) (hi hj:Nat) (w:World) (ha:zab.rd w hi a ca) (hr:zab.rd w hj r cr) :
 Calls Tryz.prog 107 #[.agg ca.toArray,.agg cr.toArray] w fun e w'=>e=.returned (.bool (decide (numC a r<0)))∧Below w.heap.size w w':=by
 obtain ⟨a6,ak6,a7,ak7,a8,ak8,rfl,-⟩:=zaO ha;obtain ⟨b6,bk6,b7,bk7,b8,bk8,rfl,-⟩:=zaO hr;have T0:=zax w (rwR a a6 ak6 a7 ak7 a8 ak8).toArray (rwR r b6 bk6 b7 bk7 b8 bk8).toArray 72 72;have HB0:=hid T0.bel;have x0:((w.alloc (.cells (rwR a a6 ak6 a7 ak7 a8 ak8).toArray 72)).alloc (.cells (rwR r b6 bk6 b7 bk7 b8 bk8).toArray 72)).cell? ⟨w.heap.size,0,none⟩=some (.int .i64 a.kind):=T0.b1.cell 0;have x1:((w.alloc (.cells (rwR a a6 ak6 a7 ak7 a8 ak8).toArray 72)).alloc (.cells (rwR r b6 bk6 b7 bk7 b8 bk8).toArray 72)).cell? ⟨w.heap.size,1,none⟩=some (.int .i64 a.seq):=T0.b1.cell 1;have x4:((w.alloc (.cells (rwR a a6 ak6 a7 ak7 a8 ak8).toArray 72)).alloc (.cells (rwR r b6 bk6 b7 bk7 b8 bk8).toArray 72)).cell? ⟨w.heap.size,4,none⟩=some (.int .i64 a.group):=T0.b1.cell 4;have y0:((w.alloc (.cells (rwR a a6 ak6 a7 ak7 a8 ak8).toArray 72)).alloc (.cells (rwR r b6 bk6 b7 bk7 b8 bk8).toArray 72)).cell? ⟨w.heap.size+1,0,none⟩=some (.int .i64 r.kind):=T0.b2.cell 0;have y1:((w.alloc (.cells (rwR a a6 ak6 a7 ak7 a8 ak8).toArray 72)).alloc (.cells (rwR r b6 bk6 b7 bk7 b8 bk8).toArray 72)).cell? ⟨w.heap.size+1,1,none⟩=some (.int .i64 r.seq):=T0.b2.cell 1
 have y4:((w.alloc (.cells (rwR a a6 ak6 a7 ak7 a8 ak8).toArray 72)).alloc (.cells (rwR r b6 bk6 b7 bk7 b8 bk8).toArray 72)).cell? ⟨w.heap.size+1,4,none⟩=some (.int .i64 r.group):=T0.b2.cell 4;clear T0 ha hr;have hN:=@zdN a r
 by_cases c1:a.seq=r.seq
 case neg=>
  have e1:(a.seq != r.seq)=true:=by simpa using c1
  have e9:decide (numC a r<0)=decide (a.seq<r.seq):=decide_eq_decide.2 (by rw [hN];omega);rw [e9];clear hN e9
  go_enter Tryz.func107,Tryz.ntmps107
  go_wp2;go_ret;exact ⟨rfl,HB0.out⟩
 have e1:(a.seq != r.seq)=false:=by simpa using c1
 by_cases c2:a.kind=r.kind
 case neg=>
  have e2:(a.kind != r.kind)=true:=by simpa using c2
  have e9:decide (numC a r<0)=decide (a.kind<r.kind):=decide_eq_decide.2 (by rw [hN];omega);rw [e9];clear hN e9 c1
  go_enter Tryz.func107,Tryz.ntmps107
  go_wp2;go_ret;exact ⟨rfl,HB0.out⟩
 have e2:(a.kind != r.kind)=false:=by simpa using c2
 have e9:decide (numC a r<0)=decide (a.group<r.group):=decide_eq_decide.2 (by rw [hN];omega);rw [e9];clear hN e9 c1 c2
 go_enter Tryz.func107,Tryz.ntmps107
 go_wp2;go_ret;exact ⟨rfl,HB0.out⟩
theorem zaW {w w':World} {B b o:Nat} {cs:List Value} (h:w.rangeAt b o cs) (hb:Below B w w') (hB:b<B):w'.rangeAt b o cs:=fun j v hv=>(hb.cell (p:=⟨b,o+j,none⟩) hB).trans (h j v hv)
theorem Src.below {w w':World} {B hi:Nat} {ao:Option Addr} {m:Nat} {y:Nat→RecD} {cy:Nat→List Value} (h:Src zab w hi ao m y cy) (hb:Below B w w') (hB:∀ b off,ao=some ⟨b,off,none⟩→b<B) (hh:hi≤B):Src zab w' hi ao m y cy:=
 ⟨fun h0=>by
  obtain ⟨b,off,e,hc⟩:=h.1 h0
  exact ⟨b,off,e,fun j hj k hk=>(hb.cell (p:=⟨b,off+(j*zab.sz+k),none⟩) (hB b off e)).trans (hc j hj k hk)⟩,fun j hj=>zab.rd_below (h.2 j hj) hb hh⟩
theorem zmI {D U:World} {lo hi m:Nat} {ao:Option Addr} {c:Nat} {y:Nat→RecD} {cy:Nat→List Value} {v0:Value} {x':Nat→RecD} {ce:Nat→List Value} (hS:Src zab D hi ao m y cy) (hz:ao=none→c=0∨m=0) (hA:∀ b off,ao=some ⟨b,off,none⟩→b<D.heap.size) (hb:Below D.heap.size D U) (hh:hi≤D.heap.size) (hm:m≤1000000)
 (V:View zab 72 U D.heap.size hi v0 0 x' ce):∃ v' w' ce',(Builtin.append_ #[67,67] 67 #[v0,.slice ao m c]).run Tryz.prog U=.ok v' w'∧View zab 72 w' D.heap.size hi v' m y ce'∧Below D.heap.size U w':=by
 obtain ⟨v',w',hrun,V',_,b'⟩:=zbJ zc7 za8 67 V c (hS.below hb hA hh) hb.size hh (by omega) hz;refine ⟨v',w',cat2 ce 0 cy,hrun,?_,b'⟩;rw [Nat.zero_add] at V';exact V'.congr (fun i hi=>by unfold cat2;rw [if_neg (by omega)];rfl)
theorem View.weakL {w:World} {lo lo' hi n:Nat} {v:Value} {x:Nat→RecD} {ce:Nat→List Value} (h:View zab 72 w lo hi v n x ce) (hl:lo'≤lo):View zab 72 w lo' hi v n x ce:=⟨⟨h.row.1,by
 rcases h.row.2 with hn | ⟨g,cap,cur,rfl,hbg,rest⟩
 ·exact .inl hn
 ·exact .inr ⟨g,cap,cur,rfl,Nat.le_trans hl hbg,rest⟩⟩,h.each⟩
theorem zgL {D U:World} {hi m g:Nat} {ao:Option Addr} {c:Nat} {y:Nat→RecD} {cy:Nat→List Value} {v0:Value} {x':Nat→RecD} {ce:Nat→List Value} {cR:List Value} (hS:Src zab D hi ao m y cy) (hz:ao=none→c=0∨m=0) (hA:∀ b off,ao=some ⟨b,off,none⟩→b<D.heap.size) (hb:Below D.heap.size D U) (hh:hi≤D.heap.size) (hm:m≤1000000)
 (V:View zab 72 U D.heap.size hi v0 0 x' ce) (hX:Box U g cR.toArray 72) (hg:v0.ownBlock≠some g):∃ v' w' ce',(Builtin.append_ #[67,67] 67 #[v0,.slice ao m c]).run Tryz.prog U=.ok v' w'∧(View zab 72 w' D.heap.size hi v' m y ce'∧Box w' g cR.toArray 72)∧Below D.heap.size U w':=by
 obtain ⟨v',w',hrun,V',hgr,b'⟩:=zbJ zc7 za8 67 V c (hS.below hb hA hh) hb.size hh (by omega) hz;refine ⟨v',w',cat2 ce 0 cy,hrun,⟨?_,?_⟩,b'⟩
 ·rw [Nat.zero_add] at V'
  exact V'.congr (fun i hi=>by unfold cat2;rw [if_neg (by omega)];rfl)
 ·exact (hgr.block g hX.lt (fun h=>hg h.symm)).trans hX
theorem zet {D U:World} {hi m g:Nat} {v:Value} {x:Nat→RecD} {ce:Nat→List Value} {r:RecD} {cR:List Value} (hb:Below D.heap.size D U) (hh:hi≤D.heap.size) (hm:m≤1000000) (V:View zab 72 U D.heap.size hi v m x ce) (hX:Box U g cR.toArray 72) (hr:zab.rd U hi r cR) :
 ∃ v' w' ce',(Builtin.append_ #[67,67] 67 #[v,.slice (some ⟨g,0,none⟩) 1 1]).run Tryz.prog U=.ok v' w'∧View zab 72 w' D.heap.size hi v' (m+1) (cat2 x m (fun _=>r)) ce'∧Below D.heap.size U w':=by
 obtain ⟨v',w',hrun,V',_,b'⟩:=zbJ zc7 za8 67 V 1 (zgF (b:=g) (hi:=hi) (y:=r) (cs:=cR) (fun j hj=>by rw [hX.cell j];simp) hr) hb.size hh (by omega) (fun h=>by cases h);exact ⟨v',w',_,hrun,V',b'⟩
theorem zdD {D U:World} {hi m k:Nat} {ao:Option Addr} {c:Nat} {y:Nat→RecD} {cy:Nat→List Value} {v:Value} {x:Nat→RecD} {ce:Nat→List Value} (hS:Src zab D hi ao k y cy) (hz:ao=none→c=0∨k=0) (hA:∀ b off,ao=some ⟨b,off,none⟩→b<D.heap.size) (hb:Below D.heap.size D U) (hh:hi≤D.heap.size) (hm:m+k≤2000000)
 (V:View zab 72 U D.heap.size hi v m x ce):∃ v' w' ce',(Builtin.append_ #[67,67] 67 #[v,.slice ao k c]).run Tryz.prog U=.ok v' w'∧View zab 72 w' D.heap.size hi v' (m+k) (cat2 x m y) ce'∧Below D.heap.size U w':=by
 obtain ⟨v',w',hrun,V',_,b'⟩:=zbJ zc7 za8 67 V c (hS.below hb hA hh) hb.size hh (by omega) hz;exact ⟨v',w',_,hrun,V',b'⟩
theorem zcp (l:List Nat) (M at_:Nat) (h:at_≤l.length):(l.take at_++M::l.drop at_).length=at_+1+(l.length-at_):=by
 rw [List.length_append,List.length_cons,List.length_take,List.length_drop];omega
theorem zdE (x0:Nat→RecD) (l:List Nat) (M at_:Nat) (h:at_≤l.length) (i:Nat):cat2 (cat2 (fun i=>x0 (l.getD i 0)) at_ (fun _=>x0 M)) (at_+1) (fun j=>x0 (l.getD (at_+j) 0)) i=x0 ((l.take at_++M::l.drop at_).getD i 0):=by
 have hl:(l.take at_).length=at_:=by rw [List.length_take];omega
 by_cases c1:i<at_
 ·rw [zco _ _ (by omega),zco _ _ c1]
  congr 1
  rw [List.getD_eq_getElem?_getD,List.getD_eq_getElem?_getD,List.getElem?_append_left (by omega),List.getElem?_take,if_pos c1]
 ·by_cases c2:i=at_
  ·subst c2
   have e:=zcE (fun i=>x0 (l.getD i 0)) i (fun _=>x0 M) 0;rw [Nat.add_zero] at e;rw [zco _ _ (by omega),e]
   congr 1
   rw [List.getD_eq_getElem?_getD,List.getElem?_append_right (by omega),hl]
   simp
  ·obtain ⟨j,rfl⟩:∃ j,i=at_+1+j:=⟨i-(at_+1),by omega⟩
   rw [zcE]
   congr 1
   rw [List.getD_eq_getElem?_getD,List.getD_eq_getElem?_getD,List.getElem?_append_right (by omega),hl,show at_+1+j-at_=j+1 by omega,List.getElem?_cons_succ,List.getElem?_drop]
theorem zm3 (tp:Nat→TapeD) {T i:Nat} (hT:T<2) (hi:i<(tp T).recs.1):recT tp 2 (lenT tp T+i)=(tp T).recs.2 i:=by
 have:T=0∨T=1:=by omega
 rcases this with rfl | rfl
 ·have h1:recT tp 2 (lenT tp 0+i)=recT tp 1 (lenT tp 0+i):=zco _ _ (by show lenT tp 0+i<lenT tp 0+(tp 0).recs.1;omega)
  rw [h1];exact zcE _ _ _ _
 ·exact zcE _ _ _ _
theorem zmi {k:Nat} (h:k+1<1000000000):IntKind.i64.wrap (((k+1:Nat):Int)-1)=(k:Int):=by rw [IntKind.wrap_i64];omega
set_option maxRecDepth 100000 in
theorem zeb (d:WorldD) (cs:List Value) (hi B:Nat) (w:World) (h:zad.rd w hi d cs) (hhi:hi≤w.heap.size) (hBX:Box w B cs.toArray 38) (h2:d.tapes.1=2) (hn0:(d.tapes.2 0).recs.1≤400000) (hn1:(d.tapes.2 1).recs.1≤400000) :
 Calls Tryz.prog 60 #[.pointer (some ⟨B,0,none⟩)] w (fun e w'=>∃ v' l ce lo,e=.returned v'∧Cnt (recT d.tapes.2 2) (lenT d.tapes.2 2) l∧w.heap.size≤lo∧View zab 72 w' lo hi v' l.length (fun i=>recT d.tapes.2 2 (l.getD i 0)) ce∧Below w.heap.size w w'):=by
 obtain ⟨ao1,cap1,ao2,cap2,ao3,cap3,rfl,g1,g2,g3,k0,k4,k5⟩:=zaM h;obtain ⟨ao3',cap3',e,hmm,hc⟩:=g3
 simp only [List.cons.injEq,Value.slice.injEq,true_and,and_true] at e
 obtain ⟨rfl,rfl⟩:=e;obtain ⟨tb,toff,rfl,hbh,hel⟩:=hc (by rw [h2];simp);rw [h2] at hel;have HEL:=hid hel;have hBlt:=hBX.lt
 have HBX:Hid (w.cell? ⟨B,11,none⟩=some (.slice (some ⟨tb,toff,none⟩) 2 cap3)):=by have:=hBX.cell 11;rw [h2] at this;exact this
 obtain ⟨tp,htp⟩:∃ t,t=d.tapes.2:=⟨_,rfl⟩;rw [← htp] at HEL hn0 hn1 ⊢;clear h hc hmm g1 g2 k0 k4 k5 hel h2 hBX htp;obtain ⟨x0,hx0⟩:∃ x,x=recT tp 2:=⟨_,rfl⟩;have HX0:=hid hx0;rw [← hx0];clear hx0;have bL:=bAl w (.cells #[] 72);have V0:=View.lit0 (E:=zab) (t:=72) (fun i=>x0 (([]:List Nat).getD i 0)) (fun _=>[]) w hi;have HL:Hid (lenT tp 0=0∧lenT tp 1=(tp 0).recs.1∧lenT tp 2=(tp 0).recs.1+(tp 1).recs.1):=⟨rfl,by simp [lenT],by simp [lenT]⟩
 go_enter Tryz.func60,Tryz.ntmps60
 go_wp2
 go_loopw [3,4] (fun vo vt wr=>∃ (T lo:Nat) (l:List Nat) (co:Nat→List Value),T≤2∧vt=.int .i64 T∧w.heap.size≤lo∧lo≤wr.heap.size∧Cnt x0 (lenT tp T) l∧l.length≤lenT tp T∧View zab 72 wr lo hi vo l.length (fun i=>x0 (l.getD i 0)) co∧Below w.heap.size w wr) (fun _ i _=>2-(intOf i).toNat)
 case atStart=>exact ⟨0,w.heap.size,[],fun _=>[],by omega,rfl,Nat.le_refl _,bL.size,Cnt.nil x0,Nat.zero_le _,V0,bL⟩
 case round=>
  obtain ⟨T,lo,l,co,hT,rfl,hlo,hlow,hCt,hLl,V,bw⟩:=hrel;have HCt:=hid hCt;have HV:=hid V;have HBW:=hid bw;clear bL V0 hCt
  by_cases hlt:T<2
  ·obtain ⟨m,hm⟩:∃ m,m=(tp T).recs.1:=⟨_,rfl⟩
   have HM:=hid hm
   have hmb:m≤400000∧lenT tp T≤400000:=by
    have:T=0∨T=1:=by omega
    have h3:=HL.out
    rcases this with rfl | rfl<;>omega
   have HLS:Hid (lenT tp (T+1)=lenT tp T+m):=by rw [hm];exact rfl
   have HW0:Hid (∀ w',Below w.heap.size w w'→∃ rb cap1,w'.cell? ⟨tb,toff+T*2+1,none⟩=some (.slice rb m cap1)∧(zab.slice 72).rd w' hi (m,(tp T).recs.2) [.slice rb m cap1]):=fun w' hb=>by
    obtain ⟨ct,hy,hcell⟩:=zat (t:=112) HEL.out hb hhi hbh hlt;obtain ⟨aoT,capT,rfl,hrs⟩:=zbb hy;exact ⟨aoT,capT,by have:=hcell 1 (by decide);rw [hm];exact this,by rw [hm];exact hrs⟩
   obtain ⟨L0,hL0⟩:∃ n,n=lenT tp T:=⟨_,rfl⟩;have HL0:=hid hL0;rw [← hL0] at HCt hLl HLS hmb
   have t1:(T:Int)<2:=by omega
   have t0:(0:Int)≤(T:Int):=by omega
   clear hm bw V hL0 HEL;go_wp2
   go_loopw [3,5] (fun vo vi wr=>∃ (i lo:Nat) (l:List Nat) (co:Nat→List Value),i≤m∧vi=.int .i64 i∧w.heap.size≤lo∧lo≤wr.heap.size∧Cnt x0 (L0+i) l∧l.length≤L0+i∧View zab 72 wr lo hi vo l.length (fun i=>x0 (l.getD i 0)) co∧Below w.heap.size w wr) (fun _ i _=>m-(intOf i).toNat)
   case atStart=>exact ⟨0,lo,l,co,Nat.zero_le _,rfl,hlo,hlow,HCt.out,hLl,HV.out,HBW.out⟩
   case round=>
    clear HCt HV HBW hLl hlow hlo co lo l;obtain ⟨i,lo,l,co,hi',rfl,hlo,hlow,hCt,hLl,V,bw⟩:=hrel;obtain ⟨wi,rfl⟩:∃ y,y=wr:=⟨_,rfl⟩;obtain ⟨n,hn⟩:∃ n,n=l.length:=⟨_,rfl⟩;have HN:=hid hn;rw [← hn] at V hLl;have HCt:=hid hCt;obtain ⟨ao,cap,hvo⟩:=V.form;subst hvo;have HV:=hid V;have HBW:=hid bw;have zr:w.heap.size≤wi.heap.size:=bw.size;have xB:wi.cell? ⟨B,11,none⟩=some (.slice (some ⟨tb,toff,none⟩) 2 cap3):=(bw.cell (p:=⟨B,11,none⟩) hBlt).trans HBX.out;obtain ⟨rb,capT,xT,hrs⟩:=HW0.out wi bw;clear hCt hn V bw
    by_cases hlt2:i<m
    ·obtain ⟨cy,hS,-⟩:=zmG hrs
     obtain ⟨b,off,hrb,hcell⟩:=hS.1 (by omega);subst hrb;have rdR:=hS.2 i hlt2;have hcR:(cy i).length=9:=zab.rd_len rdR
     have rgR:wi.rangeAt b (off+i*9) (cy i):=fun j v hv=>by
      have hj:j<9:=by rw [← hcR];exact (List.getElem?_eq_some_iff.1 hv).1
      have:=hcell i hlt2 j hj;rw [show off+(i*zab.sz+j)=off+i*9+j from (Nat.add_assoc _ _ _).symm] at this;exact this.trans hv
     obtain ⟨cR,hcRe⟩:∃ c,c=cy i:=⟨_,rfl⟩;rw [← hcRe] at rgR hcR rdR
     have hxr:(tp T).recs.2 i=x0 (L0+i):=by rw [HX0.out,HL0.out];exact (zm3 tp hlt (by rw [← HM.out];exact hlt2)).symm
     rw [hxr] at rdR;obtain ⟨M,hM⟩:∃ M,M=L0+i:=⟨_,rfl⟩;have HMM:=hid hM;rw [← hM] at rdR HCt;have oneR:∀ v,v∈cR→v.oneCell'=true:=za8 _ _ _ _ rdR
     have i1:(0:Int)≤(i:Int):=by omega
     have i2:(i:Int)<(m:Int):=by omega
     have bA:=bAl wi (.cells cR.toArray 72);have XA:=zaq wi cR.toArray 72;have rdW:zab.rd (wi.alloc (.cells cR.toArray 72)) hi (x0 M) cR:=zab.rd_below rdR bA (by omega);clear hrs hS hcell hcRe hxr rdR hM
     go_upto_region 9 with (first | (refine wpList_load_mid rfl 72 (.tmp 35) rfl b (off+i*9) (by simp [Act.eval]) cR _ rgR Tryz.underlying72 rfl (zas hcR) ?_) | (refine zaN 72 6 (.tmp 36) cR _ 9 rfl rfl rfl rfl rfl rfl rfl rfl zdu rfl hcR oneR ?_))
     obtain ⟨W,hW⟩:∃ x,x=wi.alloc (.cells cR.toArray 72):=⟨_,rfl⟩;rw [← hW] at bA XA rdW ⊢;clear hW rgR xB xT;have VW:=HV.out.below bA (by omega);have zW':wi.heap.size<W.heap.size:=XA.lt;have CH:=ziT (.slice ao n cap) n (fun i=>x0 (l.getD i 0)) (x0 M) cR W.heap.size W (VW.rd (by omega)) (zab.rd_mono rdW (by omega)) (Nat.le_refl _) (by omega);have HXW:=hid XA;have HVW:=hid VW;have HRW:=hid rdW;have HBW2:=hid (HBW.out.trans (bA.mono zr));clear VW XA rdW bA HV HBW
     go_wp2_with (refine zai 72 (.tmp 6) rfl rfl (wi.heap.size) rfl HXW.out Tryz.underlying72 zgI hcR ?_)
     refine CH.mono ?_;rintro ee w5 ⟨t,rfl,ht,b5⟩;have z5:W.heap.size≤w5.heap.size:=b5.size;have HV5:Hid (View zab 72 w5 lo hi (.slice ao n cap) n (fun i=>x0 (l.getD i 0)) co):=HVW.out.below b5 (by omega);have HX5:=hid (HXW.out.below b5 zW');have HR5:Hid (zab.rd w5 hi (x0 M) cR):=zab.rd_below HRW.out b5 (by omega);have HB5:Hid (Below w.heap.size w w5):=HBW2.out.trans (b5.mono (by omega))
     have HT:Hid (t=true↔¬ Fst x0 M):=by
      show t=true↔¬ Fst x0 M
      rw [ht,← HCt.out.has,HN.out];have:=(zcr (l:=l) (al:=0) (P:=fun o=>SameR (x0 o) (x0 M))).symm
      simpa using this
     clear ht b5 CH HVW HXW HRW HBW2
     cases t with
     | true=>
      go_wp2
      go_roundw
      case rel=>exact ⟨i+1,lo,l,co,by omega,by go_num,hlo,by omega,by rw [← Nat.add_assoc,← HMM.out];exact HCt.out.skip (HT.out.1 (by simp)),by rw [← HN.out];omega,by rw [← HN.out];exact HV5.out,HB5.out⟩
      case measure=>simp [intOf];omega
     | false=>
      have HF:Hid (Fst x0 M):=Classical.byContradiction fun h=>absurd (HT.out.2 h) (by simp);clear HT;go_wp2
      go_loopw [7] (fun va wx=>∃ at_:Nat,at_≤n∧va=.int .i64 at_∧(∀ k,at_≤k→k<n→numC (x0 M) (x0 (l.getD k 0))<0)∧Below w5.heap.size w5 wx) (fun va _=>(intOf va).toNat)
      case atStart=>exact ⟨n,Nat.le_refl _,by go_num,fun k h1 h2=>by omega,Below.refl _ _⟩
      case round=>
       obtain ⟨at_,hat,rfl,hbeh,bx⟩:=hrel;obtain ⟨wx,rfl⟩:∃ y,y=wr:=⟨_,rfl⟩;have HBE:=hid hbeh;have zx:w5.heap.size≤wx.heap.size:=bx.size;have HVx:Hid (View zab 72 wx lo hi (.slice ao n cap) n (fun i=>x0 (l.getD i 0)) co):=HV5.out.below bx (by omega);have HXx:Hid (Box wx wi.heap.size cR.toArray 72):=HX5.out.below bx (by omega);have HRx:Hid (zab.rd wx hi (x0 M) cR):=zab.rd_below HR5.out bx (by omega);have HBx:Hid (Below w.heap.size w wx):=HB5.out.trans (bx.mono (by omega));have HB5x:=hid bx;have bD:Below wx.heap.size wx wx.drew:=⟨rfl,rfl,rfl,Nat.le_refl _,fun _ _=>rfl⟩;clear hbeh bx
       by_cases hat0:at_=0
       ·have d1:decide (0<at_)=false:=decide_eq_false (by omega)
        have d2:decide ((0:Int)<(at_:Int))=false:=decide_eq_false (by omega);have HS:Hid (at_=0∨¬ numC (x0 M) (x0 (l.getD (at_-1) 0))<0):=.inl hat0;clear hat0
        go_upto_region 11 with fail
        refine zaE 9 (fun w'=>True) zb4 trivial (fun hHeld=>?_);refine wpAnyM_pv 0 rfl ?_
        try simp only [Act.put,SL]
        refine wpAnyM_pv 1 rfl ?_
        try simp only [Act.put,SL]
        try rw [d1]
        refine wpAnyM_pv 2 rfl ?_
        try simp only [Act.put,SL]
        refine wpAnyM_ps 3 rfl ?_
        try simp only [Act.put,SL]
        refine wpAnyM_ps 4 rfl ?_
        try simp only [Act.put,SL]
        refine wpAnyM_ps 5 rfl ?_
        try simp only [Act.put,SL]
        refine wpAnyM_ps 6 rfl ?_
        try simp only [Act.put,SL]
        refine wpAnyM_ps 7 rfl ?_
        try simp only [Act.put,SL]
        refine wpAnyM_ps 8 rfl ?_
        try simp only [Act.put,SL]
        refine zaB (i:=9) (o:=_) rfl (by kernel_rfl) (by kernel_rfl) (fun KC hKC=>?_);refine zmZ (by kernel_rfl) (hKC _ _ ?_);clear hKC KC
        try simp only [Act.put,SL]
        refine zne 10 (v:=?_) rfl ?_ ?_
        rotate_left
        ·intro w' hSw;go_simp;try with_reducible rfl
        try simp only [Act.put,SL]
        refine zaw (by kernel_rfl) ?_ _;obtain ⟨w9,hw9⟩:∃ x,x=wx.drew:=⟨_,rfl⟩;rw [← hw9] at bD ⊢;have b9:Below wx.heap.size wx w9:=bD;clear bD hw9 hHeld d1 d2;have z9:wx.heap.size≤w9.heap.size:=b9.size;have V9:=(HVx.out.below b9 (by omega)).drew;have b9':Below wx.heap.size wx w9.drew:=b9.trans (show Below wx.heap.size w9 w9.drew from ⟨rfl,rfl,rfl,Nat.le_refl _,fun _ _=>rfl⟩);have X9:Box w9.drew wi.heap.size cR.toArray 72:=HXx.out.below b9' (by omega);have R9:zab.rd w9.drew hi (x0 M) cR:=zab.rd_below HRx.out b9' (by omega);have B9:Below w.heap.size w w9.drew:=HBx.out.trans (b9'.mono (by omega))
        have rg9:w9.drew.rangeAt wi.heap.size 0 cR:=fun j v hv=>by
         have:=(X9.cell j).trans (by simpa using hv);rw [Nat.zero_add];exact this
        obtain ⟨D,hD⟩:∃ D,D=w9.drew:=⟨_,rfl⟩;have HD:=hid hD;rw [← hD] at V9 X9 R9 B9 rg9
        have zD:w9.heap.size=D.heap.size:=by rw [hD];rfl
        clear hD b9 b9';obtain ⟨aU,cU,hUr,sU,hUz⟩:=V9.upto_ (show hi≤D.heap.size by omega) (al:=at_) hat;obtain ⟨aF,cF,hFr,sF,rF,hFz⟩:=V9.from_ (show hi≤D.heap.size by omega) (al:=at_) hat
        have hAU:∀ b off,aU=some ⟨b,off,none⟩→b<D.heap.size:=fun b off e=>by
         rcases V9.form2 with ⟨e3,e4⟩ | ⟨g,cp,e3,e4,hg⟩
         ·have hz:at_=0:=by omega
          have:=hUr D;rw [e3,hz,zfq D] at this
          simp only [Result.ok.injEq,Value.slice.injEq,and_true] at this
          rw [← this.1] at e
          cases e
         ·have:=hUr D
          rw [e3,zfo g n cp at_ hat e4 D] at this
          simp only [Result.ok.injEq,Value.slice.injEq,and_true] at this
          rw [← this.1] at e
          cases e
          exact hg
        have hAF:∀ b off,aF=some ⟨b,off,none⟩→b<D.heap.size:=fun b off e=>by
         rcases V9.form2 with ⟨e3,e4⟩ | ⟨g,cp,e3,e4,hg⟩
         ·have hz:at_=0:=by omega
          have:=hFr D;rw [e3,hz,zfp D] at this
          simp only [Result.ok.injEq,Value.slice.injEq,and_true] at this
          rw [← this.1] at e
          cases e
         ·have:=hFr D
          rw [e3,zfn g n cp at_ hat D] at this
          simp only [Result.ok.injEq,Value.slice.injEq,and_true] at this
          rw [← this.1] at e
          split at e<;>cases e<;>exact hg
        have hiD:hi≤D.heap.size:=by omega
        have hpD:wi.heap.size<D.heap.size:=X9.lt
        have hatL:at_≤l.length:=by rw [← HN.out];exact hat
        have HCN:Hid (Cnt x0 (M+1) (l.take at_++M::l.drop at_)):=HCt.out.ins HF.out at_ hatL (fun k h1 h2=>HBE.out k h1 (by rw [HN.out];exact h2)) HS.out;have HRd:=hid R9;have HBD:=hid B9;have HUS:=hid sU;have HFS:=hid sF;clear V9 X9 R9 B9 sU sF rF
        go_upto_region 13 with fail
        refine zaE 7 (fun w'=>w'.rangeAt wi.heap.size 0 cR) zb4 (by rw [← HD.out];exact rg9) (fun hHeld=>?_);rw [← HD.out] at hHeld ⊢;refine wpAnyM_pv 1 rfl ?_
        try simp only [Act.put,SL]
        refine wpAnyM_pv 2 rfl ?_
        try simp only [Act.put,SL]
        refine znq 3 (v:=?_) rfl ?_ ?_
        rotate_left
        ·intro w' hSw
         try rw [show (Instr.slice 67 (.slice ao n cap) none (some (.int .i64 (at_:Int))) none).run Tryz.prog w'=_ from hUr w']
         have hSl':=hUr w';go_simp
         try with_reducible rfl
        try simp only [Act.put,SL]
        refine zao (i:=5) (oi:=_) 16 rfl (by kernel_rfl) (fun _ _ _ h=>h) (yieldsIf_load_mid (by kernel_rfl) 72 (.tmp 6) rfl wi.heap.size (0) (by simp [Act.eval,Act.put]) cR _ (fun w h=>h) Tryz.underlying72 rfl (zas hcR)) (by assumption) ?_
        try simp only [Act.put,SL]
        refine wpAnyM_pv 8 rfl ?_
        try simp only [Act.put,SL]
        refine wpAnyM_pv 9 rfl ?_
        try simp only [Act.put,SL]
        refine znq 10 (v:=?_) rfl ?_ ?_
        rotate_left
        ·intro w' hSw
         try rw [show (Instr.slice 67 (.slice ao n cap) (some (.int .i64 (at_:Int))) none none).run Tryz.prog w'=_ from hFr w']
         have hSl':=hFr w';go_simp
         try with_reducible rfl
        try simp only [Act.put,SL]
        refine zcV (i:=0) (j:=6) (o:=_) (o':=_) rfl rfl (by kernel_rfl) (fun KC hKC=>?_) (fun KC hKC=>?_)
        ·refine zcW rfl rfl ?_
         have bA:=bAl D (.cells #[] 72);refine hKC _ _ (zaW rg9 bA hpD) ?_;clear hKC KC
         try simp only [Act.put,SL]
         have VL:=View.lit0 (E:=zab) (t:=72) (fun i=>x0 (l.getD i 0)) co D hi;have zA1:D.heap.size<(D.alloc (.cells #[] 72)).heap.size:=(zaq D #[] 72).lt;obtain ⟨D1,hD1⟩:∃ x,x=D.alloc (.cells #[] 72):=⟨_,rfl⟩;rw [← hD1] at bA VL zA1 ⊢;clear hD1;refine zcV (i:=4) (j:=6) (o:=_) (o':=_) rfl rfl (by kernel_rfl) (fun KC hKC=>?_) (fun KC hKC=>?_)
         ·skip
          obtain ⟨v4,w4,cv4,runv4,V4,bw4⟩:=zmI (lo:=lo) HUS.out hUz hAU bA hiD (by omega) VL;refine zaZ rfl (.tmp 55) (.tmp 58) rfl (by simp [Act.eval,Act.put]) (by simp [Act.eval,Act.put]) runv4 ?_;have b4D:=bA.trans bw4;refine hKC _ _ (zaW rg9 b4D hpD) ?_;clear hKC KC
          try simp only [Act.put,SL]
          refine zbj (i:=6) (o:=_) rfl (by kernel_rfl) (fun KC hKC=>?_);refine zbI rfl (.tmp 60) rfl HRd.out (by simp [Act.eval,Act.put]) ?_;have b6:=bAl w4 (.cells cR.toArray 72);have b6D:=b4D.trans (b6.mono b4D.size);refine hKC _ _ (zaW rg9 b6D hpD) ?_;clear hKC KC
          try simp only [Act.put,SL]
          have V6:=V4.below b6 (by have:=b4D.size;omega);have X6:=zaq w4 cR.toArray 72;obtain ⟨v7,w7,cv7,runv7,V7,bw7⟩:=zet b6D hiD (by omega) V6 X6 (zab.rd_below HRd.out b6D hiD);refine zaB (i:=7) (o:=_) rfl (by kernel_rfl) (by kernel_rfl) (fun KC hKC=>?_);refine zaZ rfl (.tmp 59) (.tmp 61) rfl (by simp [Act.eval,Act.put]) (by simp [Act.eval,Act.put]) runv7 ?_;refine hKC _ _ ?_;clear hKC KC
          try simp only [Act.put,SL]
          have b7D:=b6D.trans bw7;obtain ⟨v8,w8,cv8,runv8,V8,bw8⟩:=zdD HFS.out hFz hAF b7D hiD (by omega) V7;refine zaB (i:=11) (o:=_) rfl (by kernel_rfl) (by kernel_rfl) (fun KC hKC=>?_);refine zaZ rfl (.tmp 62) (.tmp 65) rfl (by simp [Act.eval,Act.put]) (by simp [Act.eval,Act.put]) runv8 ?_;refine hKC _ _ ?_;clear hKC KC
          try simp only [Act.put,SL]
          refine zne 12 (v:=?_) rfl ?_ ?_
          rotate_left
          ·intro w' hSw;go_simp;try with_reducible rfl
          try simp only [Act.put,SL]
          refine zaw (by kernel_rfl) ?_ _
          have HV8:Hid (View zab 72 w8 D.heap.size hi v8 (l.take at_++M::l.drop at_).length (fun i=>x0 ((l.take at_++M::l.drop at_).getD i 0)) cv8):=by
           show View _ _ _ _ _ _ _ _ _
           rw [zcp l M at_ hatL,← HN.out];exact V8.congr (fun i _=>zdE x0 l M at_ hatL i)
          have HB8:Hid (Below w.heap.size w w8):=HBD.out.trans ((b7D.trans bw8).mono (by omega));have z8:D.heap.size≤w8.heap.size:=(b7D.trans bw8).size
          have HLn:Hid ((l.take at_++M::l.drop at_).length≤L0+(i+1)):=by
           show (l.take at_++M::l.drop at_).length≤L0+(i+1)
           rw [zcp l M at_ hatL,← HN.out];omega
          clear V8 V7 bw7 bw8 b7D hHeld runv7 runv8 hUr hFr hUz hFz hAU hAF rg9 HUS HFS HRd HBD;go_wp2
          go_roundw
          case rel=>exact ⟨i+1,D.heap.size,l.take at_++M::l.drop at_,cv8,by omega,by go_num,by omega,z8,by rw [← Nat.add_assoc,← HMM.out];exact HCN.out,HLn.out,HV8.out,HB8.out⟩
          case measure=>simp [intOf];omega
         ·refine zbI rfl (.tmp 60) rfl HRd.out (by simp [Act.eval,Act.put]) ?_
          have b6:=bAl D1 (.cells cR.toArray 72);have b6D:=bA.trans (b6.mono bA.size);refine hKC _ _ (zaW rg9 b6D hpD) ?_;clear hKC KC
          try simp only [Act.put,SL]
          have VL6:=VL.below b6 (by have:=bA.size;omega);have X6:=zaq D1 cR.toArray 72;have z6:D1.heap.size<(D1.alloc (.cells cR.toArray 72)).heap.size:=X6.lt;have zA:=bA.size;obtain ⟨D2,hD2⟩:∃ x,x=D1.alloc (.cells cR.toArray 72):=⟨_,rfl⟩;rw [← hD2] at b6 b6D VL6 X6 z6 ⊢;clear hD2;have XK:=X6;obtain ⟨v4,w4,cv4,runv4,⟨V4,X4⟩,bw4⟩:=zgL HUS.out hUz hAU b6D hiD (by omega) VL6 X6 (fun h=>by simp [Value.ownBlock] at h;omega);refine zbj (i:=4) (o:=_) rfl (by kernel_rfl) (fun KC hKC=>?_);refine zaZ rfl (.tmp 55) (.tmp 58) rfl (by simp [Act.eval,Act.put]) (by simp [Act.eval,Act.put]) runv4 ?_;have b4D:=b6D.trans bw4;refine hKC _ _ (zaW rg9 b4D hpD) ?_;clear hKC KC
          try simp only [Act.put,SL]
          obtain ⟨v7,w7,cv7,runv7,V7,bw7⟩:=zet b4D hiD (by omega) V4 X4 (zab.rd_below HRd.out b4D hiD);refine zaB (i:=7) (o:=_) rfl (by kernel_rfl) (by kernel_rfl) (fun KC hKC=>?_);refine zaZ rfl (.tmp 59) (.tmp 61) rfl (by simp [Act.eval,Act.put]) (by simp [Act.eval,Act.put]) runv7 ?_;refine hKC _ _ ?_;clear hKC KC
          try simp only [Act.put,SL]
          have b7D:=b4D.trans bw7;obtain ⟨v8,w8,cv8,runv8,V8,bw8⟩:=zdD HFS.out hFz hAF b7D hiD (by omega) V7;refine zaB (i:=11) (o:=_) rfl (by kernel_rfl) (by kernel_rfl) (fun KC hKC=>?_);refine zaZ rfl (.tmp 62) (.tmp 65) rfl (by simp [Act.eval,Act.put]) (by simp [Act.eval,Act.put]) runv8 ?_;refine hKC _ _ ?_;clear hKC KC
          try simp only [Act.put,SL]
          refine zne 12 (v:=?_) rfl ?_ ?_
          rotate_left
          ·intro w' hSw;go_simp;try with_reducible rfl
          try simp only [Act.put,SL]
          refine zaw (by kernel_rfl) ?_ _
          have HV8:Hid (View zab 72 w8 D.heap.size hi v8 (l.take at_++M::l.drop at_).length (fun i=>x0 ((l.take at_++M::l.drop at_).getD i 0)) cv8):=by
           show View _ _ _ _ _ _ _ _ _
           rw [zcp l M at_ hatL,← HN.out];exact V8.congr (fun i _=>zdE x0 l M at_ hatL i)
          have HB8:Hid (Below w.heap.size w w8):=HBD.out.trans ((b7D.trans bw8).mono (by omega));have z8:D.heap.size≤w8.heap.size:=(b7D.trans bw8).size
          have HLn:Hid ((l.take at_++M::l.drop at_).length≤L0+(i+1)):=by
           show (l.take at_++M::l.drop at_).length≤L0+(i+1)
           rw [zcp l M at_ hatL,← HN.out];omega
          clear V8 V7 bw7 bw8 b7D hHeld runv7 runv8 hUr hFr hUz hFz hAU hAF rg9 HUS HFS HRd HBD;go_wp2
          go_roundw
          case rel=>exact ⟨i+1,D.heap.size,l.take at_++M::l.drop at_,cv8,by omega,by go_num,by omega,z8,by rw [← Nat.add_assoc,← HMM.out];exact HCN.out,HLn.out,HV8.out,HB8.out⟩
          case measure=>simp [intOf];omega
        ·refine zbI rfl (.tmp 60) rfl HRd.out (by simp [Act.eval,Act.put]) ?_
         have bA:=bAl D (.cells cR.toArray 72);refine hKC _ _ (zaW rg9 bA hpD) ?_;clear hKC KC
         try simp only [Act.put,SL]
         have XA:=zaq D cR.toArray 72;have zA:D.heap.size<(D.alloc (.cells cR.toArray 72)).heap.size:=XA.lt;obtain ⟨D1,hD1⟩:∃ x,x=D.alloc (.cells cR.toArray 72):=⟨_,rfl⟩;rw [← hD1] at bA XA zA ⊢;clear hD1;refine zbj (i:=0) (o:=_) rfl (by kernel_rfl) (fun KC hKC=>?_);refine zcW rfl rfl ?_;have b6:=bAl D1 (.cells #[] 72);have b6D:=bA.trans (b6.mono bA.size);refine hKC _ _ (zaW rg9 b6D hpD) ?_;clear hKC KC
         try simp only [Act.put,SL]
         have VL:=(View.lit0 (E:=zab) (t:=72) (fun i=>x0 (l.getD i 0)) co D1 hi).weakL (lo':=D.heap.size) (by omega);have X6:=XA.below b6 zA;obtain ⟨D2,hD2⟩:∃ x,x=D1.alloc (.cells #[] 72):=⟨_,rfl⟩;rw [← hD2] at b6 b6D VL X6 ⊢;clear hD2;obtain ⟨v4,w4,cv4,runv4,⟨V4,X4⟩,bw4⟩:=zgL HUS.out hUz hAU b6D hiD (by omega) VL X6 (fun h=>by simp [Value.ownBlock] at h;omega);refine zbj (i:=4) (o:=_) rfl (by kernel_rfl) (fun KC hKC=>?_);refine zaZ rfl (.tmp 55) (.tmp 58) rfl (by simp [Act.eval,Act.put]) (by simp [Act.eval,Act.put]) runv4 ?_;have b4D:=b6D.trans bw4;refine hKC _ _ (zaW rg9 b4D hpD) ?_;clear hKC KC
         try simp only [Act.put,SL]
         obtain ⟨v7,w7,cv7,runv7,V7,bw7⟩:=zet b4D hiD (by omega) V4 X4 (zab.rd_below HRd.out b4D hiD);refine zaB (i:=7) (o:=_) rfl (by kernel_rfl) (by kernel_rfl) (fun KC hKC=>?_);refine zaZ rfl (.tmp 59) (.tmp 61) rfl (by simp [Act.eval,Act.put]) (by simp [Act.eval,Act.put]) runv7 ?_;refine hKC _ _ ?_;clear hKC KC
         try simp only [Act.put,SL]
         have b7D:=b4D.trans bw7;obtain ⟨v8,w8,cv8,runv8,V8,bw8⟩:=zdD HFS.out hFz hAF b7D hiD (by omega) V7;refine zaB (i:=11) (o:=_) rfl (by kernel_rfl) (by kernel_rfl) (fun KC hKC=>?_);refine zaZ rfl (.tmp 62) (.tmp 65) rfl (by simp [Act.eval,Act.put]) (by simp [Act.eval,Act.put]) runv8 ?_;refine hKC _ _ ?_;clear hKC KC
         try simp only [Act.put,SL]
         refine zne 12 (v:=?_) rfl ?_ ?_
         rotate_left
         ·intro w' hSw;go_simp;try with_reducible rfl
         try simp only [Act.put,SL]
         refine zaw (by kernel_rfl) ?_ _
         have HV8:Hid (View zab 72 w8 D.heap.size hi v8 (l.take at_++M::l.drop at_).length (fun i=>x0 ((l.take at_++M::l.drop at_).getD i 0)) cv8):=by
          show View _ _ _ _ _ _ _ _ _
          rw [zcp l M at_ hatL,← HN.out];exact V8.congr (fun i _=>zdE x0 l M at_ hatL i)
         have HB8:Hid (Below w.heap.size w w8):=HBD.out.trans ((b7D.trans bw8).mono (by omega));have z8:D.heap.size≤w8.heap.size:=(b7D.trans bw8).size
         have HLn:Hid ((l.take at_++M::l.drop at_).length≤L0+(i+1)):=by
          show (l.take at_++M::l.drop at_).length≤L0+(i+1)
          rw [zcp l M at_ hatL,← HN.out];omega
         clear V8 V7 bw7 bw8 b7D hHeld runv7 runv8 hUr hFr hUz hFz hAU hAF rg9 HUS HFS HRd HBD;go_wp2
         go_roundw
         case rel=>exact ⟨i+1,D.heap.size,l.take at_++M::l.drop at_,cv8,by omega,by go_num,by omega,z8,by rw [← Nat.add_assoc,← HMM.out];exact HCN.out,HLn.out,HV8.out,HB8.out⟩
         case measure=>simp [intOf];omega
       ·obtain ⟨A,hA⟩:∃ A,at_=A+1:=⟨at_-1,by omega⟩
        subst hA
        have hAn:A<n:=by omega
        have VD:=HVx.out.drew;obtain ⟨gO,cO',hgO⟩:=VD.form0 (by omega)
        have rgO:wx.drew.rangeAt gO (A*9) (co A):=by rw [hgO] at VD;exact VD.range hAn
        obtain ⟨rfl,rfl⟩:ao=some ⟨gO,0,none⟩∧cap=cO':=by simpa using hgO
        have hcO:(co A).length=9:=VD.lens A hAn;have CC0:=ziU (x0 M) (x0 (l.getD A 0)) cR (co A) hi hi wx.drew (zab.rd_below HRx.out bD (by omega)) (VD.each A hAn);obtain ⟨cO,hcOe⟩:∃ c,c=co A:=⟨_,rfl⟩;rw [← hcOe] at rgO hcO CC0;obtain ⟨t,ht⟩:∃ t,t=decide (numC (x0 M) (x0 (l.getD A 0))<0):=⟨_,rfl⟩;rw [← ht] at CC0;have HT:=hid ht
        have CC:Calls Tryz.prog 107 (#[.agg cR.toArray,.agg cO.toArray]++#[]) wx.drew fun e w'=>e=.returned (.bool t)∧Below wx.drew.heap.size wx.drew w':=by rw [Array.append_empty];exact CC0
        have rgB:wx.drew.rangeAt wi.heap.size 0 cR:=fun j v hv=>by
         have:=(HXx.out.cell j).trans (by simpa using hv);rw [Nat.zero_add];exact this
        have d1:decide (0<A+1)=true:=decide_eq_true (by omega);have d2:decide ((0:Int)<((A+1:Nat):Int))=true:=decide_eq_true (by omega);have wP:IntKind.i64.wrap (((A+1:Nat):Int)-1)=(A:Int):=zmi (by omega)
        have wP':IntKind.i64.wrap ((A:Int)+1-1)=(A:Int):=by rw [IntKind.wrap_i64];omega
        have wA:IntKind.i64.wrap (A:Int)=(A:Int):=by rw [IntKind.wrap_i64];omega
        have i3:(0:Int)≤(A:Int):=by omega
        have i4:(A:Int)<(n:Int):=by omega
        clear CC0 ht hcOe VD hgO
        go_upto_region 11 with fail
        refine zaE 9 (fun w'=>w'.rangeAt gO (A*9) cO∧w'.rangeAt wi.heap.size 0 cR) zb4 ⟨rgO,rgB⟩ (fun hHeld=>?_);refine wpAnyM_pv 0 rfl ?_
        try simp only [Act.put,SL]
        refine wpAnyM_pv 1 rfl ?_
        try simp only [Act.put,SL]
        try rw [d1]
        refine wpAnyM_pv 2 rfl ?_
        try simp only [Act.put,SL]
        refine zao (i:=3) (oi:=_) 16 rfl (by kernel_rfl) (fun _ _ _ h=>h) (yieldsIf_load_mid (by kernel_rfl) 72 (.tmp 6) rfl wi.heap.size (0) (by simp [Act.eval,Act.put]) cR _ (fun w h=>h.2) Tryz.underlying72 rfl (zas hcR)) (by assumption) ?_
        try simp only [Act.put,SL]
        refine wpAnyM_pv 4 rfl ?_
        try simp only [Act.put,SL]
        refine wpAnyM_pv 5 rfl ?_
        try simp only [Act.put,SL]
        refine wpAnyM_pv 6 rfl ?_
        try simp only [Act.put,SL]
        refine wpAnyM_pv 7 rfl ?_
        try simp only [Act.put,SL]
        refine zao (i:=8) (oi:=_) 16 rfl (by kernel_rfl) (fun _ _ _ h=>h) (yieldsIf_load_mid (by kernel_rfl) 72 (.tmp 49) rfl gO (A*9) (by simp [Act.eval,Act.put]) cO _ (fun w h=>h.1) Tryz.underlying72 rfl (zas hcO)) (by assumption) ?_
        try simp only [Act.put,SL]
        refine zaB (i:=9) (o:=_) rfl (by kernel_rfl) (by kernel_rfl) (fun KC hKC=>?_);refine zbB (by kernel_rfl) (.func 107) 107 #[] _ _ rfl (by simp [Act.eval,Act.put]) #[.agg cR.toArray,.agg cO.toArray] (by simp [Act.eval,Act.put]) Tryz.func107 (by kernel_rfl) (by kernel_rfl) CC ?_;rintro ee w9 ⟨rfl,b9d⟩;refine ⟨_,rfl,?_⟩;refine hKC _ _ ?_;clear hKC KC
        try simp only [Act.put,SL]
        refine zne 10 (v:=?_) rfl ?_ ?_
        rotate_left
        ·intro w' hSw;go_simp;try with_reducible rfl
        try simp only [Act.put,SL]
        refine zaw (by kernel_rfl) ?_ _;have b9:Below wx.heap.size wx w9:=bD.trans b9d;clear bD hHeld d1 d2 CC rgO rgB hcO b9d
        cases t with
        | true=>
         go_wp2
         go_roundw
         case rel=>exact ⟨A,by omega,by go_num,fun k h1 h2=>by
          by_cases c:k=A
          ·rw [c];simpa using HT.out
          ·exact HBE.out k (by omega) h2,HB5x.out.trans (b9.mono zx)⟩
         case measure=>simp [intOf]
        | false=>
         have HS:Hid (A+1=0∨¬ numC (x0 M) (x0 (l.getD (A+1-1) 0))<0):=.inr (by simpa using HT.out);obtain ⟨at_,hate⟩:∃ a,a=A+1:=⟨_,rfl⟩;rw [← hate] at HS HBE hat ⊢;clear hate HT wP wP' wA hat0;have z9:wx.heap.size≤w9.heap.size:=b9.size;have V9:=(HVx.out.below b9 (by omega)).drew;have b9':Below wx.heap.size wx w9.drew:=b9.trans (show Below wx.heap.size w9 w9.drew from ⟨rfl,rfl,rfl,Nat.le_refl _,fun _ _=>rfl⟩);have X9:Box w9.drew wi.heap.size cR.toArray 72:=HXx.out.below b9' (by omega);have R9:zab.rd w9.drew hi (x0 M) cR:=zab.rd_below HRx.out b9' (by omega);have B9:Below w.heap.size w w9.drew:=HBx.out.trans (b9'.mono (by omega))
         have rg9:w9.drew.rangeAt wi.heap.size 0 cR:=fun j v hv=>by
          have:=(X9.cell j).trans (by simpa using hv);rw [Nat.zero_add];exact this
         obtain ⟨D,hD⟩:∃ D,D=w9.drew:=⟨_,rfl⟩;have HD:=hid hD;rw [← hD] at V9 X9 R9 B9 rg9
         have zD:w9.heap.size=D.heap.size:=by rw [hD];rfl
         clear hD b9 b9';obtain ⟨aU,cU,hUr,sU,hUz⟩:=V9.upto_ (show hi≤D.heap.size by omega) (al:=at_) hat;obtain ⟨aF,cF,hFr,sF,rF,hFz⟩:=V9.from_ (show hi≤D.heap.size by omega) (al:=at_) hat
         have hAU:∀ b off,aU=some ⟨b,off,none⟩→b<D.heap.size:=fun b off e=>by
          rcases V9.form2 with ⟨e3,e4⟩ | ⟨g,cp,e3,e4,hg⟩
          ·have hz:at_=0:=by omega
           have:=hUr D;rw [e3,hz,zfq D] at this
           simp only [Result.ok.injEq,Value.slice.injEq,and_true] at this
           rw [← this.1] at e
           cases e
          ·have:=hUr D
           rw [e3,zfo g n cp at_ hat e4 D] at this
           simp only [Result.ok.injEq,Value.slice.injEq,and_true] at this
           rw [← this.1] at e
           cases e
           exact hg
         have hAF:∀ b off,aF=some ⟨b,off,none⟩→b<D.heap.size:=fun b off e=>by
          rcases V9.form2 with ⟨e3,e4⟩ | ⟨g,cp,e3,e4,hg⟩
          ·have hz:at_=0:=by omega
           have:=hFr D;rw [e3,hz,zfp D] at this
           simp only [Result.ok.injEq,Value.slice.injEq,and_true] at this
           rw [← this.1] at e
           cases e
          ·have:=hFr D
           rw [e3,zfn g n cp at_ hat D] at this
           simp only [Result.ok.injEq,Value.slice.injEq,and_true] at this
           rw [← this.1] at e
           split at e<;>cases e<;>exact hg
         have hiD:hi≤D.heap.size:=by omega
         have hpD:wi.heap.size<D.heap.size:=X9.lt
         have hatL:at_≤l.length:=by rw [← HN.out];exact hat
         have HCN:Hid (Cnt x0 (M+1) (l.take at_++M::l.drop at_)):=HCt.out.ins HF.out at_ hatL (fun k h1 h2=>HBE.out k h1 (by rw [HN.out];exact h2)) HS.out;have HRd:=hid R9;have HBD:=hid B9;have HUS:=hid sU;have HFS:=hid sF;clear V9 X9 R9 B9 sU sF rF
         go_upto_region 13 with fail
         refine zaE 7 (fun w'=>w'.rangeAt wi.heap.size 0 cR) zb4 (by rw [← HD.out];exact rg9) (fun hHeld=>?_);rw [← HD.out] at hHeld ⊢;refine wpAnyM_pv 1 rfl ?_
         try simp only [Act.put,SL]
         refine wpAnyM_pv 2 rfl ?_
         try simp only [Act.put,SL]
         refine znq 3 (v:=?_) rfl ?_ ?_
         rotate_left
         ·intro w' hSw
          try rw [show (Instr.slice 67 (.slice (some ⟨gO,0,none⟩) n cap) none (some (.int .i64 (at_:Int))) none).run Tryz.prog w'=_ from hUr w']
          have hSl':=hUr w';go_simp
          try with_reducible rfl
         try simp only [Act.put,SL]
         refine zao (i:=5) (oi:=_) 16 rfl (by kernel_rfl) (fun _ _ _ h=>h) (yieldsIf_load_mid (by kernel_rfl) 72 (.tmp 6) rfl wi.heap.size (0) (by simp [Act.eval,Act.put]) cR _ (fun w h=>h) Tryz.underlying72 rfl (zas hcR)) (by assumption) ?_
         try simp only [Act.put,SL]
         refine wpAnyM_pv 8 rfl ?_
         try simp only [Act.put,SL]
         refine wpAnyM_pv 9 rfl ?_
         try simp only [Act.put,SL]
         refine znq 10 (v:=?_) rfl ?_ ?_
         rotate_left
         ·intro w' hSw
          try rw [show (Instr.slice 67 (.slice (some ⟨gO,0,none⟩) n cap) (some (.int .i64 (at_:Int))) none none).run Tryz.prog w'=_ from hFr w']
          have hSl':=hFr w';go_simp
          try with_reducible rfl
         try simp only [Act.put,SL]
         refine zcV (i:=0) (j:=6) (o:=_) (o':=_) rfl rfl (by kernel_rfl) (fun KC hKC=>?_) (fun KC hKC=>?_)
         ·refine zcW rfl rfl ?_
          have bA:=bAl D (.cells #[] 72);refine hKC _ _ (zaW rg9 bA hpD) ?_;clear hKC KC
          try simp only [Act.put,SL]
          have VL:=View.lit0 (E:=zab) (t:=72) (fun i=>x0 (l.getD i 0)) co D hi;have zA1:D.heap.size<(D.alloc (.cells #[] 72)).heap.size:=(zaq D #[] 72).lt;obtain ⟨D1,hD1⟩:∃ x,x=D.alloc (.cells #[] 72):=⟨_,rfl⟩;rw [← hD1] at bA VL zA1 ⊢;clear hD1;refine zcV (i:=4) (j:=6) (o:=_) (o':=_) rfl rfl (by kernel_rfl) (fun KC hKC=>?_) (fun KC hKC=>?_)
          ·skip
           obtain ⟨v4,w4,cv4,runv4,V4,bw4⟩:=zmI (lo:=lo) HUS.out hUz hAU bA hiD (by omega) VL;refine zaZ rfl (.tmp 55) (.tmp 58) rfl (by simp [Act.eval,Act.put]) (by simp [Act.eval,Act.put]) runv4 ?_;have b4D:=bA.trans bw4;refine hKC _ _ (zaW rg9 b4D hpD) ?_;clear hKC KC
           try simp only [Act.put,SL]
           refine zbj (i:=6) (o:=_) rfl (by kernel_rfl) (fun KC hKC=>?_);refine zbI rfl (.tmp 60) rfl HRd.out (by simp [Act.eval,Act.put]) ?_;have b6:=bAl w4 (.cells cR.toArray 72);have b6D:=b4D.trans (b6.mono b4D.size);refine hKC _ _ (zaW rg9 b6D hpD) ?_;clear hKC KC
           try simp only [Act.put,SL]
           have V6:=V4.below b6 (by have:=b4D.size;omega);have X6:=zaq w4 cR.toArray 72;obtain ⟨v7,w7,cv7,runv7,V7,bw7⟩:=zet b6D hiD (by omega) V6 X6 (zab.rd_below HRd.out b6D hiD);refine zaB (i:=7) (o:=_) rfl (by kernel_rfl) (by kernel_rfl) (fun KC hKC=>?_);refine zaZ rfl (.tmp 59) (.tmp 61) rfl (by simp [Act.eval,Act.put]) (by simp [Act.eval,Act.put]) runv7 ?_;refine hKC _ _ ?_;clear hKC KC
           try simp only [Act.put,SL]
           have b7D:=b6D.trans bw7;obtain ⟨v8,w8,cv8,runv8,V8,bw8⟩:=zdD HFS.out hFz hAF b7D hiD (by omega) V7;refine zaB (i:=11) (o:=_) rfl (by kernel_rfl) (by kernel_rfl) (fun KC hKC=>?_);refine zaZ rfl (.tmp 62) (.tmp 65) rfl (by simp [Act.eval,Act.put]) (by simp [Act.eval,Act.put]) runv8 ?_;refine hKC _ _ ?_;clear hKC KC
           try simp only [Act.put,SL]
           refine zne 12 (v:=?_) rfl ?_ ?_
           rotate_left
           ·intro w' hSw;go_simp;try with_reducible rfl
           try simp only [Act.put,SL]
           refine zaw (by kernel_rfl) ?_ _
           have HV8:Hid (View zab 72 w8 D.heap.size hi v8 (l.take at_++M::l.drop at_).length (fun i=>x0 ((l.take at_++M::l.drop at_).getD i 0)) cv8):=by
            show View _ _ _ _ _ _ _ _ _
            rw [zcp l M at_ hatL,← HN.out];exact V8.congr (fun i _=>zdE x0 l M at_ hatL i)
           have HB8:Hid (Below w.heap.size w w8):=HBD.out.trans ((b7D.trans bw8).mono (by omega));have z8:D.heap.size≤w8.heap.size:=(b7D.trans bw8).size
           have HLn:Hid ((l.take at_++M::l.drop at_).length≤L0+(i+1)):=by
            show (l.take at_++M::l.drop at_).length≤L0+(i+1)
            rw [zcp l M at_ hatL,← HN.out];omega
           clear V8 V7 bw7 bw8 b7D hHeld runv7 runv8 hUr hFr hUz hFz hAU hAF rg9 HUS HFS HRd HBD;go_wp2
           go_roundw
           case rel=>exact ⟨i+1,D.heap.size,l.take at_++M::l.drop at_,cv8,by omega,by go_num,by omega,z8,by rw [← Nat.add_assoc,← HMM.out];exact HCN.out,HLn.out,HV8.out,HB8.out⟩
           case measure=>simp [intOf];omega
          ·refine zbI rfl (.tmp 60) rfl HRd.out (by simp [Act.eval,Act.put]) ?_
           have b6:=bAl D1 (.cells cR.toArray 72);have b6D:=bA.trans (b6.mono bA.size);refine hKC _ _ (zaW rg9 b6D hpD) ?_;clear hKC KC
           try simp only [Act.put,SL]
           have VL6:=VL.below b6 (by have:=bA.size;omega);have X6:=zaq D1 cR.toArray 72;have z6:D1.heap.size<(D1.alloc (.cells cR.toArray 72)).heap.size:=X6.lt;have zA:=bA.size;obtain ⟨D2,hD2⟩:∃ x,x=D1.alloc (.cells cR.toArray 72):=⟨_,rfl⟩;rw [← hD2] at b6 b6D VL6 X6 z6 ⊢;clear hD2;have XK:=X6;obtain ⟨v4,w4,cv4,runv4,⟨V4,X4⟩,bw4⟩:=zgL HUS.out hUz hAU b6D hiD (by omega) VL6 X6 (fun h=>by simp [Value.ownBlock] at h;omega);refine zbj (i:=4) (o:=_) rfl (by kernel_rfl) (fun KC hKC=>?_);refine zaZ rfl (.tmp 55) (.tmp 58) rfl (by simp [Act.eval,Act.put]) (by simp [Act.eval,Act.put]) runv4 ?_;have b4D:=b6D.trans bw4;refine hKC _ _ (zaW rg9 b4D hpD) ?_;clear hKC KC
           try simp only [Act.put,SL]
           obtain ⟨v7,w7,cv7,runv7,V7,bw7⟩:=zet b4D hiD (by omega) V4 X4 (zab.rd_below HRd.out b4D hiD);refine zaB (i:=7) (o:=_) rfl (by kernel_rfl) (by kernel_rfl) (fun KC hKC=>?_);refine zaZ rfl (.tmp 59) (.tmp 61) rfl (by simp [Act.eval,Act.put]) (by simp [Act.eval,Act.put]) runv7 ?_;refine hKC _ _ ?_;clear hKC KC
           try simp only [Act.put,SL]
           have b7D:=b4D.trans bw7;obtain ⟨v8,w8,cv8,runv8,V8,bw8⟩:=zdD HFS.out hFz hAF b7D hiD (by omega) V7;refine zaB (i:=11) (o:=_) rfl (by kernel_rfl) (by kernel_rfl) (fun KC hKC=>?_);refine zaZ rfl (.tmp 62) (.tmp 65) rfl (by simp [Act.eval,Act.put]) (by simp [Act.eval,Act.put]) runv8 ?_;refine hKC _ _ ?_;clear hKC KC
           try simp only [Act.put,SL]
           refine zne 12 (v:=?_) rfl ?_ ?_
           rotate_left
           ·intro w' hSw;go_simp;try with_reducible rfl
           try simp only [Act.put,SL]
           refine zaw (by kernel_rfl) ?_ _
           have HV8:Hid (View zab 72 w8 D.heap.size hi v8 (l.take at_++M::l.drop at_).length (fun i=>x0 ((l.take at_++M::l.drop at_).getD i 0)) cv8):=by
            show View _ _ _ _ _ _ _ _ _
            rw [zcp l M at_ hatL,← HN.out];exact V8.congr (fun i _=>zdE x0 l M at_ hatL i)
           have HB8:Hid (Below w.heap.size w w8):=HBD.out.trans ((b7D.trans bw8).mono (by omega));have z8:D.heap.size≤w8.heap.size:=(b7D.trans bw8).size
           have HLn:Hid ((l.take at_++M::l.drop at_).length≤L0+(i+1)):=by
            show (l.take at_++M::l.drop at_).length≤L0+(i+1)
            rw [zcp l M at_ hatL,← HN.out];omega
           clear V8 V7 bw7 bw8 b7D hHeld runv7 runv8 hUr hFr hUz hFz hAU hAF rg9 HUS HFS HRd HBD;go_wp2
           go_roundw
           case rel=>exact ⟨i+1,D.heap.size,l.take at_++M::l.drop at_,cv8,by omega,by go_num,by omega,z8,by rw [← Nat.add_assoc,← HMM.out];exact HCN.out,HLn.out,HV8.out,HB8.out⟩
           case measure=>simp [intOf];omega
         ·refine zbI rfl (.tmp 60) rfl HRd.out (by simp [Act.eval,Act.put]) ?_
          have bA:=bAl D (.cells cR.toArray 72);refine hKC _ _ (zaW rg9 bA hpD) ?_;clear hKC KC
          try simp only [Act.put,SL]
          have XA:=zaq D cR.toArray 72;have zA:D.heap.size<(D.alloc (.cells cR.toArray 72)).heap.size:=XA.lt;obtain ⟨D1,hD1⟩:∃ x,x=D.alloc (.cells cR.toArray 72):=⟨_,rfl⟩;rw [← hD1] at bA XA zA ⊢;clear hD1;refine zbj (i:=0) (o:=_) rfl (by kernel_rfl) (fun KC hKC=>?_);refine zcW rfl rfl ?_;have b6:=bAl D1 (.cells #[] 72);have b6D:=bA.trans (b6.mono bA.size);refine hKC _ _ (zaW rg9 b6D hpD) ?_;clear hKC KC
          try simp only [Act.put,SL]
          have VL:=(View.lit0 (E:=zab) (t:=72) (fun i=>x0 (l.getD i 0)) co D1 hi).weakL (lo':=D.heap.size) (by omega);have X6:=XA.below b6 zA;obtain ⟨D2,hD2⟩:∃ x,x=D1.alloc (.cells #[] 72):=⟨_,rfl⟩;rw [← hD2] at b6 b6D VL X6 ⊢;clear hD2;obtain ⟨v4,w4,cv4,runv4,⟨V4,X4⟩,bw4⟩:=zgL HUS.out hUz hAU b6D hiD (by omega) VL X6 (fun h=>by simp [Value.ownBlock] at h;omega);refine zbj (i:=4) (o:=_) rfl (by kernel_rfl) (fun KC hKC=>?_);refine zaZ rfl (.tmp 55) (.tmp 58) rfl (by simp [Act.eval,Act.put]) (by simp [Act.eval,Act.put]) runv4 ?_;have b4D:=b6D.trans bw4;refine hKC _ _ (zaW rg9 b4D hpD) ?_;clear hKC KC
          try simp only [Act.put,SL]
          obtain ⟨v7,w7,cv7,runv7,V7,bw7⟩:=zet b4D hiD (by omega) V4 X4 (zab.rd_below HRd.out b4D hiD);refine zaB (i:=7) (o:=_) rfl (by kernel_rfl) (by kernel_rfl) (fun KC hKC=>?_);refine zaZ rfl (.tmp 59) (.tmp 61) rfl (by simp [Act.eval,Act.put]) (by simp [Act.eval,Act.put]) runv7 ?_;refine hKC _ _ ?_;clear hKC KC
          try simp only [Act.put,SL]
          have b7D:=b4D.trans bw7;obtain ⟨v8,w8,cv8,runv8,V8,bw8⟩:=zdD HFS.out hFz hAF b7D hiD (by omega) V7;refine zaB (i:=11) (o:=_) rfl (by kernel_rfl) (by kernel_rfl) (fun KC hKC=>?_);refine zaZ rfl (.tmp 62) (.tmp 65) rfl (by simp [Act.eval,Act.put]) (by simp [Act.eval,Act.put]) runv8 ?_;refine hKC _ _ ?_;clear hKC KC
          try simp only [Act.put,SL]
          refine zne 12 (v:=?_) rfl ?_ ?_
          rotate_left
          ·intro w' hSw;go_simp;try with_reducible rfl
          try simp only [Act.put,SL]
          refine zaw (by kernel_rfl) ?_ _
          have HV8:Hid (View zab 72 w8 D.heap.size hi v8 (l.take at_++M::l.drop at_).length (fun i=>x0 ((l.take at_++M::l.drop at_).getD i 0)) cv8):=by
           show View _ _ _ _ _ _ _ _ _
           rw [zcp l M at_ hatL,← HN.out];exact V8.congr (fun i _=>zdE x0 l M at_ hatL i)
          have HB8:Hid (Below w.heap.size w w8):=HBD.out.trans ((b7D.trans bw8).mono (by omega));have z8:D.heap.size≤w8.heap.size:=(b7D.trans bw8).size
          have HLn:Hid ((l.take at_++M::l.drop at_).length≤L0+(i+1)):=by
           show (l.take at_++M::l.drop at_).length≤L0+(i+1)
           rw [zcp l M at_ hatL,← HN.out];omega
          clear V8 V7 bw7 bw8 b7D hHeld runv7 runv8 hUr hFr hUz hFz hAU hAF rg9 HUS HFS HRd HBD;go_wp2
          go_roundw
          case rel=>exact ⟨i+1,D.heap.size,l.take at_++M::l.drop at_,cv8,by omega,by go_num,by omega,z8,by rw [← Nat.add_assoc,← HMM.out];exact HCN.out,HLn.out,HV8.out,HB8.out⟩
          case measure=>simp [intOf];omega
    ·obtain rfl:i=m:=by omega
     clear hrs hlt2;go_wp2
     go_roundw
     case rel=>exact ⟨T+1,lo,l,co,by omega,by go_num,hlo,hlow,by rw [HLS.out];exact HCt.out,by rw [HLS.out,← HN.out];exact hLl,by rw [← HN.out];exact HV.out,HBW.out⟩
     case measure=>simp [intOf];omega
  ·obtain rfl:T=2:=by omega
   clear hlt bw;go_wp2;go_ret;exact ⟨_,l,co,lo,rfl,HCt.out,hlo,HV.out,HBW.out⟩
theorem zls (v:Value) (n:Nat) (g:Nat→Int) (hi:Nat) (x:Int) (w:World) (r:RdI w hi v n g) :
 Calls Tryz.prog 205 #[v,.int .i64 x] w fun e w'=>∃ z:Int,e=.returned (.int .i64 z)∧(0≤z↔∃ t,t<n∧g t=x)∧w'=w:=by
 obtain ⟨ao,cap,rfl,hm,hc⟩:=r;unfold maxLen at hm
 go_enter Tryz.func205,Tryz.ntmps205
 go_wp2
 go_loop [8] (fun i=>∃ k:Nat,k≤n∧i=.int .i64 k∧∀ i,i<k→g i≠x) (fun i=>n-(intOf i).toNat)
 case atStart=>exact ⟨0,Nat.zero_le _,rfl,fun i hi=>by omega⟩
 case round=>
  obtain ⟨k,hk,rfl,hall⟩:=hrel;have HALL:=hid hall;clear hall
  by_cases hlt:k<n
  ·obtain ⟨b,off,rfl,hblt,hcell⟩:=hc (by omega)
   have hck:w.cell? ⟨b,off+k,none⟩=some (.int .i64 (g k)):=hcell k hlt;obtain ⟨y,hy⟩:∃ y,y=g k:=⟨_,rfl⟩;have HY:=hid hy;rw [← hy] at hck;clear hc hcell hy
   by_cases heq:x=y
   ·have HP:Hid (0≤(k:Int)↔∃ t,t<n∧g t=x):=⟨fun _=>⟨k,hlt,by rw [← HY.out,heq]⟩,fun _=>by omega⟩
    have te:(x==y)=true:=by simp [heq]
    clear heq;go_wp2;go_ret;exact ⟨_,rfl,HP.out,rfl⟩
   ·have te:(x==y)=false:=by simp [heq]
    have HN:Hid (g k≠x):=by show g k≠x;rw [← HY.out];exact fun h=>heq h.symm
    clear heq;go_wp2
    go_round
    case rel=>exact ⟨k+1,by omega,by go_num,fun i hi=>by
     by_cases c:i=k
     ·rw [c];exact HN.out
     ·exact HALL.out i (by omega)⟩
    case measure=>simp [intOf];omega
  ·obtain rfl:k=n:=by omega
   have HP:Hid (0≤(-1:Int)↔∃ t,t<k∧g t=x):=⟨fun h=>by omega,fun ⟨t,ht,he⟩=>absurd he (HALL.out t ht)⟩;clear hc;go_wp2;go_ret;exact ⟨-1,rfl,HP.out,rfl⟩
theorem zhS (v:Value) (n:Nat) (g:Nat→Int) (hi:Nat) (x:Int) (w:World) (r:RdI w hi v n g) :
 Calls Tryz.prog 169 #[v,.int .i64 x] w (zbm (∃ t,t<n∧g t=x) w):=by
 have C:=zls v n g hi x w r;obtain ⟨ao,cap,rfl,hm,hc⟩:=r;clear hc hm;have HI:=hid C;clear C;obtain ⟨P,hP⟩:∃ P:Prop,P=∃ t,t<n∧g t=x:=⟨_,rfl⟩;rw [← hP] at HI ⊢;clear hP
 go_enter Tryz.func169,Tryz.ntmps169
 go_wp2_with fail
 refine HI.out.mono ?_;rintro e w1 ⟨z,rfl,hz,hw1⟩;obtain rfl:=hw1.symm;have HZ:=hid hz;clear hz HI
 by_cases h0:0≤z
 ·have HP:Hid P:=HZ.out.mp h0
  go_wp2;go_ret;exact zaJ rfl HP.out (Below.refl _ _)
 ·have HP:Hid (¬ P):=fun h=>h0 (HZ.out.mpr h)
  have td:decide (0≤z)=false:=by simp;omega
  clear h0;go_wp2;go_ret;exact zan rfl HP.out (Below.refl _ _)
theorem ziV (x a b:Int) (w:World) :
 Calls Tryz.prog 167 #[.int .i64 x,.int .i64 a,.int .i64 b] w fun e w'=>e=.returned (.int .i64 (max a (min x b)))∧w'=w:=by
 go_enter Tryz.func167,Tryz.ntmps167
 go_wp2;go_ret;exact ⟨rfl,rfl⟩
def zaX (x a b:Int):Int:=max a (min x b)
theorem zb6 (x a b:Int) (h:a≤b):x=zaX x a b↔a≤x∧x≤b:=by
 unfold zaX;omega
theorem zb7 (x a b:Int) (w:World) :
 Calls Tryz.prog 167 #[.int .i64 x,.int .i64 a,.int .i64 b] w fun e w'=>e=.returned (.int .i64 (zaX x a b))∧w'=w:=ziV x a b w
set_option maxRecDepth 20000 in
theorem zeQ (a0 a1 a2 a3 a4 a5 a6 a7 a8:Int) (w:World) :
 Calls Tryz.prog 113 #[.agg #[.int .i64 a0,.int .i64 a1,.int .i64 a2,.int .i64 a3,.int .i64 a4,.int .i64 a5,.int .i64 a6,.int .i64 a7,.int .i64 a8]] w fun e w'=>e=.returned (.agg #[.int .i64 (zaX a0 1 4),.int .i64 (zaX a1 0 2),.int .i64 (zaX a2 1 3),.int .i64 (zaX a3 0 2),.int .i64 (zaX a4 1 6),.int .i64 (zaX a5 1 6),.int .i64 (zaX a6 1 4),.int .i64 (zaX a7 1 6),.int .i64 (zaX a8 0 400)])∧Below w.heap.size w w':=by
 go_enter Tryz.func113,Tryz.ntmps113
 go_wp2_with fail
 have XA:=(zaq w #[.int .i64 a0,.int .i64 a1,.int .i64 a2,.int .i64 a3,.int .i64 a4,.int .i64 a5,.int .i64 a6,.int .i64 a7,.int .i64 a8] 34).allocd (.cells #[.int .i64 0,.int .i64 0,.int .i64 0,.int .i64 0,.int .i64 0,.int .i64 0,.int .i64 0,.int .i64 0,.int .i64 0] 34);have XZ:=zaq (w.alloc (.cells #[.int .i64 a0,.int .i64 a1,.int .i64 a2,.int .i64 a3,.int .i64 a4,.int .i64 a5,.int .i64 a6,.int .i64 a7,.int .i64 a8] 34)) #[.int .i64 0,.int .i64 0,.int .i64 0,.int .i64 0,.int .i64 0,.int .i64 0,.int .i64 0,.int .i64 0,.int .i64 0] 34
 have hz:(w.alloc (.cells #[.int .i64 a0,.int .i64 a1,.int .i64 a2,.int .i64 a3,.int .i64 a4,.int .i64 a5,.int .i64 a6,.int .i64 a7,.int .i64 a8] 34)).heap.size=w.heap.size+1:=by simp
 rw [hz] at XZ;have BA:Below w.heap.size w ((w.alloc (.cells #[.int .i64 a0,.int .i64 a1,.int .i64 a2,.int .i64 a3,.int .i64 a4,.int .i64 a5,.int .i64 a6,.int .i64 a7,.int .i64 a8] 34)).alloc (.cells #[.int .i64 0,.int .i64 0,.int .i64 0,.int .i64 0,.int .i64 0,.int .i64 0,.int .i64 0,.int .i64 0,.int .i64 0] 34)):=((Below.refl _ _).alloc (Nat.le_refl _) _).alloc (by simp) _;obtain ⟨wA,hwA⟩:∃ x,x=(w.alloc (.cells #[.int .i64 a0,.int .i64 a1,.int .i64 a2,.int .i64 a3,.int .i64 a4,.int .i64 a5,.int .i64 a6,.int .i64 a7,.int .i64 a8] 34)).alloc (.cells #[.int .i64 0,.int .i64 0,.int .i64 0,.int .i64 0,.int .i64 0,.int .i64 0,.int .i64 0,.int .i64 0,.int .i64 0] 34):=⟨_,rfl⟩;rw [← hwA] at XA XZ BA ⊢;clear hwA hz;refine wp_region_still_tail 28 (by kernel_rfl) (by kernel_rfl) ?_;have XA':Box { wA with drawn:=wA.drawn+1 } w.heap.size #[.int .i64 a0,.int .i64 a1,.int .i64 a2,.int .i64 a3,.int .i64 a4,.int .i64 a5,.int .i64 a6,.int .i64 a7,.int .i64 a8] 34:=XA;have XZ':Box { wA with drawn:=wA.drawn+1 } (w.heap.size+1) #[.int .i64 0,.int .i64 0,.int .i64 0,.int .i64 0,.int .i64 0,.int .i64 0,.int .i64 0,.int .i64 0,.int .i64 0] 34:=XZ;have BA':Below w.heap.size w { wA with drawn:=wA.drawn+1 }:=⟨BA.os,BA.tape,BA.output,BA.size,BA.block⟩;obtain ⟨wB,hwB⟩:∃ x:World,x={ wA with drawn:=wA.drawn+1 }:=⟨_,rfl⟩;rw [← hwB] at XA' XZ' BA' ⊢;clear XA XZ BA hwB;obtain ⟨x0,x1,x2,x3,x4,x5,x6,x7,x8⟩:=box9 XA';obtain ⟨y0,y1,y2,y3,y4,y5,y6,y7,y8⟩:=box9 XZ'
 simp only [List.take_succ_cons,List.take_zero,List.drop_succ_cons,List.drop_zero]
 still_step
 still_step
 still_call (zb7 _ _ _ _)
 still_step
 still_step
 still_call (zb7 _ _ _ _)
 still_step
 still_step
 still_call (zb7 _ _ _ _)
 still_step
 still_step
 still_call (zb7 _ _ _ _)
 still_step
 still_step
 still_call (zb7 _ _ _ _)
 still_step
 still_step
 still_call (zb7 _ _ _ _)
 still_step
 still_step
 still_call (zb7 _ _ _ _)
 still_step
 still_step
 still_call (zb7 _ _ _ _)
 still_step
 still_step
 still_call (zb7 _ _ _ _)
 still_step
 refine wpStill_nil ?_;have z0:wB.frozen? ⟨w.heap.size+1,0,none⟩=false:=XZ'.frozen 0;have z1:wB.frozen? ⟨w.heap.size+1,1,none⟩=false:=XZ'.frozen 1;have z2:wB.frozen? ⟨w.heap.size+1,2,none⟩=false:=XZ'.frozen 2;have z3:wB.frozen? ⟨w.heap.size+1,3,none⟩=false:=XZ'.frozen 3;have z4:wB.frozen? ⟨w.heap.size+1,4,none⟩=false:=XZ'.frozen 4;have z5:wB.frozen? ⟨w.heap.size+1,5,none⟩=false:=XZ'.frozen 5;have z6:wB.frozen? ⟨w.heap.size+1,6,none⟩=false:=XZ'.frozen 6;have z7:wB.frozen? ⟨w.heap.size+1,7,none⟩=false:=XZ'.frozen 7;have z8:wB.frozen? ⟨w.heap.size+1,8,none⟩=false:=XZ'.frozen 8;go_wp2;refine bodyPost_ret (v:=.agg #[.int .i64 (zaX a0 1 4),.int .i64 (zaX a1 0 2),.int .i64 (zaX a2 1 3),.int .i64 (zaX a3 0 2),.int .i64 (zaX a4 1 6),.int .i64 (zaX a5 1 6),.int .i64 (zaX a6 1 4),.int .i64 (zaX a7 1 6),.int .i64 (zaX a8 0 400)]) (by simp [results,Tryz.results113,go_sem,y0,y1,y2,y3,y4,y5,y6,y7,y8]) rfl ⟨rfl,?_⟩;exact (((((((((BA'.setCell (Nat.le_succ _) _).setCell (Nat.le_succ _) _).setCell (Nat.le_succ _) _).setCell (Nat.le_succ _) _).setCell (Nat.le_succ _) _).setCell (Nat.le_succ _) _).setCell (Nat.le_succ _) _).setCell (Nat.le_succ _) _).setCell (Nat.le_succ _) _)
theorem zhT (a0 a1 a2 a3 a4 a5 a6 a7 a8:Int) (w:World):(Op.equalIn 10000 34 (.agg #[.int .i64 a0,.int .i64 a1,.int .i64 a2,.int .i64 a3,.int .i64 a4,.int .i64 a5,.int .i64 a6,.int .i64 a7,.int .i64 a8]) (.agg #[.int .i64 a0,.int .i64 a1,.int .i64 a2,.int .i64 a3,.int .i64 a4,.int .i64 a5,.int .i64 a6,.int .i64 a7,.int .i64 a8])).run Tryz.prog w=.ok true w:=by
 have u3:=Tryz.underlying2;rw [show (10000:Nat)=9999+1 from rfl,run_equalIn_agg w 9999 34 _ _ (by kernel_rfl) (by kernel_rfl)]
 simp only [Program.fieldsOf,Tryz.underlying34]
 go_simp
theorem ziW (a0 a1 a2 a3 a4 a5 a6 a7 a8 b0 b1 b2 b3 b4 b5 b6 b7 b8:Int) (h:¬ (a0=b0∧a1=b1∧a2=b2∧a3=b3∧a4=b4∧a5=b5∧a6=b6∧a7=b7∧a8=b8)) (w:World):(Op.equalIn 10000 34 (.agg #[.int .i64 a0,.int .i64 a1,.int .i64 a2,.int .i64 a3,.int .i64 a4,.int .i64 a5,.int .i64 a6,.int .i64 a7,.int .i64 a8]) (.agg #[.int .i64 b0,.int .i64 b1,.int .i64 b2,.int .i64 b3,.int .i64 b4,.int .i64 b5,.int .i64 b6,.int .i64 b7,.int .i64 b8])).run Tryz.prog w=.ok false w:=by
 have u3:=Tryz.underlying2;rw [show (10000:Nat)=9999+1 from rfl,run_equalIn_agg w 9999 34 _ _ (by kernel_rfl) (by kernel_rfl)]
 simp only [Program.fieldsOf,Tryz.underlying34]
 have H:=hid h;clear h;go_simp;exact fun h0 h1 h2 h3 h4 h5 h6 h7 h8=>H.out ⟨h0,h1,h2,h3,h4,h5,h6,h7,h8⟩
theorem zm4 (s:Nat→Int):zay s↔s 0=zaX (s 0) 1 4∧s 1=zaX (s 1) 0 2∧s 2=zaX (s 2) 1 3∧s 3=zaX (s 3) 0 2∧s 4=zaX (s 4) 1 6∧s 5=zaX (s 5) 1 6∧s 6=zaX (s 6) 1 4∧s 7=zaX (s 7) 1 6∧s 8=zaX (s 8) 0 400:=by
 unfold zay Shp3 Shp;rw [zb6 (s 0) 1 4 (by omega),zb6 (s 1) 0 2 (by omega),zb6 (s 2) 1 3 (by omega),zb6 (s 3) 0 2 (by omega),zb6 (s 4) 1 6 (by omega),zb6 (s 5) 1 6 (by omega),zb6 (s 6) 1 4 (by omega),zb6 (s 7) 1 6 (by omega),zb6 (s 8) 0 400 (by omega)];omega
theorem zcZ (s:Nat→Int) (w:World) :
 Calls Tryz.prog 69 #[zal s] w fun e w'=>∃ x,e=.returned (.int .i64 x)∧zmz s x∧Below w.heap.size w w':=by
 have HK:Hid (zay s↔s 0=zaX (s 0) 1 4∧s 1=zaX (s 1) 0 2∧s 2=zaX (s 2) 1 3∧s 3=zaX (s 3) 0 2∧s 4=zaX (s 4) 1 6∧s 5=zaX (s 5) 1 6∧s 6=zaX (s 6) 1 4∧s 7=zaX (s 7) 1 6∧s 8=zaX (s 8) 0 400):=zm4 s;unfold zal;obtain ⟨a0,h0⟩:∃ a,a=s 0:=⟨_,rfl⟩;obtain ⟨a1,h1⟩:∃ a,a=s 1:=⟨_,rfl⟩;obtain ⟨a2,h2⟩:∃ a,a=s 2:=⟨_,rfl⟩;obtain ⟨a3,h3⟩:∃ a,a=s 3:=⟨_,rfl⟩;obtain ⟨a4,h4⟩:∃ a,a=s 4:=⟨_,rfl⟩;obtain ⟨a5,h5⟩:∃ a,a=s 5:=⟨_,rfl⟩;obtain ⟨a6,h6⟩:∃ a,a=s 6:=⟨_,rfl⟩;obtain ⟨a7,h7⟩:∃ a,a=s 7:=⟨_,rfl⟩;obtain ⟨a8,h8⟩:∃ a,a=s 8:=⟨_,rfl⟩;rw [← h0,← h1,← h2,← h3,← h4,← h5,← h6,← h7,← h8]
 have HK2:Hid (zay s↔a0=zaX a0 1 4∧a1=zaX a1 0 2∧a2=zaX a2 1 3∧a3=zaX a3 0 2∧a4=zaX a4 1 6∧a5=zaX a5 1 6∧a6=zaX a6 1 4∧a7=zaX a7 1 6∧a8=zaX a8 0 400):=by
  show zay s↔_
  rw [h0,h1,h2,h3,h4,h5,h6,h7,h8];exact HK.out
 clear HK h0 h1 h2 h3 h4 h5 h6 h7 h8;have CN:=zeQ a0 a1 a2 a3 a4 a5 a6 a7 a8;have XA:=zaq w #[.int .i64 a0,.int .i64 a1,.int .i64 a2,.int .i64 a3,.int .i64 a4,.int .i64 a5,.int .i64 a6,.int .i64 a7,.int .i64 a8] 34;obtain ⟨x0,x1,x2,x3,x4,x5,x6,x7,x8⟩:=box9 XA;have HX:=hid XA;have HB:Hid (Below w.heap.size w (w.alloc (.cells #[.int .i64 a0,.int .i64 a1,.int .i64 a2,.int .i64 a3,.int .i64 a4,.int .i64 a5,.int .i64 a6,.int .i64 a7,.int .i64 a8] 34))):=bnew (Below.refl _ _);obtain ⟨wA,hwA⟩:∃ x,x=w.alloc (.cells #[.int .i64 a0,.int .i64 a1,.int .i64 a2,.int .i64 a3,.int .i64 a4,.int .i64 a5,.int .i64 a6,.int .i64 a7,.int .i64 a8] 34):=⟨_,rfl⟩;rw [← hwA] at x0 x1 x2 x3 x4 x5 x6 x7 x8 HX HB;clear XA
 by_cases ok:zay s
 ·have HO:=hid ok
  obtain ⟨e0,e1,e2,e3,e4,e5,e6,e7,e8⟩:=HK2.out.mp ok;rw [← e0,← e1,← e2,← e3,← e4,← e5,← e6,← e7,← e8] at CN;have heq:=zhT a0 a1 a2 a3 a4 a5 a6 a7 a8;clear e0 e1 e2 e3 e4 e5 e6 e7 e8 ok
  go_enter Tryz.func69,Tryz.ntmps69
  go_wp2_with fail
  rw [← hwA];clear hwA
  go_region_with (go_at_call 113;refine (CN _).mono ?_;rintro ee w2 ⟨rfl,hb2⟩;have hB2:Below wA.heap.size wA w2:=⟨hb2.os,hb2.tape,hb2.output,hb2.size,hb2.block⟩;obtain ⟨y0,y1,y2,y3,y4,y5,y6,y7,y8⟩:=box9 (HX.out.below hB2 HX.out.lt))
  all_goals
   go_wp2;go_ret;exact ⟨0,rfl,.inr ⟨rfl,HO.out⟩,HB.out.trans (hB2.mono HB.out.size)⟩
 ·have HO:=hid ok
  have hno:¬ (a0=zaX a0 1 4∧a1=zaX a1 0 2∧a2=zaX a2 1 3∧a3=zaX a3 0 2∧a4=zaX a4 1 6∧a5=zaX a5 1 6∧a6=zaX a6 1 4∧a7=zaX a7 1 6∧a8=zaX a8 0 400):=fun h=>ok (HK2.out.mpr h);have heq:=ziW a0 a1 a2 a3 a4 a5 a6 a7 a8 (zaX a0 1 4) (zaX a1 0 2) (zaX a2 1 3) (zaX a3 0 2) (zaX a4 1 6) (zaX a5 1 6) (zaX a6 1 4) (zaX a7 1 6) (zaX a8 0 400) hno;clear hno ok
  go_enter Tryz.func69,Tryz.ntmps69
  go_wp2_with fail
  rw [← hwA];clear hwA
  go_region_with (go_at_call 113;refine (CN _).mono ?_;rintro ee w2 ⟨rfl,hb2⟩;have hB2:Below wA.heap.size wA w2:=⟨hb2.os,hb2.tape,hb2.output,hb2.size,hb2.block⟩;obtain ⟨y0,y1,y2,y3,y4,y5,y6,y7,y8⟩:=box9 (HX.out.below hB2 HX.out.lt))
  all_goals
   go_wp2;go_ret;exact ⟨3,rfl,.inl ⟨rfl,HO.out⟩,HB.out.trans (hB2.mono HB.out.size)⟩
theorem zec (s:Nat→Int) (h1:1≤s 2) (h2:s 2≤1000) (w:World) :
 Calls Tryz.prog 94 #[zal s] w fun e w'=>e=.returned (.int .i64 (s 2*4))∧Below w.heap.size w w':=by
 unfold zal;obtain ⟨a2,h0⟩:∃ a,a=s 2:=⟨_,rfl⟩;rw [← h0] at h1 h2 ⊢;clear h0;have B0:Below w.heap.size w (w.alloc (.cells #[.int .i64 (s 0),.int .i64 (s 1),.int .i64 a2,.int .i64 (s 3),.int .i64 (s 4),.int .i64 (s 5),.int .i64 (s 6),.int .i64 (s 7),.int .i64 (s 8)] 34)):=bnew (Below.refl _ _)
 go_enter Tryz.func94,Tryz.ntmps94
 go_wp2;go_ret;exact ⟨rfl,B0⟩
theorem zgM (s:Nat→Int) (l:Int) (w:World) :
 Calls Tryz.prog 55 #[zal s,.int .i64 l] w fun e w'=>∃ x c,e=.returned (intR c x)∧zmV s l x c∧Below w.heap.size w w':=by
 unfold zal
 go_enter Tryz.func55,Tryz.ntmps55
 go_wp2_with fail
 refine (zcZ s _).mono ?_;rintro e w1 ⟨x,rfl,hx,B1'⟩;obtain ⟨X1,X2,B1,z1⟩:=zmU B1';obtain ⟨x0,x1,x2,x3,x4,x5,x6,x7,x8⟩:=box9 X1;obtain ⟨y0,y1,y2,y3⟩:=zeW X2;have HX:=hid X2;have HX1:=hid X1;clear B1' X1 X2
 rcases hx with ⟨rfl,hx⟩ | ⟨rfl,hx⟩
 ·have HN:=hid hx
  clear hx;go_wp2;exact bodyPost_ret (v:=intR 3 0) (by simp [results,Tryz.results55,go_sem,intR,y0,y1]) rfl ⟨0,3,rfl,.inl ⟨HN.out,rfl,rfl⟩,(B1.setCell (Nat.le_succ _) _).setCell (Nat.le_succ _) _⟩
 ·have HO:=hid hx
  have HD:Hid (1≤s 2∧s 2≤1000):=by show 1≤s 2∧s 2≤1000;have:=hx.2.1;unfold Shp at this;omega
  clear hx;have CL:=zec s HD.out.1 HD.out.2;unfold zal at CL;have HM:Hid (∀ m,m=(l+s 2*4-1)/(s 2*4)→1≤l→l≤3*(s 2*4)→zmV s l m 0):=fun m hm h1 h2=>.inr (.inr (.inr ⟨HO.out,h1,h2,rfl,hm⟩));have HM2:Hid (1≤l→3*(s 2*4)<l→zmV s l 0 2):=fun h1 h2=>.inr (.inr (.inl ⟨HO.out,h1,h2,rfl,rfl⟩));obtain ⟨S,hS⟩:∃ S,S=s 2*4:=⟨_,rfl⟩;rw [← hS] at CL HM HM2
  have q1:4≤S:=by have:=HD.out.1;omega
  have q2:S≤4000:=by have:=HD.out.2;omega
  clear hS
  by_cases c1:l<1
  ·go_wp2
   exact bodyPost_ret (v:=intR 6 0) (by simp [results,Tryz.results55,go_sem,intR,y0,y1]) rfl ⟨0,6,rfl,.inr (.inl ⟨HO.out,c1,rfl,rfl⟩),(B1.setCell (Nat.le_succ _) _).setCell (Nat.le_succ _) _⟩
  ·go_wp2_with fail
   refine (CL _).mono ?_;rintro e w2 ⟨rfl,B2⟩;have z2:=B2.size;have B12:Below w.heap.size w w2:=B1.trans (B2.mono B1.size);have HX2:Hid (Box w2 (w.heap.size+1) #[.int .i64 0,.int .i64 0] 74):=HX.out.below B2 z1;have HY2:Hid (Box w2 w.heap.size (rwS s).toArray 34):=HX1.out.below B2 (by omega);clear x0 x1 x2 x3 x4 x5 x6 x7 x8 y0 y1 y2 y3 B2 HX HX1;obtain ⟨y0,y1,y2,y3⟩:=zeW HX2.out;obtain ⟨x0,x1,x2,x3,x4,x5,x6,x7,x8⟩:=box9 HY2.out
   by_cases c2:3*S<l
   ·have t2:decide (3*S<l)=true:=by simp;omega
    go_wp2;exact bodyPost_ret (v:=intR 2 0) (by simp [results,Tryz.results55,go_sem,intR,y0,y1]) rfl ⟨0,2,rfl,HM2.out (by omega) c2,(B12.setCell (Nat.le_succ _) _).setCell (Nat.le_succ _) _⟩
   ·have t2:decide (3*S<l)=false:=by simp;omega
    have q3:0≤l+S-1:=by omega
    go_wp2_with fail
    have K0:Hid (Below w2.heap.size w2 w2):=Below.refl _ _
    go_region_with (go_at_call 94;refine (CL _).mono ?_;rintro ee w3 ⟨rfl,hb3⟩;(first | (have hB2:Below w2.heap.size w2 w3:=hB.trans ((⟨hb3.os,hb3.tape,hb3.output,hb3.size,hb3.block⟩:Below _ _ _).mono hB.size);clear hb3;obtain ⟨v0,v1,v2,v3⟩:=zeW (HX2.out.below hB2 (by omega));obtain ⟨u0,u1,u2,u3,u4,u5,u6,u7,u8⟩:=box9 (HY2.out.below hB2 (by omega))) | (have hB:Below w2.heap.size w2 w3:=⟨hb3.os,hb3.tape,hb3.output,hb3.size,hb3.block⟩;clear hb3;obtain ⟨u0,u1,u2,u3,u4,u5,u6,u7,u8⟩:=box9 (HY2.out.below hB (by omega)))))
    all_goals
     have B4:Below w.heap.size w w3:=B12.trans (hB2.mono B12.size);go_wp2;exact bodyPost_ret (v:=intR 0 ((l+S-1)/S)) (by simp [results,Tryz.results55,go_sem,intR,v0,v1]) rfl ⟨(l+S-1)/S,0,rfl,HM.out _ rfl (by omega) (by omega),(B4.setCell (Nat.le_succ _) _).setCell (Nat.le_succ _) _⟩
theorem zbe {x a b:Int} {t:Bool} (hab:a≤b) (ht:t=true↔InP x a b) (w:World) :
 Calls Tryz.prog 146 #[.int .i64 x,.int .i64 a,.int .i64 b] w fun e w'=>e=.returned (.bool t)∧w'=w:=by
 by_cases h1:a≤x
 ·by_cases h2:x≤b
  ·obtain rfl:t=true:=ht.2 ⟨h1,h2⟩
   clear ht hab
   go_enter Tryz.func146,Tryz.ntmps146
   go_wp2;go_ret;exact ⟨rfl,rfl⟩
  ·obtain rfl:t=false:=by
    cases t with
    | false=>rfl
    | true=>exact absurd (ht.1 rfl).2 h2
   clear ht hab;have hd:decide (x≤b)=false:=decide_eq_false h2
   go_enter Tryz.func146,Tryz.ntmps146
   go_wp2;go_ret;exact ⟨rfl,rfl⟩
 ·obtain rfl:t=false:=by
   cases t with
   | false=>rfl
   | true=>exact absurd (ht.1 rfl).1 h1
  clear ht hab;have hd:decide (a≤x)=false:=decide_eq_false h1
  go_enter Tryz.func146,Tryz.ntmps146
  go_wp2;go_ret;exact ⟨rfl,rfl⟩
theorem zbO (s:Nat→Int) (h:zay s) (w:World) :
 Calls Tryz.prog 168 #[zal s] w fun e w'=>e=.returned (.int .i64 (s 0+s 1))∧Below w.heap.size w w':=by
 obtain ⟨h1,h2,_⟩:=h;unfold Shp3 at h1;have B0:=(zaI w (rwS s).toArray 34).bel;unfold zal
 have hw:-9223372036854775808≤s 0+s 1∧s 0+s 1≤9223372036854775807:=by omega
 go_enter Tryz.func168,Tryz.ntmps168
 go_wp2;go_ret;exact ⟨rfl,B0⟩
theorem zfT (s:Nat→Int) (h:zay s) (w:World) :
 Calls Tryz.prog 118 #[zal s] w fun e w'=>e=.returned (.int .i64 (s 2+s 3))∧Below w.heap.size w w':=by
 obtain ⟨h1,h2,_⟩:=h;unfold Shp at h2;have B0:=(zaI w (rwS s).toArray 34).bel;unfold zal
 have hw:-9223372036854775808≤s 2+s 3∧s 2+s 3≤9223372036854775807:=by omega
 go_enter Tryz.func118,Tryz.ntmps118
 go_wp2;go_ret;exact ⟨rfl,B0⟩
theorem okB {s:Nat→Int} (h:zay s):1≤s 0∧s 0≤4∧0≤s 1∧s 1≤2∧1≤s 2∧s 2≤3∧0≤s 3∧s 3≤2∧1≤s 4∧s 4≤6∧1≤s 5∧s 5≤6:=by
 obtain ⟨h1,h2,h3,h4,_⟩:=h;unfold Shp3 at h1;unfold Shp at h2;omega
theorem zhU {s:Nat→Int} (h:zay s) {x:Int} {t:Bool} (ht:t=true↔InP x 0 (s 0+s 1-1)) (w:World) :
 Calls Tryz.prog 116 #[zal s,.int .i64 x] w fun e w'=>e=.returned (.bool t)∧Below w.heap.size w w':=by
 have hb:=okB h;have C:=zbO s h;have CB:=fun w'=>zbe (w:=w') (show 0≤s 0+s 1-1 by omega) ht;have T0:=zaI w (rwS s).toArray 34;unfold zal at C ⊢;clear ht h
 go_enter Tryz.func116,Tryz.ntmps116
 go_wp2_with fail
 refine (C _).mono ?_;rintro e w1 ⟨rfl,b1⟩;have HB:Hid (Below w.heap.size w w1):=(T0.call b1).bel;clear b1 T0 C
 go_wp2_with fail
 refine (CB _).mono ?_;rintro e w2 ⟨rfl,hw2⟩;obtain rfl:=hw2.symm;go_wp2;go_ret;exact ⟨rfl,HB.out⟩
theorem zgN {s:Nat→Int} (h:zay s) {x:Int} {t:Bool} (ht:t=true↔InP x 0 (s 0-1)) (w:World) :
 Calls Tryz.prog 246 #[zal s,.int .i64 x] w fun e w'=>e=.returned (.bool t)∧Below w.heap.size w w':=by
 have hb:=okB h;have CB:=fun w'=>zbe (w:=w') (show 0≤s 0-1 by omega) ht;have HB:Hid (Below w.heap.size w (w.alloc (.cells (rwS s).toArray 34))):=(zaI w (rwS s).toArray 34).bel;unfold zal;clear ht h
 go_enter Tryz.func246,Tryz.ntmps246
 go_wp2_with fail
 refine (CB _).mono ?_;rintro e w2 ⟨rfl,hw2⟩;obtain rfl:=hw2.symm;go_wp2;go_ret;exact ⟨rfl,HB.out⟩
theorem zlt {s:Nat→Int} (h:zay s) {x:Int} {t:Bool} (ht:t=true↔InP x 0 (s 4-1)) (w:World) :
 Calls Tryz.prog 247 #[zal s,.int .i64 x] w fun e w'=>e=.returned (.bool t)∧Below w.heap.size w w':=by
 have hb:=okB h;have CB:=fun w'=>zbe (w:=w') (show 0≤s 4-1 by omega) ht;have HB:Hid (Below w.heap.size w (w.alloc (.cells (rwS s).toArray 34))):=(zaI w (rwS s).toArray 34).bel;unfold zal;clear ht h
 go_enter Tryz.func247,Tryz.ntmps247
 go_wp2_with fail
 refine (CB _).mono ?_;rintro e w2 ⟨rfl,hw2⟩;obtain rfl:=hw2.symm;go_wp2;go_ret;exact ⟨rfl,HB.out⟩
theorem zfs {s:Nat→Int} (h:zay s) {ao:Option Addr} {n cap:Nat} (hn:n≤9223372036854775807) {t:Bool} (ht:((n:Int)==s 2*4)=t) (w:World) :
 Calls Tryz.prog 248 #[zal s,.slice ao n cap] w fun e w'=>e=.returned (.bool t)∧Below w.heap.size w w':=by
 have hb:=okB h;have C:=fun w'=>zec s (by omega) (by omega) w';have T0:=zaI w (rwS s).toArray 34;unfold zal at C ⊢;clear h
 go_enter Tryz.func248,Tryz.ntmps248
 go_wp2_with fail
 refine (C _).mono ?_;rintro e w1 ⟨rfl,b1⟩;have HB:Hid (Below w.heap.size w w1):=(T0.call b1).bel;clear b1 T0 C;go_wp2;go_ret;exact ⟨by simp [ht],HB.out⟩
theorem zc8 (
 v:Value) (n:Nat) (g:Nat→Int) (hi:Nat) (bound:Int) (hb1:1≤bound) (hb2:bound≤1000000) (w:World) (r:RdI w hi v n g) (hcp:CapP v n) (hhi:hi≤w.heap.size) :
 Calls Tryz.prog 190 #[v,.int .i64 bound] w (zbm (zca n g (bound-1)) w):=by
 have HR:=hid r;obtain ⟨ao,cap,rfl,hm,hc⟩:=r;obtain ⟨_,_,e,hcp⟩:=hcp
 cases e
 unfold maxLen at hm
 go_enter Tryz.func190,Tryz.ntmps190
 go_wp2
 go_loopw [9] (fun i wr=>∃ k:Nat,k≤n∧i=.int .i64 k∧zca k g (bound-1)∧Below w.heap.size w wr) (fun i _=>n-(intOf i).toNat)
 case atStart=>exact ⟨0,Nat.zero_le _,rfl,fun i hi=>by omega,Below.refl _ _⟩
 case round=>
  obtain ⟨k,hk,rfl,hall,hb⟩:=hrel;have HALL:=hid hall;clear hall
  by_cases hlt:k<n
  ·obtain ⟨b,off,rfl,hblt,hcell⟩:=hc (by omega)
   have hck:wr.cell? ⟨b,off+k,none⟩=some (.int .i64 (g k)):=(hb.cell (p:=⟨b,off+k,none⟩) (by show b<w.heap.size;omega)).trans (hcell k hlt)
   have kcp:k≤cap:=by omega
   obtain ⟨t1,h1⟩:=exB (InP (g k) 0 (bound-1));obtain ⟨t2,h2⟩:=exB (∃ t,t<k∧g t=g k);have C1:=fun w'=>zbe (w:=w') (show 0≤bound-1 by omega) h1;have C2:=zbL (zhS (.slice (some ⟨b,off,none⟩) k cap) k g hi (g k) wr ((HR.out.part hk (by omega)).below hb hhi)) h2;have H1:=hid h1;have H2:=hid h2;obtain ⟨y,hy⟩:∃ y,y=g k:=⟨_,rfl⟩;have HY:=hid hy;rw [← hy] at hck C1 C2;have HB:=hid hb;clear hc hcell h1 h2 hy hb
   go_wp2_with fail
   refine (C1 _).mono ?_;rintro e w' ⟨rfl,hw'⟩;obtain rfl:=hw'.symm;clear C1
   cases t1 with
   | false=>
    go_wp2;go_ret
    exact zan rfl (fun h=>by
     have:=H1.out.2 (h k hlt).1
     simp at this) HB.out
   | true=>
    go_wp2_with fail
    refine C2.mono ?_;rintro e w2 ⟨rfl,b2⟩;have HB2:=hid (HB.out.trans (b2.mono HB.out.size));clear b2 C2
    cases t2 with
    | true=>
     go_wp2;go_ret
     exact zan rfl (fun h=>by
      obtain ⟨t,ht,e⟩:=H2.out.1 (by simp)
      exact (h k hlt).2 t ht e) HB2.out
    | false=>
     go_wp2
     go_roundw
     case rel=>exact ⟨k+1,by omega,by go_num,fun i hi=>by
      by_cases c:i=k
      ·subst c
       exact ⟨H1.out.1 (by simp),fun t ht e=>by
        have:=H2.out.2 ⟨t,ht,e⟩
        simp at this⟩
      ·exact HALL.out i (by omega),HB2.out⟩
     case measure=>simp [intOf];omega
  ·obtain rfl:k=n:=by omega
   go_wp2;go_ret;exact zaJ rfl HALL.out hb
theorem zgO (b:BlockD) (ao:Option Addr) (cap:Nat) (w:World) :
 Calls Tryz.prog 219 #[.agg #[.int .i64 b.stamp,.slice ao b.bytes.1 cap]] w (zbm (zdI b) w):=by
 obtain ⟨t1,h1⟩:=exB (InP b.stamp 0 1000000000);obtain ⟨b2,h2⟩:∃ x,((b.bytes.1:Int)==4)=x:=⟨_,rfl⟩
 have HE:Hid (zdI b↔(t1=true∧b2=true)):=by
  show zdI b↔_
  rw [h1,← h2];unfold zdI
  simp
  intro _;omega
 have C1:=fun w'=>zbe (w:=w') (show (0:Int)≤1000000000 by omega) h1;have HB:Hid (Below w.heap.size w (w.alloc (.cells #[.int .i64 b.stamp,.slice ao b.bytes.1 cap] 126))):=(Below.refl _ _).alloc (Nat.le_refl _) _;clear h1
 go_enter Tryz.func219,Tryz.ntmps219
 go_wp2_with fail
 refine (C1 _).mono ?_;rintro e w' ⟨rfl,hw'⟩;obtain rfl:=hw'.symm;clear C1
 cases t1 with
 | false=>
  go_wp2;go_ret;exact zan rfl (fun h=>by have:=HE.out.1 h;simp at this) HB.out
 | true=>
  cases b2 with
  | false=>
   go_wp2;go_ret;exact zan rfl (fun h=>by have:=HE.out.1 h;simp at this) HB.out
  | true=>
   go_wp2;go_ret;exact zaJ rfl (HE.out.2 (by simp)) HB.out
theorem zgP (s:Nat→Int) (hs:zay s) (p:Nat×(Nat→BlockD)) (t:TypeId) (v:Value) (hi:Nat) (w:World) (h:(zaj.slice t).rd w hi p [v]) (hhi:hi≤w.heap.size) :
 Calls Tryz.prog 189 #[zal s,v] w (zbm (ze7 s p) w):=by
 obtain ⟨ao,cap,e,hm,hc⟩:=h
 cases e
 unfold maxLen at hm;have HC:=hid hc;have HT0:Hid (One w (w.alloc (.cells (rwS s).toArray 34)) (rwS s).toArray 34):=zaI w (rwS s).toArray 34;clear hc;unfold zal
 go_enter Tryz.func189,Tryz.ntmps189
 by_cases hl:(p.1:Int)=s 4
 ·have hne:((p.1:Int) != s 4)=false:=by simpa using hl
  have HL:=hid hl;clear hl;go_wp2
  go_loopw [14] (fun i wr=>∃ k:Nat,k≤p.1∧i=.int .i64 k∧(∀ i,i<k→zdI (p.2 i))∧Below w.heap.size w wr) (fun i _=>p.1-(intOf i).toNat)
  case atStart=>exact ⟨0,Nat.zero_le _,rfl,fun i hi=>by omega,HT0.out.bel⟩
  case round=>
   obtain ⟨k,hk,rfl,hal,hb⟩:=hrel;have HAL:=hid hal;have HB:=hid hb;clear hal
   by_cases hlt:k<p.1
   ·obtain ⟨b,off,he,hbl,hel⟩:=HC.out (by omega)
    subst he;obtain ⟨ck,hrk,hcell⟩:=zat (t:=0) hel hb hhi hbl hlt;obtain ⟨ao1,cap1,rfl,-⟩:=zbw hrk;have c0:wr.cell? ⟨b,off+k*2,none⟩=some (.int .i64 (p.2 k).stamp):=hcell 0 (by decide);have c1:wr.cell? ⟨b,off+k*2+1,none⟩=some (.slice ao1 (p.2 k).bytes.1 cap1):=hcell 1 (by decide);have C:=fun w'=>zgO (p.2 k) ao1 cap1 w';clear hel hcell hrk hb
    go_wp2_with fail
    refine (C _).mono ?_;rintro e w2 ⟨t2,rfl,ht2,b2⟩;have HB2:Hid (Below w.heap.size w w2):=HB.out.trans ((bnew b2).mono HB.out.size);have HT2:=hid ht2;clear C b2 ht2
    cases t2 with
    | false=>
     go_wp2;go_ret;exact zan rfl (fun h=>by have:=HT2.out.2 (h.2 k hlt);simp at this) HB2.out
    | true=>
     go_wp2
     go_roundw
     case rel=>exact ⟨k+1,by omega,by go_num,fun i hi=>by
      by_cases c:i=k
      ·subst c;exact HT2.out.1 (by simp)
      ·exact HAL.out i (by omega),HB2.out⟩
     case measure=>simp [intOf];omega
   ·obtain rfl:k=p.1:=by omega
    go_wp2;go_ret;exact zaJ rfl ⟨HL.out,HAL.out⟩ hb
 ·have hne:((p.1:Int) != s 4)=true:=by simpa using hl
  have HN:=hid hl;clear hl;go_wp2;go_ret;exact zan rfl (fun h=>HN.out h.1) HT0.out.bel
theorem zhV (wp:Bool) (n:Nat) (hn:n≤9223372036854775807) (ao:Option Addr) (cap:Nat) (w:World) :
 Calls Tryz.prog 143 #[.agg #[.bool wp,.slice ao n cap]] w (zbm (200<n) w):=by
 obtain ⟨P,hP⟩:∃ P:Prop,P=(200<n):=⟨_,rfl⟩;have HB:Hid (Below w.heap.size w (w.alloc (.cells #[.bool wp,.slice ao n cap] 112))):=(Below.refl _ _).alloc (Nat.le_refl _) _;have HP:=hid hP;rw [← hP];clear hP
 by_cases h:200<n
 ·have h1:decide (200<(n:Int))=true:=by simp;omega
  go_enter Tryz.func143,Tryz.ntmps143
  go_wp2;go_ret;exact zaJ (by simp [h1]) (by rw [HP.out];exact h) HB.out
 ·have h1:decide (200<(n:Int))=false:=by simp;omega
  go_enter Tryz.func143,Tryz.ntmps143
  go_wp2;go_ret;exact zan (by simp [h1]) (by rw [HP.out];exact h) HB.out
theorem zgQ (wp:Bool) (n:Nat) (hn:n≤9223372036854775807) (ao:Option Addr) (cap:Nat) (w:World) :
 Calls Tryz.prog 145 #[.agg #[.bool wp,.slice ao n cap]] w (zbm (wp=true∧0<n) w):=by
 obtain ⟨P,hP⟩:∃ P:Prop,P=(wp=true∧0<n):=⟨_,rfl⟩;have HB:Hid (Below w.heap.size w (w.alloc (.cells #[.bool wp,.slice ao n cap] 112))):=(Below.refl _ _).alloc (Nat.le_refl _) _;have HP:=hid hP;rw [← hP];clear hP
 cases wp with
 | false=>
  go_enter Tryz.func145,Tryz.ntmps145
  go_wp2;go_ret;exact zan rfl (by rw [HP.out];simp) HB.out
 | true=>
  by_cases h:0<n
  ·have h1:decide (0<(n:Int))=true:=by simp;omega
   go_enter Tryz.func145,Tryz.ntmps145
   go_wp2;go_ret;exact zaJ (by simp [h]) (by rw [HP.out];exact ⟨by simp,h⟩) HB.out
  ·have h1:decide (0<(n:Int))=false:=by simp;omega
   go_enter Tryz.func145,Tryz.ntmps145
   go_wp2;go_ret;exact zan (by simp [h]) (by rw [HP.out];exact fun x=>h x.2) HB.out
end Go.Proofs.YtclclojenogpbaaGreat
