/- What CountedRecs tells, and how much it is. -/
import Derived.Test.YthbpmbgfddpffaaGreatZPcleanal
set_option linter.unusedVariables false
set_option linter.unusedSimpArgs false
set_option maxHeartbeats 16000000
namespace Go.Proofs.YthbpmbgfddpffaaGreat
open Go.RowKit F256
theorem zfR {f g:Nat→Nat}:∀ {n:Nat},(∀ i,i<n→f i=g i)→sumN f n=sumN g n
 | 0,_=>rfl
 | n+1,h=>by rw [zaI,zaI,zfR (fun i hi=>h i (by omega)),h n (by omega)]
theorem zmR (f g:Nat→Nat) (n:Nat):∀ m,sumN (fun i=>if i<n then f i else g (i-n)) (n+m)=sumN f n+sumN g m
 | 0=>by rw [Nat.add_zero];exact zfR (fun i hi=>if_pos hi)
 | m+1=>by
  rw [← Nat.add_assoc,zaI,zmR f g n m,zaI,if_neg (by omega),show n+m-n=m by omega];omega
theorem zmS (f:Nat→Nat) (l:List Nat):sumN (fun i=>f (l.getD i 0)) l.length=(l.map f).sum:=by
 generalize hn:l.length=n
 induction n generalizing l with
 | zero=>obtain rfl:l=[]:=List.eq_nil_of_length_eq_zero hn;rfl
 | succ n ih=>
  have hne:l≠[]:=fun h=>by rw [h] at hn;simp at hn
  have e:=List.dropLast_concat_getLast hne
  have hl:l.dropLast.length=n:=by rw [List.length_dropLast];omega
  have h1:=ih l.dropLast hl;rw [zaI]
  conv=>rhs;rw [← e]
  rw [List.map_append,List.sum_append,← h1]
  congr 1
  ·exact zfR (fun i hi=>by
    have:l.getD i 0=l.dropLast.getD i 0:=by
     conv=>lhs;rw [← e]
     exact zg6 (by rw [hl];exact hi)
    rw [this])
  ·have:l.getD n 0=l.getLast hne:=by
    conv=>lhs;rw [← e]
    rw [← hl];exact zes
   rw [this]
   simp
theorem zjq (f:Nat→Nat):∀ (N:Nat) (l:List Nat),l.Nodup→(∀ i,i∈l→i<N)→(l.map f).sum≤sumN f N∧l.length≤N
 | 0,l,_,h=>by
  cases l with
  | nil=>exact ⟨Nat.le_refl _,Nat.le_refl _⟩
  | cons a t=>exact absurd (h a (by simp)) (by omega)
 | N+1,l,nd,h=>by
  by_cases c:N∈l
  ·have p:=List.perm_cons_erase c
   obtain ⟨h1,h2⟩:=zjq f N (l.erase N) (nd.erase N) (fun i hi=>by
    have h3:=(nd.mem_erase_iff).1 hi;have:=h i h3.2
    omega)
   have e1:=(p.map f).sum_nat;have e2:=p.length_eq
   simp only [List.map_cons,List.sum_cons,List.length_cons] at e1 e2
   rw [zaI];omega
  ·obtain ⟨h1,h2⟩:=zjq f N l nd (fun i hi=>by
    have:=h i hi
    by_cases c2:i=N
    ·subst c2;exact absurd hi c
    ·omega)
   rw [zaI];omega
theorem Cnt.nodup {x0:Nat→RecD} {N:Nat} {l:List Nat} (h:Cnt x0 N l):l.Nodup:=h.srt.imp (fun {a b} hab e=>by subst e;exact (zbH x0).irr _ hab)
theorem Cnt.sum {x0:Nat→RecD} {N:Nat} {l:List Nat} (h:Cnt x0 N l) (f:RecD→Nat):sumN (fun i=>f (x0 (l.getD i 0))) l.length≤sumN (fun i=>f (x0 i)) N∧l.length≤N:=by
 have:=zjq (fun i=>f (x0 i)) N l h.nodup (fun i hi=>((h.mem i).1 hi).1);rw [← zmS (fun i=>f (x0 i))] at this;exact this
theorem zii (x0:Nat→RecD) (M:Nat) (l:List Nat):∀ k,k≤l.length→(∀ j,k≤j→j<l.length→numC (x0 M) (x0 (l.getD j 0))<0)→∃ a,a≤l.length∧(∀ j,a≤j→j<l.length→numC (x0 M) (x0 (l.getD j 0))<0)∧(a=0∨¬ numC (x0 M) (x0 (l.getD (a-1) 0))<0)
 | 0,h,hb=>⟨0,h,hb,.inl rfl⟩
 | k+1,h,hb=>by
  by_cases c:numC (x0 M) (x0 (l.getD k 0))<0
  ·exact zii x0 M l k (by omega) (fun j h1 h2=>by
    by_cases e:j=k
    ·subst e;exact c
    ·exact hb j (by omega) h2)
  ·exact ⟨k+1,h,hb,.inr c⟩
theorem zj4 (x0:Nat→RecD):∀ N,∃ l,Cnt x0 N l
 | 0=>⟨[],Cnt.nil x0⟩
 | N+1=>by
  obtain ⟨l,h⟩:=zj4 x0 N
  by_cases c:Fst x0 N
  ·obtain ⟨a,h1,h2,h3⟩:=zii x0 N l l.length (Nat.le_refl _) (fun j h1 h2=>by omega)
   exact ⟨_,h.ins c a h1 h2 h3⟩
  ·exact ⟨l,h.skip c⟩
set_option maxRecDepth 100000 in
theorem zjr (v:Value) (m:Nat) (y:Nat→RecD) (r:RecD) (cr:List Value) (hi:Nat) (w:World) (h:(zab.slice 85).rd w hi (m,y) [v]) (hr:zab.rd w hi r cr) (hhi:hi≤w.heap.size) (hm:m≤1048576) :
 Calls Tryz.prog 72 #[v,.agg cr.toArray] w (zba (∃ i,i<m∧SameR (y i) r) w):=by
 obtain ⟨ao,cap,e,hmm,hc⟩:=h
 obtain rfl:v=.slice ao m cap:=by simpa using e
 have B0:=zaK w cr.toArray 85;have HR:=hid hr;have HC:=hid hc;have HR0:=hr;obtain ⟨b6,bk6,b7,bk7,b8,bk8,rfl,-⟩:=zaD HR0;clear e hmm hc HR0
 go_enter Tryz.func72,Tryz.ntmps72
 go_wp2
 go_loopw [5] (fun z wr=>∃ k:Nat,k≤m∧z=.int .i64 k∧(∀ t,t<k→¬ SameR (y t) r)∧One w wr (rwR r b6 bk6 b7 bk7 b8 bk8).toArray 85) (fun z _=>m-(intOf z).toNat)
 case atStart=>exact ⟨0,Nat.zero_le _,rfl,fun t ht=>by omega,B0⟩
 case round=>
  obtain ⟨k,hk,rfl,hall,hO⟩:=hrel;obtain ⟨wx,rfl⟩:∃ y,y=wr:=⟨_,rfl⟩;have HALL:=hid hall;have HO:=hid hO;have hbl:=hO.bel;have zx:=hbl.size;have XB:Box wx w.heap.size (rwR r b6 bk6 b7 bk7 b8 bk8).toArray 85:=hO.b1;clear hall B0 hO
  by_cases hlt:k<m
  ·obtain ⟨b,off,rfl,hbh,hel⟩:=HC.out (by omega)
   obtain ⟨ce,hy,hcell⟩:=zat (t:=85) hel hbl hhi hbh hlt;have bD:Below wx.heap.size wx wx.drew:=⟨rfl,rfl,rfl,Nat.le_refl _,fun _ _=>rfl⟩;have CS:=zic (y k) r ce (rwR r b6 bk6 b7 bk7 b8 bk8) hi hi wx.drew (zab.rd_below hy bD (by omega)) (zab.rd_below (zab.rd_below HR.out hbl hhi) bD (by omega)) (by show hi≤wx.heap.size;omega) (by show hi≤wx.heap.size;omega)
   have r1:wx.drew.rangeAt b (off+k*9) ce:=fun j v hv=>by
    have hj:j<9:=by have:=zab.rd_len hy;have e:j<ce.length:=(List.getElem?_eq_some_iff.1 hv).1;rw [this] at e;exact e
    have:=hcell j hj;rw [← Nat.add_assoc] at this;exact this.trans hv
   have r2:wx.drew.rangeAt w.heap.size 0 (rwR r b6 bk6 b7 bk7 b8 bk8):=fun j v hv=>by
    have:=(XB.cell j).trans (by simpa using hv);rw [Nat.zero_add];exact this
   have hce:ce.length=9:=zab.rd_len hy
   have CC:Calls Tryz.prog 118 (#[.agg ce.toArray,.agg (rwR r b6 bk6 b7 bk7 b8 bk8).toArray]++#[]) wx.drew (zba (SameR (y k) r) wx.drew):=by rw [Array.append_empty];exact CS
   have HBX:=hid XB;obtain ⟨cq,hcq⟩:∃ c:List Value,c=(rwR r b6 bk6 b7 bk7 b8 bk8):=⟨_,rfl⟩
   have hcl:cq.length=9:=by rw [hcq];rfl
   rw [← hcq] at r2 CC;clear hcq
   have i1:(0:Int)≤(k:Int):=by omega
   have i2:(k:Int)<(m:Int):=by omega
   clear hcell hel XB hy CS HC HR
   go_upto_region 4 with fail
   refine zay 5 (fun w'=>w'.rangeAt b (off+k*9) ce∧w'.rangeAt w.heap.size 0 cq) zci ⟨r1,r2⟩ (fun hHeld=>?_);refine zn9 0 rfl ?_
   try simp only [Act.put,SL]
   refine zn9 1 rfl ?_
   try simp only [Act.put,SL]
   refine zn9 2 rfl ?_
   try simp only [Act.put,SL]
   refine zaf (i:=3) (oi:=_) 16 rfl (by kernel_rfl) (fun _ _ _ h=>h) (yieldsIf_load_mid (by kernel_rfl) 85 (.tmp 14) rfl b (off+k*9) (by simp [Act.eval,Act.put]) ce _ (fun w h=>h.1) Tryz.underlying85 rfl (zam hce)) (by assumption) ?_
   try simp only [Act.put,SL]
   refine zaf (i:=4) (oi:=_) 16 rfl (by kernel_rfl) (fun _ _ _ h=>h) (yieldsIf_load_mid (by kernel_rfl) 85 (.tmp 3) rfl w.heap.size (0) (by simp [Act.eval,Act.put]) cq _ (fun w h=>h.2) Tryz.underlying85 rfl (zam hcl)) (by assumption) ?_
   try simp only [Act.put,SL]
   refine zas (i:=5) (o:=_) rfl (by kernel_rfl) (by kernel_rfl) (fun KC hKC=>?_);refine zaQ (by kernel_rfl) (.func 118) 118 #[] _ _ rfl (by simp [Act.eval,Act.put]) #[.agg ce.toArray,.agg cq.toArray] (by simp [Act.eval,Act.put]) Tryz.func118 (by kernel_rfl) (by kernel_rfl) CC ?_;rintro ee w5 ⟨t,rfl,ht,b5⟩;refine ⟨_,rfl,?_⟩;refine hKC _ _ ?_;clear hKC KC
   try simp only [Act.put,SL]
   refine zar (by kernel_rfl) ?_ _;have b5':Below wx.heap.size wx w5:=bD.trans b5;have HO5:Hid (One w w5 (rwR r b6 bk6 b7 bk7 b8 bk8).toArray 85):=⟨HBX.out.below b5' HBX.out.lt,hbl.trans (b5'.mono zx)⟩;have HT:=hid ht;clear b5 b5' ht bD r1 r2 CC HBX hHeld hbl HO
   cases t with
   | true=>
    go_wp2;go_ret;exact zaL rfl ⟨k,hlt,HT.out.1 (by simp)⟩ HO5.out.bel
   | false=>
    go_wp2
    go_roundw
    case rel=>exact ⟨k+1,by omega,by go_num,fun t ht=>by
     by_cases c:t=k
     ·rw [c];intro hs;exact absurd (HT.out.2 hs) (by simp)
     ·exact HALL.out t (by omega),HO5.out⟩
    case measure=>simp [intOf];omega
  ·obtain rfl:k=m:=by omega
   clear hbl XB;go_wp2;go_ret;exact zau rfl (fun ⟨i,h1,h2⟩=>HALL.out i h1 h2) HO.out.bel
set_option maxRecDepth 100000 in
theorem zjs (a r:RecD) (ca cr:List Value) (hi hj:Nat) (w:World) (ha:zab.rd w hi a ca) (hr:zab.rd w hj r cr) :
 Calls Tryz.prog 73 #[.agg ca.toArray,.agg cr.toArray] w fun e w'=>e=.returned (.bool (decide (numC a r<0)))∧Below w.heap.size w w':=by
 obtain ⟨a6,ak6,a7,ak7,a8,ak8,rfl,-⟩:=zaD ha;obtain ⟨b6,bk6,b7,bk7,b8,bk8,rfl,-⟩:=zaD hr;have T0:=zaz w (rwR a a6 ak6 a7 ak7 a8 ak8).toArray (rwR r b6 bk6 b7 bk7 b8 bk8).toArray 85 85;have HB0:=hid T0.bel;have x0:((w.alloc (.cells (rwR a a6 ak6 a7 ak7 a8 ak8).toArray 85)).alloc (.cells (rwR r b6 bk6 b7 bk7 b8 bk8).toArray 85)).cell? ⟨w.heap.size,0,none⟩=some (.int .i64 a.kind):=T0.b1.cell 0;have x1:((w.alloc (.cells (rwR a a6 ak6 a7 ak7 a8 ak8).toArray 85)).alloc (.cells (rwR r b6 bk6 b7 bk7 b8 bk8).toArray 85)).cell? ⟨w.heap.size,1,none⟩=some (.int .i64 a.seq):=T0.b1.cell 1;have x4:((w.alloc (.cells (rwR a a6 ak6 a7 ak7 a8 ak8).toArray 85)).alloc (.cells (rwR r b6 bk6 b7 bk7 b8 bk8).toArray 85)).cell? ⟨w.heap.size,4,none⟩=some (.int .i64 a.group):=T0.b1.cell 4;have y0:((w.alloc (.cells (rwR a a6 ak6 a7 ak7 a8 ak8).toArray 85)).alloc (.cells (rwR r b6 bk6 b7 bk7 b8 bk8).toArray 85)).cell? ⟨w.heap.size+1,0,none⟩=some (.int .i64 r.kind):=T0.b2.cell 0;have y1:((w.alloc (.cells (rwR a a6 ak6 a7 ak7 a8 ak8).toArray 85)).alloc (.cells (rwR r b6 bk6 b7 bk7 b8 bk8).toArray 85)).cell? ⟨w.heap.size+1,1,none⟩=some (.int .i64 r.seq):=T0.b2.cell 1
 have y4:((w.alloc (.cells (rwR a a6 ak6 a7 ak7 a8 ak8).toArray 85)).alloc (.cells (rwR r b6 bk6 b7 bk7 b8 bk8).toArray 85)).cell? ⟨w.heap.size+1,4,none⟩=some (.int .i64 r.group):=T0.b2.cell 4;clear T0 ha hr;have hN:=@zdG a r
 by_cases c1:a.seq=r.seq
 case neg=>
  have e1:(a.seq != r.seq)=true:=by simpa using c1
  have e9:decide (numC a r<0)=decide (a.seq<r.seq):=decide_eq_decide.2 (by rw [hN];omega);rw [e9];clear hN e9
  go_enter Tryz.func73,Tryz.ntmps73
  go_wp2;go_ret;exact ⟨rfl,HB0.out⟩
 have e1:(a.seq != r.seq)=false:=by simpa using c1
 by_cases c2:a.kind=r.kind
 case neg=>
  have e2:(a.kind != r.kind)=true:=by simpa using c2
  have e9:decide (numC a r<0)=decide (a.kind<r.kind):=decide_eq_decide.2 (by rw [hN];omega);rw [e9];clear hN e9 c1
  go_enter Tryz.func73,Tryz.ntmps73
  go_wp2;go_ret;exact ⟨rfl,HB0.out⟩
 have e2:(a.kind != r.kind)=false:=by simpa using c2
 have e9:decide (numC a r<0)=decide (a.group<r.group):=decide_eq_decide.2 (by rw [hN];omega);rw [e9];clear hN e9 c1 c2
 go_enter Tryz.func73,Tryz.ntmps73
 go_wp2;go_ret;exact ⟨rfl,HB0.out⟩
theorem zaU {w w':World} {B b o:Nat} {cs:List Value} (h:w.rangeAt b o cs) (hb:Below B w w') (hB:b<B):w'.rangeAt b o cs:=fun j v hv=>(hb.cell (p:=⟨b,o+j,none⟩) hB).trans (h j v hv)
theorem Src.below {w w':World} {B hi:Nat} {ao:Option Addr} {m:Nat} {y:Nat→RecD} {cy:Nat→List Value} (h:Src zab w hi ao m y cy) (hb:Below B w w') (hB:∀ b off,ao=some ⟨b,off,none⟩→b<B) (hh:hi≤B):Src zab w' hi ao m y cy:=
 ⟨fun h0=>by
  obtain ⟨b,off,e,hc⟩:=h.1 h0
  exact ⟨b,off,e,fun j hj k hk=>(hb.cell (p:=⟨b,off+(j*zab.sz+k),none⟩) (hB b off e)).trans (hc j hj k hk)⟩,fun j hj=>zab.rd_below (h.2 j hj) hb hh⟩
theorem zng {D U:World} {lo hi m:Nat} {ao:Option Addr} {c:Nat} {y:Nat→RecD} {cy:Nat→List Value} {v0:Value} {x':Nat→RecD} {ce:Nat→List Value} (hS:Src zab D hi ao m y cy) (hz:ao=none→c=0∨m=0) (hA:∀ b off,ao=some ⟨b,off,none⟩→b<D.heap.size) (hb:Below D.heap.size D U) (hh:hi≤D.heap.size) (hm:m≤1000000)
 (V:View zab 85 U D.heap.size hi v0 0 x' ce):∃ v' w' ce',(Builtin.append_ #[78,78] 78 #[v0,.slice ao m c]).run Tryz.prog U=.ok v' w'∧View zab 85 w' D.heap.size hi v' m y ce'∧Below D.heap.size U w':=by
 obtain ⟨v',w',hrun,V',_,b'⟩:=zbn zcO zaT 78 V c (hS.below hb hA hh) hb.size hh (by omega) hz;refine ⟨v',w',cat2 ce 0 cy,hrun,?_,b'⟩;rw [Nat.zero_add] at V';exact V'.congr (fun i hi=>by unfold cat2;rw [if_neg (by omega)];rfl)
theorem View.weakL {w:World} {lo lo' hi n:Nat} {v:Value} {x:Nat→RecD} {ce:Nat→List Value} (h:View zab 85 w lo hi v n x ce) (hl:lo'≤lo):View zab 85 w lo' hi v n x ce:=⟨⟨h.row.1,by
 rcases h.row.2 with hn | ⟨g,cap,cur,rfl,hbg,rest⟩
 ·exact .inl hn
 ·exact .inr ⟨g,cap,cur,rfl,Nat.le_trans hl hbg,rest⟩⟩,h.each⟩
theorem zhc {D U:World} {hi m g:Nat} {ao:Option Addr} {c:Nat} {y:Nat→RecD} {cy:Nat→List Value} {v0:Value} {x':Nat→RecD} {ce:Nat→List Value} {cR:List Value} (hS:Src zab D hi ao m y cy) (hz:ao=none→c=0∨m=0) (hA:∀ b off,ao=some ⟨b,off,none⟩→b<D.heap.size) (hb:Below D.heap.size D U) (hh:hi≤D.heap.size) (hm:m≤1000000)
 (V:View zab 85 U D.heap.size hi v0 0 x' ce) (hX:Box U g cR.toArray 85) (hg:v0.ownBlock≠some g):∃ v' w' ce',(Builtin.append_ #[78,78] 78 #[v0,.slice ao m c]).run Tryz.prog U=.ok v' w'∧(View zab 85 w' D.heap.size hi v' m y ce'∧Box w' g cR.toArray 85)∧Below D.heap.size U w':=by
 obtain ⟨v',w',hrun,V',hgr,b'⟩:=zbn zcO zaT 78 V c (hS.below hb hA hh) hb.size hh (by omega) hz;refine ⟨v',w',cat2 ce 0 cy,hrun,⟨?_,?_⟩,b'⟩
 ·rw [Nat.zero_add] at V'
  exact V'.congr (fun i hi=>by unfold cat2;rw [if_neg (by omega)];rfl)
 ·exact (hgr.block g hX.lt (fun h=>hg h.symm)).trans hX
theorem zeM {D U:World} {hi m g:Nat} {v:Value} {x:Nat→RecD} {ce:Nat→List Value} {r:RecD} {cR:List Value} (hb:Below D.heap.size D U) (hh:hi≤D.heap.size) (hm:m≤1000000) (V:View zab 85 U D.heap.size hi v m x ce) (hX:Box U g cR.toArray 85) (hr:zab.rd U hi r cR) :
 ∃ v' w' ce',(Builtin.append_ #[78,78] 78 #[v,.slice (some ⟨g,0,none⟩) 1 1]).run Tryz.prog U=.ok v' w'∧View zab 85 w' D.heap.size hi v' (m+1) (cat2 x m (fun _=>r)) ce'∧Below D.heap.size U w':=by
 obtain ⟨v',w',hrun,V',_,b'⟩:=zbn zcO zaT 78 V 1 (zd6 (b:=g) (hi:=hi) (y:=r) (cs:=cR) (fun j hj=>by rw [hX.cell j];simp) hr) hb.size hh (by omega) (fun h=>by cases h);exact ⟨v',w',_,hrun,V',b'⟩
theorem zdX {D U:World} {hi m k:Nat} {ao:Option Addr} {c:Nat} {y:Nat→RecD} {cy:Nat→List Value} {v:Value} {x:Nat→RecD} {ce:Nat→List Value} (hS:Src zab D hi ao k y cy) (hz:ao=none→c=0∨k=0) (hA:∀ b off,ao=some ⟨b,off,none⟩→b<D.heap.size) (hb:Below D.heap.size D U) (hh:hi≤D.heap.size) (hm:m+k≤2000000)
 (V:View zab 85 U D.heap.size hi v m x ce):∃ v' w' ce',(Builtin.append_ #[78,78] 78 #[v,.slice ao k c]).run Tryz.prog U=.ok v' w'∧View zab 85 w' D.heap.size hi v' (m+k) (cat2 x m y) ce'∧Below D.heap.size U w':=by
 obtain ⟨v',w',hrun,V',_,b'⟩:=zbn zcO zaT 78 V c (hS.below hb hA hh) hb.size hh (by omega) hz;exact ⟨v',w',_,hrun,V',b'⟩
theorem zcB (l:List Nat) (M at_:Nat) (h:at_≤l.length):(l.take at_++M::l.drop at_).length=at_+1+(l.length-at_):=by
 rw [List.length_append,List.length_cons,List.length_take,List.length_drop];omega
theorem zdY (x0:Nat→RecD) (l:List Nat) (M at_:Nat) (h:at_≤l.length) (i:Nat):cat2 (cat2 (fun i=>x0 (l.getD i 0)) at_ (fun _=>x0 M)) (at_+1) (fun j=>x0 (l.getD (at_+j) 0)) i=x0 ((l.take at_++M::l.drop at_).getD i 0):=by
 have hl:(l.take at_).length=at_:=by rw [List.length_take];omega
 by_cases c1:i<at_
 ·rw [zbN _ _ (by omega),zbN _ _ c1]
  congr 1
  rw [List.getD_eq_getElem?_getD,List.getD_eq_getElem?_getD,List.getElem?_append_left (by omega),List.getElem?_take,if_pos c1]
 ·by_cases c2:i=at_
  ·subst c2
   have e:=zbX (fun i=>x0 (l.getD i 0)) i (fun _=>x0 M) 0;rw [Nat.add_zero] at e;rw [zbN _ _ (by omega),e]
   congr 1
   rw [List.getD_eq_getElem?_getD,List.getElem?_append_right (by omega),hl]
   simp
  ·obtain ⟨j,rfl⟩:∃ j,i=at_+1+j:=⟨i-(at_+1),by omega⟩
   rw [zbX]
   congr 1
   rw [List.getD_eq_getElem?_getD,List.getD_eq_getElem?_getD,List.getElem?_append_right (by omega),hl,show at_+1+j-at_=j+1 by omega,List.getElem?_cons_succ,List.getElem?_drop]
theorem znD (tp:Nat→TapeD) {T i:Nat} (hT:T<2) (hi:i<(tp T).recs.1):recT tp 2 (lenT tp T+i)=(tp T).recs.2 i:=by
 have:T=0∨T=1:=by omega
 rcases this with rfl | rfl
 ·have h1:recT tp 2 (lenT tp 0+i)=recT tp 1 (lenT tp 0+i):=zbN _ _ (by show lenT tp 0+i<lenT tp 0+(tp 0).recs.1;omega)
  rw [h1];exact zbX _ _ _ _
 ·exact zbX _ _ _ _
theorem zmT {k:Nat} (h:k+1<1000000000):IntKind.i64.wrap (((k+1:Nat):Int)-1)=(k:Int):=by rw [IntKind.wrap_i64];omega
set_option maxRecDepth 100000 in
theorem zhd (d:WorldD) (cs:List Value) (hi B:Nat) (w:World) (h:zae.rd w hi d cs) (hhi:hi≤w.heap.size) (hBX:Box w B cs.toArray 34) (h2:d.tapes.1=2) (hn0:(d.tapes.2 0).recs.1≤400000) (hn1:(d.tapes.2 1).recs.1≤400000) :
 Calls Tryz.prog 41 #[.pointer (some ⟨B,0,none⟩)] w (fun e w'=>∃ v' l ce lo,e=.returned v'∧Cnt (recT d.tapes.2 2) (lenT d.tapes.2 2) l∧w.heap.size≤lo∧View zab 85 w' lo hi v' l.length (fun i=>recT d.tapes.2 2 (l.getD i 0)) ce∧Below w.heap.size w w'):=by
 obtain ⟨ao1,cap1,ao2,cap2,ao3,cap3,rfl,g1,g2,g3,k0,k4,k5⟩:=zaV h;obtain ⟨ao3',cap3',e,hmm,hc⟩:=g3
 simp only [List.cons.injEq,Value.slice.injEq,true_and,and_true] at e
 obtain ⟨rfl,rfl⟩:=e;obtain ⟨tb,toff,rfl,hbh,hel⟩:=hc (by rw [h2];simp);rw [h2] at hel;have HEL:=hid hel;have hBlt:=hBX.lt
 have HBX:Hid (w.cell? ⟨B,11,none⟩=some (.slice (some ⟨tb,toff,none⟩) 2 cap3)):=by have:=hBX.cell 11;rw [h2] at this;exact this
 obtain ⟨tp,htp⟩:∃ t,t=d.tapes.2:=⟨_,rfl⟩;rw [← htp] at HEL hn0 hn1 ⊢;clear h hc hmm g1 g2 k0 k4 k5 hel h2 hBX htp;obtain ⟨x0,hx0⟩:∃ x,x=recT tp 2:=⟨_,rfl⟩;have HX0:=hid hx0;rw [← hx0];clear hx0;have bL:=bAl w (.cells #[] 85);have V0:=View.lit0 (E:=zab) (t:=85) (fun i=>x0 (([]:List Nat).getD i 0)) (fun _=>[]) w hi;have HL:Hid (lenT tp 0=0∧lenT tp 1=(tp 0).recs.1∧lenT tp 2=(tp 0).recs.1+(tp 1).recs.1):=⟨rfl,by simp [lenT],by simp [lenT]⟩
 go_enter Tryz.func41,Tryz.ntmps41
 go_wp2
 go_loopw [3,4] (fun vo vt wr=>∃ (T lo:Nat) (l:List Nat) (co:Nat→List Value),T≤2∧vt=.int .i64 T∧w.heap.size≤lo∧lo≤wr.heap.size∧Cnt x0 (lenT tp T) l∧l.length≤lenT tp T∧View zab 85 wr lo hi vo l.length (fun i=>x0 (l.getD i 0)) co∧Below w.heap.size w wr) (fun _ i _=>2-(intOf i).toNat)
 case atStart=>exact ⟨0,w.heap.size,[],fun _=>[],by omega,rfl,Nat.le_refl _,bL.size,Cnt.nil x0,Nat.zero_le _,V0,bL⟩
 case round=>
  obtain ⟨T,lo,l,co,hT,rfl,hlo,hlow,hCt,hLl,V,bw⟩:=hrel;have HCt:=hid hCt;have HV:=hid V;have HBW:=hid bw;clear bL V0 hCt
  by_cases hlt:T<2
  ·obtain ⟨m,hm⟩:∃ m,m=(tp T).recs.1:=⟨_,rfl⟩
   have HM:=hid hm
   have hmb:m≤400000∧lenT tp T≤400000:=by
    have:T=0∨T=1:=by omega
    have h3:=HL.out
    rcases this with rfl | rfl<;>omega
   have HLS:Hid (lenT tp (T+1)=lenT tp T+m):=by rw [hm];exact rfl
   have HW0:Hid (∀ w',Below w.heap.size w w'→∃ rb cap1,w'.cell? ⟨tb,toff+T*2+1,none⟩=some (.slice rb m cap1)∧(zab.slice 85).rd w' hi (m,(tp T).recs.2) [.slice rb m cap1]):=fun w' hb=>by
    obtain ⟨ct,hy,hcell⟩:=zat (t:=80) HEL.out hb hhi hbh hlt;obtain ⟨aoT,capT,rfl,hrs⟩:=zbq hy;exact ⟨aoT,capT,by have:=hcell 1 (by decide);rw [hm];exact this,by rw [hm];exact hrs⟩
   obtain ⟨L0,hL0⟩:∃ n,n=lenT tp T:=⟨_,rfl⟩;have HL0:=hid hL0;rw [← hL0] at HCt hLl HLS hmb
   have t1:(T:Int)<2:=by omega
   have t0:(0:Int)≤(T:Int):=by omega
   clear hm bw V hL0 HEL;go_wp2
   go_loopw [3,5] (fun vo vi wr=>∃ (i lo:Nat) (l:List Nat) (co:Nat→List Value),i≤m∧vi=.int .i64 i∧w.heap.size≤lo∧lo≤wr.heap.size∧Cnt x0 (L0+i) l∧l.length≤L0+i∧View zab 85 wr lo hi vo l.length (fun i=>x0 (l.getD i 0)) co∧Below w.heap.size w wr) (fun _ i _=>m-(intOf i).toNat)
   case atStart=>exact ⟨0,lo,l,co,Nat.zero_le _,rfl,hlo,hlow,HCt.out,hLl,HV.out,HBW.out⟩
   case round=>
    clear HCt HV HBW hLl hlow hlo co lo l;obtain ⟨i,lo,l,co,hi',rfl,hlo,hlow,hCt,hLl,V,bw⟩:=hrel;obtain ⟨wi,rfl⟩:∃ y,y=wr:=⟨_,rfl⟩;obtain ⟨n,hn⟩:∃ n,n=l.length:=⟨_,rfl⟩;have HN:=hid hn;rw [← hn] at V hLl;have HCt:=hid hCt;obtain ⟨ao,cap,hvo⟩:=V.form;subst hvo;have HV:=hid V;have HBW:=hid bw;have zr:w.heap.size≤wi.heap.size:=bw.size;have xB:wi.cell? ⟨B,11,none⟩=some (.slice (some ⟨tb,toff,none⟩) 2 cap3):=(bw.cell (p:=⟨B,11,none⟩) hBlt).trans HBX.out;obtain ⟨rb,capT,xT,hrs⟩:=HW0.out wi bw;clear hCt hn V bw
    by_cases hlt2:i<m
    ·obtain ⟨cy,hS,-⟩:=zne hrs
     obtain ⟨b,off,hrb,hcell⟩:=hS.1 (by omega);subst hrb;have rdR:=hS.2 i hlt2;have hcR:(cy i).length=9:=zab.rd_len rdR
     have rgR:wi.rangeAt b (off+i*9) (cy i):=fun j v hv=>by
      have hj:j<9:=by rw [← hcR];exact (List.getElem?_eq_some_iff.1 hv).1
      have:=hcell i hlt2 j hj;rw [show off+(i*zab.sz+j)=off+i*9+j from (Nat.add_assoc _ _ _).symm] at this;exact this.trans hv
     obtain ⟨cR,hcRe⟩:∃ c,c=cy i:=⟨_,rfl⟩;rw [← hcRe] at rgR hcR rdR
     have hxr:(tp T).recs.2 i=x0 (L0+i):=by rw [HX0.out,HL0.out];exact (znD tp hlt (by rw [← HM.out];exact hlt2)).symm
     rw [hxr] at rdR;obtain ⟨M,hM⟩:∃ M,M=L0+i:=⟨_,rfl⟩;have HMM:=hid hM;rw [← hM] at rdR HCt;have oneR:∀ v,v∈cR→v.oneCell'=true:=zaT _ _ _ _ rdR
     have i1:(0:Int)≤(i:Int):=by omega
     have i2:(i:Int)<(m:Int):=by omega
     have bA:=bAl wi (.cells cR.toArray 85);have XA:=zaq wi cR.toArray 85;have rdW:zab.rd (wi.alloc (.cells cR.toArray 85)) hi (x0 M) cR:=zab.rd_below rdR bA (by omega);clear hrs hS hcell hcRe hxr rdR hM
     go_upto_region 9 with (first | (refine wpList_load_mid rfl 85 (.tmp 35) rfl b (off+i*9) (by simp [Act.eval]) cR _ rgR Tryz.underlying85 rfl (zam hcR) ?_) | (refine zbd 85 6 (.tmp 36) cR _ 9 rfl rfl rfl rfl rfl rfl rfl rfl zfM rfl hcR oneR ?_))
     obtain ⟨W,hW⟩:∃ x,x=wi.alloc (.cells cR.toArray 85):=⟨_,rfl⟩;rw [← hW] at bA XA rdW ⊢;clear hW rgR xB xT;have VW:=HV.out.below bA (by omega);have zW':wi.heap.size<W.heap.size:=XA.lt;have CH:=zjr (.slice ao n cap) n (fun i=>x0 (l.getD i 0)) (x0 M) cR W.heap.size W (VW.rd (by omega)) (zab.rd_mono rdW (by omega)) (Nat.le_refl _) (by omega);have HXW:=hid XA;have HVW:=hid VW;have HRW:=hid rdW;have HBW2:=hid (HBW.out.trans (bA.mono zr));clear VW XA rdW bA HV HBW
     go_wp2_with (refine zav 85 (.tmp 6) rfl rfl (wi.heap.size) rfl HXW.out Tryz.underlying85 zeu hcR ?_)
     refine CH.mono ?_;rintro ee w5 ⟨t,rfl,ht,b5⟩;have z5:W.heap.size≤w5.heap.size:=b5.size;have HV5:Hid (View zab 85 w5 lo hi (.slice ao n cap) n (fun i=>x0 (l.getD i 0)) co):=HVW.out.below b5 (by omega);have HX5:=hid (HXW.out.below b5 zW');have HR5:Hid (zab.rd w5 hi (x0 M) cR):=zab.rd_below HRW.out b5 (by omega);have HB5:Hid (Below w.heap.size w w5):=HBW2.out.trans (b5.mono (by omega))
     have HT:Hid (t=true↔¬ Fst x0 M):=by
      show t=true↔¬ Fst x0 M
      rw [ht,← HCt.out.has,HN.out];have:=(zcF (l:=l) (al:=0) (P:=fun o=>SameR (x0 o) (x0 M))).symm
      simpa using this
     clear ht b5 CH HVW HXW HRW HBW2
     cases t with
     | true=>
      go_wp2
      go_roundw
      case rel=>exact ⟨i+1,lo,l,co,by omega,by go_num,hlo,by omega,by rw [← Nat.add_assoc,← HMM.out];exact HCt.out.skip (HT.out.1 (by simp)),by rw [← HN.out];omega,by rw [← HN.out];exact HV5.out,HB5.out⟩
      case measure=>simp [intOf];omega
     | false=>
      have HF:Hid (Fst x0 M):=Classical.byContradiction fun h=>absurd (HT.out.2 h) (by simp);clear HT;go_wp2
      go_loopw [7] (fun va wx=>∃ at_:Nat,at_≤n∧va=.int .i64 at_∧(∀ k,at_≤k→k<n→numC (x0 M) (x0 (l.getD k 0))<0)∧Below w5.heap.size w5 wx) (fun va _=>(intOf va).toNat)
      case atStart=>exact ⟨n,Nat.le_refl _,by go_num,fun k h1 h2=>by omega,Below.refl _ _⟩
      case round=>
       obtain ⟨at_,hat,rfl,hbeh,bx⟩:=hrel;obtain ⟨wx,rfl⟩:∃ y,y=wr:=⟨_,rfl⟩;have HBE:=hid hbeh;have zx:w5.heap.size≤wx.heap.size:=bx.size;have HVx:Hid (View zab 85 wx lo hi (.slice ao n cap) n (fun i=>x0 (l.getD i 0)) co):=HV5.out.below bx (by omega);have HXx:Hid (Box wx wi.heap.size cR.toArray 85):=HX5.out.below bx (by omega);have HRx:Hid (zab.rd wx hi (x0 M) cR):=zab.rd_below HR5.out bx (by omega);have HBx:Hid (Below w.heap.size w wx):=HB5.out.trans (bx.mono (by omega));have HB5x:=hid bx;have bD:Below wx.heap.size wx wx.drew:=⟨rfl,rfl,rfl,Nat.le_refl _,fun _ _=>rfl⟩;clear hbeh bx
       by_cases hat0:at_=0
       ·have d1:decide (0<at_)=false:=decide_eq_false (by omega)
        have d2:decide ((0:Int)<(at_:Int))=false:=decide_eq_false (by omega);have HS:Hid (at_=0∨¬ numC (x0 M) (x0 (l.getD (at_-1) 0))<0):=.inl hat0;clear hat0
        go_upto_region 11 with fail
        refine zay 9 (fun w'=>True) zci trivial (fun hHeld=>?_);refine zn9 0 rfl ?_
        try simp only [Act.put,SL]
        refine zn9 1 rfl ?_
        try simp only [Act.put,SL]
        try rw [d1]
        refine zn9 2 rfl ?_
        try simp only [Act.put,SL]
        refine zob 3 rfl ?_
        try simp only [Act.put,SL]
        refine zob 4 rfl ?_
        try simp only [Act.put,SL]
        refine zob 5 rfl ?_
        try simp only [Act.put,SL]
        refine zob 6 rfl ?_
        try simp only [Act.put,SL]
        refine zob 7 rfl ?_
        try simp only [Act.put,SL]
        refine zob 8 rfl ?_
        try simp only [Act.put,SL]
        refine zas (i:=9) (o:=_) rfl (by kernel_rfl) (by kernel_rfl) (fun KC hKC=>?_);refine znz (by kernel_rfl) (hKC _ _ ?_);clear hKC KC
        try simp only [Act.put,SL]
        refine znS 10 (v:=?_) rfl ?_ ?_
        rotate_left
        ·intro w' hSw;go_simp;try with_reducible rfl
        try simp only [Act.put,SL]
        refine zar (by kernel_rfl) ?_ _;obtain ⟨w9,hw9⟩:∃ x,x=wx.drew:=⟨_,rfl⟩;rw [← hw9] at bD ⊢;have b9:Below wx.heap.size wx w9:=bD;clear bD hw9 hHeld d1 d2;have z9:wx.heap.size≤w9.heap.size:=b9.size;have V9:=(HVx.out.below b9 (by omega)).drew;have b9':Below wx.heap.size wx w9.drew:=b9.trans (show Below wx.heap.size w9 w9.drew from ⟨rfl,rfl,rfl,Nat.le_refl _,fun _ _=>rfl⟩);have X9:Box w9.drew wi.heap.size cR.toArray 85:=HXx.out.below b9' (by omega);have R9:zab.rd w9.drew hi (x0 M) cR:=zab.rd_below HRx.out b9' (by omega);have B9:Below w.heap.size w w9.drew:=HBx.out.trans (b9'.mono (by omega))
        have rg9:w9.drew.rangeAt wi.heap.size 0 cR:=fun j v hv=>by
         have:=(X9.cell j).trans (by simpa using hv);rw [Nat.zero_add];exact this
        obtain ⟨D,hD⟩:∃ D,D=w9.drew:=⟨_,rfl⟩;have HD:=hid hD;rw [← hD] at V9 X9 R9 B9 rg9
        have zD:w9.heap.size=D.heap.size:=by rw [hD];rfl
        clear hD b9 b9';obtain ⟨aU,cU,hUr,sU,hUz⟩:=V9.upto_ (show hi≤D.heap.size by omega) (al:=at_) hat;obtain ⟨aF,cF,hFr,sF,rF,hFz⟩:=V9.from_ (show hi≤D.heap.size by omega) (al:=at_) hat
        have hAU:∀ b off,aU=some ⟨b,off,none⟩→b<D.heap.size:=fun b off e=>by
         rcases V9.form2 with ⟨e3,e4⟩ | ⟨g,cp,e3,e4,hg⟩
         ·have hz:at_=0:=by omega
          have:=hUr D;rw [e3,hz,zfL D] at this
          simp only [Result.ok.injEq,Value.slice.injEq,and_true] at this
          rw [← this.1] at e
          cases e
         ·have:=hUr D
          rw [e3,zfJ g n cp at_ hat e4 D] at this
          simp only [Result.ok.injEq,Value.slice.injEq,and_true] at this
          rw [← this.1] at e
          cases e
          exact hg
        have hAF:∀ b off,aF=some ⟨b,off,none⟩→b<D.heap.size:=fun b off e=>by
         rcases V9.form2 with ⟨e3,e4⟩ | ⟨g,cp,e3,e4,hg⟩
         ·have hz:at_=0:=by omega
          have:=hFr D;rw [e3,hz,zfK D] at this
          simp only [Result.ok.injEq,Value.slice.injEq,and_true] at this
          rw [← this.1] at e
          cases e
         ·have:=hFr D
          rw [e3,zfI g n cp at_ hat D] at this
          simp only [Result.ok.injEq,Value.slice.injEq,and_true] at this
          rw [← this.1] at e
          split at e<;>cases e<;>exact hg
        have hiD:hi≤D.heap.size:=by omega
        have hpD:wi.heap.size<D.heap.size:=X9.lt
        have hatL:at_≤l.length:=by rw [← HN.out];exact hat
        have HCN:Hid (Cnt x0 (M+1) (l.take at_++M::l.drop at_)):=HCt.out.ins HF.out at_ hatL (fun k h1 h2=>HBE.out k h1 (by rw [HN.out];exact h2)) HS.out;have HRd:=hid R9;have HBD:=hid B9;have HUS:=hid sU;have HFS:=hid sF;clear V9 X9 R9 B9 sU sF rF
        go_upto_region 13 with fail
        refine zay 7 (fun w'=>w'.rangeAt wi.heap.size 0 cR) zci (by rw [← HD.out];exact rg9) (fun hHeld=>?_);rw [← HD.out] at hHeld ⊢;refine zn9 1 rfl ?_
        try simp only [Act.put,SL]
        refine zn9 2 rfl ?_
        try simp only [Act.put,SL]
        refine zn7 3 (v:=?_) rfl ?_ ?_
        rotate_left
        ·intro w' hSw
         try rw [show (Instr.slice 78 (.slice ao n cap) none (some (.int .i64 (at_:Int))) none).run Tryz.prog w'=_ from hUr w']
         have hSl':=hUr w';go_simp
         try with_reducible rfl
        try simp only [Act.put,SL]
        refine zaf (i:=5) (oi:=_) 16 rfl (by kernel_rfl) (fun _ _ _ h=>h) (yieldsIf_load_mid (by kernel_rfl) 85 (.tmp 6) rfl wi.heap.size (0) (by simp [Act.eval,Act.put]) cR _ (fun w h=>h) Tryz.underlying85 rfl (zam hcR)) (by assumption) ?_
        try simp only [Act.put,SL]
        refine zn9 8 rfl ?_
        try simp only [Act.put,SL]
        refine zn9 9 rfl ?_
        try simp only [Act.put,SL]
        refine zn7 10 (v:=?_) rfl ?_ ?_
        rotate_left
        ·intro w' hSw
         try rw [show (Instr.slice 78 (.slice ao n cap) (some (.int .i64 (at_:Int))) none none).run Tryz.prog w'=_ from hFr w']
         have hSl':=hFr w';go_simp
         try with_reducible rfl
        try simp only [Act.put,SL]
        refine zde (i:=0) (j:=6) (o:=_) (o':=_) rfl rfl (by kernel_rfl) (fun KC hKC=>?_) (fun KC hKC=>?_)
        ·refine zdf rfl rfl ?_
         have bA:=bAl D (.cells #[] 85);refine hKC _ _ (zaU rg9 bA hpD) ?_;clear hKC KC
         try simp only [Act.put,SL]
         have VL:=View.lit0 (E:=zab) (t:=85) (fun i=>x0 (l.getD i 0)) co D hi;have zA1:D.heap.size<(D.alloc (.cells #[] 85)).heap.size:=(zaq D #[] 85).lt;obtain ⟨D1,hD1⟩:∃ x,x=D.alloc (.cells #[] 85):=⟨_,rfl⟩;rw [← hD1] at bA VL zA1 ⊢;clear hD1;refine zde (i:=4) (j:=6) (o:=_) (o':=_) rfl rfl (by kernel_rfl) (fun KC hKC=>?_) (fun KC hKC=>?_)
         ·skip
          obtain ⟨v4,w4,cv4,runv4,V4,bw4⟩:=zng (lo:=lo) HUS.out hUz hAU bA hiD (by omega) VL;refine za4 rfl (.tmp 55) (.tmp 58) rfl (by simp [Act.eval,Act.put]) (by simp [Act.eval,Act.put]) runv4 ?_;have b4D:=bA.trans bw4;refine hKC _ _ (zaU rg9 b4D hpD) ?_;clear hKC KC
          try simp only [Act.put,SL]
          refine zbo (i:=6) (o:=_) rfl (by kernel_rfl) (fun KC hKC=>?_);refine zb5 rfl (.tmp 60) rfl HRd.out (by simp [Act.eval,Act.put]) ?_;have b6:=bAl w4 (.cells cR.toArray 85);have b6D:=b4D.trans (b6.mono b4D.size);refine hKC _ _ (zaU rg9 b6D hpD) ?_;clear hKC KC
          try simp only [Act.put,SL]
          have V6:=V4.below b6 (by have:=b4D.size;omega);have X6:=zaq w4 cR.toArray 85;obtain ⟨v7,w7,cv7,runv7,V7,bw7⟩:=zeM b6D hiD (by omega) V6 X6 (zab.rd_below HRd.out b6D hiD);refine zas (i:=7) (o:=_) rfl (by kernel_rfl) (by kernel_rfl) (fun KC hKC=>?_);refine za4 rfl (.tmp 59) (.tmp 61) rfl (by simp [Act.eval,Act.put]) (by simp [Act.eval,Act.put]) runv7 ?_;refine hKC _ _ ?_;clear hKC KC
          try simp only [Act.put,SL]
          have b7D:=b6D.trans bw7;obtain ⟨v8,w8,cv8,runv8,V8,bw8⟩:=zdX HFS.out hFz hAF b7D hiD (by omega) V7;refine zas (i:=11) (o:=_) rfl (by kernel_rfl) (by kernel_rfl) (fun KC hKC=>?_);refine za4 rfl (.tmp 62) (.tmp 65) rfl (by simp [Act.eval,Act.put]) (by simp [Act.eval,Act.put]) runv8 ?_;refine hKC _ _ ?_;clear hKC KC
          try simp only [Act.put,SL]
          refine znS 12 (v:=?_) rfl ?_ ?_
          rotate_left
          ·intro w' hSw;go_simp;try with_reducible rfl
          try simp only [Act.put,SL]
          refine zar (by kernel_rfl) ?_ _
          have HV8:Hid (View zab 85 w8 D.heap.size hi v8 (l.take at_++M::l.drop at_).length (fun i=>x0 ((l.take at_++M::l.drop at_).getD i 0)) cv8):=by
           show View _ _ _ _ _ _ _ _ _
           rw [zcB l M at_ hatL,← HN.out];exact V8.congr (fun i _=>zdY x0 l M at_ hatL i)
          have HB8:Hid (Below w.heap.size w w8):=HBD.out.trans ((b7D.trans bw8).mono (by omega));have z8:D.heap.size≤w8.heap.size:=(b7D.trans bw8).size
          have HLn:Hid ((l.take at_++M::l.drop at_).length≤L0+(i+1)):=by
           show (l.take at_++M::l.drop at_).length≤L0+(i+1)
           rw [zcB l M at_ hatL,← HN.out];omega
          clear V8 V7 bw7 bw8 b7D hHeld runv7 runv8 hUr hFr hUz hFz hAU hAF rg9 HUS HFS HRd HBD;go_wp2
          go_roundw
          case rel=>exact ⟨i+1,D.heap.size,l.take at_++M::l.drop at_,cv8,by omega,by go_num,by omega,z8,by rw [← Nat.add_assoc,← HMM.out];exact HCN.out,HLn.out,HV8.out,HB8.out⟩
          case measure=>simp [intOf];omega
         ·refine zb5 rfl (.tmp 60) rfl HRd.out (by simp [Act.eval,Act.put]) ?_
          have b6:=bAl D1 (.cells cR.toArray 85);have b6D:=bA.trans (b6.mono bA.size);refine hKC _ _ (zaU rg9 b6D hpD) ?_;clear hKC KC
          try simp only [Act.put,SL]
          have VL6:=VL.below b6 (by have:=bA.size;omega);have X6:=zaq D1 cR.toArray 85;have z6:D1.heap.size<(D1.alloc (.cells cR.toArray 85)).heap.size:=X6.lt;have zA:=bA.size;obtain ⟨D2,hD2⟩:∃ x,x=D1.alloc (.cells cR.toArray 85):=⟨_,rfl⟩;rw [← hD2] at b6 b6D VL6 X6 z6 ⊢;clear hD2;have XK:=X6;obtain ⟨v4,w4,cv4,runv4,⟨V4,X4⟩,bw4⟩:=zhc HUS.out hUz hAU b6D hiD (by omega) VL6 X6 (fun h=>by simp [Value.ownBlock] at h;omega);refine zbo (i:=4) (o:=_) rfl (by kernel_rfl) (fun KC hKC=>?_);refine za4 rfl (.tmp 55) (.tmp 58) rfl (by simp [Act.eval,Act.put]) (by simp [Act.eval,Act.put]) runv4 ?_;have b4D:=b6D.trans bw4;refine hKC _ _ (zaU rg9 b4D hpD) ?_;clear hKC KC
          try simp only [Act.put,SL]
          obtain ⟨v7,w7,cv7,runv7,V7,bw7⟩:=zeM b4D hiD (by omega) V4 X4 (zab.rd_below HRd.out b4D hiD);refine zas (i:=7) (o:=_) rfl (by kernel_rfl) (by kernel_rfl) (fun KC hKC=>?_);refine za4 rfl (.tmp 59) (.tmp 61) rfl (by simp [Act.eval,Act.put]) (by simp [Act.eval,Act.put]) runv7 ?_;refine hKC _ _ ?_;clear hKC KC
          try simp only [Act.put,SL]
          have b7D:=b4D.trans bw7;obtain ⟨v8,w8,cv8,runv8,V8,bw8⟩:=zdX HFS.out hFz hAF b7D hiD (by omega) V7;refine zas (i:=11) (o:=_) rfl (by kernel_rfl) (by kernel_rfl) (fun KC hKC=>?_);refine za4 rfl (.tmp 62) (.tmp 65) rfl (by simp [Act.eval,Act.put]) (by simp [Act.eval,Act.put]) runv8 ?_;refine hKC _ _ ?_;clear hKC KC
          try simp only [Act.put,SL]
          refine znS 12 (v:=?_) rfl ?_ ?_
          rotate_left
          ·intro w' hSw;go_simp;try with_reducible rfl
          try simp only [Act.put,SL]
          refine zar (by kernel_rfl) ?_ _
          have HV8:Hid (View zab 85 w8 D.heap.size hi v8 (l.take at_++M::l.drop at_).length (fun i=>x0 ((l.take at_++M::l.drop at_).getD i 0)) cv8):=by
           show View _ _ _ _ _ _ _ _ _
           rw [zcB l M at_ hatL,← HN.out];exact V8.congr (fun i _=>zdY x0 l M at_ hatL i)
          have HB8:Hid (Below w.heap.size w w8):=HBD.out.trans ((b7D.trans bw8).mono (by omega));have z8:D.heap.size≤w8.heap.size:=(b7D.trans bw8).size
          have HLn:Hid ((l.take at_++M::l.drop at_).length≤L0+(i+1)):=by
           show (l.take at_++M::l.drop at_).length≤L0+(i+1)
           rw [zcB l M at_ hatL,← HN.out];omega
          clear V8 V7 bw7 bw8 b7D hHeld runv7 runv8 hUr hFr hUz hFz hAU hAF rg9 HUS HFS HRd HBD;go_wp2
          go_roundw
          case rel=>exact ⟨i+1,D.heap.size,l.take at_++M::l.drop at_,cv8,by omega,by go_num,by omega,z8,by rw [← Nat.add_assoc,← HMM.out];exact HCN.out,HLn.out,HV8.out,HB8.out⟩
          case measure=>simp [intOf];omega
        ·refine zb5 rfl (.tmp 60) rfl HRd.out (by simp [Act.eval,Act.put]) ?_
         have bA:=bAl D (.cells cR.toArray 85);refine hKC _ _ (zaU rg9 bA hpD) ?_;clear hKC KC
         try simp only [Act.put,SL]
         have XA:=zaq D cR.toArray 85;have zA:D.heap.size<(D.alloc (.cells cR.toArray 85)).heap.size:=XA.lt;obtain ⟨D1,hD1⟩:∃ x,x=D.alloc (.cells cR.toArray 85):=⟨_,rfl⟩;rw [← hD1] at bA XA zA ⊢;clear hD1;refine zbo (i:=0) (o:=_) rfl (by kernel_rfl) (fun KC hKC=>?_);refine zdf rfl rfl ?_;have b6:=bAl D1 (.cells #[] 85);have b6D:=bA.trans (b6.mono bA.size);refine hKC _ _ (zaU rg9 b6D hpD) ?_;clear hKC KC
         try simp only [Act.put,SL]
         have VL:=(View.lit0 (E:=zab) (t:=85) (fun i=>x0 (l.getD i 0)) co D1 hi).weakL (lo':=D.heap.size) (by omega);have X6:=XA.below b6 zA;obtain ⟨D2,hD2⟩:∃ x,x=D1.alloc (.cells #[] 85):=⟨_,rfl⟩;rw [← hD2] at b6 b6D VL X6 ⊢;clear hD2;obtain ⟨v4,w4,cv4,runv4,⟨V4,X4⟩,bw4⟩:=zhc HUS.out hUz hAU b6D hiD (by omega) VL X6 (fun h=>by simp [Value.ownBlock] at h;omega);refine zbo (i:=4) (o:=_) rfl (by kernel_rfl) (fun KC hKC=>?_);refine za4 rfl (.tmp 55) (.tmp 58) rfl (by simp [Act.eval,Act.put]) (by simp [Act.eval,Act.put]) runv4 ?_;have b4D:=b6D.trans bw4;refine hKC _ _ (zaU rg9 b4D hpD) ?_;clear hKC KC
         try simp only [Act.put,SL]
         obtain ⟨v7,w7,cv7,runv7,V7,bw7⟩:=zeM b4D hiD (by omega) V4 X4 (zab.rd_below HRd.out b4D hiD);refine zas (i:=7) (o:=_) rfl (by kernel_rfl) (by kernel_rfl) (fun KC hKC=>?_);refine za4 rfl (.tmp 59) (.tmp 61) rfl (by simp [Act.eval,Act.put]) (by simp [Act.eval,Act.put]) runv7 ?_;refine hKC _ _ ?_;clear hKC KC
         try simp only [Act.put,SL]
         have b7D:=b4D.trans bw7;obtain ⟨v8,w8,cv8,runv8,V8,bw8⟩:=zdX HFS.out hFz hAF b7D hiD (by omega) V7;refine zas (i:=11) (o:=_) rfl (by kernel_rfl) (by kernel_rfl) (fun KC hKC=>?_);refine za4 rfl (.tmp 62) (.tmp 65) rfl (by simp [Act.eval,Act.put]) (by simp [Act.eval,Act.put]) runv8 ?_;refine hKC _ _ ?_;clear hKC KC
         try simp only [Act.put,SL]
         refine znS 12 (v:=?_) rfl ?_ ?_
         rotate_left
         ·intro w' hSw;go_simp;try with_reducible rfl
         try simp only [Act.put,SL]
         refine zar (by kernel_rfl) ?_ _
         have HV8:Hid (View zab 85 w8 D.heap.size hi v8 (l.take at_++M::l.drop at_).length (fun i=>x0 ((l.take at_++M::l.drop at_).getD i 0)) cv8):=by
          show View _ _ _ _ _ _ _ _ _
          rw [zcB l M at_ hatL,← HN.out];exact V8.congr (fun i _=>zdY x0 l M at_ hatL i)
         have HB8:Hid (Below w.heap.size w w8):=HBD.out.trans ((b7D.trans bw8).mono (by omega));have z8:D.heap.size≤w8.heap.size:=(b7D.trans bw8).size
         have HLn:Hid ((l.take at_++M::l.drop at_).length≤L0+(i+1)):=by
          show (l.take at_++M::l.drop at_).length≤L0+(i+1)
          rw [zcB l M at_ hatL,← HN.out];omega
         clear V8 V7 bw7 bw8 b7D hHeld runv7 runv8 hUr hFr hUz hFz hAU hAF rg9 HUS HFS HRd HBD;go_wp2
         go_roundw
         case rel=>exact ⟨i+1,D.heap.size,l.take at_++M::l.drop at_,cv8,by omega,by go_num,by omega,z8,by rw [← Nat.add_assoc,← HMM.out];exact HCN.out,HLn.out,HV8.out,HB8.out⟩
         case measure=>simp [intOf];omega
       ·obtain ⟨A,hA⟩:∃ A,at_=A+1:=⟨at_-1,by omega⟩
        subst hA
        have hAn:A<n:=by omega
        have VD:=HVx.out.drew;obtain ⟨gO,cO',hgO⟩:=VD.form0 (by omega)
        have rgO:wx.drew.rangeAt gO (A*9) (co A):=by rw [hgO] at VD;exact VD.range hAn
        obtain ⟨rfl,rfl⟩:ao=some ⟨gO,0,none⟩∧cap=cO':=by simpa using hgO
        have hcO:(co A).length=9:=VD.lens A hAn;have CC0:=zjs (x0 M) (x0 (l.getD A 0)) cR (co A) hi hi wx.drew (zab.rd_below HRx.out bD (by omega)) (VD.each A hAn);obtain ⟨cO,hcOe⟩:∃ c,c=co A:=⟨_,rfl⟩;rw [← hcOe] at rgO hcO CC0;obtain ⟨t,ht⟩:∃ t,t=decide (numC (x0 M) (x0 (l.getD A 0))<0):=⟨_,rfl⟩;rw [← ht] at CC0;have HT:=hid ht
        have CC:Calls Tryz.prog 73 (#[.agg cR.toArray,.agg cO.toArray]++#[]) wx.drew fun e w'=>e=.returned (.bool t)∧Below wx.drew.heap.size wx.drew w':=by rw [Array.append_empty];exact CC0
        have rgB:wx.drew.rangeAt wi.heap.size 0 cR:=fun j v hv=>by
         have:=(HXx.out.cell j).trans (by simpa using hv);rw [Nat.zero_add];exact this
        have d1:decide (0<A+1)=true:=decide_eq_true (by omega);have d2:decide ((0:Int)<((A+1:Nat):Int))=true:=decide_eq_true (by omega);have wP:IntKind.i64.wrap (((A+1:Nat):Int)-1)=(A:Int):=zmT (by omega)
        have wP':IntKind.i64.wrap ((A:Int)+1-1)=(A:Int):=by rw [IntKind.wrap_i64];omega
        have wA:IntKind.i64.wrap (A:Int)=(A:Int):=by rw [IntKind.wrap_i64];omega
        have i3:(0:Int)≤(A:Int):=by omega
        have i4:(A:Int)<(n:Int):=by omega
        clear CC0 ht hcOe VD hgO
        go_upto_region 11 with fail
        refine zay 9 (fun w'=>w'.rangeAt gO (A*9) cO∧w'.rangeAt wi.heap.size 0 cR) zci ⟨rgO,rgB⟩ (fun hHeld=>?_);refine zn9 0 rfl ?_
        try simp only [Act.put,SL]
        refine zn9 1 rfl ?_
        try simp only [Act.put,SL]
        try rw [d1]
        refine zn9 2 rfl ?_
        try simp only [Act.put,SL]
        refine zaf (i:=3) (oi:=_) 16 rfl (by kernel_rfl) (fun _ _ _ h=>h) (yieldsIf_load_mid (by kernel_rfl) 85 (.tmp 6) rfl wi.heap.size (0) (by simp [Act.eval,Act.put]) cR _ (fun w h=>h.2) Tryz.underlying85 rfl (zam hcR)) (by assumption) ?_
        try simp only [Act.put,SL]
        refine zn9 4 rfl ?_
        try simp only [Act.put,SL]
        refine zn9 5 rfl ?_
        try simp only [Act.put,SL]
        refine zn9 6 rfl ?_
        try simp only [Act.put,SL]
        refine zn9 7 rfl ?_
        try simp only [Act.put,SL]
        refine zaf (i:=8) (oi:=_) 16 rfl (by kernel_rfl) (fun _ _ _ h=>h) (yieldsIf_load_mid (by kernel_rfl) 85 (.tmp 49) rfl gO (A*9) (by simp [Act.eval,Act.put]) cO _ (fun w h=>h.1) Tryz.underlying85 rfl (zam hcO)) (by assumption) ?_
        try simp only [Act.put,SL]
        refine zas (i:=9) (o:=_) rfl (by kernel_rfl) (by kernel_rfl) (fun KC hKC=>?_);refine zaQ (by kernel_rfl) (.func 73) 73 #[] _ _ rfl (by simp [Act.eval,Act.put]) #[.agg cR.toArray,.agg cO.toArray] (by simp [Act.eval,Act.put]) Tryz.func73 (by kernel_rfl) (by kernel_rfl) CC ?_;rintro ee w9 ⟨rfl,b9d⟩;refine ⟨_,rfl,?_⟩;refine hKC _ _ ?_;clear hKC KC
        try simp only [Act.put,SL]
        refine znS 10 (v:=?_) rfl ?_ ?_
        rotate_left
        ·intro w' hSw;go_simp;try with_reducible rfl
        try simp only [Act.put,SL]
        refine zar (by kernel_rfl) ?_ _;have b9:Below wx.heap.size wx w9:=bD.trans b9d;clear bD hHeld d1 d2 CC rgO rgB hcO b9d
        cases t with
        | true=>
         go_wp2
         go_roundw
         case rel=>exact ⟨A,by omega,by go_num,fun k h1 h2=>by
          by_cases c:k=A
          ·rw [c];simpa using HT.out
          ·exact HBE.out k (by omega) h2,HB5x.out.trans (b9.mono zx)⟩
         case measure=>simp [intOf]
        | false=>
         have HS:Hid (A+1=0∨¬ numC (x0 M) (x0 (l.getD (A+1-1) 0))<0):=.inr (by simpa using HT.out);obtain ⟨at_,hate⟩:∃ a,a=A+1:=⟨_,rfl⟩;rw [← hate] at HS HBE hat ⊢;clear hate HT wP wP' wA hat0;have z9:wx.heap.size≤w9.heap.size:=b9.size;have V9:=(HVx.out.below b9 (by omega)).drew;have b9':Below wx.heap.size wx w9.drew:=b9.trans (show Below wx.heap.size w9 w9.drew from ⟨rfl,rfl,rfl,Nat.le_refl _,fun _ _=>rfl⟩);have X9:Box w9.drew wi.heap.size cR.toArray 85:=HXx.out.below b9' (by omega);have R9:zab.rd w9.drew hi (x0 M) cR:=zab.rd_below HRx.out b9' (by omega);have B9:Below w.heap.size w w9.drew:=HBx.out.trans (b9'.mono (by omega))
         have rg9:w9.drew.rangeAt wi.heap.size 0 cR:=fun j v hv=>by
          have:=(X9.cell j).trans (by simpa using hv);rw [Nat.zero_add];exact this
         obtain ⟨D,hD⟩:∃ D,D=w9.drew:=⟨_,rfl⟩;have HD:=hid hD;rw [← hD] at V9 X9 R9 B9 rg9
         have zD:w9.heap.size=D.heap.size:=by rw [hD];rfl
         clear hD b9 b9';obtain ⟨aU,cU,hUr,sU,hUz⟩:=V9.upto_ (show hi≤D.heap.size by omega) (al:=at_) hat;obtain ⟨aF,cF,hFr,sF,rF,hFz⟩:=V9.from_ (show hi≤D.heap.size by omega) (al:=at_) hat
         have hAU:∀ b off,aU=some ⟨b,off,none⟩→b<D.heap.size:=fun b off e=>by
          rcases V9.form2 with ⟨e3,e4⟩ | ⟨g,cp,e3,e4,hg⟩
          ·have hz:at_=0:=by omega
           have:=hUr D;rw [e3,hz,zfL D] at this
           simp only [Result.ok.injEq,Value.slice.injEq,and_true] at this
           rw [← this.1] at e
           cases e
          ·have:=hUr D
           rw [e3,zfJ g n cp at_ hat e4 D] at this
           simp only [Result.ok.injEq,Value.slice.injEq,and_true] at this
           rw [← this.1] at e
           cases e
           exact hg
         have hAF:∀ b off,aF=some ⟨b,off,none⟩→b<D.heap.size:=fun b off e=>by
          rcases V9.form2 with ⟨e3,e4⟩ | ⟨g,cp,e3,e4,hg⟩
          ·have hz:at_=0:=by omega
           have:=hFr D;rw [e3,hz,zfK D] at this
           simp only [Result.ok.injEq,Value.slice.injEq,and_true] at this
           rw [← this.1] at e
           cases e
          ·have:=hFr D
           rw [e3,zfI g n cp at_ hat D] at this
           simp only [Result.ok.injEq,Value.slice.injEq,and_true] at this
           rw [← this.1] at e
           split at e<;>cases e<;>exact hg
         have hiD:hi≤D.heap.size:=by omega
         have hpD:wi.heap.size<D.heap.size:=X9.lt
         have hatL:at_≤l.length:=by rw [← HN.out];exact hat
         have HCN:Hid (Cnt x0 (M+1) (l.take at_++M::l.drop at_)):=HCt.out.ins HF.out at_ hatL (fun k h1 h2=>HBE.out k h1 (by rw [HN.out];exact h2)) HS.out;have HRd:=hid R9;have HBD:=hid B9;have HUS:=hid sU;have HFS:=hid sF;clear V9 X9 R9 B9 sU sF rF
         go_upto_region 13 with fail
         refine zay 7 (fun w'=>w'.rangeAt wi.heap.size 0 cR) zci (by rw [← HD.out];exact rg9) (fun hHeld=>?_);rw [← HD.out] at hHeld ⊢;refine zn9 1 rfl ?_
         try simp only [Act.put,SL]
         refine zn9 2 rfl ?_
         try simp only [Act.put,SL]
         refine zn7 3 (v:=?_) rfl ?_ ?_
         rotate_left
         ·intro w' hSw
          try rw [show (Instr.slice 78 (.slice (some ⟨gO,0,none⟩) n cap) none (some (.int .i64 (at_:Int))) none).run Tryz.prog w'=_ from hUr w']
          have hSl':=hUr w';go_simp
          try with_reducible rfl
         try simp only [Act.put,SL]
         refine zaf (i:=5) (oi:=_) 16 rfl (by kernel_rfl) (fun _ _ _ h=>h) (yieldsIf_load_mid (by kernel_rfl) 85 (.tmp 6) rfl wi.heap.size (0) (by simp [Act.eval,Act.put]) cR _ (fun w h=>h) Tryz.underlying85 rfl (zam hcR)) (by assumption) ?_
         try simp only [Act.put,SL]
         refine zn9 8 rfl ?_
         try simp only [Act.put,SL]
         refine zn9 9 rfl ?_
         try simp only [Act.put,SL]
         refine zn7 10 (v:=?_) rfl ?_ ?_
         rotate_left
         ·intro w' hSw
          try rw [show (Instr.slice 78 (.slice (some ⟨gO,0,none⟩) n cap) (some (.int .i64 (at_:Int))) none none).run Tryz.prog w'=_ from hFr w']
          have hSl':=hFr w';go_simp
          try with_reducible rfl
         try simp only [Act.put,SL]
         refine zde (i:=0) (j:=6) (o:=_) (o':=_) rfl rfl (by kernel_rfl) (fun KC hKC=>?_) (fun KC hKC=>?_)
         ·refine zdf rfl rfl ?_
          have bA:=bAl D (.cells #[] 85);refine hKC _ _ (zaU rg9 bA hpD) ?_;clear hKC KC
          try simp only [Act.put,SL]
          have VL:=View.lit0 (E:=zab) (t:=85) (fun i=>x0 (l.getD i 0)) co D hi;have zA1:D.heap.size<(D.alloc (.cells #[] 85)).heap.size:=(zaq D #[] 85).lt;obtain ⟨D1,hD1⟩:∃ x,x=D.alloc (.cells #[] 85):=⟨_,rfl⟩;rw [← hD1] at bA VL zA1 ⊢;clear hD1;refine zde (i:=4) (j:=6) (o:=_) (o':=_) rfl rfl (by kernel_rfl) (fun KC hKC=>?_) (fun KC hKC=>?_)
          ·skip
           obtain ⟨v4,w4,cv4,runv4,V4,bw4⟩:=zng (lo:=lo) HUS.out hUz hAU bA hiD (by omega) VL;refine za4 rfl (.tmp 55) (.tmp 58) rfl (by simp [Act.eval,Act.put]) (by simp [Act.eval,Act.put]) runv4 ?_;have b4D:=bA.trans bw4;refine hKC _ _ (zaU rg9 b4D hpD) ?_;clear hKC KC
           try simp only [Act.put,SL]
           refine zbo (i:=6) (o:=_) rfl (by kernel_rfl) (fun KC hKC=>?_);refine zb5 rfl (.tmp 60) rfl HRd.out (by simp [Act.eval,Act.put]) ?_;have b6:=bAl w4 (.cells cR.toArray 85);have b6D:=b4D.trans (b6.mono b4D.size);refine hKC _ _ (zaU rg9 b6D hpD) ?_;clear hKC KC
           try simp only [Act.put,SL]
           have V6:=V4.below b6 (by have:=b4D.size;omega);have X6:=zaq w4 cR.toArray 85;obtain ⟨v7,w7,cv7,runv7,V7,bw7⟩:=zeM b6D hiD (by omega) V6 X6 (zab.rd_below HRd.out b6D hiD);refine zas (i:=7) (o:=_) rfl (by kernel_rfl) (by kernel_rfl) (fun KC hKC=>?_);refine za4 rfl (.tmp 59) (.tmp 61) rfl (by simp [Act.eval,Act.put]) (by simp [Act.eval,Act.put]) runv7 ?_;refine hKC _ _ ?_;clear hKC KC
           try simp only [Act.put,SL]
           have b7D:=b6D.trans bw7;obtain ⟨v8,w8,cv8,runv8,V8,bw8⟩:=zdX HFS.out hFz hAF b7D hiD (by omega) V7;refine zas (i:=11) (o:=_) rfl (by kernel_rfl) (by kernel_rfl) (fun KC hKC=>?_);refine za4 rfl (.tmp 62) (.tmp 65) rfl (by simp [Act.eval,Act.put]) (by simp [Act.eval,Act.put]) runv8 ?_;refine hKC _ _ ?_;clear hKC KC
           try simp only [Act.put,SL]
           refine znS 12 (v:=?_) rfl ?_ ?_
           rotate_left
           ·intro w' hSw;go_simp;try with_reducible rfl
           try simp only [Act.put,SL]
           refine zar (by kernel_rfl) ?_ _
           have HV8:Hid (View zab 85 w8 D.heap.size hi v8 (l.take at_++M::l.drop at_).length (fun i=>x0 ((l.take at_++M::l.drop at_).getD i 0)) cv8):=by
            show View _ _ _ _ _ _ _ _ _
            rw [zcB l M at_ hatL,← HN.out];exact V8.congr (fun i _=>zdY x0 l M at_ hatL i)
           have HB8:Hid (Below w.heap.size w w8):=HBD.out.trans ((b7D.trans bw8).mono (by omega));have z8:D.heap.size≤w8.heap.size:=(b7D.trans bw8).size
           have HLn:Hid ((l.take at_++M::l.drop at_).length≤L0+(i+1)):=by
            show (l.take at_++M::l.drop at_).length≤L0+(i+1)
            rw [zcB l M at_ hatL,← HN.out];omega
           clear V8 V7 bw7 bw8 b7D hHeld runv7 runv8 hUr hFr hUz hFz hAU hAF rg9 HUS HFS HRd HBD;go_wp2
           go_roundw
           case rel=>exact ⟨i+1,D.heap.size,l.take at_++M::l.drop at_,cv8,by omega,by go_num,by omega,z8,by rw [← Nat.add_assoc,← HMM.out];exact HCN.out,HLn.out,HV8.out,HB8.out⟩
           case measure=>simp [intOf];omega
          ·refine zb5 rfl (.tmp 60) rfl HRd.out (by simp [Act.eval,Act.put]) ?_
           have b6:=bAl D1 (.cells cR.toArray 85);have b6D:=bA.trans (b6.mono bA.size);refine hKC _ _ (zaU rg9 b6D hpD) ?_;clear hKC KC
           try simp only [Act.put,SL]
           have VL6:=VL.below b6 (by have:=bA.size;omega);have X6:=zaq D1 cR.toArray 85;have z6:D1.heap.size<(D1.alloc (.cells cR.toArray 85)).heap.size:=X6.lt;have zA:=bA.size;obtain ⟨D2,hD2⟩:∃ x,x=D1.alloc (.cells cR.toArray 85):=⟨_,rfl⟩;rw [← hD2] at b6 b6D VL6 X6 z6 ⊢;clear hD2;have XK:=X6;obtain ⟨v4,w4,cv4,runv4,⟨V4,X4⟩,bw4⟩:=zhc HUS.out hUz hAU b6D hiD (by omega) VL6 X6 (fun h=>by simp [Value.ownBlock] at h;omega);refine zbo (i:=4) (o:=_) rfl (by kernel_rfl) (fun KC hKC=>?_);refine za4 rfl (.tmp 55) (.tmp 58) rfl (by simp [Act.eval,Act.put]) (by simp [Act.eval,Act.put]) runv4 ?_;have b4D:=b6D.trans bw4;refine hKC _ _ (zaU rg9 b4D hpD) ?_;clear hKC KC
           try simp only [Act.put,SL]
           obtain ⟨v7,w7,cv7,runv7,V7,bw7⟩:=zeM b4D hiD (by omega) V4 X4 (zab.rd_below HRd.out b4D hiD);refine zas (i:=7) (o:=_) rfl (by kernel_rfl) (by kernel_rfl) (fun KC hKC=>?_);refine za4 rfl (.tmp 59) (.tmp 61) rfl (by simp [Act.eval,Act.put]) (by simp [Act.eval,Act.put]) runv7 ?_;refine hKC _ _ ?_;clear hKC KC
           try simp only [Act.put,SL]
           have b7D:=b4D.trans bw7;obtain ⟨v8,w8,cv8,runv8,V8,bw8⟩:=zdX HFS.out hFz hAF b7D hiD (by omega) V7;refine zas (i:=11) (o:=_) rfl (by kernel_rfl) (by kernel_rfl) (fun KC hKC=>?_);refine za4 rfl (.tmp 62) (.tmp 65) rfl (by simp [Act.eval,Act.put]) (by simp [Act.eval,Act.put]) runv8 ?_;refine hKC _ _ ?_;clear hKC KC
           try simp only [Act.put,SL]
           refine znS 12 (v:=?_) rfl ?_ ?_
           rotate_left
           ·intro w' hSw;go_simp;try with_reducible rfl
           try simp only [Act.put,SL]
           refine zar (by kernel_rfl) ?_ _
           have HV8:Hid (View zab 85 w8 D.heap.size hi v8 (l.take at_++M::l.drop at_).length (fun i=>x0 ((l.take at_++M::l.drop at_).getD i 0)) cv8):=by
            show View _ _ _ _ _ _ _ _ _
            rw [zcB l M at_ hatL,← HN.out];exact V8.congr (fun i _=>zdY x0 l M at_ hatL i)
           have HB8:Hid (Below w.heap.size w w8):=HBD.out.trans ((b7D.trans bw8).mono (by omega));have z8:D.heap.size≤w8.heap.size:=(b7D.trans bw8).size
           have HLn:Hid ((l.take at_++M::l.drop at_).length≤L0+(i+1)):=by
            show (l.take at_++M::l.drop at_).length≤L0+(i+1)
            rw [zcB l M at_ hatL,← HN.out];omega
           clear V8 V7 bw7 bw8 b7D hHeld runv7 runv8 hUr hFr hUz hFz hAU hAF rg9 HUS HFS HRd HBD;go_wp2
           go_roundw
           case rel=>exact ⟨i+1,D.heap.size,l.take at_++M::l.drop at_,cv8,by omega,by go_num,by omega,z8,by rw [← Nat.add_assoc,← HMM.out];exact HCN.out,HLn.out,HV8.out,HB8.out⟩
           case measure=>simp [intOf];omega
         ·refine zb5 rfl (.tmp 60) rfl HRd.out (by simp [Act.eval,Act.put]) ?_
          have bA:=bAl D (.cells cR.toArray 85);refine hKC _ _ (zaU rg9 bA hpD) ?_;clear hKC KC
          try simp only [Act.put,SL]
          have XA:=zaq D cR.toArray 85;have zA:D.heap.size<(D.alloc (.cells cR.toArray 85)).heap.size:=XA.lt;obtain ⟨D1,hD1⟩:∃ x,x=D.alloc (.cells cR.toArray 85):=⟨_,rfl⟩;rw [← hD1] at bA XA zA ⊢;clear hD1;refine zbo (i:=0) (o:=_) rfl (by kernel_rfl) (fun KC hKC=>?_);refine zdf rfl rfl ?_;have b6:=bAl D1 (.cells #[] 85);have b6D:=bA.trans (b6.mono bA.size);refine hKC _ _ (zaU rg9 b6D hpD) ?_;clear hKC KC
          try simp only [Act.put,SL]
          have VL:=(View.lit0 (E:=zab) (t:=85) (fun i=>x0 (l.getD i 0)) co D1 hi).weakL (lo':=D.heap.size) (by omega);have X6:=XA.below b6 zA;obtain ⟨D2,hD2⟩:∃ x,x=D1.alloc (.cells #[] 85):=⟨_,rfl⟩;rw [← hD2] at b6 b6D VL X6 ⊢;clear hD2;obtain ⟨v4,w4,cv4,runv4,⟨V4,X4⟩,bw4⟩:=zhc HUS.out hUz hAU b6D hiD (by omega) VL X6 (fun h=>by simp [Value.ownBlock] at h;omega);refine zbo (i:=4) (o:=_) rfl (by kernel_rfl) (fun KC hKC=>?_);refine za4 rfl (.tmp 55) (.tmp 58) rfl (by simp [Act.eval,Act.put]) (by simp [Act.eval,Act.put]) runv4 ?_;have b4D:=b6D.trans bw4;refine hKC _ _ (zaU rg9 b4D hpD) ?_;clear hKC KC
          try simp only [Act.put,SL]
          obtain ⟨v7,w7,cv7,runv7,V7,bw7⟩:=zeM b4D hiD (by omega) V4 X4 (zab.rd_below HRd.out b4D hiD);refine zas (i:=7) (o:=_) rfl (by kernel_rfl) (by kernel_rfl) (fun KC hKC=>?_);refine za4 rfl (.tmp 59) (.tmp 61) rfl (by simp [Act.eval,Act.put]) (by simp [Act.eval,Act.put]) runv7 ?_;refine hKC _ _ ?_;clear hKC KC
          try simp only [Act.put,SL]
          have b7D:=b4D.trans bw7;obtain ⟨v8,w8,cv8,runv8,V8,bw8⟩:=zdX HFS.out hFz hAF b7D hiD (by omega) V7;refine zas (i:=11) (o:=_) rfl (by kernel_rfl) (by kernel_rfl) (fun KC hKC=>?_);refine za4 rfl (.tmp 62) (.tmp 65) rfl (by simp [Act.eval,Act.put]) (by simp [Act.eval,Act.put]) runv8 ?_;refine hKC _ _ ?_;clear hKC KC
          try simp only [Act.put,SL]
          refine znS 12 (v:=?_) rfl ?_ ?_
          rotate_left
          ·intro w' hSw;go_simp;try with_reducible rfl
          try simp only [Act.put,SL]
          refine zar (by kernel_rfl) ?_ _
          have HV8:Hid (View zab 85 w8 D.heap.size hi v8 (l.take at_++M::l.drop at_).length (fun i=>x0 ((l.take at_++M::l.drop at_).getD i 0)) cv8):=by
           show View _ _ _ _ _ _ _ _ _
           rw [zcB l M at_ hatL,← HN.out];exact V8.congr (fun i _=>zdY x0 l M at_ hatL i)
          have HB8:Hid (Below w.heap.size w w8):=HBD.out.trans ((b7D.trans bw8).mono (by omega));have z8:D.heap.size≤w8.heap.size:=(b7D.trans bw8).size
          have HLn:Hid ((l.take at_++M::l.drop at_).length≤L0+(i+1)):=by
           show (l.take at_++M::l.drop at_).length≤L0+(i+1)
           rw [zcB l M at_ hatL,← HN.out];omega
          clear V8 V7 bw7 bw8 b7D hHeld runv7 runv8 hUr hFr hUz hFz hAU hAF rg9 HUS HFS HRd HBD;go_wp2
          go_roundw
          case rel=>exact ⟨i+1,D.heap.size,l.take at_++M::l.drop at_,cv8,by omega,by go_num,by omega,z8,by rw [← Nat.add_assoc,← HMM.out];exact HCN.out,HLn.out,HV8.out,HB8.out⟩
          case measure=>simp [intOf];omega
    ·obtain rfl:i=m:=by omega
     clear hrs hlt2;go_wp2
     go_roundw
     case rel=>exact ⟨T+1,lo,l,co,by omega,by go_num,hlo,hlow,by rw [HLS.out];exact HCt.out,by rw [HLS.out,← HN.out];exact hLl,by rw [← HN.out];exact HV.out,HBW.out⟩
     case measure=>simp [intOf];omega
  ·obtain rfl:T=2:=by omega
   clear hlt bw;go_wp2;go_ret;exact ⟨_,l,co,lo,rfl,HCt.out,hlo,HV.out,HBW.out⟩
end Go.Proofs.YthbpmbgfddpffaaGreat
namespace Go.Proofs.YthbpmbgfddpffaaGreat
open Go.RowKit F256
open Go.Maps (Keyed)
theorem Ldg.keepAll {w w':World} {lo B:Nat} {s:Nat→Int} {m k:Nat} {x:Nat→RecD} {ce:Nat→List Value} {v:Value} {b1 b2 b3 b4 b5:Nat} (h:Ldg w lo B s m k x ce v b1 b2 b3 b4 b5) (hb:∀ b,b<w.heap.size→w'.heap[b]?=w.heap[b]?):Ldg w' lo B s m k x ce v b1 b2 b3 b4 b5:=by
 refine ⟨(hb B h.box.lt).trans h.box,⟨h.row.1,?_⟩,h.m1.block (hb _ h.m1.lt),h.m2.block (hb _ h.m2.lt),h.m3.block (hb _ h.m3.lt),h.m4.block (hb _ h.m4.lt),h.m5.block (hb _ h.m5.lt),h.nd,h.low,h.apart⟩
 rcases h.row.2 with hn | ⟨g,cap,cur,rfl,q1,q2,q3⟩
 ·exact .inl hn
 ·exact .inr ⟨g,cap,cur,rfl,q1,(hb g (Array.getElem?_eq_some_iff.1 q2).1).trans q2,q3⟩
theorem zkV (kd:Int) (r:RecD) (ao6 ao7 ao8:Option Addr) (cap6 cap7 cap8:Nat) (w:World) :
 Calls Tryz.prog 90 #[.agg #[.int .i64 kd,.int .i64 r.seq,.string r.name,.int .i64 r.length,.int .i64 r.group,.int .i64 r.row,.slice ao6 r.rows.1 cap6,.slice ao7 r.data.1 cap7,.slice ao8 r.delta.1 cap8]] w fun e w'=>e=.returned (entV kd [.int .i64 kd,.int .i64 r.seq,.string r.name,.int .i64 r.length,.int .i64 r.group,.int .i64 r.row,.slice ao6 r.rows.1 cap6,.slice ao7 r.data.1 cap7,.slice ao8 r.delta.1 cap8])∧Below w.heap.size w w':=by
 have T0:=(zaK w #[.int .i64 kd,.int .i64 r.seq,.string r.name,.int .i64 r.length,.int .i64 r.group,.int .i64 r.row,.slice ao6 r.rows.1 cap6,.slice ao7 r.data.1 cap7,.slice ao8 r.delta.1 cap8] 85).bel;unfold entV entT
 by_cases h1:kd=1
 ·subst h1
  go_enter Tryz.func90,Tryz.ntmps90
  go_wp2;go_ret;exact ⟨rfl,T0⟩
 ·rw [if_neg h1]
  by_cases h2:kd=2
  ·subst h2
   go_enter Tryz.func90,Tryz.ntmps90
   go_wp2;go_ret;exact ⟨rfl,T0⟩
  ·rw [if_neg h2]
   by_cases h3:kd=3
   ·subst h3
    go_enter Tryz.func90,Tryz.ntmps90
    go_wp2;go_ret;exact ⟨rfl,T0⟩
   ·rw [if_neg h3]
    go_enter Tryz.func90,Tryz.ntmps90
    go_wp2;go_ret;exact ⟨rfl,T0⟩
theorem zl0 {w w0:World} {lo B hi:Nat} {s:Nat→Int} {k:Nat} {x:Nat→RecD} {ce:Nat→List Value} {v:Value} {b1 b2 b3 b4 b5:Nat} (h:Ldg w lo B s k k x ce v b1 b2 b3 b4 b5) (hk:k≤1000000) (hlo:lo≤w.heap.size) (hr:zab.rd w0 hi (x k) (ce k)) (hkd:InP (x k).kind 1 4) :
 Calls Tryz.prog 89 #[.pointer (some ⟨B,0,none⟩),entV (x k).kind (ce k)] w fun e w'=>e=.returned (.tuple #[])∧(∃ v',Ldg w' lo B s (k+1) (k+1) x ce v' b1 b2 b3 b4 b5∧EntQ w w' v v' [B,b1,b2,b3,b4,b5])∧Below lo w w':=by
 obtain ⟨ao6,cap6,ao7,cap7,ao8,cap8,e,_,_,_,k0,k1,k2,k3,k4,k5⟩:=zaD hr;obtain ⟨q1,q2⟩:=hkd
 have hc:(x k).kind=1∨(x k).kind=2∨(x k).kind=3∨(x k).kind=4:=by omega
 rcases hc with c | c | c | c
 ·have:=zkS h hk hlo rfl e c k2 k1 k4 k5
  rw [show entV (x k).kind (ce k)=.iface 185 (.agg #[.int .i64 (x k).kind,.int .i64 (x k).seq,.string (x k).name,.int .i64 (x k).length,.int .i64 (x k).group,.int .i64 (x k).row,.slice ao6 (x k).rows.1 cap6,.slice ao7 (x k).data.1 cap7,.slice ao8 (x k).delta.1 cap8]) by unfold entV entT;rw [e];simp [c]];exact this
 ·have:=zkT h hk hlo rfl e c k2 k1 k4 k5
  rw [show entV (x k).kind (ce k)=.iface 186 (.agg #[.int .i64 (x k).kind,.int .i64 (x k).seq,.string (x k).name,.int .i64 (x k).length,.int .i64 (x k).group,.int .i64 (x k).row,.slice ao6 (x k).rows.1 cap6,.slice ao7 (x k).data.1 cap7,.slice ao8 (x k).delta.1 cap8]) by unfold entV entT;rw [e];simp [c]];exact this
 ·have:=zkU h hk hlo rfl e c k2 k1 k4 k5
  rw [show entV (x k).kind (ce k)=.iface 187 (.agg #[.int .i64 (x k).kind,.int .i64 (x k).seq,.string (x k).name,.int .i64 (x k).length,.int .i64 (x k).group,.int .i64 (x k).row,.slice ao6 (x k).rows.1 cap6,.slice ao7 (x k).data.1 cap7,.slice ao8 (x k).delta.1 cap8]) by unfold entV entT;rw [e];simp [c]];exact this
 ·have:=zjn h hk hlo rfl e c k2 k1 k4 k5
  rw [show entV (x k).kind (ce k)=.iface 190 (.agg #[.int .i64 (x k).kind,.int .i64 (x k).seq,.string (x k).name,.int .i64 (x k).length,.int .i64 (x k).group,.int .i64 (x k).row,.slice ao6 (x k).rows.1 cap6,.slice ao7 (x k).data.1 cap7,.slice ao8 (x k).delta.1 cap8]) by unfold entV entT;rw [e];simp [c]];exact this
theorem MapV.alloc {w:World} {k:TypeId} {b n:Nat} {f:Value→Option Value} (h:MapV w k b n f) (q:Obj):MapV (w.alloc q) k b n f:=h.block (Below.heap_alloc w q b h.lt)
theorem zfS (p:Nat→Prop) (key:Nat→Value):cntF p key 0=fun _=>none:=by
 funext y
 simp [cntF,cN]
theorem zl1 (u:World) (s:Nat→Int) (x:Nat→RecD) (ce:Nat→List Value) :
 Ldg ((((((u.alloc (.map #[] 0)).alloc (.map #[] 0)).alloc (.map #[] 0)).alloc (.map #[] 0)).alloc (.map #[] 0)).alloc (.cells #[.int .i64 (s 0),.int .i64 (s 1),.int .i64 (s 2),.int .i64 (s 3),.int .i64 (s 4),.int .i64 (s 5),.int .i64 (s 6),.int .i64 (s 7),.int .i64 (s 8),.slice none 0 0,.map (some u.heap.size),.map (some (u.heap.size+1)),.map (some (u.heap.size+1+1)),.map (some (u.heap.size+1+1+1)),.map (some (u.heap.size+1+1+1+1))] 145)) u.heap.size (u.heap.size+1+1+1+1+1) s 0 0 x ce (.slice none 0 0) (u.heap.size) (u.heap.size+1) (u.heap.size+1+1) (u.heap.size+1+1+1) (u.heap.size+1+1+1+1):=by
 have a1:(u.alloc (.map #[] 0)).heap.size=u.heap.size+1:=by simp
 have a2:((u.alloc (.map #[] 0)).alloc (.map #[] 0)).heap.size=u.heap.size+1+1:=by simp
 have a3:(((u.alloc (.map #[] 0)).alloc (.map #[] 0)).alloc (.map #[] 0)).heap.size=u.heap.size+1+1+1:=by simp
 have a4:((((u.alloc (.map #[] 0)).alloc (.map #[] 0)).alloc (.map #[] 0)).alloc (.map #[] 0)).heap.size=u.heap.size+1+1+1+1:=by simp
 have a5:(((((u.alloc (.map #[] 0)).alloc (.map #[] 0)).alloc (.map #[] 0)).alloc (.map #[] 0)).alloc (.map #[] 0)).heap.size=u.heap.size+1+1+1+1+1:=by simp
 have m1:=zc0 u 9;have m2:=zc0 (u.alloc (.map #[] 0)) 2;have m3:=zc0 ((u.alloc (.map #[] 0)).alloc (.map #[] 0)) 189;have m4:=zc0 (((u.alloc (.map #[] 0)).alloc (.map #[] 0)).alloc (.map #[] 0)) 2;have m5:=zc0 ((((u.alloc (.map #[] 0)).alloc (.map #[] 0)).alloc (.map #[] 0)).alloc (.map #[] 0)) 192;have X:=zaq (((((u.alloc (.map #[] 0)).alloc (.map #[] 0)).alloc (.map #[] 0)).alloc (.map #[] 0)).alloc (.map #[] 0)) #[.int .i64 (s 0),.int .i64 (s 1),.int .i64 (s 2),.int .i64 (s 3),.int .i64 (s 4),.int .i64 (s 5),.int .i64 (s 6),.int .i64 (s 7),.int .i64 (s 8),.slice none 0 0,.map (some u.heap.size),.map (some (u.heap.size+1)),.map (some (u.heap.size+1+1)),.map (some (u.heap.size+1+1+1)),.map (some (u.heap.size+1+1+1+1))] 145;rw [a1] at m2;rw [a2] at m3;rw [a3] at m4;rw [a4] at m5;rw [a5] at X;refine ⟨X,World.ownsRow_nil _ _ _ _,(((((m1.alloc _).alloc _).alloc _).alloc _).alloc _),?_,?_,?_,(m5.alloc _),by simp<;>omega,by omega,fun g hg=>by cases hg⟩
 ·rw [show movF x 0=fun _=>none from zfS _ _]
  exact (((m2.alloc _).alloc _).alloc _).alloc _
 ·rw [show donF x 0=fun _=>none from zfS _ _]
  exact ((m3.alloc _).alloc _).alloc _
 ·rw [show endF x 0=fun _=>none from zfS _ _]
  exact (m4.alloc _).alloc _
theorem zjt {d:WorldD} (hok:OkWorld d) {i:Nat} (hi:i<lenT d.tapes.2 2):InP (recT d.tapes.2 2 i).kind 1 4:=by
 have h2:d.tapes.1=2:=hok.form.2.2
 have key:∀ t j,t<2→j<(d.tapes.2 t).recs.1→InP ((d.tapes.2 t).recs.2 j).kind 1 4:=fun t j ht hj=>by
  have:=hok.recs t (by omega) j hj
  rcases this with ⟨_,h⟩ | ⟨_,h⟩
  ·omega
  rcases h with ⟨_,h⟩ | ⟨h,_⟩
  ·omega
  exact h
 have e1:lenT d.tapes.2 1=(d.tapes.2 0).recs.1:=by simp [lenT]
 have e2:lenT d.tapes.2 2=(d.tapes.2 0).recs.1+(d.tapes.2 1).recs.1:=by simp [lenT]
 rw [e2] at hi
 show InP (cat2 (recT d.tapes.2 1) (lenT d.tapes.2 1) (d.tapes.2 1).recs.2 i).kind 1 4
 unfold cat2
 split
 ·rename_i c
  rw [e1] at c
  show InP (cat2 (recT d.tapes.2 0) (lenT d.tapes.2 0) (d.tapes.2 0).recs.2 i).kind 1 4
  unfold cat2;rw [if_neg (by show ¬ i<0;omega)];exact key 0 (i-0) (by omega) (by omega)
 ·rename_i c
  rw [e1] at c ⊢;exact key 1 _ (by omega) (by omega)
def zog (d:WorldD) (hi:Nat) (w:World) (e:Ending) (w':World):Prop:=
 ∃ B l ce v b1 b2 b3 b4 b5,e=.returned (.pointer (some ⟨B,0,none⟩))∧Cnt (recT d.tapes.2 2) (lenT d.tapes.2 2) l∧Ldg w' (w.heap.size+1) B d.shape l.length l.length (fun i=>recT d.tapes.2 2 (l.getD i 0)) ce v b1 b2 b3 b4 b5∧(∀ i,i<l.length→zab.rd w' hi (recT d.tapes.2 2 (l.getD i 0)) (ce i))∧Below w.heap.size w w'
set_option maxRecDepth 20000 in
theorem zhe (d:WorldD) (cs:List Value) (hi:Nat) (w:World) (h:zae.rd w hi d cs) (hhi:hi≤w.heap.size) (hok:OkWorld d) :
 Calls Tryz.prog 50 #[.agg cs.toArray] w (zog d hi w):=by
 have h':=h;obtain ⟨ao1,cap1,ao2,cap2,ao3,cap3,rfl,g1,g2,g3,k0,k4,k5⟩:=zaV h';have HG3:=hid g3;have HOK:=hid hok;clear h h' g1 g2 g3 k0 k4 k5 hok;have T0:=zaK w #[.int .i64 (d.shape 0),.int .i64 (d.shape 1),.int .i64 (d.shape 2),.int .i64 (d.shape 3),.int .i64 (d.shape 4),.int .i64 (d.shape 5),.int .i64 (d.shape 6),.int .i64 (d.shape 7),.int .i64 (d.shape 8),.slice ao1 d.groups.1 cap1,.slice ao2 d.on.1 cap2,.slice ao3 d.tapes.1 cap3,.int .i64 d.writes,.int .i64 d.stop,.bool d.down] 34;have hmm:=@run_makeMap Tryz.prog
 go_enter Tryz.func50,Tryz.ntmps50
 go_upto_region 2 with fail
 have L0:=zl1 (w.alloc (.cells #[.int .i64 (d.shape 0),.int .i64 (d.shape 1),.int .i64 (d.shape 2),.int .i64 (d.shape 3),.int .i64 (d.shape 4),.int .i64 (d.shape 5),.int .i64 (d.shape 6),.int .i64 (d.shape 7),.int .i64 (d.shape 8),.slice ao1 d.groups.1 cap1,.slice ao2 d.on.1 cap2,.slice ao3 d.tapes.1 cap3,.int .i64 d.writes,.int .i64 d.stop,.bool d.down] 34)) d.shape
 have zA:(w.alloc (.cells #[.int .i64 (d.shape 0),.int .i64 (d.shape 1),.int .i64 (d.shape 2),.int .i64 (d.shape 3),.int .i64 (d.shape 4),.int .i64 (d.shape 5),.int .i64 (d.shape 6),.int .i64 (d.shape 7),.int .i64 (d.shape 8),.slice ao1 d.groups.1 cap1,.slice ao2 d.on.1 cap2,.slice ao3 d.tapes.1 cap3,.int .i64 d.writes,.int .i64 d.stop,.bool d.down] 34)).heap.size=w.heap.size+1:=by simp
 rw [zA] at L0;have bW:Below w.heap.size w (((((((w.alloc (.cells #[.int .i64 (d.shape 0),.int .i64 (d.shape 1),.int .i64 (d.shape 2),.int .i64 (d.shape 3),.int .i64 (d.shape 4),.int .i64 (d.shape 5),.int .i64 (d.shape 6),.int .i64 (d.shape 7),.int .i64 (d.shape 8),.slice ao1 d.groups.1 cap1,.slice ao2 d.on.1 cap2,.slice ao3 d.tapes.1 cap3,.int .i64 d.writes,.int .i64 d.stop,.bool d.down] 34)).alloc (.map #[] 0)).alloc (.map #[] 0)).alloc (.map #[] 0)).alloc (.map #[] 0)).alloc (.map #[] 0)).alloc (.cells #[.int .i64 (d.shape 0),.int .i64 (d.shape 1),.int .i64 (d.shape 2),.int .i64 (d.shape 3),.int .i64 (d.shape 4),.int .i64 (d.shape 5),.int .i64 (d.shape 6),.int .i64 (d.shape 7),.int .i64 (d.shape 8),.slice none 0 0,.map (some (w.heap.size+1)),.map (some (w.heap.size+1+1)),.map (some (w.heap.size+1+1+1)),.map (some (w.heap.size+1+1+1+1)),.map (some (w.heap.size+1+1+1+1+1))] 145)):=((((((T0.bel.alloc (by simp) _).alloc (by simp<;>omega) _).alloc (by simp<;>omega) _).alloc (by simp<;>omega) _).alloc (by simp<;>omega) _).alloc (by simp<;>omega) _);have XW:Box (((((((w.alloc (.cells #[.int .i64 (d.shape 0),.int .i64 (d.shape 1),.int .i64 (d.shape 2),.int .i64 (d.shape 3),.int .i64 (d.shape 4),.int .i64 (d.shape 5),.int .i64 (d.shape 6),.int .i64 (d.shape 7),.int .i64 (d.shape 8),.slice ao1 d.groups.1 cap1,.slice ao2 d.on.1 cap2,.slice ao3 d.tapes.1 cap3,.int .i64 d.writes,.int .i64 d.stop,.bool d.down] 34)).alloc (.map #[] 0)).alloc (.map #[] 0)).alloc (.map #[] 0)).alloc (.map #[] 0)).alloc (.map #[] 0)).alloc (.cells #[.int .i64 (d.shape 0),.int .i64 (d.shape 1),.int .i64 (d.shape 2),.int .i64 (d.shape 3),.int .i64 (d.shape 4),.int .i64 (d.shape 5),.int .i64 (d.shape 6),.int .i64 (d.shape 7),.int .i64 (d.shape 8),.slice none 0 0,.map (some (w.heap.size+1)),.map (some (w.heap.size+1+1)),.map (some (w.heap.size+1+1+1)),.map (some (w.heap.size+1+1+1+1)),.map (some (w.heap.size+1+1+1+1+1))] 145)) w.heap.size #[.int .i64 (d.shape 0),.int .i64 (d.shape 1),.int .i64 (d.shape 2),.int .i64 (d.shape 3),.int .i64 (d.shape 4),.int .i64 (d.shape 5),.int .i64 (d.shape 6),.int .i64 (d.shape 7),.int .i64 (d.shape 8),.slice ao1 d.groups.1 cap1,.slice ao2 d.on.1 cap2,.slice ao3 d.tapes.1 cap3,.int .i64 d.writes,.int .i64 d.stop,.bool d.down] 34:=((((((T0.b1.allocd _).allocd _).allocd _).allocd _).allocd _).allocd _);obtain ⟨W1,hW1⟩:∃ y,y=(((((((w.alloc (.cells #[.int .i64 (d.shape 0),.int .i64 (d.shape 1),.int .i64 (d.shape 2),.int .i64 (d.shape 3),.int .i64 (d.shape 4),.int .i64 (d.shape 5),.int .i64 (d.shape 6),.int .i64 (d.shape 7),.int .i64 (d.shape 8),.slice ao1 d.groups.1 cap1,.slice ao2 d.on.1 cap2,.slice ao3 d.tapes.1 cap3,.int .i64 d.writes,.int .i64 d.stop,.bool d.down] 34)).alloc (.map #[] 0)).alloc (.map #[] 0)).alloc (.map #[] 0)).alloc (.map #[] 0)).alloc (.map #[] 0)).alloc (.cells #[.int .i64 (d.shape 0),.int .i64 (d.shape 1),.int .i64 (d.shape 2),.int .i64 (d.shape 3),.int .i64 (d.shape 4),.int .i64 (d.shape 5),.int .i64 (d.shape 6),.int .i64 (d.shape 7),.int .i64 (d.shape 8),.slice none 0 0,.map (some (w.heap.size+1)),.map (some (w.heap.size+1+1)),.map (some (w.heap.size+1+1+1)),.map (some (w.heap.size+1+1+1+1)),.map (some (w.heap.size+1+1+1+1+1))] 145)):=⟨_,rfl⟩
 rw [← hW1] at bW XW ⊢
 have HL0:Hid (∀ x ce,Ldg W1 (w.heap.size+1) (w.heap.size+1+1+1+1+1+1) d.shape 0 0 x ce (.slice none 0 0) (w.heap.size+1) (w.heap.size+1+1) (w.heap.size+1+1+1) (w.heap.size+1+1+1+1) (w.heap.size+1+1+1+1+1)):=fun x ce=>by rw [hW1];exact L0 x ce
 have z1:w.heap.size+7≤W1.heap.size:=by rw [hW1];simp
 clear hW1 L0 zA hmm;have h2:d.tapes.1=2:=HOK.out.form.2.2;have hn0:(d.tapes.2 0).recs.1≤400000:=Nat.le_trans (HOK.out.few 0 (by omega)) (by decide);have hn1:(d.tapes.2 1).recs.1≤400000:=Nat.le_trans (HOK.out.few 1 (by omega)) (by decide)
 have x11:W1.cell? ⟨w.heap.size,11,none⟩=some (.slice ao3 2 cap3):=by have:=XW.cell 11;rw [h2] at this;exact this
 have G3:(zaj.slice 80).rd W1 hi (2,d.tapes.2) [.slice ao3 2 cap3]:=by
  have:=Lay.rd_below _ HG3.out bW hhi;rw [h2] at this;rw [show d.tapes=(2,d.tapes.2) from Prod.ext h2 rfl] at this;exact this
 have CC:=zg9 d.tapes.2 (.slice ao3 2 cap3) hi W1 G3 (by have:=bW.size;omega) hn0 hn1;have HBW:=hid bW;clear G3 bW T0 XW
 go_wp2_with fail
 refine CC.mono ?_;rintro e w2 ⟨v2,l,ce,lo,rfl,hCt,hlo,V,b2⟩;have HCt:=hid hCt
 have hNl:l.length≤800000:=by
  have e2:lenT d.tapes.2 2=(d.tapes.2 0).recs.1+(d.tapes.2 1).recs.1:=by simp [lenT]
  have:=(hCt.sum (fun _=>0)).2;omega
 obtain ⟨x,hx⟩:∃ x:Nat→RecD,x=fun i=>recT d.tapes.2 2 (l.getD i 0):=⟨_,rfl⟩;have HX:=hid hx
 have HKD:Hid (∀ i,i<l.length→InP (x i).kind 1 4):=fun i hi'=>by
  rw [hx];exact zjt HOK.out ((hCt.mem _).1 (by rw [zdH hi'];exact List.getElem_mem hi')).1
 rw [← hx] at V;obtain ⟨N,hN⟩:∃ N,N=l.length:=⟨_,rfl⟩;have HN:=hid hN;rw [← hN] at V HKD hNl;have HRD:Hid (∀ i,i<N→zab.rd w2 hi (x i) (ce i)):=fun i hi'=>V.each i hi';obtain ⟨a2,c2,rfl⟩:=V.form;have L2:Ldg w2 (w.heap.size+1) (w.heap.size+1+1+1+1+1+1) d.shape 0 0 x ce (.slice none 0 0) (w.heap.size+1) (w.heap.size+1+1) (w.heap.size+1+1+1) (w.heap.size+1+1+1+1) (w.heap.size+1+1+1+1+1):=(HL0.out x ce).keepAll (fun b hb=>b2.block b hb);have HB2:Hid (Below w.heap.size w w2):=HBW.out.trans (b2.mono (by omega));have z2:W1.heap.size≤w2.heap.size:=b2.size
 have AP:∀ g,(Value.slice a2 N c2).ownBlock=some g→w.heap.size+7≤g:=fun g hg=>by
  rcases V.row.2 with ⟨q,_⟩ | ⟨g',cap',cur,q,q1,_⟩
  ·cases q
   cases hg
  ·cases q
   cases hg
   show w.heap.size+7≤g'
   omega
 have HV:=hid V
 have HAP:Hid (∀ g,(Value.slice a2 N c2).ownBlock=some g→w.heap.size+7≤g∧g<w2.heap.size):=fun g hg=>⟨AP g hg,by
  rcases V.row.2 with ⟨q,_⟩ | ⟨g',cap',cur,q,q1,q2,_⟩
  ·cases q
   cases hg
  ·cases q
   cases hg
   exact (Array.getElem?_eq_some_iff.1 q2).1⟩
 clear V AP CC b2 hCt hx hN x11 hn0 hn1 h2 hlo;go_wp2
 go_loopw [19] (fun i wr=>∃ (k:Nat) (v:Value),k≤N∧i=.int .i64 k∧Ldg wr (w.heap.size+1) (w.heap.size+1+1+1+1+1+1) d.shape k k x ce v (w.heap.size+1) (w.heap.size+1+1) (w.heap.size+1+1+1) (w.heap.size+1+1+1+1) (w.heap.size+1+1+1+1+1)∧(∀ g,(Value.slice a2 N c2).ownBlock=some g→v.ownBlock≠some g∧wr.heap[g]?=w2.heap[g]?)∧Below (w.heap.size+1) w2 wr) (fun i _=>N-(intOf i).toNat)
 case atStart=>exact ⟨0,_,Nat.zero_le _,rfl,L2,fun g hg=>⟨(fun e=>by cases e),rfl⟩,Below.refl _ _⟩
 case round=>
  clear L2;obtain ⟨k,v,hk,rfl,hL,hA,hb⟩:=hrel;have zr:w2.heap.size≤wr.heap.size:=hb.size
  by_cases hlt:k<N
  ·have HL:=hid hL
   have HA:=hid hA;have HBr:=hid hb;have Vr:View zab 85 wr lo hi (.slice a2 N c2) N x ce:=HV.out.kept (fun b hb'=>(hA b hb').2) (hb.mono (by omega));obtain ⟨g,cg,hgg⟩:=Vr.form0 (by omega)
   have hga:a2=some ⟨g,0,none⟩:=by cases hgg;rfl
   have hcg:c2=cg:=by cases hgg;rfl
   subst hga;subst hcg;have hrk:=HRD.out k hlt;obtain ⟨ao6,cap6,ao7,cap7,ao8,cap8,ec,-⟩:=zaD hrk;have HRK:=hid hrk;have HEC:=hid ec
   have hcell:∀ j,j<9→wr.cell? ⟨g,k*9+j,none⟩=([.int .i64 (x k).kind,.int .i64 (x k).seq,.string (x k).name,.int .i64 (x k).length,.int .i64 (x k).group,.int .i64 (x k).row,.slice ao6 (x k).rows.1 cap6,.slice ao7 (x k).data.1 cap7,.slice ao8 (x k).delta.1 cap8]:List Value)[j]?:=fun j hj=>by rw [← ec];exact Vr.cell hlt hj
   obtain ⟨r,hr⟩:∃ r,r=x k:=⟨_,rfl⟩;rw [← hr] at hcell;have HR:=hid hr
   have t1:(k:Int)<(N:Int):=by omega
   have y0:wr.cell? ⟨g,k*9,none⟩=some (.int .i64 r.kind):=hcell 0 (by decide);have y1:wr.cell? ⟨g,k*9+1,none⟩=some (.int .i64 r.seq):=hcell 1 (by decide);have y2:wr.cell? ⟨g,k*9+2,none⟩=some (.string r.name):=hcell 2 (by decide);have y3:wr.cell? ⟨g,k*9+3,none⟩=some (.int .i64 r.length):=hcell 3 (by decide);have y4:wr.cell? ⟨g,k*9+4,none⟩=some (.int .i64 r.group):=hcell 4 (by decide);have y5:wr.cell? ⟨g,k*9+5,none⟩=some (.int .i64 r.row):=hcell 5 (by decide);have y6:wr.cell? ⟨g,k*9+6,none⟩=some (.slice ao6 r.rows.1 cap6):=hcell 6 (by decide);have y7:wr.cell? ⟨g,k*9+7,none⟩=some (.slice ao7 r.data.1 cap7):=hcell 7 (by decide);have y8:wr.cell? ⟨g,k*9+8,none⟩=some (.slice ao8 r.delta.1 cap8):=hcell 8 (by decide)
   have hkN:k≤1000000:=by omega
   clear hL hA hb Vr hrk ec hcell hr
   go_wp2_with fail
   refine (zkV r.kind r ao6 ao7 ao8 cap6 cap7 cap8 _).mono ?_;rintro e w3 ⟨rfl,b3⟩;have b3':Below wr.heap.size wr w3:=((Below.refl wr.heap.size wr).alloc (Nat.le_refl _) _).trans (b3.mono (by simp));have L3:=HL.out.keepAll (fun b hb'=>b3'.block b hb');have z3:wr.heap.size≤w3.heap.size:=b3'.size;have CE:=zl0 L3 hkN (by omega) HRK.out (HKD.out k hlt);rw [HEC.out,← HR.out] at CE;have HB3:=hid b3';clear b3 b3' L3
   go_wp2_with fail
   refine CE.mono ?_;rintro e w4 ⟨rfl,⟨v',L4,q1,q2⟩,b4⟩;have HL4:=hid L4;have HB4:Hid (Below (w.heap.size+1) w2 w4):=(HBr.out.trans (HB3.out.mono (by omega))).trans b4
   have HA4:Hid (∀ g',(Value.slice (some ⟨g,0,none⟩) N c2).ownBlock=some g'→v'.ownBlock≠some g'∧w4.heap[g']?=w2.heap[g']?):=fun g' hg'=>by
    obtain ⟨p1,p2⟩:=HA.out g' hg';obtain ⟨p3,p4⟩:=HAP.out g' hg';refine ⟨?_,?_⟩
    ·rcases q1 with e | ⟨g9,e1,e2⟩
     ·rw [e];exact p1
     ·rw [e2]
      intro e3
      cases e3
      omega
    ·rw [q2 g' (by omega) (by simp;omega) p1,HB3.out.block g' (by omega)]
     exact p2
   clear L4 q1 q2 b4 CE y0 y1 y2 y3 y4 y5 y6 y7 y8;go_wp2
   go_roundw
   case rel=>exact ⟨k+1,v',by omega,by go_num,HL4.out,HA4.out,HB4.out⟩
   case measure=>simp [intOf];omega
  ·obtain rfl:k=N:=by omega
   have hL':=hL;rw [HN.out,HX.out] at hL';have HL:=hid hL'
   have HRr:Hid (∀ i,i<l.length→zab.rd wr hi (recT d.tapes.2 2 (l.getD i 0)) (ce i)):=fun i hi'=>by
    have:=HRD.out i (by rw [HN.out];exact hi');rw [HX.out] at this;exact zab.rd_below this (hb.mono (Nat.le_trans hhi (Nat.le_succ _))) (Nat.le_refl _)
   have HBr:=hid (HB2.out.trans (hb.mono (Nat.le_succ _)));clear hL hL' hA hb;go_wp2;go_ret;exact ⟨_,l,ce,v,_,_,_,_,_,rfl,HCt.out,HL.out,HRr.out,HBr.out⟩
end Go.Proofs.YthbpmbgfddpffaaGreat
namespace Go.Proofs.YthbpmbgfddpffaaGreat
def zbU (p:Nat→Bool) (n:Nat):List Nat:=(List.range n).filter p
theorem zc1 (p:Nat→Bool) (n:Nat):zbU p (n+1)=zbU p n++(if p n then [n] else []):=by
 unfold zbU;rw [List.range_succ,List.filter_append]
 cases h:p n<;>simp [h]
theorem zhf (p:Nat→Bool) (n:Nat):(zbU p n).length≤n:=by
 have:=List.length_filter_le p (List.range n);unfold zbU
 simpa using this
def zck (p:Nat→Bool) (n:Nat):Nat→Nat:=fun m=>(zbU p n).getD m 0
theorem zkW {p:Nat→Bool} {n m:Nat} (h:m<(zbU p n).length):zck p (n+1) m=zck p n m:=by
 unfold zck;rw [zc1,List.getD_eq_getElem?_getD,List.getD_eq_getElem?_getD,List.getElem?_append_left h]
theorem zkX {p:Nat→Bool} {n:Nat} (h:p n=true):zck p (n+1) (zbU p n).length=n:=by
 unfold zck;rw [zc1,List.getD_eq_getElem?_getD,List.getElem?_append_right (Nat.le_refl _),Nat.sub_self,if_pos h];rfl
theorem zij {p:Nat→Bool} {n:Nat} (h:p n=false):zbU p (n+1)=zbU p n:=by rw [zc1,if_neg (by simp [h])];simp
end Go.Proofs.YthbpmbgfddpffaaGreat
