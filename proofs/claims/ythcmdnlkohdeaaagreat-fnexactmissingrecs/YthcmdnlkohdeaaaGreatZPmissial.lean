/- Walk of the specification's l5Strike. -/
import Derived.Test.YthcmdnlkohdeaaaGreatZPmissiak
set_option linter.unusedVariables false
set_option linter.unusedSimpArgs false
set_option maxHeartbeats 16000000
namespace Go.Proofs.YthcmdnlkohdeaaaGreat
open Go.RowKit F256
def mixF {β:Type} (p:Nat→Bool) (j:Nat) (f:Nat→β):Nat→β:=fun m=>if m<(zaT p j).length then f (selF p j m) else f m
theorem zjG {β:Type} {p:Nat→Bool} {j m:Nat} (f:Nat→β) (h:(zaT p j).length≤m):mixF p j f m=f m:=by unfold mixF;rw [if_neg (by omega)]
theorem zd3 {β:Type} {p:Nat→Bool} {j:Nat} (f:Nat→β) (h:p j=false) (m:Nat):mixF p (j+1) f m=mixF p j f m:=by
 unfold mixF;rw [zcU h]
 by_cases c:m<(zaT p j).length
 ·rw [if_pos c,if_pos c,zez c]
 ·rw [if_neg c,if_neg c]
theorem zhq {β:Type} {p:Nat→Bool} {j:Nat} (f:Nat→β) (h:p j=true) (m:Nat):upd (mixF p j f) (zaT p j).length (f j) m=mixF p (j+1) f m:=by
 have e:(zaT p (j+1)).length=(zaT p j).length+1:=by rw [zbM,if_pos h];simp
 unfold mixF
 by_cases c:m=(zaT p j).length
 ·subst c
  rw [zaY,if_pos (by omega),zgh h]
 ·rw [za8 _ _ c]
  by_cases c2:m<(zaT p j).length
  ·rw [if_pos c2,if_pos (by omega),zez c2]
  ·rw [if_neg c2,if_neg (by omega)]
theorem zd4 {p:Nat→Bool} {n:Nat} (h:∀ i,i<n→p i=true):zaT p n=List.range n:=by
 unfold zaT;exact List.filter_eq_self.2 (fun i hi=>h i (List.mem_range.1 hi))
theorem zg3 {p:Nat→Bool} {n m:Nat} (h:∀ i,i<n→p i=true) (hm:m<n):selF p n m=m:=by
 unfold selF;rw [zd4 h,List.getD_eq_getElem?_getD,List.getElem?_range hm];rfl
theorem zi2 {β:Type} {p:Nat→Bool} {j:Nat} (f:Nat→β) (h:∀ i,i<j→p i=true) (m:Nat):mixF p j f m=f m:=by
 unfold mixF
 by_cases c:m<(zaT p j).length
 ·rw [if_pos c,zg3 h (by rw [zd4 h] at c;simpa using c)]
 ·rw [if_neg c]
theorem zi3 {p:Nat→Bool} {n i:Nat} (hi:i<n) (h:p i=false):(zaT p n).length<n:=by
 induction n with
 | zero=>omega
 | succ n ih=>
  by_cases c:i=n
  ·subst c
   rw [zcU h];have:=zjX p i;omega
  ·have:=ih (by omega)
   have h2:(zaT p (n+1)).length≤(zaT p n).length+1:=by rw [zbM];split<;>simp
   omega
theorem zjt (w:World):(zeroValue 92).run Tryz.prog w=.ok (.agg #[.int .i64 0,.int .i64 0,.string ByteArray.empty,.int .i64 0,.int .i64 0,.int .i64 0,.slice none 0 0,.slice none 0 0,.slice none 0 0]) w:=by kernel_rfl
theorem zi4 (n:Nat):∀ v,v∈(Builtin.zeroCells #[.int .i64 0,.int .i64 0,.string ByteArray.empty,.int .i64 0,.int .i64 0,.int .i64 0,.slice none 0 0,.slice none 0 0,.slice none 0 0] n).toList→v.oneCell'=true:=fun v hv=>by
 simp only [Builtin.zeroCells,Array.toList_map,List.mem_map] at hv
 obtain ⟨i,_,rfl⟩:=hv;have hi:i%9<9:=Nat.mod_lt _ (by decide)
 show (#[.int .i64 0,.int .i64 0,.string ByteArray.empty,.int .i64 0,.int .i64 0,.int .i64 0,.slice none 0 0,.slice none 0 0,.slice none 0 0]:Array Value)[i%9]!.oneCell'=true
 generalize i%9=j at hi
 match j,hi with
 | 0,_=>rfl
 | 1,_=>rfl
 | 2,_=>rfl
 | 3,_=>rfl
 | 4,_=>rfl
 | 5,_=>rfl
 | 6,_=>rfl
 | 7,_=>rfl
 | 8,_=>rfl
theorem zid (z:Value) (zs:Array Value) (hv:∀ w,(zeroValue 92).run Tryz.prog w=.ok z w) (hz:z.cells=zs) (h9:zs.size=9) (hone:∀ n v,v∈(Builtin.zeroCells zs n).toList→v.oneCell'=true) (w:World) (ty g o n c:Nat) (cur:Array Value) (hg:w.heap[g]?=some (.cells cur 92 (0,0))) (hn:0<n) (hl:o+n*9≤cur.size):∃ row:Array Value,(Builtin.clear_ #[30] ty #[.slice (some ⟨g,o,none⟩) n c]).run Tryz.prog w=.ok (.tuple #[]) (w.setRow g row)∧row.size=cur.size∧row.toList.take o=cur.toList.take o:=by
 obtain ⟨Z,hZ⟩:∃ Z,Z=(Builtin.zeroCells zs n).toList:=⟨_,rfl⟩
 have hlen:Z.length=n*9:=by rw [hZ];simp [Builtin.zeroCells,h9]
 have hst:=run_storeCells_at (P:=Tryz.prog) g o 92 Z 0 cur w hg (by rw [hlen];omega) (by rw [hZ];exact hone n)
 simp only [Nat.add_zero] at hst
 refine ⟨(cur.toList.take o++Z++cur.toList.drop (o+Z.length)).toArray,?_,?_,?_⟩
 ·obtain ⟨m,rfl⟩:∃ m,n=m+1:=⟨n-1,by omega⟩
  simp [Builtin.clear_,run_underlying Tryz.underlying30,hv,hz,← hZ,hst]
 ·simp only [List.size_toArray,List.length_append,List.length_take,List.length_drop,hlen,Array.length_toList]
  omega
 ·simp only [List.toList_toArray]
  rw [List.append_assoc,List.take_append_of_le_length (by simp;omega),List.take_take,Nat.min_self]
theorem zie (w:World) (ty g o n c:Nat) (cur:Array Value) (hg:w.heap[g]?=some (.cells cur 92 (0,0))) (hn:0<n) (hl:o+n*9≤cur.size):∃ row:Array Value,(Builtin.clear_ #[30] ty #[.slice (some ⟨g,o,none⟩) n c]).run Tryz.prog w=.ok (.tuple #[]) (w.setRow g row)∧row.size=cur.size∧row.toList.take o=cur.toList.take o:=
 zid (.agg #[.int .i64 0,.int .i64 0,.string ByteArray.empty,.int .i64 0,.int .i64 0,.int .i64 0,.slice none 0 0,.slice none 0 0,.slice none 0 0]) #[.int .i64 0,.int .i64 0,.string ByteArray.empty,.int .i64 0,.int .i64 0,.int .i64 0,.slice none 0 0,.slice none 0 0,.slice none 0 0] zjt rfl rfl zi4 w ty g o n c cur hg hn hl
theorem zif (g n cap i:Nat) (hi:i<n) (hn:n≤cap) (w:World):(Instr.slice 30 (.slice (some ⟨g,0,none⟩) n cap) (some (.int .i64 (i:Int))) none none).run Tryz.prog w=.ok (.slice (some ⟨g,i*9,none⟩) (n-i) (cap-i)) w:=by
 have e1:(i:Int)≤(n:Int):=by omega
 have e6:i≤n:=by omega
 have e7:¬ cap=i:=by omega
 simp [Instr.slice,run_underlying Tryz.underlying30,Instr.sliceBounds,Instr.sliceBound,asIntOf,go_sem,e1,e6,e7]
theorem zju (g n cap i:Nat) (hi:i≤cap) (w:World):(Instr.slice 30 (.slice (some ⟨g,0,none⟩) n cap) none (some (.int .i64 (i:Int))) none).run Tryz.prog w=.ok (.slice (some ⟨g,0,none⟩) i cap) w:=by
 have e1:(i:Int)≤(cap:Int):=by omega
 simp [Instr.slice,run_underlying Tryz.underlying30,Instr.sliceBounds,Instr.sliceBound,asIntOf,go_sem,e1,hi]
theorem zi5 {n m s:Nat} {ce:Nat→List Value} (h:∀ i,i<n→(ce i).length=s) (hm:m≤n):(catN n ce).take (m*s)=catN m ce:=by
 induction n with
 | zero=>
  obtain rfl:m=0:=by omega
  simp [catN]
 | succ n ih=>
  by_cases c:m=n+1
  ·subst c
   exact List.take_of_length_le (by rw [zbt h];exact Nat.le_refl _)
  ·have hl:(catN n ce).length=n*s:=zbt (fun i hi=>h i (by omega))
   have hms:m*s≤n*s:=Nat.mul_le_mul_right s (by omega);rw [za5,List.take_append_of_le_length (by omega)];exact ih (fun i hi=>h i (by omega)) (by omega)
set_option maxRecDepth 100000 in
theorem zfq (g cap n lo hi:Nat) (x:Nat→RecD) (ce:Nat→List Value) (a0 a1:Nat) (del:Nat→Bool) (w:World) (hV:View zab 92 w lo hi (.slice (some ⟨g,0,none⟩) n cap) n x ce) (hhi:hi≤w.heap.size) (hn:n≤1048576) (CD:∀ k,k<n→∀ w',ChgL [g] w w'→Calls Tryz.prog 84 #[.agg (ce k).toArray,.pointer (some ⟨a0,0,none⟩),.pointer (some ⟨a1,0,none⟩)] w' (fun e w''=>e=.returned (.bool (del k))∧Below w'.heap.size w' w'')) :
 Calls Tryz.prog 118 #[.slice (some ⟨g,0,none⟩) n cap,.func (.func 84) #[] #[.pointer (some ⟨a0,0,none⟩),.pointer (some ⟨a1,0,none⟩)]] w fun e w'=>((e=.returned (.int .i64 (-1))∧∀ i,i<n→del i=false)∨∃ i:Nat,i<n∧e=.returned (.int .i64 (i:Int))∧del i=true∧∀ t,t<i→del t=false)∧Below w.heap.size w w':=by
 have HV:=hid hV;have HCD:=hid CD;clear hV CD
 go_enter Tryz.func118,Tryz.ntmps118
 go_wp2
 go_loopw [8] (fun z wr=>∃ k:Nat,k≤n∧z=.int .i64 k∧(∀ t,t<k→del t=false)∧Below w.heap.size w wr) (fun z _=>n-(intOf z).toNat)
 case atStart=>exact ⟨0,Nat.zero_le _,rfl,fun t ht=>by omega,Below.refl _ _⟩
 case round=>
  obtain ⟨k,hk,rfl,hall,hbl⟩:=hrel;obtain ⟨wx,rfl⟩:∃ y,y=wr:=⟨_,rfl⟩;have HALL:=hid hall;have HBL:=hid hbl;have zx:=hbl.size;clear hall
  by_cases hlt:k<n
  ·have VX:=HV.out.below hbl hhi
   have rgK:wx.rangeAt g (k*9) (ce k):=VX.range hlt;have hcK:(ce k).length=9:=VX.lens k hlt;have CS:=HCD.out k hlt wx (ChgL.of_below hbl);obtain ⟨cK,hcKe⟩:∃ c,c=ce k:=⟨_,rfl⟩;rw [← hcKe] at rgK hcK CS;obtain ⟨t,ht⟩:∃ t,t=del k:=⟨_,rfl⟩;rw [← ht] at CS;have HT:=hid ht
   have i1:(0:Int)≤(k:Int):=by omega
   have i2:(k:Int)<(n:Int):=by omega
   clear hbl hcKe VX ht
   go_wp2_with (refine wpList_load_mid rfl 92 (.tmp 14) rfl g (k*9) (by simp [Act.eval]) cK _ rgK Tryz.underlying92 rfl (zah hcK) ?_)
   refine CS.mono ?_;rintro e w5 ⟨rfl,b5⟩;have B5:=hid (HBL.out.trans (b5.mono zx));clear b5 CS rgK
   cases t with
   | true=>
    go_wp2;go_ret;exact ⟨.inr ⟨k,hlt,rfl,HT.out.symm,HALL.out⟩,B5.out⟩
   | false=>
    go_wp2
    go_roundw
    case rel=>exact ⟨k+1,by omega,by go_num,fun t ht=>by
     by_cases c:t=k
     ·rw [c];exact HT.out.symm
     ·exact HALL.out t (by omega),B5.out⟩
    case measure=>simp [intOf];omega
  ·obtain rfl:k=n:=by omega
   clear hbl;go_wp2;go_ret;exact ⟨.inl ⟨rfl,HALL.out⟩,HBL.out⟩
set_option maxRecDepth 100000 in
theorem zeM (g cap n lo hi:Nat) (x:Nat→RecD) (ce:Nat→List Value) (a0 a1:Nat) (del:Nat→Bool) (w:World) (hV:View zab 92 w lo hi (.slice (some ⟨g,0,none⟩) n cap) n x ce) (hlo:hi≤lo) (hlw:lo≤w.heap.size) (hn:n≤1048576) (CD:∀ k,k<n→∀ w',ChgL [g] w w'→Calls Tryz.prog 84 #[.agg (ce k).toArray,.pointer (some ⟨a0,0,none⟩),.pointer (some ⟨a1,0,none⟩)] w' (fun e w''=>e=.returned (.bool (del k))∧Below w'.heap.size w' w'')) :
 Calls Tryz.prog 83 #[.slice (some ⟨g,0,none⟩) n cap,.func (.func 84) #[] #[.pointer (some ⟨a0,0,none⟩),.pointer (some ⟨a1,0,none⟩)]] w fun e w'=>e=.returned (.slice (some ⟨g,0,none⟩) (zaT (fun i=>!(del i)) n).length cap)∧View zab 92 w' lo hi (.slice (some ⟨g,0,none⟩) (zaT (fun i=>!(del i)) n).length cap) (zaT (fun i=>!(del i)) n).length (fun i=>x (selF (fun i=>!(del i)) n i)) (fun i=>ce (selF (fun i=>!(del i)) n i))∧ChgL [g] w w':=by
 have HV:=hid hV;have HCD:=hid CD
 have hnc:n≤cap:=by
  rcases hV.row.2 with ⟨hn,_⟩ | ⟨g',cap',cur,he,hbg,hgg,hnc,_⟩
  ·cases hn
  ·cases he;exact hnc
 have HNC:=hid hnc;have hgl:=hV.row.lt g rfl;have CI:=zfq g cap n lo hi x ce a0 a1 del w hV (by omega) hn CD;clear hV CD hnc
 go_enter Tryz.func83,Tryz.ntmps83
 go_wp2_with fail
 refine CI.mono ?_;rintro e w1 ⟨hcase,b1⟩;have HB1:=hid b1;have z1:=b1.size;clear CI b1
 rcases hcase with ⟨rfl,hall⟩ | ⟨i0,hi0,rfl,hp0,hbef⟩
 ·have HALL:Hid (∀ i,i<n→(fun i=>!(del i)) i=true):=fun i hi=>by show (!(del i))=true;rw [hall i hi];rfl
  clear hall
  have te:((-1:Int)==-1)=true:=by decide
  go_wp2;go_ret
  have em:(zaT (fun i=>!(del i)) n).length=n:=by rw [zd4 HALL.out];simp
  rw [em];exact ⟨rfl,(HV.out.below HB1.out (by omega)).congr2 (fun i hi=>by rw [zg3 HALL.out hi]) (fun i hi=>by rw [zg3 HALL.out hi]),ChgL.of_below HB1.out⟩
 have HP0:Hid ((fun i=>!(del i)) i0=false):=by show (!(del i0))=false;rw [hp0];rfl
 have HBEF:Hid (∀ t,t<i0→(fun i=>!(del i)) t=true):=fun t ht=>by show (!(del t))=true;rw [hbef t ht];rfl
 clear hp0 hbef;have te:((i0:Int)==-1)=false:=beq_eq_false_iff_ne.2 (by omega)
 have zi:IntKind.i64.wrap ((i0:Int)+1)=(i0:Int)+1:=by rw [IntKind.wrap_i64];omega
 go_wp2
 go_loopw [5,6] (fun v z wr=>∃ j:Nat,j≤n∧i0<j∧z=.int .i64 j∧v=.int .i64 ((zaT (fun i=>!(del i)) j).length:Nat)∧View zab 92 wr lo hi (.slice (some ⟨g,0,none⟩) n cap) n (mixF (fun i=>!(del i)) (j) x) (mixF (fun i=>!(del i)) (j) ce)∧ChgL [g] w wr) (fun _ z _=>n-(intOf z).toNat)
 case atStart=>
  refine ⟨i0+1,by omega,by omega,by simp,?_,?_,ChgL.of_below HB1.out⟩
  ·rw [zcU HP0.out,zd4 HBEF.out];simp
  ·exact (HV.out.below HB1.out (by omega)).congr2 (fun m _=>by rw [zd3 x HP0.out,zi2 x HBEF.out]) (fun m _=>by rw [zd3 ce HP0.out,zi2 ce HBEF.out])
 case round=>
  obtain ⟨j,hj,hij,rfl,rfl,hrow,hch⟩:=hrel;obtain ⟨wx,rfl⟩:∃ y,y=wr:=⟨_,rfl⟩;have HCH:=hid hch;have HRW:=hid hrow;have zx:=hch.size;have hless:(zaT (fun i=>!(del i)) j).length<j:=zi3 hij HP0.out;clear hch
  by_cases hlt:j<n
  ·have em:(mixF (fun i=>!(del i)) (j) ce) j=ce j:=zjG ce (Nat.le_of_lt hless)
   have ex:(mixF (fun i=>!(del i)) (j) x) j=x j:=zjG x (Nat.le_of_lt hless)
   have rgJ:wx.rangeAt g (j*9) (ce j):=by have:=hrow.range hlt;rw [em] at this;exact this
   have hcJ:(ce j).length=9:=by have:=hrow.lens j hlt;rw [em] at this;exact this
   have rdJ:zab.rd wx hi (x j) (ce j):=by have:=hrow.each j hlt;rw [em,ex] at this;exact this
   obtain ⟨cJ,hcJe⟩:∃ c,c=ce j:=⟨_,rfl⟩;have HCJ:=hid hcJe;rw [← hcJe] at rgJ hcJ rdJ;have oneJ:∀ v,v∈cJ→v.oneCell'=true:=zaL _ _ _ _ rdJ;have HRJ:=hid rdJ
   have i1:(0:Int)≤(j:Int):=by omega
   have i2:(j:Int)<(n:Int):=by omega
   have bV:=bAl wx (.cells cJ.toArray 92);have V1:=zav wx cJ.toArray 92;clear em ex hrow rdJ hcJe
   go_upto_region 8 with (first | (refine wpList_load_mid rfl 92 (.tmp 24) rfl g (j*9) (by simp [Act.eval]) cJ _ rgJ Tryz.underlying92 rfl (zah hcJ) ?_) | (refine zbd 92 7 (.tmp 25) cJ _ 9 rfl rfl rfl rfl rfl rfl rfl rfl zev rfl hcJ oneJ ?_))
   obtain ⟨W5,hW5⟩:∃ y,y=wx.alloc (.cells cJ.toArray 92):=⟨_,rfl⟩;rw [← hW5] at bV V1 ⊢;clear hW5 rgJ;have z5:=bV.size;have HV1:=hid V1;have z5':=V1.lt;have C5:ChgL [g] w W5:=HCH.out.trans (ChgL.of_below bV);have CS:=HCD.out j hlt W5 C5;rw [← HCJ.out] at CS;obtain ⟨t,ht⟩:∃ t,t=del j:=⟨_,rfl⟩;rw [← ht] at CS
   have HT:Hid ((fun i=>!(del i)) j=!t):=by rw [ht];exact rfl
   have HC5:=hid C5;have HR5:Hid (View zab 92 W5 lo hi (.slice (some ⟨g,0,none⟩) n cap) n (mixF (fun i=>!(del i)) (j) x) (mixF (fun i=>!(del i)) (j) ce)):=HRW.out.below bV (by omega);have HRJ5:Hid (zab.rd W5 hi (x j) cJ):=zab.rd_below HRJ.out bV (by omega);clear ht C5 V1 bV
   go_wp2_with (refine zaB 92 (.tmp 7) rfl rfl (wx.heap.size) rfl HV1.out Tryz.underlying92 zdu hcJ ?_)
   refine CS.mono ?_;rintro e w6 ⟨rfl,b6⟩;have z6:=b6.size;have HV6:Hid (Box w6 wx.heap.size cJ.toArray 92):=HV1.out.below b6 z5';have C6:Hid (ChgL [g] w w6):=HC5.out.trans (ChgL.of_below b6);have HS6:Hid (View zab 92 w6 lo hi (.slice (some ⟨g,0,none⟩) n cap) n (mixF (fun i=>!(del i)) (j) x) (mixF (fun i=>!(del i)) (j) ce)):=HR5.out.below b6 (by omega);have HRJ6:Hid (zab.rd w6 hi (x j) cJ):=zab.rd_below HRJ5.out b6 (by omega);clear b6 CS HV1 HC5 HR5 HRJ5
   cases t with
   | true=>
    go_wp2
    go_roundw
    case rel=>exact ⟨j+1,by omega,by omega,by go_num,by rw [zcU HT.out],HS6.out.congr2 (fun m _=>(zd3 x HT.out m).symm) (fun m _=>(zd3 ce HT.out m).symm),C6.out⟩
    case measure=>simp [intOf];omega
   | false=>
    obtain ⟨q,hq⟩:∃ q,q=(zaT (fun i=>!(del i)) j).length:=⟨_,rfl⟩;have HQ:=hid hq
    have hqn:q<n:=by omega
    rw [← hq]
    have k1:(0:Int)≤(q:Int):=by omega
    have k2:(q:Int)<(n:Int):=by omega
    have hth:w6.there g (q*9) cJ.length:=by rw [hcJ];exact HS6.out.there hqn
    have hpk:(fun i=>!(del i)) j=true:=HT.out
    have hnx:(zaT (fun i=>!(del i)) (j+1)).length=q+1:=by rw [hq,zbM,if_pos hpk];simp
    have HNX:=hid hnx
    have HV7:Hid (View zab 92 (w6.setCells g (q*9) cJ) lo hi (.slice (some ⟨g,0,none⟩) n cap) n (mixF (fun i=>!(del i)) (j+1) x) (mixF (fun i=>!(del i)) (j+1) ce)):=by
     have:=HS6.out.put (by decide) hlo hqn HRJ6.out;refine this.congr2 (fun m _=>?_) (fun m _=>?_)
     ·have:=zhq (p:=(fun i=>!(del i))) (j:=j) x hpk m
      rw [← hq] at this;exact this
     ·have:=zhq (p:=(fun i=>!(del i))) (j:=j) ce hpk m
      rw [← hq,← HCJ.out] at this;exact this
    have C7:Hid (ChgL [g] w (w6.setCells g (q*9) cJ)):=C6.out.trans (zb5 g cJ w6 _)
    have zq:IntKind.i64.wrap ((q:Int)+1)=(q:Int)+1:=by rw [IntKind.wrap_i64];omega
    clear hq hnx hpk
    go_wp2_with (first | (refine zaB 92 (.tmp 7) rfl rfl (wx.heap.size) rfl HV6.out Tryz.underlying92 zdu hcJ ?_) | (refine wpList_store_mid rfl 92 (.tmp 33) (.tmp 32) rfl g (q*9) cJ.toArray (by simp [Act.eval]) (by simp [Act.eval]) (show w6.there g (q*9) cJ.toArray.size by rw [List.size_toArray];exact hth) (show _=some cJ.toArray.size by rw [List.size_toArray];exact zah hcJ) (all_oneCell_toArray oneJ) ?_;rw [show cJ.toArray.toList=cJ from rfl]))
    go_roundw
    case rel=>exact ⟨j+1,by omega,by omega,by go_num,by rw [HNX.out];simp,HV7.out,C7.out⟩
    case measure=>simp [intOf];omega
  ·obtain rfl:j=n:=by omega
   obtain ⟨q,hq⟩:∃ q,q=(zaT (fun i=>!(del i)) j).length:=⟨_,rfl⟩;have HQ:=hid hq;have S5:=HRW.out;have hlens:=S5.lens
   rcases S5.row.2 with ⟨hnn,_⟩ | ⟨g',cap',cur,he,hbg,hgg,hnc',hcm,hcs,htk⟩
   ·cases hnn
   cases he
   have hqn:q<j:=by omega
   obtain ⟨row,hcl,hrs,hrt⟩:=zie wx 0 g (q*9) (j-q) (cap-q) cur hgg (by omega) (by
    have h9:cur.size=cap*9:=hcs
    have:q*9+(j-q)*9≤cap*9:=by rw [← Nat.add_mul];exact Nat.mul_le_mul_right 9 (by omega)
    omega)
   have hf:=zif g j cap q hqn HNC.out;have ht:=fun w'=>zju g j cap q (by omega) w';obtain ⟨W7,hW7⟩:∃ y,y=wx.setRow g row:=⟨_,rfl⟩;rw [← hW7] at hcl
   have C7:Hid (ChgL [g] w W7):=by
    rw [hW7];exact HCH.out.trans (zdc g row)
   have C7x:ChgL [g] wx W7:=by rw [hW7];exact zdc g row
   have bX:Below lo wx W7:=C7x.bel (fun b hb=>by simp at hb;omega) (by omega)
   have R7:Hid (View zab 92 W7 lo hi (.slice (some ⟨g,0,none⟩) q cap) q (fun i=>x (selF (fun i=>!(del i)) j i)) (fun i=>ce (selF (fun i=>!(del i)) j i))):=by
    have e1:catN q (mixF (fun i=>!(del i)) (j) ce)=catN q (fun i=>ce (selF (fun i=>!(del i)) j i)):=zbN (fun i hi=>by
     show mixF _ j ce i=_
     unfold mixF
     rw [if_pos (by rw [← hq];exact hi)])
    have hl9:∀ i,i<q→(ce (selF (fun i=>!(del i)) j i)).length=zab.sz:=fun i hi=>by
     have:=hlens i (by omega);unfold mixF at this;rw [if_pos (by rw [← hq];exact hi)] at this;exact this
    refine ⟨⟨zbt hl9,.inr ⟨g,cap,row,rfl,hbg,by rw [hW7];exact setRow_heap wx g cur row 92 (0,0) hgg,by omega,hcm,by rw [hrs];exact hcs,?_⟩⟩,fun i hi=>?_⟩
    ·rw [← e1,← zi5 hlens (Nat.le_of_lt hqn),← htk,List.take_take,Nat.min_eq_left (Nat.mul_le_mul_right _ (Nat.le_of_lt hqn))]
     exact hrt
    ·have h1:=S5.each i (by omega)
     unfold mixF at h1;rw [if_pos (by rw [← hq];exact hi),if_pos (by rw [← hq];exact hi)] at h1;exact zab.rd_below h1 bX hlo
   clear S5 hlens hgg htk hcs hcm hnc' hbg hrs hrt hW7 hless C7x bX;rw [← hq];clear hq
   go_wp2_with (simp only [hcl])
   go_ret;rw [← HQ.out];exact ⟨rfl,R7.out,C7.out⟩
theorem zjv {t:Int} {b:Bool} (hb:b=true↔InP t 0 1) (w:World):Calls Tryz.prog 47 #[.int .i64 t] w fun e w'=>e=.returned (.bool b)∧w'=w:=by
 have CI:=fun w'=>zaW (show (0:Int)≤1 by decide) hb w';clear hb
 go_enter Tryz.func47,Tryz.ntmps47
 go_wp2_with fail
 refine (CI _).mono ?_;rintro e w1 ⟨rfl,e1⟩;obtain rfl:=e1.symm;go_wp2;go_ret;exact ⟨rfl,rfl⟩
set_option maxRecDepth 100000 in
theorem zeB (v:Value) (m:Nat) (y:Nat→RecD) (r:RecD) (cr:List Value) (hi:Nat) (w:World) (h:(zab.slice 92).rd w hi (m,y) [v]) (hr:zab.rd w hi r cr) (hhi:hi≤w.heap.size) (hm:m≤1048576) :
 Calls Tryz.prog 57 #[v,.agg cr.toArray] w (za6 (∃ i,i<m∧SameR (y i) r) w):=by
 obtain ⟨ao,cap,e,hmm,hc⟩:=h
 obtain rfl:v=.slice ao m cap:=by simpa using e
 have B0:=zaK w cr.toArray 92;have HR:=hid hr;have HC:=hid hc;have HR0:=hr;obtain ⟨b6,bk6,b7,bk7,b8,bk8,rfl,-⟩:=zaM HR0;clear e hmm hc HR0
 go_enter Tryz.func57,Tryz.ntmps57
 go_wp2
 go_loopw [5] (fun z wr=>∃ k:Nat,k≤m∧z=.int .i64 k∧(∀ t,t<k→¬ SameR (y t) r)∧One w wr (rwR r b6 bk6 b7 bk7 b8 bk8).toArray 92) (fun z _=>m-(intOf z).toNat)
 case atStart=>exact ⟨0,Nat.zero_le _,rfl,fun t ht=>by omega,B0⟩
 case round=>
  obtain ⟨k,hk,rfl,hall,hO⟩:=hrel;obtain ⟨wx,rfl⟩:∃ y,y=wr:=⟨_,rfl⟩;have HALL:=hid hall;have HO:=hid hO;have hbl:=hO.bel;have zx:=hbl.size;have XB:Box wx w.heap.size (rwR r b6 bk6 b7 bk7 b8 bk8).toArray 92:=hO.b1;clear hall B0 hO
  by_cases hlt:k<m
  ·obtain ⟨b,off,rfl,hbh,hel⟩:=HC.out (by omega)
   obtain ⟨ce,hy,hcell⟩:=zaz (t:=92) hel hbl hhi hbh hlt;have bD:Below wx.heap.size wx wx.drew:=⟨rfl,rfl,rfl,Nat.le_refl _,fun _ _=>rfl⟩;have CS:=zf7 (y k) r ce (rwR r b6 bk6 b7 bk7 b8 bk8) hi hi wx.drew (zab.rd_below hy bD (by omega)) (zab.rd_below (zab.rd_below HR.out hbl hhi) bD (by omega)) (by show hi≤wx.heap.size;omega) (by show hi≤wx.heap.size;omega)
   have r1:wx.drew.rangeAt b (off+k*9) ce:=fun j v hv=>by
    have hj:j<9:=by have:=zab.rd_len hy;have e:j<ce.length:=(List.getElem?_eq_some_iff.1 hv).1;rw [this] at e;exact e
    have:=hcell j hj;rw [← Nat.add_assoc] at this;exact this.trans hv
   have r2:wx.drew.rangeAt w.heap.size 0 (rwR r b6 bk6 b7 bk7 b8 bk8):=fun j v hv=>by
    have:=(XB.cell j).trans (by simpa using hv);rw [Nat.zero_add];exact this
   have hce:ce.length=9:=zab.rd_len hy
   have CC:Calls Tryz.prog 97 (#[.agg ce.toArray,.agg (rwR r b6 bk6 b7 bk7 b8 bk8).toArray]++#[]) wx.drew (za6 (SameR (y k) r) wx.drew):=by rw [Array.append_empty];exact CS
   have HBX:=hid XB;obtain ⟨cq,hcq⟩:∃ c:List Value,c=(rwR r b6 bk6 b7 bk7 b8 bk8):=⟨_,rfl⟩
   have hcl:cq.length=9:=by rw [hcq];rfl
   rw [← hcq] at r2 CC;clear hcq
   have i1:(0:Int)≤(k:Int):=by omega
   have i2:(k:Int)<(m:Int):=by omega
   clear hcell hel XB hy CS HC HR
   go_upto_region 4 with fail
   refine zax 5 (fun w'=>w'.rangeAt b (off+k*9) ce∧w'.rangeAt w.heap.size 0 cq) zbx ⟨r1,r2⟩ (fun hHeld=>?_);refine zkf 0 rfl ?_
   try simp only [Act.put,SL]
   refine zkf 1 rfl ?_
   try simp only [Act.put,SL]
   refine zkf 2 rfl ?_
   try simp only [Act.put,SL]
   refine zae (i:=3) (oi:=_) 16 rfl (by kernel_rfl) (fun _ _ _ h=>h) (yieldsIf_load_mid (by kernel_rfl) 92 (.tmp 14) rfl b (off+k*9) (by simp [Act.eval,Act.put]) ce _ (fun w h=>h.1) Tryz.underlying92 rfl (zah hce)) (by assumption) ?_
   try simp only [Act.put,SL]
   refine zae (i:=4) (oi:=_) 16 rfl (by kernel_rfl) (fun _ _ _ h=>h) (yieldsIf_load_mid (by kernel_rfl) 92 (.tmp 3) rfl w.heap.size (0) (by simp [Act.eval,Act.put]) cq _ (fun w h=>h.2) Tryz.underlying92 rfl (zah hcl)) (by assumption) ?_
   try simp only [Act.put,SL]
   refine zat (i:=5) (o:=_) rfl (by kernel_rfl) (by kernel_rfl) (fun KC hKC=>?_);refine za4 (by kernel_rfl) (.func 97) 97 #[] _ _ rfl (by simp [Act.eval,Act.put]) #[.agg ce.toArray,.agg cq.toArray] (by simp [Act.eval,Act.put]) Tryz.func97 (by kernel_rfl) (by kernel_rfl) CC ?_;rintro ee w5 ⟨t,rfl,ht,b5⟩;refine ⟨_,rfl,?_⟩;refine hKC _ _ ?_;clear hKC KC
   try simp only [Act.put,SL]
   refine zas (by kernel_rfl) ?_ _;have b5':Below wx.heap.size wx w5:=bD.trans b5;have HO5:Hid (One w w5 (rwR r b6 bk6 b7 bk7 b8 bk8).toArray 92):=⟨HBX.out.below b5' HBX.out.lt,hbl.trans (b5'.mono zx)⟩;have HT:=hid ht;clear b5 b5' ht bD r1 r2 CC HBX hHeld hbl HO
   cases t with
   | true=>
    go_wp2;go_ret;exact zaA rfl ⟨k,hlt,HT.out.1 (by simp)⟩ HO5.out.bel
   | false=>
    go_wp2
    go_roundw
    case rel=>exact ⟨k+1,by omega,by go_num,fun t ht=>by
     by_cases c:t=k
     ·rw [c];intro hs;exact absurd (HT.out.2 hs) (by simp)
     ·exact HALL.out t (by omega),HO5.out⟩
    case measure=>simp [intOf];omega
  ·obtain rfl:k=m:=by omega
   clear hbl XB;go_wp2;go_ret;exact zaj rfl (fun ⟨i,h1,h2⟩=>HALL.out i h1 h2) HO.out.bel
set_option maxRecDepth 100000 in
theorem zg4 (a r:RecD) (ca cr:List Value) (hi hj:Nat) (w:World) (ha:zab.rd w hi a ca) (hr:zab.rd w hj r cr) :
 Calls Tryz.prog 58 #[.agg ca.toArray,.agg cr.toArray] w fun e w'=>e=.returned (.bool (decide (numC a r<0)))∧Below w.heap.size w w':=by
 obtain ⟨a6,ak6,a7,ak7,a8,ak8,rfl,-⟩:=zaM ha;obtain ⟨b6,bk6,b7,bk7,b8,bk8,rfl,-⟩:=zaM hr;have T0:=zaG w (rwR a a6 ak6 a7 ak7 a8 ak8).toArray (rwR r b6 bk6 b7 bk7 b8 bk8).toArray 92 92;have HB0:=hid T0.bel;have x0:((w.alloc (.cells (rwR a a6 ak6 a7 ak7 a8 ak8).toArray 92)).alloc (.cells (rwR r b6 bk6 b7 bk7 b8 bk8).toArray 92)).cell? ⟨w.heap.size,0,none⟩=some (.int .i64 a.kind):=T0.b1.cell 0;have x1:((w.alloc (.cells (rwR a a6 ak6 a7 ak7 a8 ak8).toArray 92)).alloc (.cells (rwR r b6 bk6 b7 bk7 b8 bk8).toArray 92)).cell? ⟨w.heap.size,1,none⟩=some (.int .i64 a.seq):=T0.b1.cell 1;have x4:((w.alloc (.cells (rwR a a6 ak6 a7 ak7 a8 ak8).toArray 92)).alloc (.cells (rwR r b6 bk6 b7 bk7 b8 bk8).toArray 92)).cell? ⟨w.heap.size,4,none⟩=some (.int .i64 a.group):=T0.b1.cell 4;have y0:((w.alloc (.cells (rwR a a6 ak6 a7 ak7 a8 ak8).toArray 92)).alloc (.cells (rwR r b6 bk6 b7 bk7 b8 bk8).toArray 92)).cell? ⟨w.heap.size+1,0,none⟩=some (.int .i64 r.kind):=T0.b2.cell 0;have y1:((w.alloc (.cells (rwR a a6 ak6 a7 ak7 a8 ak8).toArray 92)).alloc (.cells (rwR r b6 bk6 b7 bk7 b8 bk8).toArray 92)).cell? ⟨w.heap.size+1,1,none⟩=some (.int .i64 r.seq):=T0.b2.cell 1
 have y4:((w.alloc (.cells (rwR a a6 ak6 a7 ak7 a8 ak8).toArray 92)).alloc (.cells (rwR r b6 bk6 b7 bk7 b8 bk8).toArray 92)).cell? ⟨w.heap.size+1,4,none⟩=some (.int .i64 r.group):=T0.b2.cell 4;clear T0 ha hr;have hN:=@zdb a r
 by_cases c1:a.seq=r.seq
 case neg=>
  have e1:(a.seq != r.seq)=true:=by simpa using c1
  have e9:decide (numC a r<0)=decide (a.seq<r.seq):=decide_eq_decide.2 (by rw [hN];omega);rw [e9];clear hN e9
  go_enter Tryz.func58,Tryz.ntmps58
  go_wp2;go_ret;exact ⟨rfl,HB0.out⟩
 have e1:(a.seq != r.seq)=false:=by simpa using c1
 by_cases c2:a.kind=r.kind
 case neg=>
  have e2:(a.kind != r.kind)=true:=by simpa using c2
  have e9:decide (numC a r<0)=decide (a.kind<r.kind):=decide_eq_decide.2 (by rw [hN];omega);rw [e9];clear hN e9 c1
  go_enter Tryz.func58,Tryz.ntmps58
  go_wp2;go_ret;exact ⟨rfl,HB0.out⟩
 have e2:(a.kind != r.kind)=false:=by simpa using c2
 have e9:decide (numC a r<0)=decide (a.group<r.group):=decide_eq_decide.2 (by rw [hN];omega);rw [e9];clear hN e9 c1 c2
 go_enter Tryz.func58,Tryz.ntmps58
 go_wp2;go_ret;exact ⟨rfl,HB0.out⟩
end Go.Proofs.YthcmdnlkohdeaaaGreat
namespace Go.Proofs.YthcmdnlkohdeaaaGreat
open Go.RowKit
section
variable {P:Program} {ops:Array Oper} {Q:Exit→Act→World→Prop} {md:Region.Mode} {S:World→Prop} {L:Nat}
theorem zbr {i:Nat} {o:Oper} {fuel:Nat} {listed:Array Bool} {a:Act} {w:World} (ho:ops[i]?=some o) (hr:Region.ready md ops listed=[i])
 (h:∀ K':Act→World→Prop,Shut (∀ a w,S w→zaU P md ops Q S L fuel (listed.setIfInBounds i true) a w→K' a w)→if Region.wanted o (yielded ops a.tmps)=true then Oper.wp P o a w K' Q else K' (a.put o.dst undef) w):zaU P md ops Q S L (fuel+1) listed a w:=by
 refine ⟨fun h0=>(by rw [hr] at h0;cases h0),fun j hj=>?_⟩;rw [hr] at hj
 obtain rfl:j=i:=by simpa using hj
 exact wpOp_step ho (fun K' hK=>h K' (fun a w hS hW=>hK a w ⟨fun _=>hS,hW⟩))
theorem zcz {i j:Nat} {o o':Oper} {fuel:Nat} {listed:Array Bool} {a:Act} {w:World} (ho:ops[i]?=some o) (ho':ops[j]?=some o') (hr:Region.ready md ops listed=[i,j])
 (h:∀ K':Act→World→Prop,Shut (∀ a w,S w→zaU P md ops Q S L fuel (listed.setIfInBounds i true) a w→K' a w)→if Region.wanted o (yielded ops a.tmps)=true then Oper.wp P o a w K' Q else K' (a.put o.dst undef) w)
 (h':∀ K':Act→World→Prop,Shut (∀ a w,S w→zaU P md ops Q S L fuel (listed.setIfInBounds j true) a w→K' a w)→if Region.wanted o' (yielded ops a.tmps)=true then Oper.wp P o' a w K' Q else K' (a.put o'.dst undef) w):zaU P md ops Q S L (fuel+1) listed a w:=by
 refine ⟨fun h0=>(by rw [hr] at h0;cases h0),fun k hk=>?_⟩;rw [hr] at hk
 simp only [List.mem_cons,List.not_mem_nil,or_false] at hk
 rcases hk with rfl | rfl
 ·exact wpOp_step ho (fun K' hK=>h K' (fun a w hS hW=>hK a w ⟨fun _=>hS,hW⟩))
 ·exact wpOp_step ho' (fun K' hK=>h' K' (fun a w hS hW=>hK a w ⟨fun _=>hS,hW⟩))
end
theorem zcA {ops:Array Oper} {o:Oper} {a:Act} {W:World} {K:Act→World→Prop} {Q:Exit→Act→World→Prop} {F:Prop} (hg:o.guard=none) (hop:o.op=Op.buildSlice 30 0 #[])
 (hK:K (a.put o.dst (.slice (some ⟨W.heap.size,0,none⟩) 0 0)) (W.alloc (.cells #[] 92))):if Region.wanted o (yielded ops a.tmps)=true then Oper.wp Tryz.prog o a W K Q else F:=by
 have hw:Region.wanted o (yielded ops a.tmps)=true:=by simp [Region.wanted,hg]
 rw [if_pos hw];unfold Oper.wp execOp
 simp only [hop]
 go_simp;exact hK
theorem zg5 {ops:Array Oper} {o:Oper} {a:Act} {W:World} {K:Act→World→Prop} {Q:Exit→Act→World→Prop} {F:Prop} (hg:o.guard=none) (x:Operand) (hop:o.op=Op.buildSlice 30 1 #[(0,x)]) (r:RecD) (b6 b7 b8:Option Addr) (bk6 bk7 bk8:Nat) (hx:a.eval x=.agg #[.int .i64 r.kind,.int .i64 r.seq,.string r.name,.int .i64 r.length,.int .i64 r.group,.int .i64 r.row,.slice b6 r.rows.1 bk6,.slice b7 r.data.1 bk7,.slice b8 r.delta.1 bk8])
 (hK:K (a.put o.dst (.slice (some ⟨W.heap.size,0,none⟩) 1 1)) (W.alloc (.cells #[.int .i64 r.kind,.int .i64 r.seq,.string r.name,.int .i64 r.length,.int .i64 r.group,.int .i64 r.row,.slice b6 r.rows.1 bk6,.slice b7 r.data.1 bk7,.slice b8 r.delta.1 bk8] 92))):if Region.wanted o (yielded ops a.tmps)=true then Oper.wp Tryz.prog o a W K Q else F:=by
 have hw:Region.wanted o (yielded ops a.tmps)=true:=by simp [Region.wanted,hg]
 rw [if_pos hw];unfold Oper.wp execOp
 simp only [hop,List.map_toArray,List.map_cons,List.map_nil,hx]
 go_simp;exact hK
theorem zbs {ops:Array Oper} {o:Oper} {a:Act} {W:World} {K:Act→World→Prop} {Q:Exit→Act→World→Prop} {F:Prop} (hg:o.guard=none) (x:Operand) (hop:o.op=Op.buildSlice 30 1 #[(0,x)]) {w0:World} {hi0:Nat} {r:RecD} {cs:List Value} (hr:zab.rd w0 hi0 r cs) (hx:a.eval x=.agg cs.toArray)
 (hK:K (a.put o.dst (.slice (some ⟨W.heap.size,0,none⟩) 1 1)) (W.alloc (.cells cs.toArray 92))):if Region.wanted o (yielded ops a.tmps)=true then Oper.wp Tryz.prog o a W K Q else F:=by
 obtain ⟨b6,bk6,b7,bk7,b8,bk8,rfl,-⟩:=zaM hr;exact zg5 hg x hop r b6 b7 b8 bk6 bk7 bk8 hx hK
end Go.Proofs.YthcmdnlkohdeaaaGreat
namespace Go.Proofs.YthcmdnlkohdeaaaGreat
open Go.RowKit F256
theorem zaF {w w':World} {B b o:Nat} {cs:List Value} (h:w.rangeAt b o cs) (hb:Below B w w') (hB:b<B):w'.rangeAt b o cs:=fun j v hv=>(hb.cell (p:=⟨b,o+j,none⟩) hB).trans (h j v hv)
theorem Src.below {w w':World} {B hi:Nat} {ao:Option Addr} {m:Nat} {y:Nat→RecD} {cy:Nat→List Value} (h:Src zab w hi ao m y cy) (hb:Below B w w') (hB:∀ b off,ao=some ⟨b,off,none⟩→b<B) (hh:hi≤B):Src zab w' hi ao m y cy:=
 ⟨fun h0=>by
  obtain ⟨b,off,e,hc⟩:=h.1 h0
  exact ⟨b,off,e,fun j hj k hk=>(hb.cell (p:=⟨b,off+(j*zab.sz+k),none⟩) (hB b off e)).trans (hc j hj k hk)⟩,fun j hj=>zab.rd_below (h.2 j hj) hb hh⟩
theorem zjH {D U:World} {lo hi m:Nat} {ao:Option Addr} {c:Nat} {y:Nat→RecD} {cy:Nat→List Value} {v0:Value} {x':Nat→RecD} {ce:Nat→List Value} (hS:Src zab D hi ao m y cy) (hz:ao=none→c=0∨m=0) (hA:∀ b off,ao=some ⟨b,off,none⟩→b<D.heap.size) (hb:Below D.heap.size D U) (hh:hi≤D.heap.size) (hm:m≤1000000)
 (V:View zab 92 U D.heap.size hi v0 0 x' ce):∃ v' w' ce',(Builtin.append_ #[30,30] 30 #[v0,.slice ao m c]).run Tryz.prog U=.ok v' w'∧View zab 92 w' D.heap.size hi v' m y ce'∧Below D.heap.size U w':=by
 obtain ⟨v',w',hrun,V',_,b'⟩:=zbq zcF zaL 30 V c (hS.below hb hA hh) hb.size hh (by omega) hz;refine ⟨v',w',cat2 ce 0 cy,hrun,?_,b'⟩;rw [Nat.zero_add] at V';exact V'.congr (fun i hi=>by unfold cat2;rw [if_neg (by omega)];rfl)
theorem View.weakL {w:World} {lo lo' hi n:Nat} {v:Value} {x:Nat→RecD} {ce:Nat→List Value} (h:View zab 92 w lo hi v n x ce) (hl:lo'≤lo):View zab 92 w lo' hi v n x ce:=⟨⟨h.row.1,by
 rcases h.row.2 with hn | ⟨g,cap,cur,rfl,hbg,rest⟩
 ·exact .inl hn
 ·exact .inr ⟨g,cap,cur,rfl,Nat.le_trans hl hbg,rest⟩⟩,h.each⟩
theorem zfr {D U:World} {hi m g:Nat} {ao:Option Addr} {c:Nat} {y:Nat→RecD} {cy:Nat→List Value} {v0:Value} {x':Nat→RecD} {ce:Nat→List Value} {cR:List Value} (hS:Src zab D hi ao m y cy) (hz:ao=none→c=0∨m=0) (hA:∀ b off,ao=some ⟨b,off,none⟩→b<D.heap.size) (hb:Below D.heap.size D U) (hh:hi≤D.heap.size) (hm:m≤1000000)
 (V:View zab 92 U D.heap.size hi v0 0 x' ce) (hX:Box U g cR.toArray 92) (hg:v0.ownBlock≠some g):∃ v' w' ce',(Builtin.append_ #[30,30] 30 #[v0,.slice ao m c]).run Tryz.prog U=.ok v' w'∧(View zab 92 w' D.heap.size hi v' m y ce'∧Box w' g cR.toArray 92)∧Below D.heap.size U w':=by
 obtain ⟨v',w',hrun,V',hgr,b'⟩:=zbq zcF zaL 30 V c (hS.below hb hA hh) hb.size hh (by omega) hz;refine ⟨v',w',cat2 ce 0 cy,hrun,⟨?_,?_⟩,b'⟩
 ·rw [Nat.zero_add] at V'
  exact V'.congr (fun i hi=>by unfold cat2;rw [if_neg (by omega)];rfl)
 ·exact (hgr.block g hX.lt (fun h=>hg h.symm)).trans hX
theorem zdI {D U:World} {hi m g:Nat} {v:Value} {x:Nat→RecD} {ce:Nat→List Value} {r:RecD} {cR:List Value} (hb:Below D.heap.size D U) (hh:hi≤D.heap.size) (hm:m≤1000000) (V:View zab 92 U D.heap.size hi v m x ce) (hX:Box U g cR.toArray 92) (hr:zab.rd U hi r cR) :
 ∃ v' w' ce',(Builtin.append_ #[30,30] 30 #[v,.slice (some ⟨g,0,none⟩) 1 1]).run Tryz.prog U=.ok v' w'∧View zab 92 w' D.heap.size hi v' (m+1) (cat2 x m (fun _=>r)) ce'∧Below D.heap.size U w':=by
 obtain ⟨v',w',hrun,V',_,b'⟩:=zbq zcF zaL 30 V 1 (zek (b:=g) (hi:=hi) (y:=r) (cs:=cR) (fun j hj=>by rw [hX.cell j];simp) hr) hb.size hh (by omega) (fun h=>by cases h);exact ⟨v',w',_,hrun,V',b'⟩
theorem zc4 {D U:World} {hi m k:Nat} {ao:Option Addr} {c:Nat} {y:Nat→RecD} {cy:Nat→List Value} {v:Value} {x:Nat→RecD} {ce:Nat→List Value} (hS:Src zab D hi ao k y cy) (hz:ao=none→c=0∨k=0) (hA:∀ b off,ao=some ⟨b,off,none⟩→b<D.heap.size) (hb:Below D.heap.size D U) (hh:hi≤D.heap.size) (hm:m+k≤2000000)
 (V:View zab 92 U D.heap.size hi v m x ce):∃ v' w' ce',(Builtin.append_ #[30,30] 30 #[v,.slice ao k c]).run Tryz.prog U=.ok v' w'∧View zab 92 w' D.heap.size hi v' (m+k) (cat2 x m y) ce'∧Below D.heap.size U w':=by
 obtain ⟨v',w',hrun,V',_,b'⟩:=zbq zcF zaL 30 V c (hS.below hb hA hh) hb.size hh (by omega) hz;exact ⟨v',w',_,hrun,V',b'⟩
theorem zb1 (l:List Nat) (M at_:Nat) (h:at_≤l.length):(l.take at_++M::l.drop at_).length=at_+1+(l.length-at_):=by
 rw [List.length_append,List.length_cons,List.length_take,List.length_drop];omega
theorem zc5 (x0:Nat→RecD) (l:List Nat) (M at_:Nat) (h:at_≤l.length) (i:Nat):cat2 (cat2 (fun i=>x0 (l.getD i 0)) at_ (fun _=>x0 M)) (at_+1) (fun j=>x0 (l.getD (at_+j) 0)) i=x0 ((l.take at_++M::l.drop at_).getD i 0):=by
 have hl:(l.take at_).length=at_:=by rw [List.length_take];omega
 by_cases c1:i<at_
 ·rw [zbp _ _ (by omega),zbp _ _ c1]
  congr 1
  rw [List.getD_eq_getElem?_getD,List.getD_eq_getElem?_getD,List.getElem?_append_left (by omega),List.getElem?_take,if_pos c1]
 ·by_cases c2:i=at_
  ·subst c2
   have e:=zbH (fun i=>x0 (l.getD i 0)) i (fun _=>x0 M) 0;rw [Nat.add_zero] at e;rw [zbp _ _ (by omega),e]
   congr 1
   rw [List.getD_eq_getElem?_getD,List.getElem?_append_right (by omega),hl]
   simp
  ·obtain ⟨j,rfl⟩:∃ j,i=at_+1+j:=⟨i-(at_+1),by omega⟩
   rw [zbH]
   congr 1
   rw [List.getD_eq_getElem?_getD,List.getD_eq_getElem?_getD,List.getElem?_append_right (by omega),hl,show at_+1+j-at_=j+1 by omega,List.getElem?_cons_succ,List.getElem?_drop]
end Go.Proofs.YthcmdnlkohdeaaaGreat
