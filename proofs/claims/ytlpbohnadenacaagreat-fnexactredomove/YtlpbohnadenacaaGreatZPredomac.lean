/- Walks of the two powers and inverses. -/
import Derived.Laws.CopyOwn
import Derived.Deep.DeepCutAuto
import Derived.Test.YtlpbohnadenacaaGreatZPredomab
set_option linter.unusedVariables false
set_option linter.unusedSimpArgs false
set_option maxHeartbeats 16000000
namespace Go.Proofs.YtlpbohnadenacaaGreat
open Go.RowKit F256
theorem zhR (a n:Nat) (ha:a<256) (hn:n≤9223372036854775807) (w:World) :
 Calls Tryz.prog 134 #[.int .u8 a,.int .i64 n] w fun e w'=>e=.returned (.int .u8 (powN a n))∧w'=w:=by
 by_cases h0:n=0
 ·subst h0
  go_enter Tryz.func134,Tryz.ntmps134
  go_wp2
  go_loop [1,5] (fun n o=>n=.int .i64 0∧o=.int .u8 1) (fun _ _=>0)
  case atStart=>exact ⟨rfl,rfl⟩
  case round=>
   obtain ⟨rfl,rfl⟩:=hrel;go_wp2;go_ret;exact ⟨rfl,rfl⟩
 ·have hpos:(0:Int)<(n:Int):=by omega
  by_cases h1:a=0
  ·subst h1
   go_enter Tryz.func134,Tryz.ntmps134
   go_wp2;go_ret;exact ⟨zcs (by rw [zj2 (by omega)];rfl),rfl⟩
  ·have hne:((a:Int) != 0)=true:=by simp;omega
   have hne':((a:Int)==0)=false:=by simp;omega
   have hM:Hid (powN a (n%255)=powN a n):=zk2 ha h1 n;have hm:n%255<255:=Nat.mod_lt _ (by omega)
   go_enter Tryz.func134,Tryz.ntmps134
   go_wp2
   all_goals
    go_loop [1,5] (fun i o=>∃ j k:Nat,j+k=n%255∧i=.int .i64 j∧o=.int .u8 (powN a k)) (fun i _=>(intOf i).toNat)
    case atStart=>exact ⟨n%255,0,rfl,zbi (by omega),rfl⟩
    case round=>
     obtain ⟨j,k,hjk,rfl,rfl⟩:=hrel;have hl:=zcr (a:=a) k
     by_cases hj:j=0
     ·subst hj
      have HK:Hid (k=n%255):=by rw [Nat.zero_add] at hjk;exact hjk
      clear hjk;go_wp2;go_ret;exact ⟨zcs (by rw [← hM.out,← HK.out]),rfl⟩
     ·have hjp:(0:Int)<(j:Int):=by omega
      have HK:Hid (j+k=n%255):=hjk
      have hj2:j≤255:=by omega
      clear hjk
      go_wp2_with (go_at_call 104;refine (ze4 _ _ hl ha _).mono ?_;rintro e w1 ⟨rfl,rfl⟩)
      go_round
      case rel=>exact ⟨j-1,k+1,by have:=HK.out;omega,zbi (by omega),rfl⟩
      case measure=>simp [intOf];omega
theorem zlC {p x m v:Nat} (hp:p<256) (hx:x<256) (h:mulN p (powN x m)=v) (ho:m%2=1):mulN (mulN p x) (powN (mulN x x) (m/2))=v:=by
 rw [zhF hx,zdt hp hx (zcr _),← h]
 congr 1
 have e:m=1+2*(m/2):=by omega
 conv=>rhs;rw [e,zf1 hx]
 rw [show powN x 1=x from zdX hx]
theorem zk5 {p x m v:Nat} (hx:x<256) (h:mulN p (powN x m)=v) (ho:m%2=0):mulN p (powN (mulN x x) (m/2))=v:=by
 rw [zhF hx,← h];rw [show 2*(m/2)=m by omega]
set_option maxRecDepth 20000 in
theorem zhS (a n:Nat) (ha:a<256) (hn:n≤9223372036854775807) (w:World) :
 Calls Tryz.prog 187 #[.int .u8 a,.int .i64 n] w fun e w'=>e=.returned (.int .u8 (powN a n))∧Below w.heap.size w w':=by
 have h0:¬ (n:Int)<0:=by omega
 go_enter Tryz.func187,Tryz.ntmps187
 go_wp2
 go_loopw [0,1,5] (fun x i o wr=>∃ p y m:Nat,p<256∧y<256∧m≤n∧x=.int .u8 y∧i=.int .i64 m∧o=.int .u8 p∧Hid (mulN p (powN y m)=powN a n)∧Below w.heap.size w wr) (fun _ i _ _=>(intOf i).toNat)
 case atStart=>exact ⟨1,a,n,by omega,ha,Nat.le_refl _,rfl,rfl,rfl,zdX (zcr _),Below.refl _ _⟩
 case round=>
  obtain ⟨p,y,m,hp,hy,hm,rfl,rfl,rfl,HV,hbel⟩:=hrel
  by_cases hm0:m=0
  ·subst hm0
   go_wp2;go_ret;exact ⟨zcs (by rw [← HV.out];show (p:Int)=((mulN p 1:Nat):Int);rw [ziJ hp]),hbel⟩
  ·have hpos:(0:Int)<(m:Int):=by omega
   by_cases hod:m%2=1
   ·have ht:((m:Int)%2==1)=true:=by simp;omega
    go_wp2_with (first | (go_at_call 198;first | (refine (zdQ p y hp hy _).mono ?_;rintro e w1 ⟨rfl,hb1⟩) | (refine (zdQ y y hy hy _).mono ?_;rintro e w2 ⟨rfl,hb2⟩)))
    go_roundw
    case rel=>exact ⟨mulN p y,mulN y y,m/2,zb4 hp,zb4 hy,by omega,rfl,zbi (by omega),rfl,zlC hp hy HV.out hod,zj5 (zj5 hbel hb1) hb2⟩
    case measure=>simp [intOf];omega
   ·have ht:((m:Int)%2==1)=false:=by simp;omega
    go_wp2_with (go_at_call 198;refine (zdQ y y hy hy _).mono ?_;rintro e w2 ⟨rfl,hb2⟩)
    go_roundw
    case rel=>exact ⟨p,mulN y y,m/2,hp,zb4 hy,by omega,rfl,zbi (by omega),rfl,zk5 hy HV.out (by omega),zj5 hbel hb2⟩
    case measure=>simp [intOf];omega
theorem zhT (a:Nat) (ha:a<256) (w:World) :
 Calls Tryz.prog 103 #[.int .u8 a] w fun e w'=>e=.returned (.int .u8 (powN a 254))∧w'=w:=by
 go_enter Tryz.func103,Tryz.ntmps103
 go_wp2_with (go_at_call 134;refine (zhR a 254 ha (by omega) _).mono ?_;rintro e w1 ⟨rfl,rfl⟩)
 go_ret;exact ⟨rfl,rfl⟩
theorem zhU (a:Nat) (ha:a<256) (w:World) :
 Calls Tryz.prog 179 #[.int .u8 a] w fun e w'=>e=.returned (.int .u8 (powN a 254))∧Below w.heap.size w w':=by
 go_enter Tryz.func179,Tryz.ntmps179
 go_wp2_with (go_at_call 187;refine (zhS a 254 ha (by omega) _).mono ?_;rintro e w1 ⟨rfl,hb⟩)
 go_ret;exact ⟨rfl,hb⟩
theorem zev (j i:Nat) (hj:j<16) (hi:i<16) (w:World) :
 Calls Tryz.prog 63 #[.int .i64 j,.int .i64 i] w fun e w'=>e=.returned (.int .u8 (powN ((128+j) ^^^ i) 254))∧w'=w:=by
 have hx:bits .xor .u8 (128+(j:Int)) (i:Int)=(((128+j) ^^^ i:Nat):Int):=u8_xor_nat (128+j) i (by omega) (by omega);have hl:(128+j) ^^^ i<256:=zgG (by omega) (by omega);obtain ⟨y,hy⟩:∃ y,y=(128+j) ^^^ i:=⟨_,rfl⟩;rw [← hy] at hx hl ⊢;clear hy
 go_enter Tryz.func63,Tryz.ntmps63
 go_wp2_with (go_at_call 103;refine (zhT y hl _).mono ?_;rintro e w1 ⟨rfl,rfl⟩)
 go_ret;exact ⟨rfl,rfl⟩
theorem zaZ (v a b:Int) (h1:a≤v) (h2:v≤b) (w:World) :
 Calls Tryz.prog 52 #[.int .i64 v,.int .i64 a,.int .i64 b] w fun e w'=>e=.returned (.bool true)∧w'=w:=by
 go_enter Tryz.func52,Tryz.ntmps52
 go_wp2;go_ret;exact ⟨rfl,rfl⟩
theorem zcD (v a b:Int) (h:v<a∨b<v) (w:World) :
 Calls Tryz.prog 52 #[.int .i64 v,.int .i64 a,.int .i64 b] w fun e w'=>e=.returned (.bool false)∧w'=w:=by
 by_cases h1:v<a
 ·have hd:decide (a≤v)=false:=by simp;omega
  go_enter Tryz.func52,Tryz.ntmps52
  go_wp2;go_ret;exact ⟨rfl,rfl⟩
 ·have h2:b<v:=by omega
  have h3:a≤v:=by omega
  have hd:decide (v≤b)=false:=by simp;omega
  go_enter Tryz.func52,Tryz.ntmps52
  go_wp2;go_ret;exact ⟨rfl,rfl⟩
theorem Own.full {w:World} {lo hi g n:Nat} {f:Nat→Nat} (h:Own w lo hi (.slice (some ⟨g,0,none⟩) n n) n f):w.heap[g]?=some (.cells (cellsOf n f).toArray 5 (0,0)):=by
 rcases h.1.2 with ⟨h',_⟩ | ⟨g',cap',cur,h',_,hg,_,_,hcs,htake⟩
 ·simp at h'
 ·simp only [Value.slice.injEq,Option.some.injEq,Addr.mk.injEq,and_true,true_and] at h'
  obtain ⟨rfl,rfl⟩:=h'
  have:cur=(cellsOf n f).toArray:=by
   rw [← htake,List.take_of_length_le (by simp;omega)]
  rw [← this];exact hg
theorem zdR {w:World} {lo g n:Nat} {f:Nat→Nat} (hg:w.heap[g]?=some (.cells (cellsOf n f).toArray 5 (0,0))) (hlo:lo≤g) (hm:n≤maxLen):Own w lo w.heap.size (.slice (some ⟨g,0,none⟩) n n) n f:=
 ⟨⟨by rw [zah];omega,.inr ⟨g,n,_,rfl,hlo,hg,Nat.le_refl _,hm,by simp [zah],by simp [List.take_of_length_le,zah]⟩⟩,fun k hk=>by
  simp [Value.ownBlock] at hk
  subst hk
  exact (Array.getElem?_eq_some_iff.1 hg).1⟩
theorem zcA (N off m:Nat) (f t h:Nat→Nat) (hm:off+m≤N) (hh:∀ i,i<N→h i=if off≤i∧i<off+m then t (i-off) else f i):splice (cellsOf N f) off (cellsOf m t)=cellsOf N h:=by
 unfold splice
 apply List.ext_getElem?
 intro i
 by_cases hi:i<N
 ·rw [zas N h i hi,hh i hi]
  by_cases h1:i<off
  ·have e1:¬ (off≤i∧i<off+m):=by omega
   rw [if_neg e1,List.getElem?_append_left (by rw [List.length_take,zah];omega),List.getElem?_take,if_pos h1,zas N f i hi]
  ·rw [List.getElem?_append_right (by rw [List.length_take,zah];omega)]
   have e0:(List.take off (cellsOf N f)).length=off:=by rw [List.length_take,zah];omega
   rw [e0]
   by_cases h2:i<off+m
   ·rw [if_pos ⟨by omega,h2⟩,List.getElem?_append_left (by rw [zah];omega),zas m t _ (by omega)]
   ·have e1:¬ (off≤i∧i<off+m):=by omega
    rw [if_neg e1,List.getElem?_append_right (by rw [zah];omega),zah,List.getElem?_drop,show off+m+(i-off-m)=i by omega,zas N f i hi]
 ·rw [List.getElem?_eq_none (by simp [zah];omega),List.getElem?_eq_none (by rw [zah];omega)]
theorem add_none' (b off j:Nat):(⟨b,off,none⟩:Addr).add j=⟨b,off+j,none⟩:=by unfold Addr.add;split<;>simp_all
theorem zd6 {w:World} {hi n cap:Nat} {ao:Option Addr} {f:Nat→Nat} (r:Rd w hi (.slice ao n cap) n f) (h:0<(cellsOf n f).length):∃ ad,ao=some ad∧∀ j v,(cellsOf n f)[j]?=some v→w.cell? (ad.add j)=some v:=by
 rw [zah] at h;obtain ⟨ao',cap',he,_,hc⟩:=r
 simp only [Value.slice.injEq,true_and] at he
 obtain ⟨rfl,rfl⟩:=he;obtain ⟨b,off,rfl,_,hcell⟩:=hc (by omega);refine ⟨_,rfl,fun j v hj=>?_⟩
 by_cases hjn:j<n
 ·rw [zas n f j hjn] at hj
  rw [add_none',hcell j hjn];exact hj
 ·rw [List.getElem?_eq_none (by rw [zah];omega)] at hj
  cases hj
theorem zb5 (n:Nat) (f:Nat→Nat):∀ v∈cellsOf n f,v.oneCell'=true:=fun v hv=>by
 simp only [cellsOf,List.mem_map] at hv
 obtain ⟨i,_,rfl⟩:=hv;rfl
theorem ze7:(Tryz.prog.info? 5).map (·.size)=some 1:=by kernel_rfl
theorem zjj (v1 v2:Value) (n:Nat) (f t:Nat→Nat) (h1 h2:Nat) (w:World) (r1:Rd w h1 v1 n f) (r2:Rd w h2 v2 0 t) (b1:h1≤w.heap.size) (hn:n≤1000000) :
 Calls Tryz.prog 155 #[v1,v2] w fun e w'=>∃ v',e=.returned v'∧Own w' w.heap.size w'.heap.size v' n f∧Below w.heap.size w w':=by
 have R1:=fun (w1:World) (hb:Below w.heap.size w w1)=>r1.below hb b1;obtain ⟨ao,cap,rfl,hm1,hc1⟩:=r1;obtain ⟨ao2,cap2,rfl,hm2,hc2⟩:=r2;clear hc1 hc2;have HS:Hid (splice (cellsOf n fun _=>0) 0 (cellsOf n f)=cellsOf n f):=zcA n 0 n _ f f (by omega) (fun i hi=>by simp [hi])
 have L1:(cellsOf n f).length=Nat.min n n:=by rw [zah];exact (Nat.min_self n).symm
 have L2:0+(cellsOf n f).length≤(cellsOf n fun _=>0).length:=by simp [zah]
 have HL1:=hid L1;have HL2:=hid L2;clear L1 L2
 go_enter Tryz.func155,Tryz.ntmps155
 go_wp2_with (first | (at_make;refine zcm _ rfl _ _ rfl _ _ n rfl rfl (by simp) (by simp) (by omega) ?_;intro w1 hown1 hb1 hz1) | (refine wpList_copy_splice rfl (.tmp 12) (.tmp 13) 29 29 rfl 5 Tryz.underlying29 ze7 (some ⟨w.heap.size,0,none⟩) ao n n n cap rfl rfl w.heap.size 0 (cellsOf n fun _=>0) 5 hown1.full (cellsOf n f) HL1.out (fun hp=>⟨rfl,zd6 (R1 w1 hb1) hp⟩) HL2.out (zb5 n f) w.heap.size w hb1 (Nat.le_refl _) ?_;intro w2 hF2 hb2) | (refine wpList_copy_nothing rfl (.tmp 18) (.tmp 19) 29 29 rfl 5 Tryz.underlying29 ze7 _ _ _ _ _ _ rfl rfl (by simp) ?_))
 go_ret;have F2:=hF2.out;rw [HS.out] at F2;exact ⟨_,rfl,zdR F2 (Nat.le_refl _) (by unfold maxLen;omega),hb2⟩
theorem zhV (v1 v2:Value) (n m:Nat) (f t h:Nat→Nat) (h1 h2:Nat) (w:World) (r1:Rd w h1 v1 n f) (r2:Rd w h2 v2 m t) (b1:h1≤w.heap.size) (b2:h2≤w.heap.size) (hn:n≤1000000) (hm:m≤1000000) (hm0:0<m)
 (hh:∀ i,i<n+m→h i=if i<n then f i else t (i-n)) :
 Calls Tryz.prog 155 #[v1,v2] w fun e w'=>∃ v',e=.returned v'∧Own w' w.heap.size w'.heap.size v' (n+m) h∧Below w.heap.size w w':=by
 have R1:=fun (w1:World) (hb:Below w.heap.size w w1)=>r1.below hb b1;have R2:=fun (w1:World) (hb:Below w.heap.size w w1)=>r2.below hb b2;obtain ⟨ao,cap,rfl,hm1,hc1⟩:=r1;obtain ⟨ao2,cap2,rfl,hm2,hc2⟩:=r2;clear hc1 hc2;obtain ⟨N,hN⟩:∃ N,N=n+m:=⟨_,rfl⟩
 have hNi:(n:Int)+(m:Int)=(N:Int):=by omega
 have hNs:N-n=m:=by omega
 have hnN:n<N:=by omega
 have S1:splice (cellsOf N fun _=>0) 0 (cellsOf n f)=cellsOf N (fun i=>if i<n then f i else 0):=zcA N 0 n _ f _ (by omega) (fun i hi=>by simp)
 have S2:splice (cellsOf N (fun i=>if i<n then f i else 0)) n (cellsOf m t)=cellsOf N h:=zcA N n m _ t h (by omega) (fun i hi=>by
  rw [hh i (by omega)]
  by_cases c:i<n
  ·have c2:¬ (n≤i∧i<n+m):=by omega
   rw [if_pos c,if_neg c2,if_pos c]
  ·rw [if_neg c,if_pos ⟨by omega,by omega⟩])
 have L1:(cellsOf n f).length=Nat.min n N:=by rw [zah];exact (Nat.min_eq_left (by omega)).symm
 have L2:0+(cellsOf n f).length≤(cellsOf N fun _=>0).length:=by simp [zah];omega
 have L3:(cellsOf m t).length=Nat.min m m:=by rw [zah];exact (Nat.min_self m).symm
 have L4:n+(cellsOf m t).length≤(cellsOf N (fun i=>if i<n then f i else 0)).length:=by simp [zah];omega
 have H1:=hid L1;have H2:=hid L2;have H3:=hid L3;have H4:=hid L4;have HS1:=hid S1;have HS2:=hid S2;rw [← hN];have HN:=hid hN;clear L1 L2 L3 L4 S1 S2 hh hN
 go_enter Tryz.func155,Tryz.ntmps155
 go_wp2_with (first | (at_make;refine zcm _ rfl _ _ rfl _ _ N rfl rfl (by first | rfl | simp [hNi]) (by first | rfl | simp [hNi]) (by omega) ?_;intro w1 hown1 hb1 hz1) | (refine wpList_copy_splice rfl (.tmp 12) (.tmp 13) 29 29 rfl 5 Tryz.underlying29 ze7 (some ⟨w.heap.size,0,none⟩) ao N N n cap rfl rfl w.heap.size 0 (cellsOf N fun _=>0) 5 hown1.full (cellsOf n f) H1.out (fun hp=>⟨rfl,zd6 (R1 w1 hb1) hp⟩) H2.out (zb5 n f) w.heap.size w hb1 (Nat.le_refl _) ?_;intro w2 hF2 hb2;rw [HS1.out] at hF2) | (refine wpList_copy_splice rfl (.tmp 18) (.tmp 19) 29 29 rfl 5 Tryz.underlying29 ze7 (some ⟨w.heap.size,n,none⟩) ao2 m m m cap2 ?_ rfl w.heap.size n (cellsOf N (fun i=>if i<n then f i else 0)) 5 hF2.out (cellsOf m t) H3.out (fun hp=>⟨rfl,zd6 (R2 w2 hb2) hp⟩) H4.out (zb5 m t) w.heap.size w hb2 (Nat.le_refl _) ?_;(simp [Act.eval,hNs]);intro w3 hF3 hb3))
 go_ret;have F3:=hF3.out;rw [HS2.out] at F3;exact ⟨_,rfl,zdR F3 (Nat.le_refl _) (by unfold maxLen;omega),hb3⟩
structure Bld (w wr:World) (lo:Nat) (v:Value) (k:Nat) (n:Nat→Nat) (f:Mat) (e:Nat→Value):Prop where
 row:wr.ownsRow lo 29 1 v k (zaT k e)
 notnil:v≠nilS
 each:∀ i,i<k→Own wr lo wr.heap.size (e i) (n i) (f i)
 apart:∀ i j,i<k→j<k→i≠j→∀ b,(e i).ownBlock=some b→(e j).ownBlock≠some b
 bel:Below lo w wr
 le:lo≤wr.heap.size
theorem zdx {w:World} {lo lo' hi:Nat} {v x:Value} {k n:Nat} {xs:List Value} {f:Nat→Nat} (h:w.ownsRow lo 29 1 v k xs) (ho:Own w lo' hi x n f) (b:Nat) (hb:v.ownBlock=some b):x.ownBlock≠some b:=by
 intro hx
 rcases h.2 with ⟨rfl,_⟩ | ⟨g,cap,cur,rfl,_,hg,_⟩
 ·cases hb
 ·rcases ho.1.2 with ⟨rfl,_⟩ | ⟨g',cap',cur',rfl,_,hg',_⟩
  ·cases hx
  ·simp [Value.ownBlock] at hb hx
   subst hb;subst hx;rw [hg] at hg'
   simp at hg'
theorem Bld.next {w wr w2 w4:World} {lo:Nat} {v v' x:Value} {k:Nat} {n:Nat→Nat} {f:Mat} {e:Nat→Value} (h:Bld w wr lo v k n f e) (hb:Below wr.heap.size wr w2) (ho:Own w2 wr.heap.size w2.heap.size x (n k) (f k))
 (hr:w4.ownsRow lo 29 1 v' (k+1) (zaT k e++[x])) (hg:(w2.alloc (.cells #[x] 29)).grownBy w4 v.ownBlock) (hnn:v'≠nilS):Bld w w4 lo v' (k+1) n f (fun i=>if i=k then x else e i):=by
 have hs2:=hb.size
 have hs4:w2.heap.size+1≤w4.heap.size:=by have:=hg.size;simpa using this
 have hv:zaT k e++[x]=zaT (k+1) (fun i=>if i=k then x else e i):=by
  rw [← zdM]
  simp only [if_pos]
  rw [zdb (e:=e) (g:=fun i=>if i=k then x else e i) (fun i hi=>by simp [show ¬ i=k by omega])]
 rw [hv] at hr;have row2:w2.ownsRow lo 29 1 v k (zaT k e):=zcN h.row fun b hb'=>hb.block b (h.row.lt b hb').2
 have kp:∀ {y:Value} {m:Nat} {q:Nat→Nat} {l:Nat},Own w2 l w2.heap.size y m q→Own w4 l w4.heap.size y m q:=fun {y m q l} hy=>
  (hy.kept fun b hb'=>by
   have hlt:=hy.2 b hb';rw [hg.block b (by simp;omega) (fun hh=>zdx row2 hy b hh.symm hb')]
   exact Below.heap_alloc w2 _ b hlt).mono (by omega)
 refine ⟨hr,hnn,fun i hi=>?_,fun i j hi hj hne b hbi=>?_,?_,by have:=h.le;omega⟩
 ·by_cases c:i=k
  ·subst c
   simp only [if_pos]
   exact (kp ho).weaken h.le (Nat.le_refl _)
  ·simp only [if_neg c]
   exact kp (((h.each i (by omega)).below hb (Nat.le_refl _)).mono hs2)
 ·have new:∀ b,x.ownBlock=some b→wr.heap.size≤b:=fun b hb'=>(ho.1.lt b hb').1
  have old:∀ i,i<k→∀ b,(e i).ownBlock=some b→b<wr.heap.size:=fun i hi b hb'=>(h.each i hi).2 b hb';have hbi2:(if i=k then x else e i).ownBlock=some b:=hbi
  show (if j=k then x else e j).ownBlock≠some b
  by_cases c:i=k
  ·have c2:¬ j=k:=fun z=>hne (by rw [c,z])
   rw [if_pos c] at hbi2;rw [if_neg c2];intro hh;have h5:=new b hbi2;have h6:=old j (by omega) b hh;omega
  ·rw [if_neg c] at hbi2
   by_cases c2:j=k
   ·rw [if_pos c2]
    intro hh;have h5:=new b hh;have h6:=old i (by omega) b hbi2;omega
   ·rw [if_neg c2]
    exact h.apart i j (by omega) (by omega) hne b hbi2
 ·have b1:Below lo w w2:=h.bel.trans (hb.mono h.le)
  exact (b1.alloc (by have:=h.le;omega) (.cells #[x] 29)).grown hg (by simp;have:=h.le;omega) (fun b hb'=>(h.row.lt b hb').1)
theorem Bld.done {w wr:World} {lo:Nat} {v:Value} {k:Nat} {n:Nat→Nat} {f:Mat} {e:Nat→Value} (h:Bld w wr lo v k n f e):OwnM wr lo wr.heap.size v k n f:=by
 rcases h.row.2 with ⟨hv,_⟩ | ⟨g,cap,cur,hv,hbg,hg,_⟩
 ·exact absurd hv h.notnil
 ·refine ⟨g,cap,e,hv,hbg,(Array.getElem?_eq_some_iff.1 hg).1,h.row,h.each,⟨fun i hi=>?_,h.apart⟩⟩
  exact zdx h.row (h.each i hi) g (by rw [hv];rfl)
theorem zfI {ops:Array Oper} {rest:List Oper} {o:Oper} {a:Act} {w:World} {Q:Exit→Act→World→Prop}
 (hg:o.guard=none) (s x:Operand) (hop:o.op=Op.call { callee:=Callee.builtin Builtin.append,args:=#[s,x],argTypes:=#[105,105] })
 (lo:Nat) (v:Value) (k:Nat) (e:Nat→Value) (hs:a.eval s=v) (hown:w.ownsRow lo 29 1 v k (zaT k e)) (b c:Nat) (y:Value) (hx:a.eval x=.slice (some ⟨b,0,none⟩) 1 c) (hcell:w.cell? ⟨b,0,none⟩=some y) (hy:y.oneCell'=true)
 (hk:k+1≤1000000) (hlo:lo≤w.heap.size)
 (hK:∀ v' w',w'.ownsRow lo 29 1 v' (k+1) (zaT k e++[y])→w.grownBy w' v.ownBlock→v'≠nilS→wpList Tryz.prog ops Q rest (a.put o.dst v') w'):wpList Tryz.prog ops Q (o::rest) a w:=by
 obtain ⟨i0,hi0,hz0,hz1,hz2⟩:=info_parts zhK;refine wpList_append_own w hg s x 105 hop lo 29 i0 nilS 1 24 Tryz.underlying105 hi0 hz0 hz1 hz2 rfl (by decide) v k (zaT k e) hs hown ⟨b,0,none⟩ 1 c [y] hx rfl ?_ ?_ (by unfold maxLen;omega) (by omega) hlo ?_
 ·intro j u hj
  match j,hj with
  | 0,hj=>simp at hj;subst hj;simpa [Addr.add] using hcell
 ·intro u hu
  simp at hu
  subst hu;exact hy
 ·intro v' w' h1 h2 h3
  exact hK v' w' h1 h2 (fun hh=>by have:=(h3.mp hh).2;omega)
structure BldR (wr:World) (lo hi:Nat) (v:Value) (k:Nat) (n:Nat→Nat) (f:Mat) (e:Nat→Value):Prop where
 row:wr.ownsRow lo 29 1 v k (zaT k e)
 notnil:v≠nilS
 low:∀ b,v.ownBlock=some b→b<hi
 each:∀ i,i<k→Own wr lo hi (e i) (n i) (f i)
 apart:∀ i j,i<k→j<k→i≠j→∀ b,(e i).ownBlock=some b→(e j).ownBlock≠some b
 le:lo≤hi
 le2:hi≤wr.heap.size
theorem BldR.kept {w w2:World} {lo hi:Nat} {v:Value} {k:Nat} {n:Nat→Nat} {f:Mat} {e:Nat→Value} (h:BldR w lo hi v k n f e) (hk:∀ b,lo≤b→b<hi→w2.heap[b]?=w.heap[b]?) (hs:hi≤w2.heap.size):BldR w2 lo hi v k n f e:=
 ⟨zcN h.row fun b hb=>hk b (h.row.lt b hb).1 (h.low b hb),h.notnil,h.low,fun i hi=>(h.each i hi).kept fun b hb=>hk b ((h.each i hi).1.lt b hb).1 ((h.each i hi).2 b hb),h.apart,h.le,hs⟩
theorem BldR.next {w2 w4:World} {lo hi lo2 hi2:Nat} {v v' x:Value} {k:Nat} {n n':Nat→Nat} {f f':Mat} {e:Nat→Value} (h:BldR w2 lo hi v k n f e) (ho:Own w2 lo2 hi2 x (n' k) (f' k)) (hlo:hi≤lo2)
 (hn:∀ i,i<k→n' i=n i) (hf:∀ i,i<k→f' i=f i)
 (hr:w4.ownsRow lo 29 1 v' (k+1) (zaT k e++[x])) (hg:(w2.alloc (.cells #[x] 29)).grownBy w4 v.ownBlock) (hnn:v'≠nilS):BldR w4 lo w4.heap.size v' (k+1) n' f' (fun i=>if i=k then x else e i):=by
 have hs4:w2.heap.size+1≤w4.heap.size:=by have:=hg.size;simpa using this
 have hle:=h.le;have hle2:=h.le2
 have hv:zaT k e++[x]=zaT (k+1) (fun i=>if i=k then x else e i):=by
  rw [← zdM]
  simp only [if_pos]
  rw [zdb (e:=e) (g:=fun i=>if i=k then x else e i) (fun i hi=>by simp [show ¬ i=k by omega])]
 rw [hv] at hr
 have kp:∀ {y:Value} {m:Nat} {q:Nat→Nat} {l u:Nat},Own w2 l u y m q→Own w4 l w4.heap.size y m q:=fun {y m q l u} hy=>
  ⟨(
   hy.kept fun b hb'=>by
   have hlt:=(hy.1.lt b hb').2;rw [hg.block b (by simp;omega) (fun hh=>zdx h.row hy b hh.symm hb')]
   exact Below.heap_alloc w2 _ b hlt).1,fun b hb'=>by have:=(hy.1.lt b hb').2;omega⟩
 refine ⟨hr,hnn,fun b hb=>(hr.lt b hb).2,fun i hik=>?_,fun i j hik hj hne b hbi=>?_,by omega,Nat.le_refl _⟩
 ·by_cases c:i=k
  ·subst c
   simp only [if_pos]
   exact (kp ho).weaken (by omega) (Nat.le_refl _)
  ·simp only [if_neg c]
   rw [hn i (by omega),hf i (by omega)];exact kp (h.each i (by omega))
 ·have new:∀ b,x.ownBlock=some b→hi≤b:=fun b hb'=>by have:=(ho.1.lt b hb').1;omega
  have old:∀ i,i<k→∀ b,(e i).ownBlock=some b→b<hi:=fun i hi b hb'=>(h.each i hi).2 b hb';have hbi2:(if i=k then x else e i).ownBlock=some b:=hbi
  show (if j=k then x else e j).ownBlock≠some b
  by_cases c:i=k
  ·have c2:¬ j=k:=fun z=>hne (by rw [c,z])
   rw [if_pos c] at hbi2;rw [if_neg c2];intro hh;have h5:=new b hbi2;have h6:=old j (by omega) b hh;omega
  ·rw [if_neg c] at hbi2
   by_cases c2:j=k
   ·rw [if_pos c2]
    intro hh;have h5:=new b hh;have h6:=old i (by omega) b hbi2;omega
   ·rw [if_neg c2]
    exact h.apart i j (by omega) (by omega) hne b hbi2
theorem BldR.done {wr:World} {lo hi:Nat} {v:Value} {k:Nat} {n:Nat→Nat} {f:Mat} {e:Nat→Value} (h:BldR wr lo hi v k n f e):∃ g cap,OwnE wr lo hi v k n f g cap e:=by
 rcases h.row.2 with ⟨hv,_⟩ | ⟨g,cap,cur,hv,hbg,hg,_⟩
 ·exact absurd hv h.notnil
 ·refine ⟨g,cap,hv,hbg,h.low g (by rw [hv];rfl),h.row,h.each,⟨fun i hi=>?_,h.apart⟩⟩
  exact zdx h.row (h.each i hi) g (by rw [hv];rfl)
def zbI (P:Prop) (w:World) (e:Ending) (w':World):Prop:=∃ b:Bool,e=.returned (.bool b)∧(b=true↔P)∧Below w.heap.size w w'
theorem zaL {P:Prop} {w:World} {e:Ending} {w':World} (he:e=.returned (.bool true)) (h:P) (hb:Below w.heap.size w w'):zbI P w e w':=⟨true,he,⟨fun _=>h,fun _=>rfl⟩,hb⟩
theorem zax {P:Prop} {w:World} {e:Ending} {w':World} (he:e=.returned (.bool false)) (h:¬ P) (hb:Below w.heap.size w w'):zbI P w e w':=⟨false,he,⟨fun h=>(by cases h),fun hh=>absurd hh h⟩,hb⟩
def Shp (d s:Int):Prop:=1≤d∧d≤3∧0≤s∧s≤2
theorem zhW (d s:Int) (w:World) :
 Calls Tryz.prog 96 #[.int .i64 d,.int .i64 s] w (zbI (Shp d s) w):=by
 by_cases h1:1≤d∧d≤3
 ·by_cases h2:0≤s∧s≤2
  ·go_enter Tryz.func96,Tryz.ntmps96
   go_wp2_with fail
   refine (zaZ d 1 3 h1.1 h1.2 _).mono ?_;rintro e w1 ⟨rfl,rfl⟩
   go_wp2_with fail
   refine (zaZ s 0 2 h2.1 h2.2 _).mono ?_;rintro e w1 ⟨rfl,rfl⟩;go_wp2;go_ret;exact zaL rfl ⟨h1.1,h1.2,h2.1,h2.2⟩ (Below.refl _ _)
  ·go_enter Tryz.func96,Tryz.ntmps96
   go_wp2_with fail
   refine (zaZ d 1 3 h1.1 h1.2 _).mono ?_;rintro e w1 ⟨rfl,rfl⟩
   go_wp2_with fail
   refine (zcD s 0 2 (by omega) _).mono ?_;rintro e w1 ⟨rfl,rfl⟩;go_wp2;go_ret;exact zax rfl (fun h=>h2 ⟨h.2.2.1,h.2.2.2⟩) (Below.refl _ _)
 ·go_enter Tryz.func96,Tryz.ntmps96
  go_wp2_with fail
  refine (zcD d 1 3 (by omega) _).mono ?_;rintro e w1 ⟨rfl,rfl⟩;go_wp2;go_ret;exact zax rfl (fun h=>h1 ⟨h.1,h.2.1⟩) (Below.refl _ _)
theorem zkf (n p base:Nat) (hn:n≤16) (hp:base+p<n+16) (w:World) :
 Calls Tryz.prog 102 #[.int .i64 n,.int .i64 p,.int .i64 base] w fun e w'=>∃ v',e=.returned v'∧Own w' w.heap.size w'.heap.size v' n (genN n p base)∧Below w.heap.size w w':=by
 go_enter Tryz.func102,Tryz.ntmps102
 go_wp2_with (at_make;refine zcm _ rfl _ _ rfl _ _ n rfl rfl rfl rfl (by omega) ?_;intro w1 hown1 hb1 hz1)
 go_loopw [8] (fun i wr=>∃ k:Nat,k≤n∧i=.int .i64 k∧Own wr w.heap.size w1.heap.size (.slice (some ⟨w.heap.size,0,none⟩) n n) n (fun i=>if i<k then genN n p base i else 0)∧Out w.heap.size w1.heap.size w1 wr) (fun i _=>n-(intOf i).toNat)
 case atStart=>exact ⟨0,Nat.zero_le _,rfl,hown1,Out.refl _ _ _⟩
 case round=>
  clear hown1;obtain ⟨k,hk,rfl,hown,hout⟩:=hrel
  by_cases hlt:k<n
  ·have hco:wr.cell? ⟨w.heap.size,k,none⟩=some (.int .u8 (0:Nat)):=by
    have:=hown.1.cellAt k (by omega);rw [this,zas _ _ _ hlt,if_neg (Nat.lt_irrefl k)]
   have hfo:wr.frozen? ⟨w.heap.size,k,none⟩=false:=hown.1.frozenAt k
   have RW:Own (wr.setCell ⟨w.heap.size,k,none⟩ (.int .u8 (genN n p base k))) w.heap.size w1.heap.size (.slice (some ⟨w.heap.size,0,none⟩) n n) n (fun i=>if i<k+1 then genN n p base i else 0):=
    hown.store k _ hlt (fun i _=>by
     by_cases c1:i=k
     ·subst c1;simp
     ·by_cases c2:i<k
      ·have c3:i<k+1:=by omega
       simp [c1,c2,c3]
      ·have c3:¬ i<k+1:=by omega
       simp [c1,c2,c3])
   have RO:Out w.heap.size w1.heap.size w1 (wr.setCell ⟨w.heap.size,k,none⟩ (.int .u8 (genN n p base k))):=hout.trans (zcH wr _ _ _ k _ (Nat.le_refl _) hz1)
   by_cases hpn:n≤p
   ·have hg:genN n p base k=powN ((128+(base+p-n)) ^^^ k) 254:=by simp [genN,hpn]
    rw [hg] at RW RO;obtain ⟨q,hq⟩:∃ q,q=base+p-n:=⟨_,rfl⟩;rw [← hq] at RW RO
    have hsum:(base:Int)+(p:Int)-(n:Int)=(q:Int):=by omega
    have C:=zev q k (by omega) (by omega)
    have hw1:IntKind.i64.wrap ((base:Int)+(p:Int))=(base:Int)+(p:Int):=by rw [IntKind.wrap_i64];omega
    have hw2:IntKind.i64.wrap ((base:Int)+(p:Int)-(n:Int))=(q:Int):=by rw [IntKind.wrap_i64];omega
    have HRW:=hid RW;clear hown hout hg hq RW
    go_wp2_with fail
    refine (C _).mono ?_;rintro e w2 ⟨rfl,rfl⟩;go_wp2
    go_roundw
    case rel=>exact ⟨k+1,by omega,by go_num,HRW.out,RO⟩
    case measure=>simp [intOf];omega
   ·have HRW:Hid (
     Own (wr.setCell ⟨w.heap.size,k,none⟩ (.int .u8 (genN n p base k))) w.heap.size w1.heap.size (.slice (some ⟨w.heap.size,0,none⟩) n n) n (fun i=>if i<k+1 then genN n p base i else 0)):=RW
    have HRO:=hid RO
    have hd1:decide ((n:Int)≤(p:Int))=false:=by simp;omega
    have HOW:=hid hown;have HOU:=hid hout;clear hown hout RW RO
    by_cases hkp:k=p
    ·subst hkp
     have hg:genN n k base k=1:=by simp [genN,hpn]
     have tk:((k:Int)==(k:Int))=true:=by simp
     go_wp2
     go_roundw
     case rel=>exact ⟨k+1,by omega,by go_num,by have:=HRW.out;rw [hg] at this;exact this,by have:=HRO.out;rw [hg] at this;exact this⟩
     case measure=>simp [intOf];omega
    ·have hg:genN n p base k=0:=by simp [genN,hpn,hkp]
     have tk:((k:Int)==(p:Int))=false:=by simp;omega
     go_wp2
     go_roundw
     case rel=>exact ⟨k+1,by omega,by go_num,HOW.out.congr (fun i hi=>by
      by_cases c1:i=k
      ·subst c1;simp [hg]
      ·by_cases c2:i<k
       ·have c3:i<k+1:=by omega
        simp [c2,c3]
       ·have c3:¬ i<k+1:=by omega
        simp [c2,c3]),HOU.out⟩
     case measure=>simp [intOf];omega
  ·have hkn:k=n:=by omega
   subst hkn;have h6:=hown.congr (g:=genN k p base) (fun i hi=>by simp [hi]);have hsz:=hout.size;have hb6:Below w.heap.size w wr:=hb1.trans hout.below;clear hown hout;go_wp2;go_ret;exact ⟨_,rfl,h6.weaken (Nat.le_refl _) (by omega),hb6⟩
def zdl (n:Nat) (g:Nat→Int) (most:Int):Prop:=∀ i,i<n→0≤g i∧g i≤most∧(0<i→g (i-1)<g i)
theorem zjk (v:Value) (n:Nat) (g:Nat→Int) (hi:Nat) (most:Int) (w:World) (r:RdI w hi v n g) :
 Calls Tryz.prog 57 #[v,.int .i64 most] w (zbI (zdl n g most) w):=by
 obtain ⟨ao,cap,rfl,hm,hc⟩:=r;unfold maxLen at hm
 go_enter Tryz.func57,Tryz.ntmps57
 go_wp2
 go_loopw [5] (fun i wr=>∃ k:Nat,k≤n∧i=.int .i64 k∧(∀ i,i<k→0≤g i∧g i≤most∧(0<i→g (i-1)<g i))∧∃ q,wr=w.drewN q) (fun i _=>n-(intOf i).toNat)
 case atStart=>exact ⟨0,Nat.zero_le _,rfl,fun i hi=>by omega,0,rfl⟩
 case round=>
  obtain ⟨k,hk,rfl,hall,q,rfl⟩:=hrel;have HALL:=hid hall;clear hall
  by_cases hlt:k<n
  ·obtain ⟨b,off,rfl,hblt,hcell⟩:=hc (by omega)
   have hck:w.cell? ⟨b,off+k,none⟩=some (.int .i64 (g k)):=hcell k hlt;have HCL:=hid hcell;obtain ⟨x,hx⟩:∃ x,x=g k:=⟨_,rfl⟩;have HX:=hid hx;rw [← hx] at hck;clear hc hcell hx
   by_cases h1:x<0
   ·have no:¬ zdl n g most:=fun h=>by have:=(h k hlt).1;rw [← HX.out] at this;omega
    have HNO:=hid no;clear no;go_wp2
    go_quiet (fail)
    go_wp2;go_ret;exact zax rfl HNO.out (below_drewN (below_drewN (Below.refl _ _) _) _)
   ·have e1:decide (
     x<0)=false:=by simp;omega
    by_cases h2:most<x
    ·have HNO:Hid (¬ zdl n g most):=fun h=>by have:=(h k hlt).2.1;rw [← HX.out] at this;omega
     go_wp2
     go_quiet (fail)
     go_wp2;go_ret;exact zax rfl HNO.out (below_drewN (below_drewN (Below.refl _ _) _) _)
    ·have e2:decide (
      most<x)=false:=by simp;omega
     by_cases h3:0<k
     ·obtain ⟨k1,hk1⟩:∃ k1,k1+1=k:=⟨k-1,by omega⟩
      have hcp:w.cell? ⟨b,off+k1,none⟩=some (.int .i64 (g k1)):=HCL.out k1 (by omega);obtain ⟨y,hy⟩:∃ y,y=g k1:=⟨_,rfl⟩
      have HY:Hid (y=g (k-1)):=by show y=g (k-1);rw [hy,show k-1=k1 by omega]
      rw [← hy] at hcp
      have wsub:IntKind.i64.wrap ((k:Int)-1)=(k1:Int):=by rw [IntKind.wrap_i64];omega
      have hk1n:k1<n:=by omega
      have e3:((0:Int)<(k:Int)):=by omega
      have HK1:=hid hk1;clear hy hk1
      by_cases h4:x≤y
      ·have HNO:Hid (¬ zdl n g most):=fun h=>by have:=(h k hlt).2.2 h3;rw [← HX.out,← HY.out] at this;omega
       go_wp2
       go_quiet (fail)
       go_wp2;go_ret;exact zax rfl HNO.out (below_drewN (below_drewN (Below.refl _ _) _) _)
      ·have e4:decide (x≤y)=false:=by simp;omega
       have HF:Hid (0≤g k∧g k≤most∧(0<k→g (k-1)<g k)):=by
        show 0≤g k∧g k≤most∧(0<k→g (k-1)<g k)
        rw [← HX.out,← HY.out];exact ⟨by omega,by omega,fun _=>by omega⟩
       go_wp2
       go_quiet (fail)
       go_wp2
       go_roundw
       case rel=>exact ⟨k+1,by omega,by go_num,fun i hi=>by
        by_cases c:i=k
        ·rw [c];exact HF.out
        ·exact HALL.out i (by omega),_,rfl⟩
       case measure=>simp [intOf];omega
     ·have HF:Hid (0≤g k∧g k≤most):=by
       show 0≤g k∧g k≤most
       rw [← HX.out];exact ⟨by omega,by omega⟩
      have e3:decide ((0:Int)<(k:Int))=false:=by simp;omega
      have e3n:decide (0<k)=false:=by simp;omega
      have HK0:Hid (k=0):=by show k=0;omega
      clear h3;go_wp2
      go_quiet (fail)
      go_wp2
      go_roundw
      case rel=>exact ⟨k+1,by omega,by go_num,fun i hi=>by
       have:=HK0.out
       obtain rfl:i=k:=by omega
       exact ⟨HF.out.1,HF.out.2,fun h=>by omega⟩,_,rfl⟩
      case measure=>simp [intOf];omega
  ·obtain rfl:k=n:=by omega
   go_wp2;go_ret;exact zaL rfl HALL.out (below_drewN (Below.refl _ _) _)
end Go.Proofs.YtlpbohnadenacaaGreat
namespace Go.Proofs.YtlpbohnadenacaaGreat
open F256
def Shp3 (d s:Int):Prop:=1≤d∧d≤4∧0≤s∧s≤2
def FacP (g c gr p:Int):Prop:=Shp3 g c∧(0≤gr∧gr≤g-1)∧(0≤p∧p≤c-1)
def zlV (g c gr p:Int) (x v:Int):Prop:=(x=3∧v=0∧¬ FacP g c gr p)∨(x=0∧FacP g c gr p∧v=((powN ((128+(8+p.toNat)) ^^^ gr.toNat) 254:Nat):Int))
def HasP (n:Nat) (g:Nat→Int) (x:Int):Prop:=∃ i,i<n∧g i=x
end Go.Proofs.YtlpbohnadenacaaGreat
namespace Go.Proofs.YtlpbohnadenacaaGreat
open Go.RowKit F256
theorem zgX (k m:Nat) (g f:Nat→Nat) (hg:∀ i,i<m→g (k+i)=f i):cellsOf k g++cellsOf m f=cellsOf (k+m) g:=by
 apply List.ext_getElem?
 intro i
 by_cases h:i<k
 ·rw [List.getElem?_append_left (by rw [zah];exact h),zas _ _ _ h,zas _ _ _ (by omega)]
 ·rw [List.getElem?_append_right (by rw [zah];omega),zah]
  by_cases h2:i-k<m
  ·rw [zas _ _ _ h2,zas _ _ _ (by omega),← hg _ h2,show k+(i-k)=i by omega]
  ·rw [List.getElem?_eq_none (by rw [zah];omega),List.getElem?_eq_none (by rw [zah];omega)]
theorem zhX (k m:Nat) (e e2:Nat→Value) (hg:∀ i,i<m→e (k+i)=e2 i):zaT k e++zaT m e2=zaT (k+m) e:=by
 apply List.ext_getElem?
 intro i
 by_cases h:i<k
 ·rw [List.getElem?_append_left (by rw [zaV];exact h),zbn _ _ _ h,zbn _ _ _ (by omega)]
 ·rw [List.getElem?_append_right (by rw [zaV];omega),zaV]
  by_cases h2:i-k<m
  ·rw [zbn _ _ _ h2,zbn _ _ _ (by omega),← hg _ h2,show k+(i-k)=i by omega]
  ·rw [List.getElem?_eq_none (by rw [zaV];omega),List.getElem?_eq_none (by rw [zaV];omega)]
theorem zdy {w:World} {lo lo':Nat} {t:TypeId} {v:Value} {k:Nat} {xs:List Value} (h:w.ownsRow lo t 1 v k xs) (hl:lo'≤lo):w.ownsRow lo' t 1 v k xs:=by
 refine ⟨h.1,?_⟩
 rcases h.2 with hn | ⟨g,cap,cur,hg,hbg,rest⟩
 ·exact .inl hn
 ·exact .inr ⟨g,cap,cur,hg,by omega,rest⟩
theorem zhY (w:World) (ty:TypeId) (lo hi:Nat) (v:Value) (k:Nat) (g:Nat→Nat) (hown:Own w lo hi v k g) (h:Nat) (xv:Value) (m:Nat) (f:Nat→Nat) (hx:Rd w h xv m f) (h0:0<m) (hg:∀ i,i<m→g (k+i)=f i) (hm:k+m≤1000000) (hlo:lo≤w.heap.size) :
 ∃ v' w',(Builtin.append_ #[29,29] ty #[v,xv]).run Tryz.prog w=.ok v' w'∧Own w' lo w'.heap.size v' (k+m) g∧w.grownBy w' v.ownBlock:=by
 obtain ⟨i0,hi0,hz0,hz1,hz2⟩:=info_parts zf2;obtain ⟨ao,cap,rfl,hml,hc⟩:=hx;obtain ⟨b,off,rfl,hb,hcell⟩:=hc (by omega)
 obtain ⟨v',w',hr,h2,h3,_⟩:=run_append_own (P:=Tryz.prog) w lo 29 ty 5 i0 (.int .u8 0) 1 1 Tryz.underlying29 hi0 hz0 hz1 hz2 rfl (by decide) v k (cellsOf k g) hown.1 ⟨b,off,none⟩ m cap (cellsOf m f) (by rw [zah];omega)
  (fun j u hj=>by
   by_cases hjm:j<m
   ·rw [zas _ _ _ hjm] at hj
    cases hj
    rw [add_none'];exact hcell j hjm
   ·rw [List.getElem?_eq_none (by rw [zah];omega)] at hj
    cases hj)
  (zb5 m f) (by unfold maxLen;omega) (by omega) hlo
 rw [zgX k m g f hg] at h2;exact ⟨v',w',hr,⟨h2,fun k hk=>(h2.lt k hk).2⟩,h3⟩
theorem zjl {ops:Array Oper} {rest:List Oper} {o:Oper} {a:Act} {w:World} {Q:Exit→Act→World→Prop}
 (hg:o.guard=none) (s x:Operand) (hop:o.op=Op.call { callee:=Callee.builtin Builtin.append,args:=#[s,x],argTypes:=#[29,29] })
 (lo hi:Nat) (v:Value) (k:Nat) (g:Nat→Nat) (hs:a.eval s=v) (hown:Own w lo hi v k g) (h:Nat) (xv:Value) (m:Nat) (f:Nat→Nat) (hx:a.eval x=xv) (hox:Rd w h xv m f) (h0:0<m) (hgf:∀ i,i<m→g (k+i)=f i)
 (hm:k+m≤1000000) (hlo:lo≤w.heap.size)
 (hK:∀ v' w',Own w' lo w'.heap.size v' (k+m) g→w.grownBy w' v.ownBlock→wpList Tryz.prog ops Q rest (a.put o.dst v') w'):wpList Tryz.prog ops Q (o::rest) a w:=by
 refine wpList_plain hg fun K hK'=>?_;obtain ⟨v',w',hrun,r1,r2⟩:=zhY w o.type lo hi v k g hown h xv m f hox h0 hgf hm hlo;unfold Oper.wp
 simp [execOp,hop,resolve,invoke,builtin,hs,hx,hrun,Result.andThen]
 exact hK' _ _ (hK v' w' r1 r2)
theorem zf8 {ops:Array Oper} {rest:List Oper} {o:Oper} {a:Act} {w:World} {Q:Exit→Act→World→Prop}
 (hg:o.guard=none) (s x:Operand) (hop:o.op=Op.call { callee:=Callee.builtin Builtin.append,args:=#[s,x],argTypes:=#[105,105] })
 (lo:Nat) (v:Value) (k:Nat) (e:Nat→Value) (hs:a.eval s=v) (hown:w.ownsRow lo 29 1 v k (zaT k e)) (b off m c:Nat) (hx:a.eval x=.slice (some ⟨b,off,none⟩) m c) (hcell:∀ i,i<m→w.cell? ⟨b,off+i,none⟩=some (e (k+i))) (hy:∀ i,i<m→(e (k+i)).oneCell'=true)
 (hk:k+m≤1000000) (hlo:lo≤w.heap.size)
 (hK:∀ v' w',w'.ownsRow lo 29 1 v' (k+m) (zaT (k+m) e)→w.grownBy w' v.ownBlock→(v'=nilS↔v=nilS∧m=0)→wpList Tryz.prog ops Q rest (a.put o.dst v') w'):wpList Tryz.prog ops Q (o::rest) a w:=by
 obtain ⟨i0,hi0,hz0,hz1,hz2⟩:=info_parts zhK;refine wpList_append_own w hg s x 105 hop lo 29 i0 nilS 1 24 Tryz.underlying105 hi0 hz0 hz1 hz2 rfl (by decide) v k (zaT k e) hs hown ⟨b,off,none⟩ m c (zaT m fun i=>e (k+i)) hx (by rw [zaV];omega) ?_ ?_ (by unfold maxLen;omega) (by omega) hlo ?_
 ·intro j u hj
  by_cases hjm:j<m
  ·rw [zbn _ _ _ hjm] at hj
   cases hj
   rw [add_none'];exact hcell j hjm
  ·rw [List.getElem?_eq_none (by rw [zaV];omega)] at hj
   cases hj
 ·intro u hu
  obtain ⟨i,hi,rfl⟩:=List.mem_map.1 hu;exact hy i (List.mem_range.1 hi)
 ·intro v' w' h1 h2 h3
  rw [zhX k m e _ (fun _ _=>rfl)] at h1;exact hK v' w' h1 h2 h3
structure BldO (wr:World) (lo hi:Nat) (v:Value) (k:Nat) (n:Nat→Nat) (f:Mat) (e:Nat→Value):Prop where
 row:wr.ownsRow lo 29 1 v k (zaT k e)
 low:∀ b,v.ownBlock=some b→b<hi
 each:∀ i,i<k→Own wr lo hi (e i) (n i) (f i)
 apart:∀ i j,i<k→j<k→i≠j→∀ b,(e i).ownBlock=some b→(e j).ownBlock≠some b
 le:lo≤hi
 le2:hi≤wr.heap.size
theorem zhZ (d s:Int) (w:World) :
 Calls Tryz.prog 95 #[.int .i64 d,.int .i64 s] w (zbI (Shp3 d s) w):=by
 by_cases h1:1≤d∧d≤4
 ·by_cases h2:0≤s∧s≤2
  ·go_enter Tryz.func95,Tryz.ntmps95
   go_wp2_with fail
   refine (zaZ d 1 4 h1.1 h1.2 _).mono ?_;rintro e w1 ⟨rfl,rfl⟩
   go_wp2_with fail
   refine (zaZ s 0 2 h2.1 h2.2 _).mono ?_;rintro e w1 ⟨rfl,rfl⟩;go_wp2;go_ret;exact zaL rfl ⟨h1.1,h1.2,h2.1,h2.2⟩ (Below.refl _ _)
  ·go_enter Tryz.func95,Tryz.ntmps95
   go_wp2_with fail
   refine (zaZ d 1 4 h1.1 h1.2 _).mono ?_;rintro e w1 ⟨rfl,rfl⟩
   go_wp2_with fail
   refine (zcD s 0 2 (by omega) _).mono ?_;rintro e w1 ⟨rfl,rfl⟩;go_wp2;go_ret;exact zax rfl (fun h=>h2 ⟨h.2.2.1,h.2.2.2⟩) (Below.refl _ _)
 ·go_enter Tryz.func95,Tryz.ntmps95
  go_wp2_with fail
  refine (zcD d 1 4 (by omega) _).mono ?_;rintro e w1 ⟨rfl,rfl⟩;go_wp2;go_ret;exact zax rfl (fun h=>h1 ⟨h.1,h.2.1⟩) (Below.refl _ _)
theorem zh0 (s:Nat→Int) (w:World) :
 Calls Tryz.prog 26 #[zak s] w fun e w'=>e=.returned (zak s)∧Below w.heap.size w w':=by
 unfold zak;obtain ⟨a0,h0⟩:∃ a,a=s 0:=⟨_,rfl⟩;obtain ⟨a1,h1⟩:∃ a,a=s 1:=⟨_,rfl⟩;obtain ⟨a2,h2⟩:∃ a,a=s 2:=⟨_,rfl⟩;obtain ⟨a3,h3⟩:∃ a,a=s 3:=⟨_,rfl⟩;obtain ⟨a4,h4⟩:∃ a,a=s 4:=⟨_,rfl⟩;obtain ⟨a5,h5⟩:∃ a,a=s 5:=⟨_,rfl⟩;obtain ⟨a6,h6⟩:∃ a,a=s 6:=⟨_,rfl⟩;obtain ⟨a7,h7⟩:∃ a,a=s 7:=⟨_,rfl⟩;obtain ⟨a8,h8⟩:∃ a,a=s 8:=⟨_,rfl⟩;rw [← h0,← h1,← h2,← h3,← h4,← h5,← h6,← h7,← h8];clear h0 h1 h2 h3 h4 h5 h6 h7 h8
 go_enter Tryz.func26,Tryz.ntmps26
 go_wp2;refine bodyPost_ret (v:=.agg #[.int .i64 a0,.int .i64 a1,.int .i64 a2,.int .i64 a3,.int .i64 a4,.int .i64 a5,.int .i64 a6,.int .i64 a7,.int .i64 a8]) (by simp [results,Tryz.results26,go_sem]) rfl ⟨rfl,?_⟩;exact (((Below.refl _ _).alloc (Nat.le_refl _) _).alloc (by simp) _).alloc (by simp<;>omega) _
def zar (s:Nat→Int):Prop:=Shp3 (s 0) (s 1)∧Shp (s 2) (s 3)∧(1≤s 4∧s 4≤6)∧(1≤s 5∧s 5≤6)∧(1≤s 6∧s 6≤4)∧(1≤s 7∧s 7≤6)∧(0≤s 8∧s 8≤400)
def zlt (s:Nat→Int) (x:Int):Prop:=(x=3∧¬ zar s)∨(x=0∧zar s)
theorem box9 {w:World} {b:Nat} {t:TypeId} {a0 a1 a2 a3 a4 a5 a6 a7 a8:Value} (h:Box w b #[a0,a1,a2,a3,a4,a5,a6,a7,a8] t) :
 w.cell? ⟨b,0,none⟩=some a0∧w.cell? ⟨b,1,none⟩=some a1∧w.cell? ⟨b,2,none⟩=some a2∧w.cell? ⟨b,3,none⟩=some a3∧w.cell? ⟨b,4,none⟩=some a4∧w.cell? ⟨b,5,none⟩=some a5∧w.cell? ⟨b,6,none⟩=some a6∧w.cell? ⟨b,7,none⟩=some a7∧w.cell? ⟨b,8,none⟩=some a8:=
 ⟨h.cell 0,h.cell 1,h.cell 2,h.cell 3,h.cell 4,h.cell 5,h.cell 6,h.cell 7,h.cell 8⟩
theorem zbE (s:Nat→Int) (w:World) :
 Calls Tryz.prog 51 #[zak s] w fun e w'=>∃ x,e=.returned (.int .i64 x)∧zlt s x∧Below w.heap.size w w':=by
 unfold zak;have HOK:Hid (zar s↔zar s):=Iff.rfl;unfold zar at HOK;obtain ⟨a0,h0⟩:∃ a,a=s 0:=⟨_,rfl⟩;obtain ⟨a1,h1⟩:∃ a,a=s 1:=⟨_,rfl⟩;obtain ⟨a2,h2⟩:∃ a,a=s 2:=⟨_,rfl⟩;obtain ⟨a3,h3⟩:∃ a,a=s 3:=⟨_,rfl⟩;obtain ⟨a4,h4⟩:∃ a,a=s 4:=⟨_,rfl⟩;obtain ⟨a5,h5⟩:∃ a,a=s 5:=⟨_,rfl⟩;obtain ⟨a6,h6⟩:∃ a,a=s 6:=⟨_,rfl⟩;obtain ⟨a7,h7⟩:∃ a,a=s 7:=⟨_,rfl⟩;obtain ⟨a8,h8⟩:∃ a,a=s 8:=⟨_,rfl⟩
 have HIFF:Hid (zar s↔(Shp3 a0 a1∧Shp a2 a3∧(1≤a4∧a4≤6)∧(1≤a5∧a5≤6)∧(1≤a6∧a6≤4)∧(1≤a7∧a7≤6)∧(0≤a8∧a8≤400))):=by
  show zar s↔_
  rw [h0,h1,h2,h3,h4,h5,h6,h7,h8];exact Iff.rfl
 rw [← h0,← h1,← h2,← h3,← h4,← h5,← h6,← h7,← h8];clear h0 h1 h2 h3 h4 h5 h6 h7 h8 HOK
 go_enter Tryz.func51,Tryz.ntmps51
 go_wp2_with fail
 refine (zhZ a0 a1 _).mono ?_;rintro e w1 ⟨b1,rfl,hb1,b1'⟩;have X1:Box w1 w.heap.size #[.int .i64 a0,.int .i64 a1,.int .i64 a2,.int .i64 a3,.int .i64 a4,.int .i64 a5,.int .i64 a6,.int .i64 a7,.int .i64 a8] 34:=(zay w _ _).below b1' (by simp);have B1:Below w.heap.size w w1:=bnew b1';have H1:=hid hb1;have z1:=X1.lt;obtain ⟨x0,x1,x2,x3,x4,x5,x6,x7,x8⟩:=box9 X1;clear hb1 b1'
 cases b1 with
 | false=>
  have HNO:Hid (¬ zar s):=fun h=>by have:=H1.out.mpr (HIFF.out.mp h).1;cases this
  clear H1;go_wp2;go_ret;exact ⟨3,rfl,.inl ⟨rfl,HNO.out⟩,B1⟩
 | true=>
  have HS1:Hid (Shp3 a0 a1):=H1.out.mp rfl;clear H1
  go_wp2_with fail
  refine (zhW a2 a3 _).mono ?_;rintro e w2 ⟨b2,rfl,hb2,b2'⟩;have X2:=X1.below b2' z1;have B2:Below w.heap.size w w2:=B1.trans (b2'.mono B1.size);have H2:=hid hb2;clear x0 x1 x2 x3 x4 x5 x6 x7 x8;obtain ⟨x0,x1,x2,x3,x4,x5,x6,x7,x8⟩:=box9 X2;clear hb2 b2' X1 B1
  cases b2 with
  | false=>
   have HNO:Hid (¬ zar s):=fun h=>by have:=H2.out.mpr (HIFF.out.mp h).2.1;cases this
   clear H2;go_wp2;go_ret;exact ⟨3,rfl,.inl ⟨rfl,HNO.out⟩,B2⟩
  | true=>
   have HS2:Hid (Shp a2 a3):=H2.out.mp rfl;clear H2
   by_cases c4:1≤a4∧a4≤6
   ·by_cases c5:1≤a5∧a5≤6
    ·by_cases c6:1≤a6∧a6≤4
     ·by_cases c7:1≤a7∧a7≤6
      ·by_cases c8:0≤a8∧a8≤400
       ·have HY:Hid (zar s):=HIFF.out.mpr ⟨HS1.out,HS2.out,c4,c5,c6,c7,c8⟩
        go_wp2_with fail
        refine (zaZ a4 1 6 c4.1 c4.2 _).mono ?_;rintro e w3 ⟨rfl,hw⟩;obtain rfl:=hw.symm
        go_wp2_with fail
        refine (zaZ a5 1 6 c5.1 c5.2 _).mono ?_;rintro e w3 ⟨rfl,hw⟩;obtain rfl:=hw.symm
        go_wp2_with fail
        refine (zaZ a6 1 4 c6.1 c6.2 _).mono ?_;rintro e w3 ⟨rfl,hw⟩;obtain rfl:=hw.symm
        go_wp2_with fail
        refine (zaZ a7 1 6 c7.1 c7.2 _).mono ?_;rintro e w3 ⟨rfl,hw⟩;obtain rfl:=hw.symm
        go_wp2_with fail
        refine (zaZ a8 0 400 c8.1 c8.2 _).mono ?_;rintro e w3 ⟨rfl,hw⟩;obtain rfl:=hw.symm;go_wp2;go_ret;exact ⟨0,rfl,.inr ⟨rfl,HY.out⟩,B2⟩
       ·have HN:Hid (¬ zar s):=fun h=>c8 (HIFF.out.mp h).2.2.2.2.2.2
        have c8':a8<0∨400<a8:=by omega
        clear c8
        go_wp2_with fail
        refine (zaZ a4 1 6 c4.1 c4.2 _).mono ?_;rintro e w3 ⟨rfl,hw⟩;obtain rfl:=hw.symm
        go_wp2_with fail
        refine (zaZ a5 1 6 c5.1 c5.2 _).mono ?_;rintro e w3 ⟨rfl,hw⟩;obtain rfl:=hw.symm
        go_wp2_with fail
        refine (zaZ a6 1 4 c6.1 c6.2 _).mono ?_;rintro e w3 ⟨rfl,hw⟩;obtain rfl:=hw.symm
        go_wp2_with fail
        refine (zaZ a7 1 6 c7.1 c7.2 _).mono ?_;rintro e w3 ⟨rfl,hw⟩;obtain rfl:=hw.symm
        go_wp2_with fail
        refine (zcD a8 0 400 c8' _).mono ?_;rintro e w3 ⟨rfl,hw⟩;obtain rfl:=hw.symm;go_wp2;go_ret;exact ⟨3,rfl,.inl ⟨rfl,HN.out⟩,B2⟩
      ·have HN:Hid (¬ zar s):=fun h=>c7 (HIFF.out.mp h).2.2.2.2.2.1
       have c7':a7<1∨6<a7:=by omega
       clear c7
       go_wp2_with fail
       refine (zaZ a4 1 6 c4.1 c4.2 _).mono ?_;rintro e w3 ⟨rfl,hw⟩;obtain rfl:=hw.symm
       go_wp2_with fail
       refine (zaZ a5 1 6 c5.1 c5.2 _).mono ?_;rintro e w3 ⟨rfl,hw⟩;obtain rfl:=hw.symm
       go_wp2_with fail
       refine (zaZ a6 1 4 c6.1 c6.2 _).mono ?_;rintro e w3 ⟨rfl,hw⟩;obtain rfl:=hw.symm
       go_wp2_with fail
       refine (zcD a7 1 6 c7' _).mono ?_;rintro e w3 ⟨rfl,hw⟩;obtain rfl:=hw.symm;go_wp2;go_ret;exact ⟨3,rfl,.inl ⟨rfl,HN.out⟩,B2⟩
     ·have HN:Hid (¬ zar s):=fun h=>c6 (HIFF.out.mp h).2.2.2.2.1
      have c6':a6<1∨4<a6:=by omega
      clear c6
      go_wp2_with fail
      refine (zaZ a4 1 6 c4.1 c4.2 _).mono ?_;rintro e w3 ⟨rfl,hw⟩;obtain rfl:=hw.symm
      go_wp2_with fail
      refine (zaZ a5 1 6 c5.1 c5.2 _).mono ?_;rintro e w3 ⟨rfl,hw⟩;obtain rfl:=hw.symm
      go_wp2_with fail
      refine (zcD a6 1 4 c6' _).mono ?_;rintro e w3 ⟨rfl,hw⟩;obtain rfl:=hw.symm;go_wp2;go_ret;exact ⟨3,rfl,.inl ⟨rfl,HN.out⟩,B2⟩
    ·have HN:Hid (¬ zar s):=fun h=>c5 (HIFF.out.mp h).2.2.2.1
     have c5':a5<1∨6<a5:=by omega
     clear c5
     go_wp2_with fail
     refine (zaZ a4 1 6 c4.1 c4.2 _).mono ?_;rintro e w3 ⟨rfl,hw⟩;obtain rfl:=hw.symm
     go_wp2_with fail
     refine (zcD a5 1 6 c5' _).mono ?_;rintro e w3 ⟨rfl,hw⟩;obtain rfl:=hw.symm;go_wp2;go_ret;exact ⟨3,rfl,.inl ⟨rfl,HN.out⟩,B2⟩
   ·have HN:Hid (¬ zar s):=fun h=>c4 (HIFF.out.mp h).2.2.1
    have c4':a4<1∨6<a4:=by omega
    clear c4
    go_wp2_with fail
    refine (zcD a4 1 6 c4' _).mono ?_;rintro e w3 ⟨rfl,hw⟩;obtain rfl:=hw.symm;go_wp2;go_ret;exact ⟨3,rfl,.inl ⟨rfl,HN.out⟩,B2⟩
set_option maxRecDepth 20000 in
theorem zjm:ToV zaf zaG 170:=fun cs d hi w r hhi hn=>by
 obtain ⟨ao1,cap1,rfl,h1,k0⟩:=za6 r;clear r;unfold zaG at hn;have R1:=hid h1;clear h1;have Q0:=hid k0;clear k0
 go_enter Tryz.func170,Tryz.ntmps170
 go_wp2_with fail
 have T0:=zbD w #[.int .i64 d.stamp,.slice ao1 d.bytes.1 cap1] #[.int .i64 0,.slice none 0 0] #[.int .i64 d.stamp,.slice none 0 0] 190 99 99;refine (zem _ d.bytes hi _ (zad.rd_below R1.out T0.bel hhi) (Nat.le_trans hhi T0.bel.size) (by omega)).mono ?_;rintro e w1 ⟨v1,rfl,o1,b1⟩;have L1:=T0.lt;obtain ⟨bo1,bcap1,hv⟩:=zbp o1;obtain rfl:=zaU hv;clear hv;have T1:Three w w1 #[.int .i64 d.stamp,.slice ao1 d.bytes.1 cap1] #[.int .i64 0,.slice none 0 0] #[.int .i64 d.stamp,.slice none 0 0] 190 99 99:=T0.call b1;have O1:Hid (OwnT zad w1 (w.heap.size+1+1+1) (w1.heap.size) d.bytes [.slice bo1 d.bytes.1 bcap1]):=o1.weaken (by simp<;>omega) (Nat.le_refl _);clear o1;have LT1:w.heap.size+1+1+1≤w1.heap.size:=T1.lt;have y1_0:w1.cell? ⟨w.heap.size+1+1,0,none⟩=some (.int .i64 d.stamp):=T1.b3.cell 0;have y1_1:w1.cell? ⟨w.heap.size+1+1,1,none⟩=some (.slice none 0 0):=T1.b3.cell 1;have yf1_1:w1.frozen? ⟨w.heap.size+1+1,1,none⟩=false:=T1.b3.frozen 1;have z1_0:w1.cell? ⟨w.heap.size+1,0,none⟩=some (.int .i64 0):=T1.b2.cell 0;have zf1_0:w1.frozen? ⟨w.heap.size+1,0,none⟩=false:=T1.b2.frozen 0;have z1_1:w1.cell? ⟨w.heap.size+1,1,none⟩=some (.slice none 0 0):=T1.b2.cell 1;have zf1_1:w1.frozen? ⟨w.heap.size+1,1,none⟩=false:=T1.b2.frozen 1;have Bq:=hid T1.bel;clear T1 b1;go_wp2;refine bodyPost_ret (v:=.agg #[.int .i64 d.stamp,.slice bo1 d.bytes.1 bcap1]) (by simp [results,Tryz.results170,go_sem,y1_0,z1_0,y1_1,z1_1]) rfl ?_;have F:OwnT zaf w1 (w.heap.size+1+1+1) w1.heap.size d ([.int .i64 d.stamp]++[.slice bo1 d.bytes.1 bcap1]):=OwnT.conv (OwnT.pre (A:=layI) (a:=d.stamp) (c:=[.int .i64 d.stamp]) ⟨rfl,Q0.out,rfl⟩ (O1.out));exact ⟨[.int .i64 d.stamp,.slice bo1 d.bytes.1 bcap1],rfl,OwnT.fin F 1 0 [.slice bo1 d.bytes.1 bcap1] [.int .i64 d.stamp,.slice bo1 d.bytes.1 bcap1] _ rfl,zdd Bq.out 1 0 [.slice bo1 d.bytes.1 bcap1] [.int .i64 d.stamp,.slice bo1 d.bytes.1 bcap1] _ rfl⟩
theorem zh1:(Tryz.prog.info? 99).map (fun i=>(i.zero.map (·.cells),i.size,i.bytes))=some (some #[.int .i64 0,.slice none 0 0],2,32):=by kernel_rfl
theorem zh2:ToS (zaf.slice 99) (szSl zaG) 135:=fun v d hi w h hhi hn=>by
 obtain ⟨n,x⟩:=d;obtain ⟨ao,cap,hv,hm,hc⟩:=h
 cases hv
 have hn1:=zcv hn;have hn2:∀ i,i<n→zaG (x i)≤1048576:=fun i hi=>zbB hn hi
 simp only at hn1 hm hc
 clear hn
 go_enter Tryz.func135,Tryz.ntmps135
 go_wp2_with (at_make;refine zb9 zaf [.int .i64 0,.slice none 0 0] _ 99 32 (by decide) rfl Tryz.underlying95 zh1 x (fun _=>[]) _ rfl _ _ rfl _ _ n rfl rfl rfl rfl (by omega) (by omega) ?_;intro w1 sp1 hb1)
 go_loopw [4] (fun i wr=>∃ k:Nat,k≤n∧i=.int .i64 k∧∃ ce Ls,SlP zaf 99 wr w.heap.size w.heap.size n n k x ce Ls∧Below w.heap.size w wr) (fun i _=>n-(intOf i).toNat)
 case atStart=>exact ⟨0,Nat.zero_le _,rfl,_,_,sp1,hb1⟩
 case round=>
  clear sp1 hb1;obtain ⟨k,hk,rfl,ce,Ls,sp,hb⟩:=hrel
  by_cases hlt:k<n
  ·obtain ⟨b,off,rfl,hblt,hel⟩:=hc (by omega)
   obtain ⟨ck,hrk,hcell⟩:=zaB (t:=0) hel hb hhi hblt hlt;obtain ⟨ao1,cap1,rfl,-⟩:=za6 hrk;have c0:wr.cell? ⟨b,off+k*2,none⟩=some (.int .i64 (x k).stamp):=hcell 0 (by decide);have c1:wr.cell? ⟨b,off+k*2+1,none⟩=some (.slice ao1 (x k).bytes.1 cap1):=hcell 1 (by decide);clear hc hel hcell
   go_wp2_with fail
   refine (zjm _ (x k) hi wr hrk (Nat.le_trans hhi hb.size) (hn2 k hlt)).mono ?_;rintro e w2 ⟨cs',rfl,o2,hb2⟩;obtain ⟨bao1,bcap1,rfl⟩:=zdP o2;obtain ⟨z0,s0⟩:=sp.some hb2 hlt (show 0<zaf.sz by decide);have s0:w2.cell? ⟨w.heap.size,k*2,none⟩=some z0:=s0;have sf0:=(sp.below hb2).frozen (k*2);obtain ⟨z1,s1⟩:=sp.some hb2 hlt (show 1<zaf.sz by decide);have s1:w2.cell? ⟨w.heap.size,k*2+1,none⟩=some z1:=s1;have sf1:=(sp.below hb2).frozen (k*2+1);have N:=sp.next hb2 hlt o2 hb.size;have N2:Below w.heap.size w (stN w2 w.heap.size (k*zaf.sz) [.int .i64 (x k).stamp,.slice bao1 (x k).bytes.1 bcap1]):=(hb.trans (hb2.mono hb.size)).trans (zaS (Nat.le_refl _) _ _);clear o2 hb2 sp hb
   go_wp2_with fail
   go_roundw
   case rel=>
    obtain ⟨ce',Ls',N⟩:=N;exact ⟨k+1,by omega,by go_num,ce',Ls',N,N2⟩
   case measure=>simp [intOf];omega
  ·obtain rfl:k=n:=by omega
   go_wp2;go_ret;exact ⟨_,rfl,sp.done (Nat.le_refl _),hb⟩
set_option maxRecDepth 20000 in
theorem zjn:ToV zaa zav 105:=fun cs d hi w r hhi hn=>by
 obtain ⟨ao1,cap1,rfl,h1⟩:=zbz r;clear r;unfold zav at hn;have R1:=hid h1;clear h1
 go_enter Tryz.func105,Tryz.ntmps105
 go_wp2_with fail
 have T0:=zbD w #[.bool d.wiped,.slice ao1 d.blocks.1 cap1] #[.bool false,.slice none 0 0] #[.bool d.wiped,.slice none 0 0] 143 97 97;refine (zh2 _ d.blocks hi _ ((zaf.slice 99).rd_below R1.out T0.bel hhi) (Nat.le_trans hhi T0.bel.size) (by omega)).mono ?_;rintro e w1 ⟨v1,rfl,o1,b1⟩;have L1:=T0.lt;obtain ⟨bo1,bcap1,hv⟩:=zbT o1;obtain rfl:=zaU hv;clear hv;have T1:Three w w1 #[.bool d.wiped,.slice ao1 d.blocks.1 cap1] #[.bool false,.slice none 0 0] #[.bool d.wiped,.slice none 0 0] 143 97 97:=T0.call b1;have O1:Hid (OwnT (zaf.slice 99) w1 (w.heap.size+1+1+1) (w1.heap.size) d.blocks [.slice bo1 d.blocks.1 bcap1]):=o1.weaken (by simp<;>omega) (Nat.le_refl _);clear o1;have LT1:w.heap.size+1+1+1≤w1.heap.size:=T1.lt;have y1_0:w1.cell? ⟨w.heap.size+1+1,0,none⟩=some (.bool d.wiped):=T1.b3.cell 0;have y1_1:w1.cell? ⟨w.heap.size+1+1,1,none⟩=some (.slice none 0 0):=T1.b3.cell 1;have yf1_1:w1.frozen? ⟨w.heap.size+1+1,1,none⟩=false:=T1.b3.frozen 1;have z1_0:w1.cell? ⟨w.heap.size+1,0,none⟩=some (.bool false):=T1.b2.cell 0;have zf1_0:w1.frozen? ⟨w.heap.size+1,0,none⟩=false:=T1.b2.frozen 0;have z1_1:w1.cell? ⟨w.heap.size+1,1,none⟩=some (.slice none 0 0):=T1.b2.cell 1;have zf1_1:w1.frozen? ⟨w.heap.size+1,1,none⟩=false:=T1.b2.frozen 1;have Bq:=hid T1.bel;clear T1 b1;go_wp2;refine bodyPost_ret (v:=.agg #[.bool d.wiped,.slice bo1 d.blocks.1 bcap1]) (by simp [results,Tryz.results105,go_sem,y1_0,z1_0,y1_1,z1_1]) rfl ?_;have F:OwnT zaa w1 (w.heap.size+1+1+1) w1.heap.size d ([.bool d.wiped]++[.slice bo1 d.blocks.1 bcap1]):=OwnT.conv (OwnT.pre (A:=layB) (a:=d.wiped) (c:=[.bool d.wiped]) ⟨rfl,trivial,rfl⟩ (O1.out));exact ⟨[.bool d.wiped,.slice bo1 d.blocks.1 bcap1],rfl,OwnT.fin F 1 0 [.slice bo1 d.blocks.1 bcap1] [.bool d.wiped,.slice bo1 d.blocks.1 bcap1] _ rfl,zdd Bq.out 1 0 [.slice bo1 d.blocks.1 bcap1] [.bool d.wiped,.slice bo1 d.blocks.1 bcap1] _ rfl⟩
theorem zh3:(Tryz.prog.info? 97).map (fun i=>(i.zero.map (·.cells),i.size,i.bytes))=some (some #[.bool false,.slice none 0 0],2,32):=by kernel_rfl
theorem zh4:ToS (zaa.slice 97) (szSl zav) 67:=fun v d hi w h hhi hn=>by
 obtain ⟨n,x⟩:=d;obtain ⟨ao,cap,hv,hm,hc⟩:=h
 cases hv
 have hn1:=zcv hn;have hn2:∀ i,i<n→zav (x i)≤1048576:=fun i hi=>zbB hn hi
 simp only at hn1 hm hc
 clear hn
 go_enter Tryz.func67,Tryz.ntmps67
 go_wp2_with (at_make;refine zb9 zaa [.bool false,.slice none 0 0] _ 97 32 (by decide) rfl Tryz.underlying94 zh3 x (fun _=>[]) _ rfl _ _ rfl _ _ n rfl rfl rfl rfl (by omega) (by omega) ?_;intro w1 sp1 hb1)
 go_loopw [4] (fun i wr=>∃ k:Nat,k≤n∧i=.int .i64 k∧∃ ce Ls,SlP zaa 97 wr w.heap.size w.heap.size n n k x ce Ls∧Below w.heap.size w wr) (fun i _=>n-(intOf i).toNat)
 case atStart=>exact ⟨0,Nat.zero_le _,rfl,_,_,sp1,hb1⟩
 case round=>
  clear sp1 hb1;obtain ⟨k,hk,rfl,ce,Ls,sp,hb⟩:=hrel
  by_cases hlt:k<n
  ·obtain ⟨b,off,rfl,hblt,hel⟩:=hc (by omega)
   obtain ⟨ck,hrk,hcell⟩:=zaB (t:=0) hel hb hhi hblt hlt;obtain ⟨ao1,cap1,rfl,-⟩:=zbz hrk;have c0:wr.cell? ⟨b,off+k*2,none⟩=some (.bool (x k).wiped):=hcell 0 (by decide);have c1:wr.cell? ⟨b,off+k*2+1,none⟩=some (.slice ao1 (x k).blocks.1 cap1):=hcell 1 (by decide);clear hc hel hcell
   go_wp2_with fail
   refine (zjn _ (x k) hi wr hrk (Nat.le_trans hhi hb.size) (hn2 k hlt)).mono ?_;rintro e w2 ⟨cs',rfl,o2,hb2⟩;obtain ⟨bao1,bcap1,rfl⟩:=ze0 o2;obtain ⟨z0,s0⟩:=sp.some hb2 hlt (show 0<zaa.sz by decide);have s0:w2.cell? ⟨w.heap.size,k*2,none⟩=some z0:=s0;have sf0:=(sp.below hb2).frozen (k*2);obtain ⟨z1,s1⟩:=sp.some hb2 hlt (show 1<zaa.sz by decide);have s1:w2.cell? ⟨w.heap.size,k*2+1,none⟩=some z1:=s1;have sf1:=(sp.below hb2).frozen (k*2+1);have N:=sp.next hb2 hlt o2 hb.size;have N2:Below w.heap.size w (stN w2 w.heap.size (k*zaa.sz) [.bool (x k).wiped,.slice bao1 (x k).blocks.1 bcap1]):=(hb.trans (hb2.mono hb.size)).trans (zaS (Nat.le_refl _) _ _);clear o2 hb2 sp hb
   go_wp2_with fail
   go_roundw
   case rel=>
    obtain ⟨ce',Ls',N⟩:=N;exact ⟨k+1,by omega,by go_num,ce',Ls',N,N2⟩
   case measure=>simp [intOf];omega
  ·obtain rfl:k=n:=by omega
   go_wp2;go_ret;exact ⟨_,rfl,sp.done (Nat.le_refl _),hb⟩
theorem zgY:(Tryz.prog.info? 94).map (fun i=>(i.zero.map (·.cells),i.size,i.bytes))=some (some #[.slice none 0 0],1,24):=by kernel_rfl
theorem zgZ:ToS ((zaa.slice 97).slice 94) (szSl (szSl zav)) 27:=fun v d hi w h hhi hn=>by
 obtain ⟨n,x⟩:=d;obtain ⟨ao,cap,hv,hm,hc⟩:=h
 cases hv
 have hn1:=zcv hn;have hn2:∀ i,i<n→(szSl zav) (x i)≤1048576:=fun i hi=>zbB hn hi
 simp only at hn1 hm hc
 clear hn
 go_enter Tryz.func27,Tryz.ntmps27
 go_wp2_with (at_make;refine zb9 (zaa.slice 97) [.slice none 0 0] _ 94 24 (by decide) rfl Tryz.underlying35 zgY x (fun _=>[]) _ rfl _ _ rfl _ _ n rfl rfl rfl rfl (by omega) (by omega) ?_;intro w1 sp1 hb1)
 go_loopw [4] (fun i wr=>∃ k:Nat,k≤n∧i=.int .i64 k∧∃ ce Ls,SlP (zaa.slice 97) 94 wr w.heap.size w.heap.size n n k x ce Ls∧Below w.heap.size w wr) (fun i _=>n-(intOf i).toNat)
 case atStart=>exact ⟨0,Nat.zero_le _,rfl,_,_,sp1,hb1⟩
 case round=>
  clear sp1 hb1;obtain ⟨k,hk,rfl,ce,Ls,sp,hb⟩:=hrel
  by_cases hlt:k<n
  ·obtain ⟨b,off,rfl,hblt,hel⟩:=hc (by omega)
   obtain ⟨ck,hrk,hcell⟩:=zaB (t:=0) hel hb hhi hblt hlt;obtain ⟨ao9,cap9,rfl⟩:=zbH hrk
   have c0:wr.cell? ⟨b,off+k,none⟩=some (.slice ao9 (x k).1 cap9):=by
    have h:=hcell 0 (show 0<1 by decide);rw [show (zaa.slice 97).sz=1 from rfl,Nat.mul_one,Nat.add_zero] at h;exact h
   clear hc hel hcell
   go_wp2_with fail
   refine (zh4 _ (x k) hi wr hrk (Nat.le_trans hhi hb.size) (hn2 k hlt)).mono ?_;rintro e w2 ⟨v',rfl,o2,hb2⟩;obtain ⟨bao9,bcap9,hv'⟩:=zbT o2;obtain rfl:=zaU hv';clear hv';obtain ⟨z0,s0⟩:=sp.some hb2 hlt (show 0<(zaa.slice 97).sz by decide);rw [show (zaa.slice 97).sz=1 from rfl,Nat.mul_one,Nat.add_zero] at s0;have sf0:=(sp.below hb2).frozen k;have N:=sp.next hb2 hlt o2 hb.size;have N2:Below w.heap.size w (stN w2 w.heap.size (k*(zaa.slice 97).sz) [.slice bao9 (x k).1 bcap9]):=(hb.trans (hb2.mono hb.size)).trans (zaS (Nat.le_refl _) _ _);rw [show (zaa.slice 97).sz=1 from rfl,Nat.mul_one] at N N2;clear o2 hb2 sp hb
   go_wp2_with fail
   go_roundw
   case rel=>
    obtain ⟨ce',Ls',N⟩:=N;exact ⟨k+1,by omega,by go_num,ce',Ls',N,N2⟩
   case measure=>simp [intOf];omega
  ·obtain rfl:k=n:=by omega
   go_wp2;go_ret;exact ⟨_,rfl,sp.done (Nat.le_refl _),hb⟩
end Go.Proofs.YtlpbohnadenacaaGreat
