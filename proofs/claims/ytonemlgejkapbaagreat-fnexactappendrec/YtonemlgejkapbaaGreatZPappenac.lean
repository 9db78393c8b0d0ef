/- Walks of the two powers and inverses. -/
import Derived.Laws.CopyOwn
import Derived.Deep.DeepCutAuto
import Derived.Test.YtonemlgejkapbaaGreatZPappenab
set_option linter.unusedVariables false
set_option linter.unusedSimpArgs false
set_option maxHeartbeats 16000000
namespace Go.Proofs.YtonemlgejkapbaaGreat
open Go.RowKit F256
theorem zaT (v a b:Int) (h1:a≤v) (h2:v≤b) (w:World) :
 Calls Tryz.prog 30 #[.int .i64 v,.int .i64 a,.int .i64 b] w fun e w'=>e=.returned (.bool true)∧w'=w:=by
 go_enter Tryz.func30,Tryz.ntmps30
 go_wp2;go_ret;exact ⟨rfl,rfl⟩
theorem zca (v a b:Int) (h:v<a∨b<v) (w:World) :
 Calls Tryz.prog 30 #[.int .i64 v,.int .i64 a,.int .i64 b] w fun e w'=>e=.returned (.bool false)∧w'=w:=by
 by_cases h1:v<a
 ·have hd:decide (a≤v)=false:=by simp;omega
  go_enter Tryz.func30,Tryz.ntmps30
  go_wp2;go_ret;exact ⟨rfl,rfl⟩
 ·have h2:b<v:=by omega
  have h3:a≤v:=by omega
  have hd:decide (v≤b)=false:=by simp;omega
  go_enter Tryz.func30,Tryz.ntmps30
  go_wp2;go_ret;exact ⟨rfl,rfl⟩
theorem Own.full {w:World} {lo hi g n:Nat} {f:Nat→Nat} (h:Own w lo hi (.slice (some ⟨g,0,none⟩) n n) n f):w.heap[g]?=some (.cells (cellsOf n f).toArray 5 (0,0)):=by
 rcases h.1.2 with ⟨h',_⟩ | ⟨g',cap',cur,h',_,hg,_,_,hcs,htake⟩
 ·simp at h'
 ·simp only [Value.slice.injEq,Option.some.injEq,Addr.mk.injEq,and_true,true_and] at h'
  obtain ⟨rfl,rfl⟩:=h'
  have:cur=(cellsOf n f).toArray:=by
   rw [← htake,List.take_of_length_le (by simp;omega)]
  rw [← this];exact hg
theorem zgc {w:World} {lo g n:Nat} {f:Nat→Nat} (hg:w.heap[g]?=some (.cells (cellsOf n f).toArray 5 (0,0))) (hlo:lo≤g) (hm:n≤maxLen):Own w lo w.heap.size (.slice (some ⟨g,0,none⟩) n n) n f:=
 ⟨⟨by rw [zan];omega,.inr ⟨g,n,_,rfl,hlo,hg,Nat.le_refl _,hm,by simp [zan],by simp [List.take_of_length_le,zan]⟩⟩,fun k hk=>by
  simp [Value.ownBlock] at hk
  subst hk
  exact (Array.getElem?_eq_some_iff.1 hg).1⟩
theorem zfu (N off m:Nat) (f t h:Nat→Nat) (hm:off+m≤N) (hh:∀ i,i<N→h i=if off≤i∧i<off+m then t (i-off) else f i):splice (cellsOf N f) off (cellsOf m t)=cellsOf N h:=by
 unfold splice
 apply List.ext_getElem?
 intro i
 by_cases hi:i<N
 ·rw [zaY N h i hi,hh i hi]
  by_cases h1:i<off
  ·have e1:¬ (off≤i∧i<off+m):=by omega
   rw [if_neg e1,List.getElem?_append_left (by rw [List.length_take,zan];omega),List.getElem?_take,if_pos h1,zaY N f i hi]
  ·rw [List.getElem?_append_right (by rw [List.length_take,zan];omega)]
   have e0:(List.take off (cellsOf N f)).length=off:=by rw [List.length_take,zan];omega
   rw [e0]
   by_cases h2:i<off+m
   ·rw [if_pos ⟨by omega,h2⟩,List.getElem?_append_left (by rw [zan];omega),zaY m t _ (by omega)]
   ·have e1:¬ (off≤i∧i<off+m):=by omega
    rw [if_neg e1,List.getElem?_append_right (by rw [zan];omega),zan,List.getElem?_drop,show off+m+(i-off-m)=i by omega,zaY N f i hi]
 ·rw [List.getElem?_eq_none (by simp [zan];omega),List.getElem?_eq_none (by rw [zan];omega)]
theorem add_none' (b off j:Nat):(⟨b,off,none⟩:Addr).add j=⟨b,off+j,none⟩:=by unfold Addr.add;split<;>simp_all
theorem zgW {w:World} {hi n cap:Nat} {ao:Option Addr} {f:Nat→Nat} (r:Rd w hi (.slice ao n cap) n f) (h:0<(cellsOf n f).length):∃ ad,ao=some ad∧∀ j v,(cellsOf n f)[j]?=some v→w.cell? (ad.add j)=some v:=by
 rw [zan] at h;obtain ⟨ao',cap',he,_,hc⟩:=r
 simp only [Value.slice.injEq,true_and] at he
 obtain ⟨rfl,rfl⟩:=he;obtain ⟨b,off,rfl,_,hcell⟩:=hc (by omega);refine ⟨_,rfl,fun j v hj=>?_⟩
 by_cases hjn:j<n
 ·rw [zaY n f j hjn] at hj
  rw [add_none',hcell j hjn];exact hj
 ·rw [List.getElem?_eq_none (by rw [zan];omega)] at hj
  cases hj
theorem zdO (n:Nat) (f:Nat→Nat):∀ v∈cellsOf n f,v.oneCell'=true:=fun v hv=>by
 simp only [cellsOf,List.mem_map] at hv
 obtain ⟨i,_,rfl⟩:=hv;rfl
theorem ziO:(Tryz.prog.info? 5).map (·.size)=some 1:=by kernel_rfl
structure Bld (w wr:World) (lo:Nat) (v:Value) (k:Nat) (n:Nat→Nat) (f:Mat) (e:Nat→Value):Prop where
 row:wr.ownsRow lo 29 1 v k (zfh k e)
 notnil:v≠nilS
 each:∀ i,i<k→Own wr lo wr.heap.size (e i) (n i) (f i)
 apart:∀ i j,i<k→j<k→i≠j→∀ b,(e i).ownBlock=some b→(e j).ownBlock≠some b
 bel:Below lo w wr
 le:lo≤wr.heap.size
structure BldR (wr:World) (lo hi:Nat) (v:Value) (k:Nat) (n:Nat→Nat) (f:Mat) (e:Nat→Value):Prop where
 row:wr.ownsRow lo 29 1 v k (zfh k e)
 notnil:v≠nilS
 low:∀ b,v.ownBlock=some b→b<hi
 each:∀ i,i<k→Own wr lo hi (e i) (n i) (f i)
 apart:∀ i j,i<k→j<k→i≠j→∀ b,(e i).ownBlock=some b→(e j).ownBlock≠some b
 le:lo≤hi
 le2:hi≤wr.heap.size
def zbK (P:Prop) (w:World) (e:Ending) (w':World):Prop:=∃ b:Bool,e=.returned (.bool b)∧(b=true↔P)∧Below w.heap.size w w'
theorem zaI {P:Prop} {w:World} {e:Ending} {w':World} (he:e=.returned (.bool true)) (h:P) (hb:Below w.heap.size w w'):zbK P w e w':=⟨true,he,⟨fun _=>h,fun _=>rfl⟩,hb⟩
theorem zat {P:Prop} {w:World} {e:Ending} {w':World} (he:e=.returned (.bool false)) (h:¬ P) (hb:Below w.heap.size w w'):zbK P w e w':=⟨false,he,⟨fun h=>(by cases h),fun hh=>absurd hh h⟩,hb⟩
def Shp (d s:Int):Prop:=1≤d∧d≤3∧0≤s∧s≤2
theorem zgd (d s:Int) (w:World) :
 Calls Tryz.prog 135 #[.int .i64 d,.int .i64 s] w (zbK (Shp d s) w):=by
 by_cases h1:1≤d∧d≤3
 ·by_cases h2:0≤s∧s≤2
  ·go_enter Tryz.func135,Tryz.ntmps135
   go_wp2_with fail
   refine (zaT d 1 3 h1.1 h1.2 _).mono ?_;rintro e w1 ⟨rfl,rfl⟩
   go_wp2_with fail
   refine (zaT s 0 2 h2.1 h2.2 _).mono ?_;rintro e w1 ⟨rfl,rfl⟩;go_wp2;go_ret;exact zaI rfl ⟨h1.1,h1.2,h2.1,h2.2⟩ (Below.refl _ _)
  ·go_enter Tryz.func135,Tryz.ntmps135
   go_wp2_with fail
   refine (zaT d 1 3 h1.1 h1.2 _).mono ?_;rintro e w1 ⟨rfl,rfl⟩
   go_wp2_with fail
   refine (zca s 0 2 (by omega) _).mono ?_;rintro e w1 ⟨rfl,rfl⟩;go_wp2;go_ret;exact zat rfl (fun h=>h2 ⟨h.2.2.1,h.2.2.2⟩) (Below.refl _ _)
 ·go_enter Tryz.func135,Tryz.ntmps135
  go_wp2_with fail
  refine (zca d 1 3 (by omega) _).mono ?_;rintro e w1 ⟨rfl,rfl⟩;go_wp2;go_ret;exact zat rfl (fun h=>h1 ⟨h.1,h.2.1⟩) (Below.refl _ _)
def zcC (n:Nat) (g:Nat→Int) (most:Int):Prop:=∀ i,i<n→0≤g i∧g i≤most∧(0<i→g (i-1)<g i)
theorem zhh (v:Value) (n:Nat) (g:Nat→Int) (hi:Nat) (most:Int) (w:World) (r:RdI w hi v n g) :
 Calls Tryz.prog 93 #[v,.int .i64 most] w (zbK (zcC n g most) w):=by
 obtain ⟨ao,cap,rfl,hm,hc⟩:=r;unfold maxLen at hm
 go_enter Tryz.func93,Tryz.ntmps93
 go_wp2
 go_loopw [5] (fun i wr=>∃ k:Nat,k≤n∧i=.int .i64 k∧(∀ i,i<k→0≤g i∧g i≤most∧(0<i→g (i-1)<g i))∧∃ q,wr=w.drewN q) (fun i _=>n-(intOf i).toNat)
 case atStart=>exact ⟨0,Nat.zero_le _,rfl,fun i hi=>by omega,0,rfl⟩
 case round=>
  obtain ⟨k,hk,rfl,hall,q,rfl⟩:=hrel;have HALL:=hid hall;clear hall
  by_cases hlt:k<n
  ·obtain ⟨b,off,rfl,hblt,hcell⟩:=hc (by omega)
   have hck:w.cell? ⟨b,off+k,none⟩=some (.int .i64 (g k)):=hcell k hlt;have HCL:=hid hcell;obtain ⟨x,hx⟩:∃ x,x=g k:=⟨_,rfl⟩;have HX:=hid hx;rw [← hx] at hck;clear hc hcell hx
   by_cases h1:x<0
   ·have no:¬ zcC n g most:=fun h=>by have:=(h k hlt).1;rw [← HX.out] at this;omega
    have HNO:=hid no;clear no;go_wp2
    go_quiet (fail)
    go_wp2;go_ret;exact zat rfl HNO.out (below_drewN (below_drewN (Below.refl _ _) _) _)
   ·have e1:decide (
     x<0)=false:=by simp;omega
    by_cases h2:most<x
    ·have HNO:Hid (¬ zcC n g most):=fun h=>by have:=(h k hlt).2.1;rw [← HX.out] at this;omega
     go_wp2
     go_quiet (fail)
     go_wp2;go_ret;exact zat rfl HNO.out (below_drewN (below_drewN (Below.refl _ _) _) _)
    ·have e2:decide (
      most<x)=false:=by simp;omega
     by_cases h3:0<k
     ·obtain ⟨k1,hk1⟩:∃ k1,k1+1=k:=⟨k-1,by omega⟩
      have hcp:w.cell? ⟨b,off+k1,none⟩=some (.int .i64 (g k1)):=HCL.out k1 (by omega);obtain ⟨y,hy⟩:∃ y,y=g k1:=⟨_,rfl⟩
      have HY:Hid (y=g (k-1)):=by show y=g (k-1);rw [hy,show k-1=k1 by omega]
      rw [← hy] at hcp
      have wsub:IntKind.i64.wrap ((k:Int)-1)=(k1:Int):=by rw [IntKind.wrap_i64];omega
      have hk1n:k1<n:=by omega
      have e3:((0:Int)<(k:Int)):=by omega
      have HK1:=hid hk1;clear hy hk1
      by_cases h4:x≤y
      ·have HNO:Hid (¬ zcC n g most):=fun h=>by have:=(h k hlt).2.2 h3;rw [← HX.out,← HY.out] at this;omega
       go_wp2
       go_quiet (fail)
       go_wp2;go_ret;exact zat rfl HNO.out (below_drewN (below_drewN (Below.refl _ _) _) _)
      ·have e4:decide (x≤y)=false:=by simp;omega
       have HF:Hid (0≤g k∧g k≤most∧(0<k→g (k-1)<g k)):=by
        show 0≤g k∧g k≤most∧(0<k→g (k-1)<g k)
        rw [← HX.out,← HY.out];exact ⟨by omega,by omega,fun _=>by omega⟩
       go_wp2
       go_quiet (fail)
       go_wp2
       go_roundw
       case rel=>exact ⟨k+1,by omega,by go_num,fun i hi=>by
        by_cases c:i=k
        ·rw [c];exact HF.out
        ·exact HALL.out i (by omega),_,rfl⟩
       case measure=>simp [intOf];omega
     ·have HF:Hid (0≤g k∧g k≤most):=by
       show 0≤g k∧g k≤most
       rw [← HX.out];exact ⟨by omega,by omega⟩
      have e3:decide ((0:Int)<(k:Int))=false:=by simp;omega
      have e3n:decide (0<k)=false:=by simp;omega
      have HK0:Hid (k=0):=by show k=0;omega
      clear h3;go_wp2
      go_quiet (fail)
      go_wp2
      go_roundw
      case rel=>exact ⟨k+1,by omega,by go_num,fun i hi=>by
       have:=HK0.out
       obtain rfl:i=k:=by omega
       exact ⟨HF.out.1,HF.out.2,fun h=>by omega⟩,_,rfl⟩
      case measure=>simp [intOf];omega
  ·obtain rfl:k=n:=by omega
   go_wp2;go_ret;exact zaI rfl HALL.out (below_drewN (Below.refl _ _) _)
end Go.Proofs.YtonemlgejkapbaaGreat
namespace Go.Proofs.YtonemlgejkapbaaGreat
open F256
def Shp3 (d s:Int):Prop:=1≤d∧d≤4∧0≤s∧s≤2
def HasP (n:Nat) (g:Nat→Int) (x:Int):Prop:=∃ i,i<n∧g i=x
end Go.Proofs.YtonemlgejkapbaaGreat
namespace Go.Proofs.YtonemlgejkapbaaGreat
open Go.RowKit F256
structure BldO (wr:World) (lo hi:Nat) (v:Value) (k:Nat) (n:Nat→Nat) (f:Mat) (e:Nat→Value):Prop where
 row:wr.ownsRow lo 29 1 v k (zfh k e)
 low:∀ b,v.ownBlock=some b→b<hi
 each:∀ i,i<k→Own wr lo hi (e i) (n i) (f i)
 apart:∀ i j,i<k→j<k→i≠j→∀ b,(e i).ownBlock=some b→(e j).ownBlock≠some b
 le:lo≤hi
 le2:hi≤wr.heap.size
theorem zge (d s:Int) (w:World) :
 Calls Tryz.prog 134 #[.int .i64 d,.int .i64 s] w (zbK (Shp3 d s) w):=by
 by_cases h1:1≤d∧d≤4
 ·by_cases h2:0≤s∧s≤2
  ·go_enter Tryz.func134,Tryz.ntmps134
   go_wp2_with fail
   refine (zaT d 1 4 h1.1 h1.2 _).mono ?_;rintro e w1 ⟨rfl,rfl⟩
   go_wp2_with fail
   refine (zaT s 0 2 h2.1 h2.2 _).mono ?_;rintro e w1 ⟨rfl,rfl⟩;go_wp2;go_ret;exact zaI rfl ⟨h1.1,h1.2,h2.1,h2.2⟩ (Below.refl _ _)
  ·go_enter Tryz.func134,Tryz.ntmps134
   go_wp2_with fail
   refine (zaT d 1 4 h1.1 h1.2 _).mono ?_;rintro e w1 ⟨rfl,rfl⟩
   go_wp2_with fail
   refine (zca s 0 2 (by omega) _).mono ?_;rintro e w1 ⟨rfl,rfl⟩;go_wp2;go_ret;exact zat rfl (fun h=>h2 ⟨h.2.2.1,h.2.2.2⟩) (Below.refl _ _)
 ·go_enter Tryz.func134,Tryz.ntmps134
  go_wp2_with fail
  refine (zca d 1 4 (by omega) _).mono ?_;rintro e w1 ⟨rfl,rfl⟩;go_wp2;go_ret;exact zat rfl (fun h=>h1 ⟨h.1,h.2.1⟩) (Below.refl _ _)
theorem zgf (s:Nat→Int) (w:World) :
 Calls Tryz.prog 35 #[zak s] w fun e w'=>e=.returned (zak s)∧Below w.heap.size w w':=by
 unfold zak;obtain ⟨a0,h0⟩:∃ a,a=s 0:=⟨_,rfl⟩;obtain ⟨a1,h1⟩:∃ a,a=s 1:=⟨_,rfl⟩;obtain ⟨a2,h2⟩:∃ a,a=s 2:=⟨_,rfl⟩;obtain ⟨a3,h3⟩:∃ a,a=s 3:=⟨_,rfl⟩;obtain ⟨a4,h4⟩:∃ a,a=s 4:=⟨_,rfl⟩;obtain ⟨a5,h5⟩:∃ a,a=s 5:=⟨_,rfl⟩;obtain ⟨a6,h6⟩:∃ a,a=s 6:=⟨_,rfl⟩;obtain ⟨a7,h7⟩:∃ a,a=s 7:=⟨_,rfl⟩;obtain ⟨a8,h8⟩:∃ a,a=s 8:=⟨_,rfl⟩;rw [← h0,← h1,← h2,← h3,← h4,← h5,← h6,← h7,← h8];clear h0 h1 h2 h3 h4 h5 h6 h7 h8
 go_enter Tryz.func35,Tryz.ntmps35
 go_wp2;refine bodyPost_ret (v:=.agg #[.int .i64 a0,.int .i64 a1,.int .i64 a2,.int .i64 a3,.int .i64 a4,.int .i64 a5,.int .i64 a6,.int .i64 a7,.int .i64 a8]) (by simp [results,Tryz.results35,go_sem]) rfl ⟨rfl,?_⟩;exact (((Below.refl _ _).alloc (Nat.le_refl _) _).alloc (by simp) _).alloc (by simp<;>omega) _
def zaq (s:Nat→Int):Prop:=Shp3 (s 0) (s 1)∧Shp (s 2) (s 3)∧(1≤s 4∧s 4≤6)∧(1≤s 5∧s 5≤6)∧(1≤s 6∧s 6≤4)∧(1≤s 7∧s 7≤6)∧(0≤s 8∧s 8≤400)
def ziH (s:Nat→Int) (x:Int):Prop:=(x=3∧¬ zaq s)∨(x=0∧zaq s)
theorem box9 {w:World} {b:Nat} {t:TypeId} {a0 a1 a2 a3 a4 a5 a6 a7 a8:Value} (h:Box w b #[a0,a1,a2,a3,a4,a5,a6,a7,a8] t) :
 w.cell? ⟨b,0,none⟩=some a0∧w.cell? ⟨b,1,none⟩=some a1∧w.cell? ⟨b,2,none⟩=some a2∧w.cell? ⟨b,3,none⟩=some a3∧w.cell? ⟨b,4,none⟩=some a4∧w.cell? ⟨b,5,none⟩=some a5∧w.cell? ⟨b,6,none⟩=some a6∧w.cell? ⟨b,7,none⟩=some a7∧w.cell? ⟨b,8,none⟩=some a8:=
 ⟨h.cell 0,h.cell 1,h.cell 2,h.cell 3,h.cell 4,h.cell 5,h.cell 6,h.cell 7,h.cell 8⟩
theorem zbm (s:Nat→Int) (w:World) :
 Calls Tryz.prog 89 #[zak s] w fun e w'=>∃ x,e=.returned (.int .i64 x)∧ziH s x∧Below w.heap.size w w':=by
 unfold zak;have HOK:Hid (zaq s↔zaq s):=Iff.rfl;unfold zaq at HOK;obtain ⟨a0,h0⟩:∃ a,a=s 0:=⟨_,rfl⟩;obtain ⟨a1,h1⟩:∃ a,a=s 1:=⟨_,rfl⟩;obtain ⟨a2,h2⟩:∃ a,a=s 2:=⟨_,rfl⟩;obtain ⟨a3,h3⟩:∃ a,a=s 3:=⟨_,rfl⟩;obtain ⟨a4,h4⟩:∃ a,a=s 4:=⟨_,rfl⟩;obtain ⟨a5,h5⟩:∃ a,a=s 5:=⟨_,rfl⟩;obtain ⟨a6,h6⟩:∃ a,a=s 6:=⟨_,rfl⟩;obtain ⟨a7,h7⟩:∃ a,a=s 7:=⟨_,rfl⟩;obtain ⟨a8,h8⟩:∃ a,a=s 8:=⟨_,rfl⟩
 have HIFF:Hid (zaq s↔(Shp3 a0 a1∧Shp a2 a3∧(1≤a4∧a4≤6)∧(1≤a5∧a5≤6)∧(1≤a6∧a6≤4)∧(1≤a7∧a7≤6)∧(0≤a8∧a8≤400))):=by
  show zaq s↔_
  rw [h0,h1,h2,h3,h4,h5,h6,h7,h8];exact Iff.rfl
 rw [← h0,← h1,← h2,← h3,← h4,← h5,← h6,← h7,← h8];clear h0 h1 h2 h3 h4 h5 h6 h7 h8 HOK
 go_enter Tryz.func89,Tryz.ntmps89
 go_wp2_with fail
 refine (zge a0 a1 _).mono ?_;rintro e w1 ⟨b1,rfl,hb1,b1'⟩;have X1:Box w1 w.heap.size #[.int .i64 a0,.int .i64 a1,.int .i64 a2,.int .i64 a3,.int .i64 a4,.int .i64 a5,.int .i64 a6,.int .i64 a7,.int .i64 a8] 34:=(zaz w _ _).below b1' (by simp);have B1:Below w.heap.size w w1:=bnew b1';have H1:=hid hb1;have z1:=X1.lt;obtain ⟨x0,x1,x2,x3,x4,x5,x6,x7,x8⟩:=box9 X1;clear hb1 b1'
 cases b1 with
 | false=>
  have HNO:Hid (¬ zaq s):=fun h=>by have:=H1.out.mpr (HIFF.out.mp h).1;cases this
  clear H1;go_wp2;go_ret;exact ⟨3,rfl,.inl ⟨rfl,HNO.out⟩,B1⟩
 | true=>
  have HS1:Hid (Shp3 a0 a1):=H1.out.mp rfl;clear H1
  go_wp2_with fail
  refine (zgd a2 a3 _).mono ?_;rintro e w2 ⟨b2,rfl,hb2,b2'⟩;have X2:=X1.below b2' z1;have B2:Below w.heap.size w w2:=B1.trans (b2'.mono B1.size);have H2:=hid hb2;clear x0 x1 x2 x3 x4 x5 x6 x7 x8;obtain ⟨x0,x1,x2,x3,x4,x5,x6,x7,x8⟩:=box9 X2;clear hb2 b2' X1 B1
  cases b2 with
  | false=>
   have HNO:Hid (¬ zaq s):=fun h=>by have:=H2.out.mpr (HIFF.out.mp h).2.1;cases this
   clear H2;go_wp2;go_ret;exact ⟨3,rfl,.inl ⟨rfl,HNO.out⟩,B2⟩
  | true=>
   have HS2:Hid (Shp a2 a3):=H2.out.mp rfl;clear H2
   by_cases c4:1≤a4∧a4≤6
   ·by_cases c5:1≤a5∧a5≤6
    ·by_cases c6:1≤a6∧a6≤4
     ·by_cases c7:1≤a7∧a7≤6
      ·by_cases c8:0≤a8∧a8≤400
       ·have HY:Hid (zaq s):=HIFF.out.mpr ⟨HS1.out,HS2.out,c4,c5,c6,c7,c8⟩
        go_wp2_with fail
        refine (zaT a4 1 6 c4.1 c4.2 _).mono ?_;rintro e w3 ⟨rfl,hw⟩;obtain rfl:=hw.symm
        go_wp2_with fail
        refine (zaT a5 1 6 c5.1 c5.2 _).mono ?_;rintro e w3 ⟨rfl,hw⟩;obtain rfl:=hw.symm
        go_wp2_with fail
        refine (zaT a6 1 4 c6.1 c6.2 _).mono ?_;rintro e w3 ⟨rfl,hw⟩;obtain rfl:=hw.symm
        go_wp2_with fail
        refine (zaT a7 1 6 c7.1 c7.2 _).mono ?_;rintro e w3 ⟨rfl,hw⟩;obtain rfl:=hw.symm
        go_wp2_with fail
        refine (zaT a8 0 400 c8.1 c8.2 _).mono ?_;rintro e w3 ⟨rfl,hw⟩;obtain rfl:=hw.symm;go_wp2;go_ret;exact ⟨0,rfl,.inr ⟨rfl,HY.out⟩,B2⟩
       ·have HN:Hid (¬ zaq s):=fun h=>c8 (HIFF.out.mp h).2.2.2.2.2.2
        have c8':a8<0∨400<a8:=by omega
        clear c8
        go_wp2_with fail
        refine (zaT a4 1 6 c4.1 c4.2 _).mono ?_;rintro e w3 ⟨rfl,hw⟩;obtain rfl:=hw.symm
        go_wp2_with fail
        refine (zaT a5 1 6 c5.1 c5.2 _).mono ?_;rintro e w3 ⟨rfl,hw⟩;obtain rfl:=hw.symm
        go_wp2_with fail
        refine (zaT a6 1 4 c6.1 c6.2 _).mono ?_;rintro e w3 ⟨rfl,hw⟩;obtain rfl:=hw.symm
        go_wp2_with fail
        refine (zaT a7 1 6 c7.1 c7.2 _).mono ?_;rintro e w3 ⟨rfl,hw⟩;obtain rfl:=hw.symm
        go_wp2_with fail
        refine (zca a8 0 400 c8' _).mono ?_;rintro e w3 ⟨rfl,hw⟩;obtain rfl:=hw.symm;go_wp2;go_ret;exact ⟨3,rfl,.inl ⟨rfl,HN.out⟩,B2⟩
      ·have HN:Hid (¬ zaq s):=fun h=>c7 (HIFF.out.mp h).2.2.2.2.2.1
       have c7':a7<1∨6<a7:=by omega
       clear c7
       go_wp2_with fail
       refine (zaT a4 1 6 c4.1 c4.2 _).mono ?_;rintro e w3 ⟨rfl,hw⟩;obtain rfl:=hw.symm
       go_wp2_with fail
       refine (zaT a5 1 6 c5.1 c5.2 _).mono ?_;rintro e w3 ⟨rfl,hw⟩;obtain rfl:=hw.symm
       go_wp2_with fail
       refine (zaT a6 1 4 c6.1 c6.2 _).mono ?_;rintro e w3 ⟨rfl,hw⟩;obtain rfl:=hw.symm
       go_wp2_with fail
       refine (zca a7 1 6 c7' _).mono ?_;rintro e w3 ⟨rfl,hw⟩;obtain rfl:=hw.symm;go_wp2;go_ret;exact ⟨3,rfl,.inl ⟨rfl,HN.out⟩,B2⟩
     ·have HN:Hid (¬ zaq s):=fun h=>c6 (HIFF.out.mp h).2.2.2.2.1
      have c6':a6<1∨4<a6:=by omega
      clear c6
      go_wp2_with fail
      refine (zaT a4 1 6 c4.1 c4.2 _).mono ?_;rintro e w3 ⟨rfl,hw⟩;obtain rfl:=hw.symm
      go_wp2_with fail
      refine (zaT a5 1 6 c5.1 c5.2 _).mono ?_;rintro e w3 ⟨rfl,hw⟩;obtain rfl:=hw.symm
      go_wp2_with fail
      refine (zca a6 1 4 c6' _).mono ?_;rintro e w3 ⟨rfl,hw⟩;obtain rfl:=hw.symm;go_wp2;go_ret;exact ⟨3,rfl,.inl ⟨rfl,HN.out⟩,B2⟩
    ·have HN:Hid (¬ zaq s):=fun h=>c5 (HIFF.out.mp h).2.2.2.1
     have c5':a5<1∨6<a5:=by omega
     clear c5
     go_wp2_with fail
     refine (zaT a4 1 6 c4.1 c4.2 _).mono ?_;rintro e w3 ⟨rfl,hw⟩;obtain rfl:=hw.symm
     go_wp2_with fail
     refine (zca a5 1 6 c5' _).mono ?_;rintro e w3 ⟨rfl,hw⟩;obtain rfl:=hw.symm;go_wp2;go_ret;exact ⟨3,rfl,.inl ⟨rfl,HN.out⟩,B2⟩
   ·have HN:Hid (¬ zaq s):=fun h=>c4 (HIFF.out.mp h).2.2.1
    have c4':a4<1∨6<a4:=by omega
    clear c4
    go_wp2_with fail
    refine (zca a4 1 6 c4' _).mono ?_;rintro e w3 ⟨rfl,hw⟩;obtain rfl:=hw.symm;go_wp2;go_ret;exact ⟨3,rfl,.inl ⟨rfl,HN.out⟩,B2⟩
set_option maxRecDepth 20000 in
theorem zhi:ToV zah zaB 9:=fun cs d hi w r hhi hn=>by
 obtain ⟨ao1,cap1,rfl,h1,k0⟩:=zba r;clear r;unfold zaB at hn;have R1:=hid h1;clear h1;have Q0:=hid k0;clear k0
 go_enter Tryz.func9,Tryz.ntmps9
 go_wp2_with fail
 have T0:=zbJ w #[.int .i64 d.stamp,.slice ao1 d.bytes.1 cap1] #[.int .i64 0,.slice none 0 0] #[.int .i64 d.stamp,.slice none 0 0] 31 43 43;refine (zdf _ d.bytes hi _ (zad.rd_below R1.out T0.bel hhi) (Nat.le_trans hhi T0.bel.size) (by omega)).mono ?_;rintro e w1 ⟨v1,rfl,o1,b1⟩;have L1:=T0.lt;obtain ⟨bo1,bcap1,hv⟩:=za9 o1;obtain rfl:=zaL hv;clear hv;have T1:Three w w1 #[.int .i64 d.stamp,.slice ao1 d.bytes.1 cap1] #[.int .i64 0,.slice none 0 0] #[.int .i64 d.stamp,.slice none 0 0] 31 43 43:=T0.call b1;have O1:Hid (OwnT zad w1 (w.heap.size+1+1+1) (w1.heap.size) d.bytes [.slice bo1 d.bytes.1 bcap1]):=o1.weaken (by simp<;>omega) (Nat.le_refl _);clear o1;have LT1:w.heap.size+1+1+1≤w1.heap.size:=T1.lt;have y1_0:w1.cell? ⟨w.heap.size+1+1,0,none⟩=some (.int .i64 d.stamp):=T1.b3.cell 0;have y1_1:w1.cell? ⟨w.heap.size+1+1,1,none⟩=some (.slice none 0 0):=T1.b3.cell 1;have yf1_1:w1.frozen? ⟨w.heap.size+1+1,1,none⟩=false:=T1.b3.frozen 1;have z1_0:w1.cell? ⟨w.heap.size+1,0,none⟩=some (.int .i64 0):=T1.b2.cell 0;have zf1_0:w1.frozen? ⟨w.heap.size+1,0,none⟩=false:=T1.b2.frozen 0;have z1_1:w1.cell? ⟨w.heap.size+1,1,none⟩=some (.slice none 0 0):=T1.b2.cell 1;have zf1_1:w1.frozen? ⟨w.heap.size+1,1,none⟩=false:=T1.b2.frozen 1;have Bq:=hid T1.bel;clear T1 b1;go_wp2;refine bodyPost_ret (v:=.agg #[.int .i64 d.stamp,.slice bo1 d.bytes.1 bcap1]) (by simp [results,Tryz.results9,go_sem,y1_0,z1_0,y1_1,z1_1]) rfl ?_;have F:OwnT zah w1 (w.heap.size+1+1+1) w1.heap.size d ([.int .i64 d.stamp]++[.slice bo1 d.bytes.1 bcap1]):=OwnT.conv (OwnT.pre (A:=layI) (a:=d.stamp) (c:=[.int .i64 d.stamp]) ⟨rfl,Q0.out,rfl⟩ (O1.out));exact ⟨[.int .i64 d.stamp,.slice bo1 d.bytes.1 bcap1],rfl,OwnT.fin F 1 0 [.slice bo1 d.bytes.1 bcap1] [.int .i64 d.stamp,.slice bo1 d.bytes.1 bcap1] _ rfl,zcx Bq.out 1 0 [.slice bo1 d.bytes.1 bcap1] [.int .i64 d.stamp,.slice bo1 d.bytes.1 bcap1] _ rfl⟩
theorem zgg:(Tryz.prog.info? 43).map (fun i=>(i.zero.map (·.cells),i.size,i.bytes))=some (some #[.int .i64 0,.slice none 0 0],2,32):=by kernel_rfl
theorem zgh:ToS (zah.slice 43) (szSl zaB) 146:=fun v d hi w h hhi hn=>by
 obtain ⟨n,x⟩:=d;obtain ⟨ao,cap,hv,hm,hc⟩:=h
 cases hv
 have hn1:=zb1 hn;have hn2:∀ i,i<n→zaB (x i)≤1048576:=fun i hi=>zbf hn hi
 simp only at hn1 hm hc
 clear hn
 go_enter Tryz.func146,Tryz.ntmps146
 go_wp2_with (at_make;refine zbM zah [.int .i64 0,.slice none 0 0] _ 43 32 (by decide) rfl Tryz.underlying73 zgg x (fun _=>[]) _ rfl _ _ rfl _ _ n rfl rfl rfl rfl (by omega) (by omega) ?_;intro w1 sp1 hb1)
 go_loopw [4] (fun i wr=>∃ k:Nat,k≤n∧i=.int .i64 k∧∃ ce Ls,SlP zah 43 wr w.heap.size w.heap.size n n k x ce Ls∧Below w.heap.size w wr) (fun i _=>n-(intOf i).toNat)
 case atStart=>exact ⟨0,Nat.zero_le _,rfl,_,_,sp1,hb1⟩
 case round=>
  clear sp1 hb1;obtain ⟨k,hk,rfl,ce,Ls,sp,hb⟩:=hrel
  by_cases hlt:k<n
  ·obtain ⟨b,off,rfl,hblt,hel⟩:=hc (by omega)
   obtain ⟨ck,hrk,hcell⟩:=zas (t:=0) hel hb hhi hblt hlt;obtain ⟨ao1,cap1,rfl,-⟩:=zba hrk;have c0:wr.cell? ⟨b,off+k*2,none⟩=some (.int .i64 (x k).stamp):=hcell 0 (by decide);have c1:wr.cell? ⟨b,off+k*2+1,none⟩=some (.slice ao1 (x k).bytes.1 cap1):=hcell 1 (by decide);clear hc hel hcell
   go_wp2_with fail
   refine (zhi _ (x k) hi wr hrk (Nat.le_trans hhi hb.size) (hn2 k hlt)).mono ?_;rintro e w2 ⟨cs',rfl,o2,hb2⟩;obtain ⟨bao1,bcap1,rfl⟩:=zcW o2;obtain ⟨z0,s0⟩:=sp.some hb2 hlt (show 0<zah.sz by decide);have s0:w2.cell? ⟨w.heap.size,k*2,none⟩=some z0:=s0;have sf0:=(sp.below hb2).frozen (k*2);obtain ⟨z1,s1⟩:=sp.some hb2 hlt (show 1<zah.sz by decide);have s1:w2.cell? ⟨w.heap.size,k*2+1,none⟩=some z1:=s1;have sf1:=(sp.below hb2).frozen (k*2+1);have N:=sp.next hb2 hlt o2 hb.size;have N2:Below w.heap.size w (stN w2 w.heap.size (k*zah.sz) [.int .i64 (x k).stamp,.slice bao1 (x k).bytes.1 bcap1]):=(hb.trans (hb2.mono hb.size)).trans (zaK (Nat.le_refl _) _ _);clear o2 hb2 sp hb
   go_wp2_with fail
   go_roundw
   case rel=>
    obtain ⟨ce',Ls',N⟩:=N;exact ⟨k+1,by omega,by go_num,ce',Ls',N,N2⟩
   case measure=>simp [intOf];omega
  ·obtain rfl:k=n:=by omega
   go_wp2;go_ret;exact ⟨_,rfl,sp.done (Nat.le_refl _),hb⟩
set_option maxRecDepth 20000 in
theorem zhj:ToV zab zap 107:=fun cs d hi w r hhi hn=>by
 obtain ⟨ao1,cap1,rfl,h1⟩:=zbh r;clear r;unfold zap at hn;have R1:=hid h1;clear h1
 go_enter Tryz.func107,Tryz.ntmps107
 go_wp2_with fail
 have T0:=zbJ w #[.bool d.wiped,.slice ao1 d.blocks.1 cap1] #[.bool false,.slice none 0 0] #[.bool d.wiped,.slice none 0 0] 140 75 75;refine (zgh _ d.blocks hi _ ((zah.slice 43).rd_below R1.out T0.bel hhi) (Nat.le_trans hhi T0.bel.size) (by omega)).mono ?_;rintro e w1 ⟨v1,rfl,o1,b1⟩;have L1:=T0.lt;obtain ⟨bo1,bcap1,hv⟩:=zbA o1;obtain rfl:=zaL hv;clear hv;have T1:Three w w1 #[.bool d.wiped,.slice ao1 d.blocks.1 cap1] #[.bool false,.slice none 0 0] #[.bool d.wiped,.slice none 0 0] 140 75 75:=T0.call b1;have O1:Hid (OwnT (zah.slice 43) w1 (w.heap.size+1+1+1) (w1.heap.size) d.blocks [.slice bo1 d.blocks.1 bcap1]):=o1.weaken (by simp<;>omega) (Nat.le_refl _);clear o1;have LT1:w.heap.size+1+1+1≤w1.heap.size:=T1.lt;have y1_0:w1.cell? ⟨w.heap.size+1+1,0,none⟩=some (.bool d.wiped):=T1.b3.cell 0;have y1_1:w1.cell? ⟨w.heap.size+1+1,1,none⟩=some (.slice none 0 0):=T1.b3.cell 1;have yf1_1:w1.frozen? ⟨w.heap.size+1+1,1,none⟩=false:=T1.b3.frozen 1;have z1_0:w1.cell? ⟨w.heap.size+1,0,none⟩=some (.bool false):=T1.b2.cell 0;have zf1_0:w1.frozen? ⟨w.heap.size+1,0,none⟩=false:=T1.b2.frozen 0;have z1_1:w1.cell? ⟨w.heap.size+1,1,none⟩=some (.slice none 0 0):=T1.b2.cell 1;have zf1_1:w1.frozen? ⟨w.heap.size+1,1,none⟩=false:=T1.b2.frozen 1;have Bq:=hid T1.bel;clear T1 b1;go_wp2;refine bodyPost_ret (v:=.agg #[.bool d.wiped,.slice bo1 d.blocks.1 bcap1]) (by simp [results,Tryz.results107,go_sem,y1_0,z1_0,y1_1,z1_1]) rfl ?_;have F:OwnT zab w1 (w.heap.size+1+1+1) w1.heap.size d ([.bool d.wiped]++[.slice bo1 d.blocks.1 bcap1]):=OwnT.conv (OwnT.pre (A:=layB) (a:=d.wiped) (c:=[.bool d.wiped]) ⟨rfl,trivial,rfl⟩ (O1.out));exact ⟨[.bool d.wiped,.slice bo1 d.blocks.1 bcap1],rfl,OwnT.fin F 1 0 [.slice bo1 d.blocks.1 bcap1] [.bool d.wiped,.slice bo1 d.blocks.1 bcap1] _ rfl,zcx Bq.out 1 0 [.slice bo1 d.blocks.1 bcap1] [.bool d.wiped,.slice bo1 d.blocks.1 bcap1] _ rfl⟩
theorem zgi:(Tryz.prog.info? 75).map (fun i=>(i.zero.map (·.cells),i.size,i.bytes))=some (some #[.bool false,.slice none 0 0],2,32):=by kernel_rfl
theorem zgj:ToS (zab.slice 75) (szSl zap) 70:=fun v d hi w h hhi hn=>by
 obtain ⟨n,x⟩:=d;obtain ⟨ao,cap,hv,hm,hc⟩:=h
 cases hv
 have hn1:=zb1 hn;have hn2:∀ i,i<n→zap (x i)≤1048576:=fun i hi=>zbf hn hi
 simp only at hn1 hm hc
 clear hn
 go_enter Tryz.func70,Tryz.ntmps70
 go_wp2_with (at_make;refine zbM zab [.bool false,.slice none 0 0] _ 75 32 (by decide) rfl Tryz.underlying76 zgi x (fun _=>[]) _ rfl _ _ rfl _ _ n rfl rfl rfl rfl (by omega) (by omega) ?_;intro w1 sp1 hb1)
 go_loopw [4] (fun i wr=>∃ k:Nat,k≤n∧i=.int .i64 k∧∃ ce Ls,SlP zab 75 wr w.heap.size w.heap.size n n k x ce Ls∧Below w.heap.size w wr) (fun i _=>n-(intOf i).toNat)
 case atStart=>exact ⟨0,Nat.zero_le _,rfl,_,_,sp1,hb1⟩
 case round=>
  clear sp1 hb1;obtain ⟨k,hk,rfl,ce,Ls,sp,hb⟩:=hrel
  by_cases hlt:k<n
  ·obtain ⟨b,off,rfl,hblt,hel⟩:=hc (by omega)
   obtain ⟨ck,hrk,hcell⟩:=zas (t:=0) hel hb hhi hblt hlt;obtain ⟨ao1,cap1,rfl,-⟩:=zbh hrk;have c0:wr.cell? ⟨b,off+k*2,none⟩=some (.bool (x k).wiped):=hcell 0 (by decide);have c1:wr.cell? ⟨b,off+k*2+1,none⟩=some (.slice ao1 (x k).blocks.1 cap1):=hcell 1 (by decide);clear hc hel hcell
   go_wp2_with fail
   refine (zhj _ (x k) hi wr hrk (Nat.le_trans hhi hb.size) (hn2 k hlt)).mono ?_;rintro e w2 ⟨cs',rfl,o2,hb2⟩;obtain ⟨bao1,bcap1,rfl⟩:=zdK o2;obtain ⟨z0,s0⟩:=sp.some hb2 hlt (show 0<zab.sz by decide);have s0:w2.cell? ⟨w.heap.size,k*2,none⟩=some z0:=s0;have sf0:=(sp.below hb2).frozen (k*2);obtain ⟨z1,s1⟩:=sp.some hb2 hlt (show 1<zab.sz by decide);have s1:w2.cell? ⟨w.heap.size,k*2+1,none⟩=some z1:=s1;have sf1:=(sp.below hb2).frozen (k*2+1);have N:=sp.next hb2 hlt o2 hb.size;have N2:Below w.heap.size w (stN w2 w.heap.size (k*zab.sz) [.bool (x k).wiped,.slice bao1 (x k).blocks.1 bcap1]):=(hb.trans (hb2.mono hb.size)).trans (zaK (Nat.le_refl _) _ _);clear o2 hb2 sp hb
   go_wp2_with fail
   go_roundw
   case rel=>
    obtain ⟨ce',Ls',N⟩:=N;exact ⟨k+1,by omega,by go_num,ce',Ls',N,N2⟩
   case measure=>simp [intOf];omega
  ·obtain rfl:k=n:=by omega
   go_wp2;go_ret;exact ⟨_,rfl,sp.done (Nat.le_refl _),hb⟩
theorem zfv:(Tryz.prog.info? 76).map (fun i=>(i.zero.map (·.cells),i.size,i.bytes))=some (some #[.slice none 0 0],1,24):=by kernel_rfl
theorem zfw:ToS ((zab.slice 75).slice 76) (szSl (szSl zap)) 36:=fun v d hi w h hhi hn=>by
 obtain ⟨n,x⟩:=d;obtain ⟨ao,cap,hv,hm,hc⟩:=h
 cases hv
 have hn1:=zb1 hn;have hn2:∀ i,i<n→(szSl zap) (x i)≤1048576:=fun i hi=>zbf hn hi
 simp only at hn1 hm hc
 clear hn
 go_enter Tryz.func36,Tryz.ntmps36
 go_wp2_with (at_make;refine zbM (zab.slice 75) [.slice none 0 0] _ 76 24 (by decide) rfl Tryz.underlying35 zfv x (fun _=>[]) _ rfl _ _ rfl _ _ n rfl rfl rfl rfl (by omega) (by omega) ?_;intro w1 sp1 hb1)
 go_loopw [4] (fun i wr=>∃ k:Nat,k≤n∧i=.int .i64 k∧∃ ce Ls,SlP (zab.slice 75) 76 wr w.heap.size w.heap.size n n k x ce Ls∧Below w.heap.size w wr) (fun i _=>n-(intOf i).toNat)
 case atStart=>exact ⟨0,Nat.zero_le _,rfl,_,_,sp1,hb1⟩
 case round=>
  clear sp1 hb1;obtain ⟨k,hk,rfl,ce,Ls,sp,hb⟩:=hrel
  by_cases hlt:k<n
  ·obtain ⟨b,off,rfl,hblt,hel⟩:=hc (by omega)
   obtain ⟨ck,hrk,hcell⟩:=zas (t:=0) hel hb hhi hblt hlt;obtain ⟨ao9,cap9,rfl⟩:=zbq hrk
   have c0:wr.cell? ⟨b,off+k,none⟩=some (.slice ao9 (x k).1 cap9):=by
    have h:=hcell 0 (show 0<1 by decide);rw [show (zab.slice 75).sz=1 from rfl,Nat.mul_one,Nat.add_zero] at h;exact h
   clear hc hel hcell
   go_wp2_with fail
   refine (zgj _ (x k) hi wr hrk (Nat.le_trans hhi hb.size) (hn2 k hlt)).mono ?_;rintro e w2 ⟨v',rfl,o2,hb2⟩;obtain ⟨bao9,bcap9,hv'⟩:=zbA o2;obtain rfl:=zaL hv';clear hv';obtain ⟨z0,s0⟩:=sp.some hb2 hlt (show 0<(zab.slice 75).sz by decide);rw [show (zab.slice 75).sz=1 from rfl,Nat.mul_one,Nat.add_zero] at s0;have sf0:=(sp.below hb2).frozen k;have N:=sp.next hb2 hlt o2 hb.size;have N2:Below w.heap.size w (stN w2 w.heap.size (k*(zab.slice 75).sz) [.slice bao9 (x k).1 bcap9]):=(hb.trans (hb2.mono hb.size)).trans (zaK (Nat.le_refl _) _ _);rw [show (zab.slice 75).sz=1 from rfl,Nat.mul_one] at N N2;clear o2 hb2 sp hb
   go_wp2_with fail
   go_roundw
   case rel=>
    obtain ⟨ce',Ls',N⟩:=N;exact ⟨k+1,by omega,by go_num,ce',Ls',N,N2⟩
   case measure=>simp [intOf];omega
  ·obtain rfl:k=n:=by omega
   go_wp2;go_ret;exact ⟨_,rfl,sp.done (Nat.le_refl _),hb⟩
end Go.Proofs.YtonemlgejkapbaaGreat
