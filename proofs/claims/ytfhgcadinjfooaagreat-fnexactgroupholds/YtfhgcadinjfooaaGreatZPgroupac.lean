/- Walks of the two powers and inverses. -/
import Derived.Laws.CopyOwn
import Derived.Deep.DeepCutAuto
import Derived.Test.YtfhgcadinjfooaaGreatZPgroupab
set_option linter.unusedVariables false
set_option linter.unusedSimpArgs false
set_option maxHeartbeats 16000000
namespace Go.Proofs.YtfhgcadinjfooaaGreat
open Go.RowKit F256
theorem zgp (a n:Nat) (ha:a<256) (hn:n≤9223372036854775807) (w:World) :
 Calls Tryz.prog 124 #[.int .u8 a,.int .i64 n] w fun e w'=>e=.returned (.int .u8 (powN a n))∧w'=w:=by
 by_cases h0:n=0
 ·subst h0
  go_enter Tryz.func124,Tryz.ntmps124
  go_wp2
  go_loop [1,5] (fun n o=>n=.int .i64 0∧o=.int .u8 1) (fun _ _=>0)
  case atStart=>exact ⟨rfl,rfl⟩
  case round=>
   obtain ⟨rfl,rfl⟩:=hrel;go_wp2;go_ret;exact ⟨rfl,rfl⟩
 ·have hpos:(0:Int)<(n:Int):=by omega
  by_cases h1:a=0
  ·subst h1
   go_enter Tryz.func124,Tryz.ntmps124
   go_wp2;go_ret;exact ⟨zew (by rw [zif (by omega)];rfl),rfl⟩
  ·have hne:((a:Int) != 0)=true:=by simp;omega
   have hne':((a:Int)==0)=false:=by simp;omega
   have hM:Hid (powN a (n%255)=powN a n):=zje ha h1 n;have hm:n%255<255:=Nat.mod_lt _ (by omega)
   go_enter Tryz.func124,Tryz.ntmps124
   go_wp2
   all_goals
    go_loop [1,5] (fun i o=>∃ j k:Nat,j+k=n%255∧i=.int .i64 j∧o=.int .u8 (powN a k)) (fun i _=>(intOf i).toNat)
    case atStart=>exact ⟨n%255,0,rfl,zbv (by omega),rfl⟩
    case round=>
     obtain ⟨j,k,hjk,rfl,rfl⟩:=hrel;have hl:=zaZ (a:=a) k
     by_cases hj:j=0
     ·subst hj
      have HK:Hid (k=n%255):=by rw [Nat.zero_add] at hjk;exact hjk
      clear hjk;go_wp2;go_ret;exact ⟨zew (by rw [← hM.out,← HK.out]),rfl⟩
     ·have hjp:(0:Int)<(j:Int):=by omega
      have HK:Hid (j+k=n%255):=hjk
      have hj2:j≤255:=by omega
      clear hjk
      go_wp2_with (go_at_call 108;refine (zdV _ _ hl ha _).mono ?_;rintro e w1 ⟨rfl,rfl⟩)
      go_round
      case rel=>exact ⟨j-1,k+1,by have:=HK.out;omega,zbv (by omega),rfl⟩
      case measure=>simp [intOf];omega
theorem zjR {p x m v:Nat} (hp:p<256) (hx:x<256) (h:mulN p (powN x m)=v) (ho:m%2=1):mulN (mulN p x) (powN (mulN x x) (m/2))=v:=by
 rw [zf6 hx,zbJ hp hx (zaZ _),← h]
 congr 1
 have e:m=1+2*(m/2):=by omega
 conv=>rhs;rw [e,zeK hx]
 rw [show powN x 1=x from zbt hx]
theorem zjn {p x m v:Nat} (hx:x<256) (h:mulN p (powN x m)=v) (ho:m%2=0):mulN p (powN (mulN x x) (m/2))=v:=by
 rw [zf6 hx,← h];rw [show 2*(m/2)=m by omega]
set_option maxRecDepth 20000 in
theorem zgq (a n:Nat) (ha:a<256) (hn:n≤9223372036854775807) (w:World) :
 Calls Tryz.prog 133 #[.int .u8 a,.int .i64 n] w fun e w'=>e=.returned (.int .u8 (powN a n))∧Below w.heap.size w w':=by
 have h0:¬ (n:Int)<0:=by omega
 go_enter Tryz.func133,Tryz.ntmps133
 go_wp2
 go_loopw [0,1,5] (fun x i o wr=>∃ p y m:Nat,p<256∧y<256∧m≤n∧x=.int .u8 y∧i=.int .i64 m∧o=.int .u8 p∧Hid (mulN p (powN y m)=powN a n)∧Below w.heap.size w wr) (fun _ i _ _=>(intOf i).toNat)
 case atStart=>exact ⟨1,a,n,by omega,ha,Nat.le_refl _,rfl,rfl,rfl,zbt (zaZ _),Below.refl _ _⟩
 case round=>
  obtain ⟨p,y,m,hp,hy,hm,rfl,rfl,rfl,HV,hbel⟩:=hrel
  by_cases hm0:m=0
  ·subst hm0
   go_wp2;go_ret;exact ⟨zew (by rw [← HV.out];show (p:Int)=((mulN p 1:Nat):Int);rw [zc3 hp]),hbel⟩
  ·have hpos:(0:Int)<(m:Int):=by omega
   by_cases hod:m%2=1
   ·have ht:((m:Int)%2==1)=true:=by simp;omega
    go_wp2_with (first | (go_at_call 139;first | (refine (zcV p y hp hy _).mono ?_;rintro e w1 ⟨rfl,hb1⟩) | (refine (zcV y y hy hy _).mono ?_;rintro e w2 ⟨rfl,hb2⟩)))
    go_roundw
    case rel=>exact ⟨mulN p y,mulN y y,m/2,za2 hp,za2 hy,by omega,rfl,zbv (by omega),rfl,zjR hp hy HV.out hod,zdi (zdi hbel hb1) hb2⟩
    case measure=>simp [intOf];omega
   ·have ht:((m:Int)%2==1)=false:=by simp;omega
    go_wp2_with (go_at_call 139;refine (zcV y y hy hy _).mono ?_;rintro e w2 ⟨rfl,hb2⟩)
    go_roundw
    case rel=>exact ⟨p,mulN y y,m/2,hp,za2 hy,by omega,rfl,zbv (by omega),rfl,zjn hy HV.out (by omega),zdi hbel hb2⟩
    case measure=>simp [intOf];omega
theorem zd5 (a:Nat) (ha:a<256) (w:World) :
 Calls Tryz.prog 109 #[.int .u8 a] w fun e w'=>e=.returned (.int .u8 (powN a 254))∧w'=w:=by
 go_enter Tryz.func109,Tryz.ntmps109
 go_wp2_with (go_at_call 124;refine (zgp a 254 ha (by omega) _).mono ?_;rintro e w1 ⟨rfl,rfl⟩)
 go_ret;exact ⟨rfl,rfl⟩
theorem zd6 (a:Nat) (ha:a<256) (w:World) :
 Calls Tryz.prog 119 #[.int .u8 a] w fun e w'=>e=.returned (.int .u8 (powN a 254))∧Below w.heap.size w w':=by
 go_enter Tryz.func119,Tryz.ntmps119
 go_wp2_with (go_at_call 133;refine (zgq a 254 ha (by omega) _).mono ?_;rintro e w1 ⟨rfl,hb⟩)
 go_ret;exact ⟨rfl,hb⟩
def cau (C t:Nat):Nat:=powN ((128+t/C) ^^^ (t%C)) 254
theorem zfE (j i:Nat) (hj:j<16) (hi:i<16) (w:World) :
 Calls Tryz.prog 88 #[.int .i64 j,.int .i64 i] w fun e w'=>e=.returned (.int .u8 (powN ((128+j) ^^^ i) 254))∧w'=w:=by
 have hx:bits .xor .u8 (128+(j:Int)) (i:Int)=(((128+j) ^^^ i:Nat):Int):=u8_xor_nat (128+j) i (by omega) (by omega);have hl:(128+j) ^^^ i<256:=zdy (by omega) (by omega);obtain ⟨y,hy⟩:∃ y,y=(128+j) ^^^ i:=⟨_,rfl⟩;rw [← hy] at hx hl ⊢;clear hy
 go_enter Tryz.func88,Tryz.ntmps88
 go_wp2_with (go_at_call 109;refine (zd5 y hl _).mono ?_;rintro e w1 ⟨rfl,rfl⟩)
 go_ret;exact ⟨rfl,rfl⟩
theorem zaE (v a b:Int) (h1:a≤v) (h2:v≤b) (w:World) :
 Calls Tryz.prog 33 #[.int .i64 v,.int .i64 a,.int .i64 b] w fun e w'=>e=.returned (.bool true)∧w'=w:=by
 go_enter Tryz.func33,Tryz.ntmps33
 go_wp2;go_ret;exact ⟨rfl,rfl⟩
theorem zbZ (v a b:Int) (h:v<a∨b<v) (w:World) :
 Calls Tryz.prog 33 #[.int .i64 v,.int .i64 a,.int .i64 b] w fun e w'=>e=.returned (.bool false)∧w'=w:=by
 by_cases h1:v<a
 ·have hd:decide (a≤v)=false:=by simp;omega
  go_enter Tryz.func33,Tryz.ntmps33
  go_wp2;go_ret;exact ⟨rfl,rfl⟩
 ·have h2:b<v:=by omega
  have h3:a≤v:=by omega
  have hd:decide (v≤b)=false:=by simp;omega
  go_enter Tryz.func33,Tryz.ntmps33
  go_wp2;go_ret;exact ⟨rfl,rfl⟩
def CS (w wr:World) (C k:Nat) (ao:Option Addr) (cap:Nat):Prop:=
 Own wr (w.heap.size+2) wr.heap.size (.slice ao k cap) k (cau C)∧Box wr (w.heap.size+1) #[.int .i64 0,.slice ao k cap] 112∧Box wr w.heap.size #[.int .i64 0,.slice none 0 0] 112∧Below w.heap.size w wr
theorem OwnE.upd {w w':World} {lo hi:Nat} {v:Value} {R C:Nat} {M M':Mat} {g cap:Nat} {e:Nat→Value} (h:OwnE w lo hi v R (fun _=>C) M g cap e) (i:Nat) (hi':i<R) (hc:Chg (tlo (e i) lo) (thi (e i) lo) w w')
 (ho:Own w' lo hi (e i) C (M' i)) (hM:∀ j,j<R→j≠i→M' j=M j):OwnE w' lo hi v R (fun _=>C) M' g cap e:=by
 have hsz:∀ b,w.heap[b]?≠none→b<w.heap.size:=fun b hb=>by
  cases hq:w.heap[b]? with
  | none=>exact absurd hq hb
  | some o=>exact (Array.getElem?_eq_some_iff.1 hq).1
 refine ⟨h.val,h.low,h.high,zaU h.row fun k hk=>?_,fun j hj=>?_,h.apart⟩
 ·have hlt:=(h.row.lt k hk).2
  rw [h.val] at hk
  simp [Value.ownBlock] at hk
  subst hk;exact hc.block g hlt (zdA fun q hq hh=>h.apart.1 i hi' (by rw [hq,hh]))
 ·by_cases e1:j=i
  ·subst e1;exact ho
  ·rw [hM j hj e1]
   refine (h.each j hj).kept fun k hk=>?_;exact hc.block k ((h.each j hj).1.lt k hk).2 (zdA fun q hq hh=>h.apart.2 i j hi' hj (fun x=>e1 x.symm) q hq (by rw [← hh];exact hk))
theorem OwnE.put {w w2:World} {lo hi:Nat} {v:Value} {R C:Nat} {M M':Mat} {g cap:Nat} {e:Nat→Value} {x:Value} (h:OwnE w lo hi v R (fun _=>C) M g cap e) (i:Nat) (hi':i<R) (hb:Below w.heap.size w w2) (hhi:hi≤w.heap.size)
 (ho:Own w2 w.heap.size w2.heap.size x C (M' i)) (hM:∀ j,j<R→j≠i→M' j=M j):OwnE (w2.setCell ⟨g,i,none⟩ x) lo w2.heap.size v R (fun _=>C) M' g cap (fun j=>if j=i then x else e j):=by
 have hg:=h.high;have h2:=h.below hb hhi;have hr:=h2.row;rw [h.val] at hr;have hst:=(hr.stored i x).1;rw [zbc R e (fun j=>if j=i then x else e j) i x hi' (fun j _=>rfl)] at hst;have oth:∀ b,b≠g→(w2.setCell ⟨g,i,none⟩ x).heap[b]?=w2.heap[b]?:=fun b hbg=>heap_setCell_other w2 ⟨g,i,none⟩ b _ hbg;have hs:=hb.size;have new:∀ k,x.ownBlock=some k→w.heap.size≤k:=fun k hk=>(ho.1.lt k hk).1;refine ⟨h.val,h.low,by omega,by rw [h.val];exact hst,fun j hj=>?_,⟨fun j hj=>?_,fun j l hj hl hne k hk=>?_⟩⟩
 ·by_cases c:j=i
  ·subst c
   simp only [if_pos]
   exact (ho.kept fun k hk=>oth k (by have:=new k hk;omega)).weaken (by have:=h.low;omega) (Nat.le_refl _)
  ·simp only [if_neg c]
   rw [hM j hj c];have hj2:=h2.each j hj;exact (hj2.kept fun k hk=>oth k fun hkg=>h.apart.1 j hj (by rw [hk,hkg])).weaken (Nat.le_refl _) (by omega)
 ·by_cases c:j=i
  ·simp only [if_pos c]
   intro hh;have:=new g hh;omega
  ·simp only [if_neg c]
   exact h.apart.1 j hj
 ·have low:∀ q,q<R→∀ k,(e q).ownBlock=some k→k<w.heap.size:=fun q hq k hk=>by have:=(h.each q hq).2 k hk;omega
  by_cases c:j=i
  ·have c2:¬ l=i:=fun z=>hne (by rw [c,z])
   simp only [if_pos c] at hk
   simp only [if_neg c2]
   intro hh;have h1:=new k hk;have h3:=low l hl k hh;omega
  ·simp only [if_neg c] at hk
   by_cases c2:l=i
   ·simp only [if_pos c2]
    intro hh;have h1:=new k hh;have h3:=low j hj k hk;omega
   ·simp only [if_neg c2]
    exact h.apart.2 j l hj hl hne k hk
theorem OwnE.move {w w2:World} {lo hi:Nat} {v:Value} {R C:Nat} {M:Mat} {g cap:Nat} {e:Nat→Value} (h:OwnE w lo hi v R (fun _=>C) M g cap e) (r a:Nat) (hr':r<R) (ha':a<R) (hi2:hi≤w.heap.size)
 (hw:w2.ownsRow lo 69 1 (.slice (some ⟨g,0,none⟩) R cap) R (zal R fun j=>if j=r then e a else if j=a then e r else e j)) (hk:∀ b,b≠g→w2.heap[b]?=w.heap[b]?) :
 OwnE w2 lo hi v R (fun _=>C) (zaQ M r a) g cap (fun j=>if j=r then e a else if j=a then e r else e j):=by
 have each:∀ j,j<R→Own w2 lo hi (e j) C (M j):=fun j hj=>(h.each j hj).kept fun k hk'=>hk k fun hkg=>h.apart.1 j hj (by rw [hk',hkg])
 have sig:∀ j,j<R→∃ q,q<R∧(if j=r then e a else if j=a then e r else e j)=e q∧q=(if j=r then a else if j=a then r else j):=fun j hj=>by
  by_cases c:j=r
  ·exact ⟨a,ha',by simp [c],by simp [c]⟩
  ·by_cases c2:j=a
   ·exact ⟨r,hr',by simp only [if_neg c,if_pos c2],by simp only [if_neg c,if_pos c2]⟩
   ·exact ⟨j,hj,by simp only [if_neg c,if_neg c2],by simp only [if_neg c,if_neg c2]⟩
 refine ⟨h.val,h.low,h.high,by rw [h.val];exact hw,fun j hj=>?_,⟨fun j hj=>?_,fun j l hj hl hne k hk'=>?_⟩⟩
 ·unfold zaQ
  by_cases c:j=r
  ·simp only [if_pos c];exact each a ha'
  ·by_cases c2:j=a
   ·simp only [if_neg c,if_pos c2];exact each r hr'
   ·simp only [if_neg c,if_neg c2];exact each j hj
 ·obtain ⟨q,hq,he,_⟩:=sig j hj
  show (if j=r then e a else if j=a then e r else e j).ownBlock≠some g
  rw [he];exact h.apart.1 q hq
 ·obtain ⟨q,hq,he,hqe⟩:=sig j hj
  obtain ⟨p,hp,hpe,hpq⟩:=sig l hl;have hk2:(if j=r then e a else if j=a then e r else e j).ownBlock=some k:=hk';rw [he] at hk2
  show (if l=r then e a else if l=a then e r else e l).ownBlock≠some k
  rw [hpe];refine h.apart.2 q p hq hp ?_ k hk2;intro hqp;rw [hqe,hpq] at hqp
  apply hne
  split at hqp
  ·split at hqp
   ·omega
   ·split at hqp<;>omega
  ·split at hqp
   ·split at hqp
    ·omega
    ·split at hqp<;>omega
   ·split at hqp
    ·omega
    ·split at hqp<;>omega
theorem OwnE.drewN {w:World} {lo hi:Nat} {v:Value} {R:Nat} {n:Nat→Nat} {M:Mat} {g cap:Nat} {e:Nat→Value} (h:OwnE w lo hi v R n M g cap e) (m:Nat):OwnE (w.drewN m) lo hi v R n M g cap e:=⟨h.val,h.low,h.high,h.row,h.each,h.apart⟩
theorem OwnE.weaken {w:World} {lo hi hi':Nat} {v:Value} {R:Nat} {n:Nat→Nat} {M:Mat} {g cap:Nat} {e:Nat→Value} (h:OwnE w lo hi v R n M g cap e) (h2:hi≤hi'):OwnE w lo hi' v R n M g cap e:=
 ⟨h.val,h.low,Nat.lt_of_lt_of_le h.high h2,h.row,fun i hi=>(h.each i hi).mono h2,h.apart⟩
theorem OwnE.frozen {w:World} {lo hi:Nat} {v:Value} {R:Nat} {n:Nat→Nat} {M:Mat} {g cap:Nat} {e:Nat→Value} (h:OwnE w lo hi v R n M g cap e) (i:Nat):w.frozen? ⟨g,i,none⟩=false:=by
 have hr:=h.row;rw [h.val] at hr;exact hr.frozenAt i
theorem OwnE.swap {w:World} {lo hi:Nat} {v:Value} {R C:Nat} {M:Mat} {g cap:Nat} {e:Nat→Value} (h:OwnE w lo hi v R (fun _=>C) M g cap e) (r a:Nat) (hr:r<R) (ha:a<R) (hi2:hi≤w.heap.size) :
 OwnE ((w.setCell ⟨g,r,none⟩ (e a)).setCell ⟨g,a,none⟩ (e r)) lo hi v R (fun _=>C) (zaQ M r a) g cap (fun j=>if j=r then e a else if j=a then e r else e j):=by
 have h0:=h.row;rw [h.val] at h0;have h1:=(h0.stored r (e a)).1;have h2:=(h1.stored a (e r)).1
 have hset:((zal R e).set r (e a)).set a (e r)=zal R fun j=>if j=r then e a else if j=a then e r else e j:=by
  rw [zbc R e (fun j=>if j=r then e a else e j) r (e a) hr (fun _ _=>rfl)];refine zbc R _ _ a (e r) ha (fun j _=>?_)
  by_cases c:j=r
  ·by_cases c2:j=a
   ·have hra:r=a:=by omega
    simp [c,hra]
   ·have c3:¬ r=a:=by omega
    simp [c,c3]
  ·by_cases c2:j=a
   ·simp [c2];intro hra;rw [hra]
   ·simp [c,c2]
 rw [hset] at h2;refine h.move r a hr ha hi2 h2 fun b hb=>?_;exact (heap_setCell_other (w.setCell ⟨g,r,none⟩ (e a)) ⟨g,a,none⟩ b (e r) hb).trans (heap_setCell_other w ⟨g,r,none⟩ b (e a) hb)
theorem OwnE.put2 {w w3:World} {lo:Nat} {v:Value} {R C:Nat} {M M':Mat} {g cap:Nat} {e:Nat→Value} {x:Value} (h:OwnE w lo w.heap.size v R (fun _=>C) M g cap e) (r a:Nat) (hr:r<R) (ha:a<R)
 (hb:Below w.heap.size (w.setCell ⟨g,a,none⟩ (e r)) w3) (ho:Own w3 w.heap.size w3.heap.size x C (M' r)) (hM:∀ j,j<R→j≠r→M' j=zaQ M r a j) :
 OwnE (w3.setCell ⟨g,r,none⟩ x) lo w3.heap.size v R (fun _=>C) M' g cap (fun j=>if j=r then x else if j=a then e r else e j):=by
 have hg:=h.high
 have hsz:w.heap.size≤w3.heap.size:=by have:=hb.size;simpa using this
 have h0:=h.row;rw [h.val] at h0;have h1:=(h0.stored a (e r)).1;have h2:w3.ownsRow lo 69 1 (.slice (some ⟨g,0,none⟩) R cap) R ((zal R e).set a (e r)):=zaU h1 fun k hk=>hb.block k (by simp [Value.ownBlock] at hk;omega);have h3:=(h2.stored r x).1
 have hset:((zal R e).set a (e r)).set r x=zal R fun j=>if j=r then x else if j=a then e r else e j:=by
  rw [zbc R e (fun j=>if j=a then e r else e j) a (e r) ha (fun _ _=>rfl)];exact zbc R _ _ r x hr (fun j _=>rfl)
 rw [hset] at h3
 have oth:∀ b,b<w.heap.size→b≠g→(w3.setCell ⟨g,r,none⟩ x).heap[b]?=w.heap[b]?:=fun b hlt hbg=>by
  rw [heap_setCell_other w3 ⟨g,r,none⟩ b _ hbg,hb.block b hlt];exact heap_setCell_other w ⟨g,a,none⟩ b _ hbg
 have new:∀ k,x.ownBlock=some k→w.heap.size≤k:=fun k hk=>(ho.1.lt k hk).1;have old:∀ j,j<R→∀ k,(e j).ownBlock=some k→k<w.heap.size:=fun j hj k hk=>(h.each j hj).2 k hk
 have each:∀ j,j<R→Own (w3.setCell ⟨g,r,none⟩ x) lo w3.heap.size (e j) C (M j):=fun j hj=>
  ((h.each j hj).kept fun k hk=>oth k (old j hj k hk) fun hkg=>h.apart.1 j hj (by rw [hk,hkg])).weaken (Nat.le_refl _) hsz
 have sig:∀ j,j<R→j≠r→∃ q,q<R∧(if j=r then x else if j=a then e r else e j)=e q∧q=(if j=a then r else j):=fun j hj hne=>by
  by_cases c2:j=a
  ·exact ⟨r,hr,by simp only [if_neg hne,if_pos c2],by simp only [if_pos c2]⟩
  ·exact ⟨j,hj,by simp only [if_neg hne,if_neg c2],by simp only [if_neg c2]⟩
 refine ⟨h.val,h.low,by omega,by rw [h.val];exact h3,fun j hj=>?_,⟨fun j hj=>?_,fun j l hj hl hne k hk=>?_⟩⟩
 ·by_cases c:j=r
  ·subst c
   simp only [if_pos]
   exact (ho.kept fun k hk=>heap_setCell_other w3 ⟨g,j,none⟩ k _ (by have:=new k hk;show k≠g;omega)).weaken (by have:=h.low;omega) (Nat.le_refl _)
  ·rw [hM j hj c]
   unfold zaQ
   by_cases c2:j=a
   ·simp only [if_neg c,if_pos c2];exact each r hr
   ·simp only [if_neg c,if_neg c2];exact each j hj
 ·by_cases c:j=r
  ·simp only [if_pos c]
   intro hh;have:=new g hh;omega
  ·obtain ⟨q,hq,he,_⟩:=sig j hj c
   show (if j=r then x else if j=a then e r else e j).ownBlock≠some g
   rw [he];exact h.apart.1 q hq
 ·have hk2:(if j=r then x else if j=a then e r else e j).ownBlock=some k:=hk
  show (if l=r then x else if l=a then e r else e l).ownBlock≠some k
  by_cases c:j=r
  ·have c2:¬ l=r:=fun z=>hne (by rw [c,z])
   rw [if_pos c] at hk2;obtain ⟨p,hp,hpe,_⟩:=sig l hl c2;rw [hpe];intro hh;have h5:=new k hk2;have h6:=old p hp k hh;omega
  ·obtain ⟨q,hq,he,hqe⟩:=sig j hj c
   rw [he] at hk2
   by_cases c2:l=r
   ·rw [if_pos c2]
    intro hh;have h5:=new k hh;have h6:=old q hq k hk2;omega
   ·obtain ⟨p,hp,hpe,hpq⟩:=sig l hl c2
    rw [hpe];refine h.apart.2 q p hq hp ?_ k hk2;intro hqp;rw [hqe,hpq] at hqp
    apply hne
    split at hqp
    ·split at hqp<;>omega
    ·split at hqp<;>omega
theorem Own.full {w:World} {lo hi g n:Nat} {f:Nat→Nat} (h:Own w lo hi (.slice (some ⟨g,0,none⟩) n n) n f):w.heap[g]?=some (.cells (cellsOf n f).toArray 5 (0,0)):=by
 rcases h.1.2 with ⟨h',_⟩ | ⟨g',cap',cur,h',_,hg,_,_,hcs,htake⟩
 ·simp at h'
 ·simp only [Value.slice.injEq,Option.some.injEq,Addr.mk.injEq,and_true,true_and] at h'
  obtain ⟨rfl,rfl⟩:=h'
  have:cur=(cellsOf n f).toArray:=by
   rw [← htake,List.take_of_length_le (by simp;omega)]
  rw [← this];exact hg
theorem zd7 {w:World} {lo g n:Nat} {f:Nat→Nat} (hg:w.heap[g]?=some (.cells (cellsOf n f).toArray 5 (0,0))) (hlo:lo≤g) (hm:n≤maxLen):Own w lo w.heap.size (.slice (some ⟨g,0,none⟩) n n) n f:=
 ⟨⟨by rw [zab];omega,.inr ⟨g,n,_,rfl,hlo,hg,Nat.le_refl _,hm,by simp [zab],by simp [List.take_of_length_le,zab]⟩⟩,fun k hk=>by
  simp [Value.ownBlock] at hk
  subst hk
  exact (Array.getElem?_eq_some_iff.1 hg).1⟩
theorem zcx (N off m:Nat) (f t h:Nat→Nat) (hm:off+m≤N) (hh:∀ i,i<N→h i=if off≤i∧i<off+m then t (i-off) else f i):splice (cellsOf N f) off (cellsOf m t)=cellsOf N h:=by
 unfold splice
 apply List.ext_getElem?
 intro i
 by_cases hi:i<N
 ·rw [zac N h i hi,hh i hi]
  by_cases h1:i<off
  ·have e1:¬ (off≤i∧i<off+m):=by omega
   rw [if_neg e1,List.getElem?_append_left (by rw [List.length_take,zab];omega),List.getElem?_take,if_pos h1,zac N f i hi]
  ·rw [List.getElem?_append_right (by rw [List.length_take,zab];omega)]
   have e0:(List.take off (cellsOf N f)).length=off:=by rw [List.length_take,zab];omega
   rw [e0]
   by_cases h2:i<off+m
   ·rw [if_pos ⟨by omega,h2⟩,List.getElem?_append_left (by rw [zab];omega),zac m t _ (by omega)]
   ·have e1:¬ (off≤i∧i<off+m):=by omega
    rw [if_neg e1,List.getElem?_append_right (by rw [zab];omega),zab,List.getElem?_drop,show off+m+(i-off-m)=i by omega,zac N f i hi]
 ·rw [List.getElem?_eq_none (by simp [zab];omega),List.getElem?_eq_none (by rw [zab];omega)]
theorem add_none' (b off j:Nat):(⟨b,off,none⟩:Addr).add j=⟨b,off+j,none⟩:=by unfold Addr.add;split<;>simp_all
theorem zeS {w:World} {hi n cap:Nat} {ao:Option Addr} {f:Nat→Nat} (r:Rd w hi (.slice ao n cap) n f) (h:0<(cellsOf n f).length):∃ ad,ao=some ad∧∀ j v,(cellsOf n f)[j]?=some v→w.cell? (ad.add j)=some v:=by
 rw [zab] at h;obtain ⟨ao',cap',he,_,hc⟩:=r
 simp only [Value.slice.injEq,true_and] at he
 obtain ⟨rfl,rfl⟩:=he;obtain ⟨b,off,rfl,_,hcell⟩:=hc (by omega);refine ⟨_,rfl,fun j v hj=>?_⟩
 by_cases hjn:j<n
 ·rw [zac n f j hjn] at hj
  rw [add_none',hcell j hjn];exact hj
 ·rw [List.getElem?_eq_none (by rw [zab];omega)] at hj
  cases hj
theorem zbS (n:Nat) (f:Nat→Nat):∀ v∈cellsOf n f,v.oneCell'=true:=fun v hv=>by
 simp only [cellsOf,List.mem_map] at hv
 obtain ⟨i,_,rfl⟩:=hv;rfl
theorem zeT:(Tryz.prog.info? 5).map (·.size)=some 1:=by kernel_rfl
theorem zeA (v1 v2:Value) (n:Nat) (f t:Nat→Nat) (h1 h2:Nat) (w:World) (r1:Rd w h1 v1 n f) (r2:Rd w h2 v2 0 t) (b1:h1≤w.heap.size) (hn:n≤1000000) :
 Calls Tryz.prog 74 #[v1,v2] w fun e w'=>∃ v',e=.returned v'∧Own w' w.heap.size w'.heap.size v' n f∧Below w.heap.size w w':=by
 have R1:=fun (w1:World) (hb:Below w.heap.size w w1)=>r1.below hb b1;obtain ⟨ao,cap,rfl,hm1,hc1⟩:=r1;obtain ⟨ao2,cap2,rfl,hm2,hc2⟩:=r2;clear hc1 hc2;have HS:Hid (splice (cellsOf n fun _=>0) 0 (cellsOf n f)=cellsOf n f):=zcx n 0 n _ f f (by omega) (fun i hi=>by simp [hi])
 have L1:(cellsOf n f).length=Nat.min n n:=by rw [zab];exact (Nat.min_self n).symm
 have L2:0+(cellsOf n f).length≤(cellsOf n fun _=>0).length:=by simp [zab]
 have HL1:=hid L1;have HL2:=hid L2;clear L1 L2
 go_enter Tryz.func74,Tryz.ntmps74
 go_wp2_with (first | (at_make;refine za9 _ rfl _ _ rfl _ _ n rfl rfl (by simp) (by simp) (by omega) ?_;intro w1 hown1 hb1 hz1) | (refine wpList_copy_splice rfl (.tmp 12) (.tmp 13) 69 69 rfl 5 Tryz.underlying69 zeT (some ⟨w.heap.size,0,none⟩) ao n n n cap rfl rfl w.heap.size 0 (cellsOf n fun _=>0) 5 hown1.full (cellsOf n f) HL1.out (fun hp=>⟨rfl,zeS (R1 w1 hb1) hp⟩) HL2.out (zbS n f) w.heap.size w hb1 (Nat.le_refl _) ?_;intro w2 hF2 hb2) | (refine wpList_copy_nothing rfl (.tmp 18) (.tmp 19) 69 69 rfl 5 Tryz.underlying69 zeT _ _ _ _ _ _ rfl rfl (by simp) ?_))
 go_ret;have F2:=hF2.out;rw [HS.out] at F2;exact ⟨_,rfl,zd7 F2 (Nat.le_refl _) (by unfold maxLen;omega),hb2⟩
theorem zd8 (v1 v2:Value) (n m:Nat) (f t h:Nat→Nat) (h1 h2:Nat) (w:World) (r1:Rd w h1 v1 n f) (r2:Rd w h2 v2 m t) (b1:h1≤w.heap.size) (b2:h2≤w.heap.size) (hn:n≤1000000) (hm:m≤1000000) (hm0:0<m)
 (hh:∀ i,i<n+m→h i=if i<n then f i else t (i-n)) :
 Calls Tryz.prog 74 #[v1,v2] w fun e w'=>∃ v',e=.returned v'∧Own w' w.heap.size w'.heap.size v' (n+m) h∧Below w.heap.size w w':=by
 have R1:=fun (w1:World) (hb:Below w.heap.size w w1)=>r1.below hb b1;have R2:=fun (w1:World) (hb:Below w.heap.size w w1)=>r2.below hb b2;obtain ⟨ao,cap,rfl,hm1,hc1⟩:=r1;obtain ⟨ao2,cap2,rfl,hm2,hc2⟩:=r2;clear hc1 hc2;obtain ⟨N,hN⟩:∃ N,N=n+m:=⟨_,rfl⟩
 have hNi:(n:Int)+(m:Int)=(N:Int):=by omega
 have hNs:N-n=m:=by omega
 have hnN:n<N:=by omega
 have S1:splice (cellsOf N fun _=>0) 0 (cellsOf n f)=cellsOf N (fun i=>if i<n then f i else 0):=zcx N 0 n _ f _ (by omega) (fun i hi=>by simp)
 have S2:splice (cellsOf N (fun i=>if i<n then f i else 0)) n (cellsOf m t)=cellsOf N h:=zcx N n m _ t h (by omega) (fun i hi=>by
  rw [hh i (by omega)]
  by_cases c:i<n
  ·have c2:¬ (n≤i∧i<n+m):=by omega
   rw [if_pos c,if_neg c2,if_pos c]
  ·rw [if_neg c,if_pos ⟨by omega,by omega⟩])
 have L1:(cellsOf n f).length=Nat.min n N:=by rw [zab];exact (Nat.min_eq_left (by omega)).symm
 have L2:0+(cellsOf n f).length≤(cellsOf N fun _=>0).length:=by simp [zab];omega
 have L3:(cellsOf m t).length=Nat.min m m:=by rw [zab];exact (Nat.min_self m).symm
 have L4:n+(cellsOf m t).length≤(cellsOf N (fun i=>if i<n then f i else 0)).length:=by simp [zab];omega
 have H1:=hid L1;have H2:=hid L2;have H3:=hid L3;have H4:=hid L4;have HS1:=hid S1;have HS2:=hid S2;rw [← hN];have HN:=hid hN;clear L1 L2 L3 L4 S1 S2 hh hN
 go_enter Tryz.func74,Tryz.ntmps74
 go_wp2_with (first | (at_make;refine za9 _ rfl _ _ rfl _ _ N rfl rfl (by first | rfl | simp [hNi]) (by first | rfl | simp [hNi]) (by omega) ?_;intro w1 hown1 hb1 hz1) | (refine wpList_copy_splice rfl (.tmp 12) (.tmp 13) 69 69 rfl 5 Tryz.underlying69 zeT (some ⟨w.heap.size,0,none⟩) ao N N n cap rfl rfl w.heap.size 0 (cellsOf N fun _=>0) 5 hown1.full (cellsOf n f) H1.out (fun hp=>⟨rfl,zeS (R1 w1 hb1) hp⟩) H2.out (zbS n f) w.heap.size w hb1 (Nat.le_refl _) ?_;intro w2 hF2 hb2;rw [HS1.out] at hF2) | (refine wpList_copy_splice rfl (.tmp 18) (.tmp 19) 69 69 rfl 5 Tryz.underlying69 zeT (some ⟨w.heap.size,n,none⟩) ao2 m m m cap2 ?_ rfl w.heap.size n (cellsOf N (fun i=>if i<n then f i else 0)) 5 hF2.out (cellsOf m t) H3.out (fun hp=>⟨rfl,zeS (R2 w2 hb2) hp⟩) H4.out (zbS m t) w.heap.size w hb2 (Nat.le_refl _) ?_;(simp [Act.eval,hNs]);intro w3 hF3 hb3))
 go_ret;have F3:=hF3.out;rw [HS2.out] at F3;exact ⟨_,rfl,zd7 F3 (Nat.le_refl _) (by unfold maxLen;omega),hb3⟩
structure Bld (w wr:World) (lo:Nat) (v:Value) (k:Nat) (n:Nat→Nat) (f:Mat) (e:Nat→Value):Prop where
 row:wr.ownsRow lo 69 1 v k (zal k e)
 notnil:v≠nilS
 each:∀ i,i<k→Own wr lo wr.heap.size (e i) (n i) (f i)
 apart:∀ i j,i<k→j<k→i≠j→∀ b,(e i).ownBlock=some b→(e j).ownBlock≠some b
 bel:Below lo w wr
 le:lo≤wr.heap.size
theorem zcG {w:World} {lo lo' hi:Nat} {v x:Value} {k n:Nat} {xs:List Value} {f:Nat→Nat} (h:w.ownsRow lo 69 1 v k xs) (ho:Own w lo' hi x n f) (b:Nat) (hb:v.ownBlock=some b):x.ownBlock≠some b:=by
 intro hx
 rcases h.2 with ⟨rfl,_⟩ | ⟨g,cap,cur,rfl,_,hg,_⟩
 ·cases hb
 ·rcases ho.1.2 with ⟨rfl,_⟩ | ⟨g',cap',cur',rfl,_,hg',_⟩
  ·cases hx
  ·simp [Value.ownBlock] at hb hx
   subst hb;subst hx;rw [hg] at hg'
   simp at hg'
theorem Bld.next {w wr w2 w4:World} {lo:Nat} {v v' x:Value} {k:Nat} {n:Nat→Nat} {f:Mat} {e:Nat→Value} (h:Bld w wr lo v k n f e) (hb:Below wr.heap.size wr w2) (ho:Own w2 wr.heap.size w2.heap.size x (n k) (f k))
 (hr:w4.ownsRow lo 69 1 v' (k+1) (zal k e++[x])) (hg:(w2.alloc (.cells #[x] 69)).grownBy w4 v.ownBlock) (hnn:v'≠nilS):Bld w w4 lo v' (k+1) n f (fun i=>if i=k then x else e i):=by
 have hs2:=hb.size
 have hs4:w2.heap.size+1≤w4.heap.size:=by have:=hg.size;simpa using this
 have hv:zal k e++[x]=zal (k+1) (fun i=>if i=k then x else e i):=by
  rw [← zca]
  simp only [if_pos]
  rw [zbj (e:=e) (g:=fun i=>if i=k then x else e i) (fun i hi=>by simp [show ¬ i=k by omega])]
 rw [hv] at hr;have row2:w2.ownsRow lo 69 1 v k (zal k e):=zaU h.row fun b hb'=>hb.block b (h.row.lt b hb').2
 have kp:∀ {y:Value} {m:Nat} {q:Nat→Nat} {l:Nat},Own w2 l w2.heap.size y m q→Own w4 l w4.heap.size y m q:=fun {y m q l} hy=>
  (hy.kept fun b hb'=>by
   have hlt:=hy.2 b hb';rw [hg.block b (by simp;omega) (fun hh=>zcG row2 hy b hh.symm hb')]
   exact Below.heap_alloc w2 _ b hlt).mono (by omega)
 refine ⟨hr,hnn,fun i hi=>?_,fun i j hi hj hne b hbi=>?_,?_,by have:=h.le;omega⟩
 ·by_cases c:i=k
  ·subst c
   simp only [if_pos]
   exact (kp ho).weaken h.le (Nat.le_refl _)
  ·simp only [if_neg c]
   exact kp (((h.each i (by omega)).below hb (Nat.le_refl _)).mono hs2)
 ·have new:∀ b,x.ownBlock=some b→wr.heap.size≤b:=fun b hb'=>(ho.1.lt b hb').1
  have old:∀ i,i<k→∀ b,(e i).ownBlock=some b→b<wr.heap.size:=fun i hi b hb'=>(h.each i hi).2 b hb';have hbi2:(if i=k then x else e i).ownBlock=some b:=hbi
  show (if j=k then x else e j).ownBlock≠some b
  by_cases c:i=k
  ·have c2:¬ j=k:=fun z=>hne (by rw [c,z])
   rw [if_pos c] at hbi2;rw [if_neg c2];intro hh;have h5:=new b hbi2;have h6:=old j (by omega) b hh;omega
  ·rw [if_neg c] at hbi2
   by_cases c2:j=k
   ·rw [if_pos c2]
    intro hh;have h5:=new b hh;have h6:=old i (by omega) b hbi2;omega
   ·rw [if_neg c2]
    exact h.apart i j (by omega) (by omega) hne b hbi2
 ·have b1:Below lo w w2:=h.bel.trans (hb.mono h.le)
  exact (b1.alloc (by have:=h.le;omega) (.cells #[x] 69)).grown hg (by simp;have:=h.le;omega) (fun b hb'=>(h.row.lt b hb').1)
theorem Bld.done {w wr:World} {lo:Nat} {v:Value} {k:Nat} {n:Nat→Nat} {f:Mat} {e:Nat→Value} (h:Bld w wr lo v k n f e):OwnM wr lo wr.heap.size v k n f:=by
 rcases h.row.2 with ⟨hv,_⟩ | ⟨g,cap,cur,hv,hbg,hg,_⟩
 ·exact absurd hv h.notnil
 ·refine ⟨g,cap,e,hv,hbg,(Array.getElem?_eq_some_iff.1 hg).1,h.row,h.each,⟨fun i hi=>?_,h.apart⟩⟩
  exact zcG h.row (h.each i hi) g (by rw [hv];rfl)
theorem zdt {ops:Array Oper} {rest:List Oper} {o:Oper} {a:Act} {w:World} {Q:Exit→Act→World→Prop}
 (hg:o.guard=none) (s x:Operand) (hop:o.op=Op.call { callee:=Callee.builtin Builtin.append,args:=#[s,x],argTypes:=#[75,75] })
 (lo:Nat) (v:Value) (k:Nat) (e:Nat→Value) (hs:a.eval s=v) (hown:w.ownsRow lo 69 1 v k (zal k e)) (b c:Nat) (y:Value) (hx:a.eval x=.slice (some ⟨b,0,none⟩) 1 c) (hcell:w.cell? ⟨b,0,none⟩=some y) (hy:y.oneCell'=true)
 (hk:k+1≤1000000) (hlo:lo≤w.heap.size)
 (hK:∀ v' w',w'.ownsRow lo 69 1 v' (k+1) (zal k e++[y])→w.grownBy w' v.ownBlock→v'≠nilS→wpList Tryz.prog ops Q rest (a.put o.dst v') w'):wpList Tryz.prog ops Q (o::rest) a w:=by
 obtain ⟨i0,hi0,hz0,hz1,hz2⟩:=info_parts zeO;refine wpList_append_own w hg s x 75 hop lo 69 i0 nilS 1 24 Tryz.underlying75 hi0 hz0 hz1 hz2 rfl (by decide) v k (zal k e) hs hown ⟨b,0,none⟩ 1 c [y] hx rfl ?_ ?_ (by unfold maxLen;omega) (by omega) hlo ?_
 ·intro j u hj
  match j,hj with
  | 0,hj=>simp at hj;subst hj;simpa [Addr.add] using hcell
 ·intro u hu
  simp at hu
  subst hu;exact hy
 ·intro v' w' h1 h2 h3
  exact hK v' w' h1 h2 (fun hh=>by have:=(h3.mp hh).2;omega)
structure BldR (wr:World) (lo hi:Nat) (v:Value) (k:Nat) (n:Nat→Nat) (f:Mat) (e:Nat→Value):Prop where
 row:wr.ownsRow lo 69 1 v k (zal k e)
 notnil:v≠nilS
 low:∀ b,v.ownBlock=some b→b<hi
 each:∀ i,i<k→Own wr lo hi (e i) (n i) (f i)
 apart:∀ i j,i<k→j<k→i≠j→∀ b,(e i).ownBlock=some b→(e j).ownBlock≠some b
 le:lo≤hi
 le2:hi≤wr.heap.size
theorem BldR.kept {w w2:World} {lo hi:Nat} {v:Value} {k:Nat} {n:Nat→Nat} {f:Mat} {e:Nat→Value} (h:BldR w lo hi v k n f e) (hk:∀ b,lo≤b→b<hi→w2.heap[b]?=w.heap[b]?) (hs:hi≤w2.heap.size):BldR w2 lo hi v k n f e:=
 ⟨zaU h.row fun b hb=>hk b (h.row.lt b hb).1 (h.low b hb),h.notnil,h.low,fun i hi=>(h.each i hi).kept fun b hb=>hk b ((h.each i hi).1.lt b hb).1 ((h.each i hi).2 b hb),h.apart,h.le,hs⟩
theorem BldR.next {w2 w4:World} {lo hi lo2 hi2:Nat} {v v' x:Value} {k:Nat} {n n':Nat→Nat} {f f':Mat} {e:Nat→Value} (h:BldR w2 lo hi v k n f e) (ho:Own w2 lo2 hi2 x (n' k) (f' k)) (hlo:hi≤lo2)
 (hn:∀ i,i<k→n' i=n i) (hf:∀ i,i<k→f' i=f i)
 (hr:w4.ownsRow lo 69 1 v' (k+1) (zal k e++[x])) (hg:(w2.alloc (.cells #[x] 69)).grownBy w4 v.ownBlock) (hnn:v'≠nilS):BldR w4 lo w4.heap.size v' (k+1) n' f' (fun i=>if i=k then x else e i):=by
 have hs4:w2.heap.size+1≤w4.heap.size:=by have:=hg.size;simpa using this
 have hle:=h.le;have hle2:=h.le2
 have hv:zal k e++[x]=zal (k+1) (fun i=>if i=k then x else e i):=by
  rw [← zca]
  simp only [if_pos]
  rw [zbj (e:=e) (g:=fun i=>if i=k then x else e i) (fun i hi=>by simp [show ¬ i=k by omega])]
 rw [hv] at hr
 have kp:∀ {y:Value} {m:Nat} {q:Nat→Nat} {l u:Nat},Own w2 l u y m q→Own w4 l w4.heap.size y m q:=fun {y m q l u} hy=>
  ⟨(
   hy.kept fun b hb'=>by
   have hlt:=(hy.1.lt b hb').2;rw [hg.block b (by simp;omega) (fun hh=>zcG h.row hy b hh.symm hb')]
   exact Below.heap_alloc w2 _ b hlt).1,fun b hb'=>by have:=(hy.1.lt b hb').2;omega⟩
 refine ⟨hr,hnn,fun b hb=>(hr.lt b hb).2,fun i hik=>?_,fun i j hik hj hne b hbi=>?_,by omega,Nat.le_refl _⟩
 ·by_cases c:i=k
  ·subst c
   simp only [if_pos]
   exact (kp ho).weaken (by omega) (Nat.le_refl _)
  ·simp only [if_neg c]
   rw [hn i (by omega),hf i (by omega)];exact kp (h.each i (by omega))
 ·have new:∀ b,x.ownBlock=some b→hi≤b:=fun b hb'=>by have:=(ho.1.lt b hb').1;omega
  have old:∀ i,i<k→∀ b,(e i).ownBlock=some b→b<hi:=fun i hi b hb'=>(h.each i hi).2 b hb';have hbi2:(if i=k then x else e i).ownBlock=some b:=hbi
  show (if j=k then x else e j).ownBlock≠some b
  by_cases c:i=k
  ·have c2:¬ j=k:=fun z=>hne (by rw [c,z])
   rw [if_pos c] at hbi2;rw [if_neg c2];intro hh;have h5:=new b hbi2;have h6:=old j (by omega) b hh;omega
  ·rw [if_neg c] at hbi2
   by_cases c2:j=k
   ·rw [if_pos c2]
    intro hh;have h5:=new b hh;have h6:=old i (by omega) b hbi2;omega
   ·rw [if_neg c2]
    exact h.apart i j (by omega) (by omega) hne b hbi2
theorem BldR.done {wr:World} {lo hi:Nat} {v:Value} {k:Nat} {n:Nat→Nat} {f:Mat} {e:Nat→Value} (h:BldR wr lo hi v k n f e):∃ g cap,OwnE wr lo hi v k n f g cap e:=by
 rcases h.row.2 with ⟨hv,_⟩ | ⟨g,cap,cur,hv,hbg,hg,_⟩
 ·exact absurd hv h.notnil
 ·refine ⟨g,cap,hv,hbg,h.low g (by rw [hv];rfl),h.row,h.each,⟨fun i hi=>?_,h.apart⟩⟩
  exact zcG h.row (h.each i hi) g (by rw [hv];rfl)
def zaR (P:Prop) (w:World) (e:Ending) (w':World):Prop:=∃ b:Bool,e=.returned (.bool b)∧(b=true↔P)∧Below w.heap.size w w'
theorem zam {P:Prop} {w:World} {e:Ending} {w':World} (he:e=.returned (.bool true)) (h:P) (hb:Below w.heap.size w w'):zaR P w e w':=⟨true,he,⟨fun _=>h,fun _=>rfl⟩,hb⟩
theorem zai {P:Prop} {w:World} {e:Ending} {w':World} (he:e=.returned (.bool false)) (h:¬ P) (hb:Below w.heap.size w w'):zaR P w e w':=⟨false,he,⟨fun h=>(by cases h),fun hh=>absurd hh h⟩,hb⟩
def Shp (d s:Int):Prop:=1≤d∧d≤3∧0≤s∧s≤2
theorem zgr (d s:Int) (w:World) :
 Calls Tryz.prog 51 #[.int .i64 d,.int .i64 s] w (zaR (Shp d s) w):=by
 by_cases h1:1≤d∧d≤3
 ·by_cases h2:0≤s∧s≤2
  ·go_enter Tryz.func51,Tryz.ntmps51
   go_wp2_with fail
   refine (zaE d 1 3 h1.1 h1.2 _).mono ?_;rintro e w1 ⟨rfl,rfl⟩
   go_wp2_with fail
   refine (zaE s 0 2 h2.1 h2.2 _).mono ?_;rintro e w1 ⟨rfl,rfl⟩;go_wp2;go_ret;exact zam rfl ⟨h1.1,h1.2,h2.1,h2.2⟩ (Below.refl _ _)
  ·go_enter Tryz.func51,Tryz.ntmps51
   go_wp2_with fail
   refine (zaE d 1 3 h1.1 h1.2 _).mono ?_;rintro e w1 ⟨rfl,rfl⟩
   go_wp2_with fail
   refine (zbZ s 0 2 (by omega) _).mono ?_;rintro e w1 ⟨rfl,rfl⟩;go_wp2;go_ret;exact zai rfl (fun h=>h2 ⟨h.2.2.1,h.2.2.2⟩) (Below.refl _ _)
 ·go_enter Tryz.func51,Tryz.ntmps51
  go_wp2_with fail
  refine (zbZ d 1 3 (by omega) _).mono ?_;rintro e w1 ⟨rfl,rfl⟩;go_wp2;go_ret;exact zai rfl (fun h=>h1 ⟨h.1,h.2.1⟩) (Below.refl _ _)
def ziD (n m:Nat) (f g:Nat→Nat):Prop:=n=m∧∀ i,i<n→f i=g i
theorem zhD (v1 v2:Value) (n m:Nat) (f g:Nat→Nat) (h1 h2:Nat) (w:World) (r1:Rd w h1 v1 n f) (r2:Rd w h2 v2 m g) :
 Calls Tryz.prog 38 #[v1,v2] w (zaR (ziD n m f g) w):=by
 obtain ⟨ao,cap,rfl,hm,hc⟩:=r1;obtain ⟨ao2,cap2,rfl,hm2,hc2⟩:=r2;unfold maxLen at hm hm2
 by_cases hnm:n=m
 ·subst hnm
  go_enter Tryz.func38,Tryz.ntmps38
  go_wp2
  go_loopw [5] (fun i wr=>∃ k:Nat,k≤n∧i=.int .i64 k∧(∀ i,i<k→f i=g i)∧∃ m,wr=w.drewN m) (fun i _=>n-(intOf i).toNat)
  case atStart=>exact ⟨0,Nat.zero_le _,rfl,fun i hi=>by omega,0,rfl⟩
  case round=>
   obtain ⟨k,hk,rfl,hall,q,rfl⟩:=hrel;have HALL:=hid hall;clear hall
   by_cases hlt:k<n
   ·obtain ⟨b,off,rfl,hblt,hcell⟩:=hc (by omega)
    obtain ⟨b2,off2,rfl,hblt2,hcell2⟩:=hc2 (by omega);have hck:w.cell? ⟨b,off+k,none⟩=some (.int .u8 (f k)):=hcell k hlt;have hck2:w.cell? ⟨b2,off2+k,none⟩=some (.int .u8 (g k)):=hcell2 k hlt;obtain ⟨x,hx⟩:∃ x,x=f k:=⟨_,rfl⟩;obtain ⟨y,hy⟩:∃ y,y=g k:=⟨_,rfl⟩;have HX:=hid hx;have HY:=hid hy;rw [← hx] at hck;rw [← hy] at hck2;clear hc hc2 hcell hcell2 hx hy
    by_cases heq:x=y
    ·subst heq
     go_wp2
     go_quiet (fail)
     go_wp2
     go_roundw
     case rel=>exact ⟨k+1,by omega,by go_num,fun i hi=>by
      by_cases c:i=k
      ·rw [c,← HX.out,← HY.out]
      ·exact HALL.out i (by omega),_,rfl⟩
     case measure=>simp [intOf];omega
    ·have tn:((x:Int) != (y:Int))=true:=by simp;omega
     go_wp2
     go_quiet (fail)
     go_wp2;go_ret;exact zai rfl (fun h=>absurd (h.2 k hlt) (by rw [← HX.out,← HY.out];exact heq)) (below_drewN (below_drewN (Below.refl _ _) _) _)
   ·have hkn:k=n:=by omega
    subst hkn;go_wp2;go_ret;exact zam rfl ⟨rfl,HALL.out⟩ (below_drewN (Below.refl _ _) _)
 ·have tn:((n:Int) != (m:Int))=true:=by simp;omega
  clear hc hc2
  go_enter Tryz.func38,Tryz.ntmps38
  go_wp2;go_ret;exact zai rfl (fun h=>hnm h.1) (Below.refl _ _)
theorem zd9 (n p base:Nat) (hn:n≤16) (hp:base+p<n+16) (w:World) :
 Calls Tryz.prog 61 #[.int .i64 n,.int .i64 p,.int .i64 base] w fun e w'=>∃ v',e=.returned v'∧Own w' w.heap.size w'.heap.size v' n (genN n p base)∧Below w.heap.size w w':=by
 go_enter Tryz.func61,Tryz.ntmps61
 go_wp2_with (at_make;refine za9 _ rfl _ _ rfl _ _ n rfl rfl rfl rfl (by omega) ?_;intro w1 hown1 hb1 hz1)
 go_loopw [8] (fun i wr=>∃ k:Nat,k≤n∧i=.int .i64 k∧Own wr w.heap.size w1.heap.size (.slice (some ⟨w.heap.size,0,none⟩) n n) n (fun i=>if i<k then genN n p base i else 0)∧Out w.heap.size w1.heap.size w1 wr) (fun i _=>n-(intOf i).toNat)
 case atStart=>exact ⟨0,Nat.zero_le _,rfl,hown1,Out.refl _ _ _⟩
 case round=>
  clear hown1;obtain ⟨k,hk,rfl,hown,hout⟩:=hrel
  by_cases hlt:k<n
  ·have hco:wr.cell? ⟨w.heap.size,k,none⟩=some (.int .u8 (0:Nat)):=by
    have:=hown.1.cellAt k (by omega);rw [this,zac _ _ _ hlt,if_neg (Nat.lt_irrefl k)]
   have hfo:wr.frozen? ⟨w.heap.size,k,none⟩=false:=hown.1.frozenAt k
   have RW:Own (wr.setCell ⟨w.heap.size,k,none⟩ (.int .u8 (genN n p base k))) w.heap.size w1.heap.size (.slice (some ⟨w.heap.size,0,none⟩) n n) n (fun i=>if i<k+1 then genN n p base i else 0):=
    hown.store k _ hlt (fun i _=>by
     by_cases c1:i=k
     ·subst c1;simp
     ·by_cases c2:i<k
      ·have c3:i<k+1:=by omega
       simp [c1,c2,c3]
      ·have c3:¬ i<k+1:=by omega
       simp [c1,c2,c3])
   have RO:Out w.heap.size w1.heap.size w1 (wr.setCell ⟨w.heap.size,k,none⟩ (.int .u8 (genN n p base k))):=hout.trans (za3 wr _ _ _ k _ (Nat.le_refl _) hz1)
   by_cases hpn:n≤p
   ·have hg:genN n p base k=powN ((128+(base+p-n)) ^^^ k) 254:=by simp [genN,hpn]
    rw [hg] at RW RO;obtain ⟨q,hq⟩:∃ q,q=base+p-n:=⟨_,rfl⟩;rw [← hq] at RW RO
    have hsum:(base:Int)+(p:Int)-(n:Int)=(q:Int):=by omega
    have C:=zfE q k (by omega) (by omega)
    have hw1:IntKind.i64.wrap ((base:Int)+(p:Int))=(base:Int)+(p:Int):=by rw [IntKind.wrap_i64];omega
    have hw2:IntKind.i64.wrap ((base:Int)+(p:Int)-(n:Int))=(q:Int):=by rw [IntKind.wrap_i64];omega
    have HRW:=hid RW;clear hown hout hg hq RW
    go_wp2_with fail
    refine (C _).mono ?_;rintro e w2 ⟨rfl,rfl⟩;go_wp2
    go_roundw
    case rel=>exact ⟨k+1,by omega,by go_num,HRW.out,RO⟩
    case measure=>simp [intOf];omega
   ·have HRW:Hid (
     Own (wr.setCell ⟨w.heap.size,k,none⟩ (.int .u8 (genN n p base k))) w.heap.size w1.heap.size (.slice (some ⟨w.heap.size,0,none⟩) n n) n (fun i=>if i<k+1 then genN n p base i else 0)):=RW
    have HRO:=hid RO
    have hd1:decide ((n:Int)≤(p:Int))=false:=by simp;omega
    have HOW:=hid hown;have HOU:=hid hout;clear hown hout RW RO
    by_cases hkp:k=p
    ·subst hkp
     have hg:genN n k base k=1:=by simp [genN,hpn]
     have tk:((k:Int)==(k:Int))=true:=by simp
     go_wp2
     go_roundw
     case rel=>exact ⟨k+1,by omega,by go_num,by have:=HRW.out;rw [hg] at this;exact this,by have:=HRO.out;rw [hg] at this;exact this⟩
     case measure=>simp [intOf];omega
    ·have hg:genN n p base k=0:=by simp [genN,hpn,hkp]
     have tk:((k:Int)==(p:Int))=false:=by simp;omega
     go_wp2
     go_roundw
     case rel=>exact ⟨k+1,by omega,by go_num,HOW.out.congr (fun i hi=>by
      by_cases c1:i=k
      ·subst c1;simp [hg]
      ·by_cases c2:i<k
       ·have c3:i<k+1:=by omega
        simp [c2,c3]
       ·have c3:¬ i<k+1:=by omega
        simp [c2,c3]),HOU.out⟩
     case measure=>simp [intOf];omega
  ·have hkn:k=n:=by omega
   subst hkn;have h6:=hown.congr (g:=genN k p base) (fun i hi=>by simp [hi]);have hsz:=hout.size;have hb6:Below w.heap.size w wr:=hb1.trans hout.below;clear hown hout;go_wp2;go_ret;exact ⟨_,rfl,h6.weaken (Nat.le_refl _) (by omega),hb6⟩
def zcy (n:Nat) (g:Nat→Int) (most:Int):Prop:=∀ i,i<n→0≤g i∧g i≤most∧(0<i→g (i-1)<g i)
theorem zhE (v:Value) (n:Nat) (g:Nat→Int) (hi:Nat) (most:Int) (w:World) (r:RdI w hi v n g) :
 Calls Tryz.prog 56 #[v,.int .i64 most] w (zaR (zcy n g most) w):=by
 obtain ⟨ao,cap,rfl,hm,hc⟩:=r;unfold maxLen at hm
 go_enter Tryz.func56,Tryz.ntmps56
 go_wp2
 go_loopw [5] (fun i wr=>∃ k:Nat,k≤n∧i=.int .i64 k∧(∀ i,i<k→0≤g i∧g i≤most∧(0<i→g (i-1)<g i))∧∃ q,wr=w.drewN q) (fun i _=>n-(intOf i).toNat)
 case atStart=>exact ⟨0,Nat.zero_le _,rfl,fun i hi=>by omega,0,rfl⟩
 case round=>
  obtain ⟨k,hk,rfl,hall,q,rfl⟩:=hrel;have HALL:=hid hall;clear hall
  by_cases hlt:k<n
  ·obtain ⟨b,off,rfl,hblt,hcell⟩:=hc (by omega)
   have hck:w.cell? ⟨b,off+k,none⟩=some (.int .i64 (g k)):=hcell k hlt;have HCL:=hid hcell;obtain ⟨x,hx⟩:∃ x,x=g k:=⟨_,rfl⟩;have HX:=hid hx;rw [← hx] at hck;clear hc hcell hx
   by_cases h1:x<0
   ·have no:¬ zcy n g most:=fun h=>by have:=(h k hlt).1;rw [← HX.out] at this;omega
    have HNO:=hid no;clear no;go_wp2
    go_quiet (fail)
    go_wp2;go_ret;exact zai rfl HNO.out (below_drewN (below_drewN (Below.refl _ _) _) _)
   ·have e1:decide (
     x<0)=false:=by simp;omega
    by_cases h2:most<x
    ·have HNO:Hid (¬ zcy n g most):=fun h=>by have:=(h k hlt).2.1;rw [← HX.out] at this;omega
     go_wp2
     go_quiet (fail)
     go_wp2;go_ret;exact zai rfl HNO.out (below_drewN (below_drewN (Below.refl _ _) _) _)
    ·have e2:decide (
      most<x)=false:=by simp;omega
     by_cases h3:0<k
     ·obtain ⟨k1,hk1⟩:∃ k1,k1+1=k:=⟨k-1,by omega⟩
      have hcp:w.cell? ⟨b,off+k1,none⟩=some (.int .i64 (g k1)):=HCL.out k1 (by omega);obtain ⟨y,hy⟩:∃ y,y=g k1:=⟨_,rfl⟩
      have HY:Hid (y=g (k-1)):=by show y=g (k-1);rw [hy,show k-1=k1 by omega]
      rw [← hy] at hcp
      have wsub:IntKind.i64.wrap ((k:Int)-1)=(k1:Int):=by rw [IntKind.wrap_i64];omega
      have hk1n:k1<n:=by omega
      have e3:((0:Int)<(k:Int)):=by omega
      have HK1:=hid hk1;clear hy hk1
      by_cases h4:x≤y
      ·have HNO:Hid (¬ zcy n g most):=fun h=>by have:=(h k hlt).2.2 h3;rw [← HX.out,← HY.out] at this;omega
       go_wp2
       go_quiet (fail)
       go_wp2;go_ret;exact zai rfl HNO.out (below_drewN (below_drewN (Below.refl _ _) _) _)
      ·have e4:decide (x≤y)=false:=by simp;omega
       have HF:Hid (0≤g k∧g k≤most∧(0<k→g (k-1)<g k)):=by
        show 0≤g k∧g k≤most∧(0<k→g (k-1)<g k)
        rw [← HX.out,← HY.out];exact ⟨by omega,by omega,fun _=>by omega⟩
       go_wp2
       go_quiet (fail)
       go_wp2
       go_roundw
       case rel=>exact ⟨k+1,by omega,by go_num,fun i hi=>by
        by_cases c:i=k
        ·rw [c];exact HF.out
        ·exact HALL.out i (by omega),_,rfl⟩
       case measure=>simp [intOf];omega
     ·have HF:Hid (0≤g k∧g k≤most):=by
       show 0≤g k∧g k≤most
       rw [← HX.out];exact ⟨by omega,by omega⟩
      have e3:decide ((0:Int)<(k:Int))=false:=by simp;omega
      have e3n:decide (0<k)=false:=by simp;omega
      have HK0:Hid (k=0):=by show k=0;omega
      clear h3;go_wp2
      go_quiet (fail)
      go_wp2
      go_roundw
      case rel=>exact ⟨k+1,by omega,by go_num,fun i hi=>by
       have:=HK0.out
       obtain rfl:i=k:=by omega
       exact ⟨HF.out.1,HF.out.2,fun h=>by omega⟩,_,rfl⟩
      case measure=>simp [intOf];omega
  ·obtain rfl:k=n:=by omega
   go_wp2;go_ret;exact zam rfl HALL.out (below_drewN (Below.refl _ _) _)
end Go.Proofs.YtfhgcadinjfooaaGreat
namespace Go.Proofs.YtfhgcadinjfooaaGreat
open F256
def Shp3 (d s:Int):Prop:=1≤d∧d≤4∧0≤s∧s≤2
def HasP (n:Nat) (g:Nat→Int) (x:Int):Prop:=∃ i,i<n∧g i=x
end Go.Proofs.YtfhgcadinjfooaaGreat
namespace Go.Proofs.YtfhgcadinjfooaaGreat
open Go.RowKit F256
theorem zfF (k m:Nat) (g f:Nat→Nat) (hg:∀ i,i<m→g (k+i)=f i):cellsOf k g++cellsOf m f=cellsOf (k+m) g:=by
 apply List.ext_getElem?
 intro i
 by_cases h:i<k
 ·rw [List.getElem?_append_left (by rw [zab];exact h),zac _ _ _ h,zac _ _ _ (by omega)]
 ·rw [List.getElem?_append_right (by rw [zab];omega),zab]
  by_cases h2:i-k<m
  ·rw [zac _ _ _ h2,zac _ _ _ (by omega),← hg _ h2,show k+(i-k)=i by omega]
  ·rw [List.getElem?_eq_none (by rw [zab];omega),List.getElem?_eq_none (by rw [zab];omega)]
theorem zgs (k m:Nat) (e e2:Nat→Value) (hg:∀ i,i<m→e (k+i)=e2 i):zal k e++zal m e2=zal (k+m) e:=by
 apply List.ext_getElem?
 intro i
 by_cases h:i<k
 ·rw [List.getElem?_append_left (by rw [zax];exact h),zaC _ _ _ h,zaC _ _ _ (by omega)]
 ·rw [List.getElem?_append_right (by rw [zax];omega),zax]
  by_cases h2:i-k<m
  ·rw [zaC _ _ _ h2,zaC _ _ _ (by omega),← hg _ h2,show k+(i-k)=i by omega]
  ·rw [List.getElem?_eq_none (by rw [zax];omega),List.getElem?_eq_none (by rw [zax];omega)]
theorem zcH {w:World} {lo lo':Nat} {t:TypeId} {v:Value} {k:Nat} {xs:List Value} (h:w.ownsRow lo t 1 v k xs) (hl:lo'≤lo):w.ownsRow lo' t 1 v k xs:=by
 refine ⟨h.1,?_⟩
 rcases h.2 with hn | ⟨g,cap,cur,hg,hbg,rest⟩
 ·exact .inl hn
 ·exact .inr ⟨g,cap,cur,hg,by omega,rest⟩
theorem zgt (w:World) (ty:TypeId) (lo hi:Nat) (v:Value) (k:Nat) (g:Nat→Nat) (hown:Own w lo hi v k g) (h:Nat) (xv:Value) (m:Nat) (f:Nat→Nat) (hx:Rd w h xv m f) (h0:0<m) (hg:∀ i,i<m→g (k+i)=f i) (hm:k+m≤1000000) (hlo:lo≤w.heap.size) :
 ∃ v' w',(Builtin.append_ #[69,69] ty #[v,xv]).run Tryz.prog w=.ok v' w'∧Own w' lo w'.heap.size v' (k+m) g∧w.grownBy w' v.ownBlock:=by
 obtain ⟨i0,hi0,hz0,hz1,hz2⟩:=info_parts zdj;obtain ⟨ao,cap,rfl,hml,hc⟩:=hx;obtain ⟨b,off,rfl,hb,hcell⟩:=hc (by omega)
 obtain ⟨v',w',hr,h2,h3,_⟩:=run_append_own (P:=Tryz.prog) w lo 69 ty 5 i0 (.int .u8 0) 1 1 Tryz.underlying69 hi0 hz0 hz1 hz2 rfl (by decide) v k (cellsOf k g) hown.1 ⟨b,off,none⟩ m cap (cellsOf m f) (by rw [zab];omega)
  (fun j u hj=>by
   by_cases hjm:j<m
   ·rw [zac _ _ _ hjm] at hj
    cases hj
    rw [add_none'];exact hcell j hjm
   ·rw [List.getElem?_eq_none (by rw [zab];omega)] at hj
    cases hj)
  (zbS m f) (by unfold maxLen;omega) (by omega) hlo
 rw [zfF k m g f hg] at h2;exact ⟨v',w',hr,⟨h2,fun k hk=>(h2.lt k hk).2⟩,h3⟩
theorem zdu {ops:Array Oper} {rest:List Oper} {o:Oper} {a:Act} {w:World} {Q:Exit→Act→World→Prop}
 (hg:o.guard=none) (s x:Operand) (hop:o.op=Op.call { callee:=Callee.builtin Builtin.append,args:=#[s,x],argTypes:=#[69,69] })
 (lo hi:Nat) (v:Value) (k:Nat) (g:Nat→Nat) (hs:a.eval s=v) (hown:Own w lo hi v k g) (h:Nat) (xv:Value) (m:Nat) (f:Nat→Nat) (hx:a.eval x=xv) (hox:Rd w h xv m f) (h0:0<m) (hgf:∀ i,i<m→g (k+i)=f i)
 (hm:k+m≤1000000) (hlo:lo≤w.heap.size)
 (hK:∀ v' w',Own w' lo w'.heap.size v' (k+m) g→w.grownBy w' v.ownBlock→wpList Tryz.prog ops Q rest (a.put o.dst v') w'):wpList Tryz.prog ops Q (o::rest) a w:=by
 refine wpList_plain hg fun K hK'=>?_;obtain ⟨v',w',hrun,r1,r2⟩:=zgt w o.type lo hi v k g hown h xv m f hox h0 hgf hm hlo;unfold Oper.wp
 simp [execOp,hop,resolve,invoke,builtin,hs,hx,hrun,Result.andThen]
 exact hK' _ _ (hK v' w' r1 r2)
theorem zeU {ops:Array Oper} {rest:List Oper} {o:Oper} {a:Act} {w:World} {Q:Exit→Act→World→Prop}
 (hg:o.guard=none) (s x:Operand) (hop:o.op=Op.call { callee:=Callee.builtin Builtin.append,args:=#[s,x],argTypes:=#[75,75] })
 (lo:Nat) (v:Value) (k:Nat) (e:Nat→Value) (hs:a.eval s=v) (hown:w.ownsRow lo 69 1 v k (zal k e)) (b off m c:Nat) (hx:a.eval x=.slice (some ⟨b,off,none⟩) m c) (hcell:∀ i,i<m→w.cell? ⟨b,off+i,none⟩=some (e (k+i))) (hy:∀ i,i<m→(e (k+i)).oneCell'=true)
 (hk:k+m≤1000000) (hlo:lo≤w.heap.size)
 (hK:∀ v' w',w'.ownsRow lo 69 1 v' (k+m) (zal (k+m) e)→w.grownBy w' v.ownBlock→(v'=nilS↔v=nilS∧m=0)→wpList Tryz.prog ops Q rest (a.put o.dst v') w'):wpList Tryz.prog ops Q (o::rest) a w:=by
 obtain ⟨i0,hi0,hz0,hz1,hz2⟩:=info_parts zeO;refine wpList_append_own w hg s x 75 hop lo 69 i0 nilS 1 24 Tryz.underlying75 hi0 hz0 hz1 hz2 rfl (by decide) v k (zal k e) hs hown ⟨b,off,none⟩ m c (zal m fun i=>e (k+i)) hx (by rw [zax];omega) ?_ ?_ (by unfold maxLen;omega) (by omega) hlo ?_
 ·intro j u hj
  by_cases hjm:j<m
  ·rw [zaC _ _ _ hjm] at hj
   cases hj
   rw [add_none'];exact hcell j hjm
  ·rw [List.getElem?_eq_none (by rw [zax];omega)] at hj
   cases hj
 ·intro u hu
  obtain ⟨i,hi,rfl⟩:=List.mem_map.1 hu;exact hy i (List.mem_range.1 hi)
 ·intro v' w' h1 h2 h3
  rw [zgs k m e _ (fun _ _=>rfl)] at h1;exact hK v' w' h1 h2 h3
theorem zcz {ops:Array Oper} {o:Oper} {a:Act} {w:World} {K:Act→World→Prop} {Q:Exit→Act→World→Prop} {E:Prop}
 (hg:o.guard=none) (s x:Operand) (hop:o.op=Op.call { callee:=Callee.builtin Builtin.append,args:=#[s,x],argTypes:=#[69,69] })
 (p:Nat) (z:Nat→Nat) (hs:a.eval s=.slice (some ⟨p,0,none⟩) 0 0) (hown:Own w p (p+1) (.slice (some ⟨p,0,none⟩) 0 0) 0 z) (lo2 hi2:Nat) (xv:Value) (m:Nat) (f:Nat→Nat) (hx:a.eval x=xv) (hox:Own w lo2 hi2 xv m f)
 (hm:m≤1000000)
 (hK:∀ v' w',Own w' p w'.heap.size v' m f→Chg p (p+1) w w'→K (a.put o.dst v') w') :
 if Region.wanted o (yielded ops a.tmps)=true then Oper.wp Tryz.prog o a w K Q else E:=by
 have hw:Region.wanted o (yielded ops a.tmps)=true:=by simp [Region.wanted,hg]
 rw [if_pos hw];obtain ⟨i0,hi0,hz0,hz1,hz2⟩:=info_parts zdj;have hlo:p≤w.heap.size:=Nat.le_of_lt (hown.1.lt p rfl).2
 have key:∃ v' w',(Builtin.append_ #[69,69] o.type #[.slice (some ⟨p,0,none⟩) 0 0,xv]).run Tryz.prog w=.ok v' w'∧Own w' p w'.heap.size v' m f∧Chg p (p+1) w w':=by
  rcases hox.1.2 with ⟨rfl,rfl⟩ | ⟨g,cap,cur,rfl,hbg,hgg,hnc,hcm,hcs,htake⟩
  ·have hr:=run_append_owned_none (P:=Tryz.prog) w p 69 o.type 5 i0 1 Tryz.underlying69 hi0 _ 0 _ hown.1
   refine ⟨_,w,hr,?_,Chg.refl' _ _ _⟩;have:=hown.congr (g:=f) (fun i hi=>by omega);exact ⟨this.1,fun k hk=>(this.1.lt k hk).2⟩
  ·obtain ⟨v',w',hr,h2,h3,_⟩:=run_append_own (P:=Tryz.prog) w p 69 o.type 5 i0 (.int .u8 0) 1 1 Tryz.underlying69 hi0 hz0 hz1 hz2 rfl (by decide) (.slice (some ⟨p,0,none⟩) 0 0) 0 (cellsOf 0 z) hown.1 ⟨g,0,none⟩ m cap (cellsOf m f) (by rw [zab];omega)
    (fun j u hj=>by
     by_cases hjm:j<m
     ·rw [add_none',Nat.zero_add,hox.1.cellAt j (by omega)]
      exact hj
     ·rw [List.getElem?_eq_none (by rw [zab];omega)] at hj
      cases hj)
    (zbS m f) (by unfold maxLen;omega) (by omega) hlo
   have h2':w'.ownsRow p 5 1 v' m (cellsOf m f):=by
    have e0:cellsOf 0 z++cellsOf m f=cellsOf m f:=rfl;rw [Nat.zero_add,e0] at h2;exact h2
   refine ⟨v',w',hr,⟨h2',fun k hk=>(h2'.lt k hk).2⟩,⟨h3.os,h3.tape,h3.output,h3.size,fun k hk hne=>h3.block k hk ?_⟩⟩
   simp [Value.ownBlock]
   omega
 obtain ⟨v',w',hrun,r1,r2⟩:=key;unfold Oper.wp
 simp [execOp,hop,resolve,invoke,builtin,hs,hx,hrun,Result.andThen]
 exact hK v' w' r1 r2
theorem zfG {ops:Array Oper} {o:Oper} {a:Act} {w:World} {K:Act→World→Prop} {Q:Exit→Act→World→Prop} {E:Prop}
 (hg:o.guard=none) (s x:Operand) (hop:o.op=Op.call { callee:=Callee.builtin Builtin.append,args:=#[s,x],argTypes:=#[75,75] })
 (lo:Nat) (v:Value) (k:Nat) (e:Nat→Value) (hs:a.eval s=v) (hown:w.ownsRow lo 69 1 v k (zal k e)) (b c:Nat) (y:Value) (hx:a.eval x=.slice (some ⟨b,0,none⟩) 1 c) (hcell:w.cell? ⟨b,0,none⟩=some y) (hy:y.oneCell'=true)
 (hk:k+1≤1000000) (hlo:lo≤w.heap.size)
 (hK:∀ v' w',w'.ownsRow lo 69 1 v' (k+1) (zal k e++[y])→w.grownBy w' v.ownBlock→v'≠nilS→K (a.put o.dst v') w') :
 if Region.wanted o (yielded ops a.tmps)=true then Oper.wp Tryz.prog o a w K Q else E:=by
 have hw:Region.wanted o (yielded ops a.tmps)=true:=by simp [Region.wanted,hg]
 rw [if_pos hw];obtain ⟨i0,hi0,hz0,hz1,hz2⟩:=info_parts zeO
 obtain ⟨v',w',hr,h1,h2,h3⟩:=run_append_own (P:=Tryz.prog) w lo 75 o.type 69 i0 nilS 1 24 Tryz.underlying75 hi0 hz0 hz1 hz2 rfl (by decide) v k (zal k e) hown ⟨b,0,none⟩ 1 c [y] rfl
  (fun j u hj=>by
   match j,hj with
   | 0,hj=>simp at hj;subst hj;simpa [Addr.add] using hcell)
  (fun u hu=>by simp at hu;subst hu;exact hy) (by unfold maxLen;omega) (by omega) hlo
 unfold Oper.wp
 simp [execOp,hop,resolve,invoke,builtin,hs,hx,hr,Result.andThen]
 exact hK v' w' h1 h2 (fun hh=>by have:=(h3.mp hh).2;omega)
structure BldO (wr:World) (lo hi:Nat) (v:Value) (k:Nat) (n:Nat→Nat) (f:Mat) (e:Nat→Value):Prop where
 row:wr.ownsRow lo 69 1 v k (zal k e)
 low:∀ b,v.ownBlock=some b→b<hi
 each:∀ i,i<k→Own wr lo hi (e i) (n i) (f i)
 apart:∀ i j,i<k→j<k→i≠j→∀ b,(e i).ownBlock=some b→(e j).ownBlock≠some b
 le:lo≤hi
 le2:hi≤wr.heap.size
theorem zgu (d s:Int) (w:World) :
 Calls Tryz.prog 50 #[.int .i64 d,.int .i64 s] w (zaR (Shp3 d s) w):=by
 by_cases h1:1≤d∧d≤4
 ·by_cases h2:0≤s∧s≤2
  ·go_enter Tryz.func50,Tryz.ntmps50
   go_wp2_with fail
   refine (zaE d 1 4 h1.1 h1.2 _).mono ?_;rintro e w1 ⟨rfl,rfl⟩
   go_wp2_with fail
   refine (zaE s 0 2 h2.1 h2.2 _).mono ?_;rintro e w1 ⟨rfl,rfl⟩;go_wp2;go_ret;exact zam rfl ⟨h1.1,h1.2,h2.1,h2.2⟩ (Below.refl _ _)
  ·go_enter Tryz.func50,Tryz.ntmps50
   go_wp2_with fail
   refine (zaE d 1 4 h1.1 h1.2 _).mono ?_;rintro e w1 ⟨rfl,rfl⟩
   go_wp2_with fail
   refine (zbZ s 0 2 (by omega) _).mono ?_;rintro e w1 ⟨rfl,rfl⟩;go_wp2;go_ret;exact zai rfl (fun h=>h2 ⟨h.2.2.1,h.2.2.2⟩) (Below.refl _ _)
 ·go_enter Tryz.func50,Tryz.ntmps50
  go_wp2_with fail
  refine (zbZ d 1 4 (by omega) _).mono ?_;rintro e w1 ⟨rfl,rfl⟩;go_wp2;go_ret;exact zai rfl (fun h=>h1 ⟨h.1,h.2.1⟩) (Below.refl _ _)
theorem zgv (s:Nat→Int) (w:World) :
 Calls Tryz.prog 15 #[zad s] w fun e w'=>e=.returned (zad s)∧Below w.heap.size w w':=by
 unfold zad;obtain ⟨a0,h0⟩:∃ a,a=s 0:=⟨_,rfl⟩;obtain ⟨a1,h1⟩:∃ a,a=s 1:=⟨_,rfl⟩;obtain ⟨a2,h2⟩:∃ a,a=s 2:=⟨_,rfl⟩;obtain ⟨a3,h3⟩:∃ a,a=s 3:=⟨_,rfl⟩;obtain ⟨a4,h4⟩:∃ a,a=s 4:=⟨_,rfl⟩;obtain ⟨a5,h5⟩:∃ a,a=s 5:=⟨_,rfl⟩;obtain ⟨a6,h6⟩:∃ a,a=s 6:=⟨_,rfl⟩;obtain ⟨a7,h7⟩:∃ a,a=s 7:=⟨_,rfl⟩;obtain ⟨a8,h8⟩:∃ a,a=s 8:=⟨_,rfl⟩;rw [← h0,← h1,← h2,← h3,← h4,← h5,← h6,← h7,← h8];clear h0 h1 h2 h3 h4 h5 h6 h7 h8
 go_enter Tryz.func15,Tryz.ntmps15
 go_wp2;refine bodyPost_ret (v:=.agg #[.int .i64 a0,.int .i64 a1,.int .i64 a2,.int .i64 a3,.int .i64 a4,.int .i64 a5,.int .i64 a6,.int .i64 a7,.int .i64 a8]) (by simp [results,Tryz.results15,go_sem]) rfl ⟨rfl,?_⟩;exact (((Below.refl _ _).alloc (Nat.le_refl _) _).alloc (by simp) _).alloc (by simp<;>omega) _
def zaj (s:Nat→Int):Prop:=Shp3 (s 0) (s 1)∧Shp (s 2) (s 3)∧(1≤s 4∧s 4≤6)∧(1≤s 5∧s 5≤6)∧(1≤s 6∧s 6≤4)∧(1≤s 7∧s 7≤6)∧(0≤s 8∧s 8≤400)
def zjF (s:Nat→Int) (x:Int):Prop:=(x=3∧¬ zaj s)∨(x=0∧zaj s)
theorem box9 {w:World} {b:Nat} {t:TypeId} {a0 a1 a2 a3 a4 a5 a6 a7 a8:Value} (h:Box w b #[a0,a1,a2,a3,a4,a5,a6,a7,a8] t) :
 w.cell? ⟨b,0,none⟩=some a0∧w.cell? ⟨b,1,none⟩=some a1∧w.cell? ⟨b,2,none⟩=some a2∧w.cell? ⟨b,3,none⟩=some a3∧w.cell? ⟨b,4,none⟩=some a4∧w.cell? ⟨b,5,none⟩=some a5∧w.cell? ⟨b,6,none⟩=some a6∧w.cell? ⟨b,7,none⟩=some a7∧w.cell? ⟨b,8,none⟩=some a8:=
 ⟨h.cell 0,h.cell 1,h.cell 2,h.cell 3,h.cell 4,h.cell 5,h.cell 6,h.cell 7,h.cell 8⟩
theorem za4 (s:Nat→Int) (w:World) :
 Calls Tryz.prog 28 #[zad s] w fun e w'=>∃ x,e=.returned (.int .i64 x)∧zjF s x∧Below w.heap.size w w':=by
 unfold zad;have HOK:Hid (zaj s↔zaj s):=Iff.rfl;unfold zaj at HOK;obtain ⟨a0,h0⟩:∃ a,a=s 0:=⟨_,rfl⟩;obtain ⟨a1,h1⟩:∃ a,a=s 1:=⟨_,rfl⟩;obtain ⟨a2,h2⟩:∃ a,a=s 2:=⟨_,rfl⟩;obtain ⟨a3,h3⟩:∃ a,a=s 3:=⟨_,rfl⟩;obtain ⟨a4,h4⟩:∃ a,a=s 4:=⟨_,rfl⟩;obtain ⟨a5,h5⟩:∃ a,a=s 5:=⟨_,rfl⟩;obtain ⟨a6,h6⟩:∃ a,a=s 6:=⟨_,rfl⟩;obtain ⟨a7,h7⟩:∃ a,a=s 7:=⟨_,rfl⟩;obtain ⟨a8,h8⟩:∃ a,a=s 8:=⟨_,rfl⟩
 have HIFF:Hid (zaj s↔(Shp3 a0 a1∧Shp a2 a3∧(1≤a4∧a4≤6)∧(1≤a5∧a5≤6)∧(1≤a6∧a6≤4)∧(1≤a7∧a7≤6)∧(0≤a8∧a8≤400))):=by
  show zaj s↔_
  rw [h0,h1,h2,h3,h4,h5,h6,h7,h8];exact Iff.rfl
 rw [← h0,← h1,← h2,← h3,← h4,← h5,← h6,← h7,← h8];clear h0 h1 h2 h3 h4 h5 h6 h7 h8 HOK
 go_enter Tryz.func28,Tryz.ntmps28
 go_wp2_with fail
 refine (zgu a0 a1 _).mono ?_;rintro e w1 ⟨b1,rfl,hb1,b1'⟩;have X1:Box w1 w.heap.size #[.int .i64 a0,.int .i64 a1,.int .i64 a2,.int .i64 a3,.int .i64 a4,.int .i64 a5,.int .i64 a6,.int .i64 a7,.int .i64 a8] 31:=(zaD w _ _).below b1' (by simp);have B1:Below w.heap.size w w1:=bnew b1';have H1:=hid hb1;have z1:=X1.lt;obtain ⟨x0,x1,x2,x3,x4,x5,x6,x7,x8⟩:=box9 X1;clear hb1 b1'
 cases b1 with
 | false=>
  have HNO:Hid (¬ zaj s):=fun h=>by have:=H1.out.mpr (HIFF.out.mp h).1;cases this
  clear H1;go_wp2;go_ret;exact ⟨3,rfl,.inl ⟨rfl,HNO.out⟩,B1⟩
 | true=>
  have HS1:Hid (Shp3 a0 a1):=H1.out.mp rfl;clear H1
  go_wp2_with fail
  refine (zgr a2 a3 _).mono ?_;rintro e w2 ⟨b2,rfl,hb2,b2'⟩;have X2:=X1.below b2' z1;have B2:Below w.heap.size w w2:=B1.trans (b2'.mono B1.size);have H2:=hid hb2;clear x0 x1 x2 x3 x4 x5 x6 x7 x8;obtain ⟨x0,x1,x2,x3,x4,x5,x6,x7,x8⟩:=box9 X2;clear hb2 b2' X1 B1
  cases b2 with
  | false=>
   have HNO:Hid (¬ zaj s):=fun h=>by have:=H2.out.mpr (HIFF.out.mp h).2.1;cases this
   clear H2;go_wp2;go_ret;exact ⟨3,rfl,.inl ⟨rfl,HNO.out⟩,B2⟩
  | true=>
   have HS2:Hid (Shp a2 a3):=H2.out.mp rfl;clear H2
   by_cases c4:1≤a4∧a4≤6
   ·by_cases c5:1≤a5∧a5≤6
    ·by_cases c6:1≤a6∧a6≤4
     ·by_cases c7:1≤a7∧a7≤6
      ·by_cases c8:0≤a8∧a8≤400
       ·have HY:Hid (zaj s):=HIFF.out.mpr ⟨HS1.out,HS2.out,c4,c5,c6,c7,c8⟩
        go_wp2_with fail
        refine (zaE a4 1 6 c4.1 c4.2 _).mono ?_;rintro e w3 ⟨rfl,hw⟩;obtain rfl:=hw.symm
        go_wp2_with fail
        refine (zaE a5 1 6 c5.1 c5.2 _).mono ?_;rintro e w3 ⟨rfl,hw⟩;obtain rfl:=hw.symm
        go_wp2_with fail
        refine (zaE a6 1 4 c6.1 c6.2 _).mono ?_;rintro e w3 ⟨rfl,hw⟩;obtain rfl:=hw.symm
        go_wp2_with fail
        refine (zaE a7 1 6 c7.1 c7.2 _).mono ?_;rintro e w3 ⟨rfl,hw⟩;obtain rfl:=hw.symm
        go_wp2_with fail
        refine (zaE a8 0 400 c8.1 c8.2 _).mono ?_;rintro e w3 ⟨rfl,hw⟩;obtain rfl:=hw.symm;go_wp2;go_ret;exact ⟨0,rfl,.inr ⟨rfl,HY.out⟩,B2⟩
       ·have HN:Hid (¬ zaj s):=fun h=>c8 (HIFF.out.mp h).2.2.2.2.2.2
        have c8':a8<0∨400<a8:=by omega
        clear c8
        go_wp2_with fail
        refine (zaE a4 1 6 c4.1 c4.2 _).mono ?_;rintro e w3 ⟨rfl,hw⟩;obtain rfl:=hw.symm
        go_wp2_with fail
        refine (zaE a5 1 6 c5.1 c5.2 _).mono ?_;rintro e w3 ⟨rfl,hw⟩;obtain rfl:=hw.symm
        go_wp2_with fail
        refine (zaE a6 1 4 c6.1 c6.2 _).mono ?_;rintro e w3 ⟨rfl,hw⟩;obtain rfl:=hw.symm
        go_wp2_with fail
        refine (zaE a7 1 6 c7.1 c7.2 _).mono ?_;rintro e w3 ⟨rfl,hw⟩;obtain rfl:=hw.symm
        go_wp2_with fail
        refine (zbZ a8 0 400 c8' _).mono ?_;rintro e w3 ⟨rfl,hw⟩;obtain rfl:=hw.symm;go_wp2;go_ret;exact ⟨3,rfl,.inl ⟨rfl,HN.out⟩,B2⟩
      ·have HN:Hid (¬ zaj s):=fun h=>c7 (HIFF.out.mp h).2.2.2.2.2.1
       have c7':a7<1∨6<a7:=by omega
       clear c7
       go_wp2_with fail
       refine (zaE a4 1 6 c4.1 c4.2 _).mono ?_;rintro e w3 ⟨rfl,hw⟩;obtain rfl:=hw.symm
       go_wp2_with fail
       refine (zaE a5 1 6 c5.1 c5.2 _).mono ?_;rintro e w3 ⟨rfl,hw⟩;obtain rfl:=hw.symm
       go_wp2_with fail
       refine (zaE a6 1 4 c6.1 c6.2 _).mono ?_;rintro e w3 ⟨rfl,hw⟩;obtain rfl:=hw.symm
       go_wp2_with fail
       refine (zbZ a7 1 6 c7' _).mono ?_;rintro e w3 ⟨rfl,hw⟩;obtain rfl:=hw.symm;go_wp2;go_ret;exact ⟨3,rfl,.inl ⟨rfl,HN.out⟩,B2⟩
     ·have HN:Hid (¬ zaj s):=fun h=>c6 (HIFF.out.mp h).2.2.2.2.1
      have c6':a6<1∨4<a6:=by omega
      clear c6
      go_wp2_with fail
      refine (zaE a4 1 6 c4.1 c4.2 _).mono ?_;rintro e w3 ⟨rfl,hw⟩;obtain rfl:=hw.symm
      go_wp2_with fail
      refine (zaE a5 1 6 c5.1 c5.2 _).mono ?_;rintro e w3 ⟨rfl,hw⟩;obtain rfl:=hw.symm
      go_wp2_with fail
      refine (zbZ a6 1 4 c6' _).mono ?_;rintro e w3 ⟨rfl,hw⟩;obtain rfl:=hw.symm;go_wp2;go_ret;exact ⟨3,rfl,.inl ⟨rfl,HN.out⟩,B2⟩
    ·have HN:Hid (¬ zaj s):=fun h=>c5 (HIFF.out.mp h).2.2.2.1
     have c5':a5<1∨6<a5:=by omega
     clear c5
     go_wp2_with fail
     refine (zaE a4 1 6 c4.1 c4.2 _).mono ?_;rintro e w3 ⟨rfl,hw⟩;obtain rfl:=hw.symm
     go_wp2_with fail
     refine (zbZ a5 1 6 c5' _).mono ?_;rintro e w3 ⟨rfl,hw⟩;obtain rfl:=hw.symm;go_wp2;go_ret;exact ⟨3,rfl,.inl ⟨rfl,HN.out⟩,B2⟩
   ·have HN:Hid (¬ zaj s):=fun h=>c4 (HIFF.out.mp h).2.2.1
    have c4':a4<1∨6<a4:=by omega
    clear c4
    go_wp2_with fail
    refine (zbZ a4 1 6 c4' _).mono ?_;rintro e w3 ⟨rfl,hw⟩;obtain rfl:=hw.symm;go_wp2;go_ret;exact ⟨3,rfl,.inl ⟨rfl,HN.out⟩,B2⟩
set_option maxRecDepth 20000 in
theorem zhF:ToV zaq zaK 110:=fun cs d hi w r hhi hn=>by
 obtain ⟨ao1,cap1,rfl,h1,k0⟩:=zaV r;clear r;unfold zaK at hn;have R1:=hid h1;clear h1;have Q0:=hid k0;clear k0
 go_enter Tryz.func110,Tryz.ntmps110
 go_wp2_with fail
 have T0:=zb2 w #[.int .i64 d.stamp,.slice ao1 d.bytes.1 cap1] #[.int .i64 0,.slice none 0 0] #[.int .i64 d.stamp,.slice none 0 0] 137 83 83;refine (zdm _ d.bytes hi _ (zag.rd_below R1.out T0.bel hhi) (Nat.le_trans hhi T0.bel.size) (by omega)).mono ?_;rintro e w1 ⟨v1,rfl,o1,b1⟩;have L1:=T0.lt;obtain ⟨bo1,bcap1,hv⟩:=zcU o1;obtain rfl:=zcM hv;clear hv;have T1:Three w w1 #[.int .i64 d.stamp,.slice ao1 d.bytes.1 cap1] #[.int .i64 0,.slice none 0 0] #[.int .i64 d.stamp,.slice none 0 0] 137 83 83:=T0.call b1;have O1:Hid (OwnT zag w1 (w.heap.size+1+1+1) (w1.heap.size) d.bytes [.slice bo1 d.bytes.1 bcap1]):=o1.weaken (by simp<;>omega) (Nat.le_refl _);clear o1;have LT1:w.heap.size+1+1+1≤w1.heap.size:=T1.lt;have y1_0:w1.cell? ⟨w.heap.size+1+1,0,none⟩=some (.int .i64 d.stamp):=T1.b3.cell 0;have y1_1:w1.cell? ⟨w.heap.size+1+1,1,none⟩=some (.slice none 0 0):=T1.b3.cell 1;have yf1_1:w1.frozen? ⟨w.heap.size+1+1,1,none⟩=false:=T1.b3.frozen 1;have z1_0:w1.cell? ⟨w.heap.size+1,0,none⟩=some (.int .i64 0):=T1.b2.cell 0;have zf1_0:w1.frozen? ⟨w.heap.size+1,0,none⟩=false:=T1.b2.frozen 0;have z1_1:w1.cell? ⟨w.heap.size+1,1,none⟩=some (.slice none 0 0):=T1.b2.cell 1;have zf1_1:w1.frozen? ⟨w.heap.size+1,1,none⟩=false:=T1.b2.frozen 1;have Bq:=hid T1.bel;clear T1 b1;go_wp2;refine bodyPost_ret (v:=.agg #[.int .i64 d.stamp,.slice bo1 d.bytes.1 bcap1]) (by simp [results,Tryz.results110,go_sem,y1_0,z1_0,y1_1,z1_1]) rfl ?_;have F:OwnT zaq w1 (w.heap.size+1+1+1) w1.heap.size d ([.int .i64 d.stamp]++[.slice bo1 d.bytes.1 bcap1]):=OwnT.conv (OwnT.pre (A:=layI) (a:=d.stamp) (c:=[.int .i64 d.stamp]) ⟨rfl,Q0.out,rfl⟩ (O1.out));exact ⟨[.int .i64 d.stamp,.slice bo1 d.bytes.1 bcap1],rfl,OwnT.fin F 1 0 [.slice bo1 d.bytes.1 bcap1] [.int .i64 d.stamp,.slice bo1 d.bytes.1 bcap1] _ rfl,zcr Bq.out 1 0 [.slice bo1 d.bytes.1 bcap1] [.int .i64 d.stamp,.slice bo1 d.bytes.1 bcap1] _ rfl⟩
theorem zgw:(Tryz.prog.info? 83).map (fun i=>(i.zero.map (·.cells),i.size,i.bytes))=some (some #[.int .i64 0,.slice none 0 0],2,32):=by kernel_rfl
theorem zgx:ToS (zaq.slice 83) (szSl zaK) 89:=fun v d hi w h hhi hn=>by
 obtain ⟨n,x⟩:=d;obtain ⟨ao,cap,hv,hm,hc⟩:=h
 cases hv
 have hn1:=zfw hn;have hn2:∀ i,i<n→zaK (x i)≤1048576:=fun i hi=>zcS hn hi
 simp only at hn1 hm hc
 clear hn
 go_enter Tryz.func89,Tryz.ntmps89
 go_wp2_with (at_make;refine zc5 zaq [.int .i64 0,.slice none 0 0] _ 83 32 (by decide) rfl Tryz.underlying77 zgw x (fun _=>[]) _ rfl _ _ rfl _ _ n rfl rfl rfl rfl (by omega) (by omega) ?_;intro w1 sp1 hb1)
 go_loopw [4] (fun i wr=>∃ k:Nat,k≤n∧i=.int .i64 k∧∃ ce Ls,SlP zaq 83 wr w.heap.size w.heap.size n n k x ce Ls∧Below w.heap.size w wr) (fun i _=>n-(intOf i).toNat)
 case atStart=>exact ⟨0,Nat.zero_le _,rfl,_,_,sp1,hb1⟩
 case round=>
  clear sp1 hb1;obtain ⟨k,hk,rfl,ce,Ls,sp,hb⟩:=hrel
  by_cases hlt:k<n
  ·obtain ⟨b,off,rfl,hblt,hel⟩:=hc (by omega)
   obtain ⟨ck,hrk,hcell⟩:=zat (t:=0) hel hb hhi hblt hlt;obtain ⟨ao1,cap1,rfl,-⟩:=zaV hrk;have c0:wr.cell? ⟨b,off+k*2,none⟩=some (.int .i64 (x k).stamp):=hcell 0 (by decide);have c1:wr.cell? ⟨b,off+k*2+1,none⟩=some (.slice ao1 (x k).bytes.1 cap1):=hcell 1 (by decide);clear hc hel hcell
   go_wp2_with fail
   refine (zhF _ (x k) hi wr hrk (Nat.le_trans hhi hb.size) (hn2 k hlt)).mono ?_;rintro e w2 ⟨cs',rfl,o2,hb2⟩;obtain ⟨bao1,bcap1,rfl⟩:=zgd o2;obtain ⟨z0,s0⟩:=sp.some hb2 hlt (show 0<zaq.sz by decide);have s0:w2.cell? ⟨w.heap.size,k*2,none⟩=some z0:=s0;have sf0:=(sp.below hb2).frozen (k*2);obtain ⟨z1,s1⟩:=sp.some hb2 hlt (show 1<zaq.sz by decide);have s1:w2.cell? ⟨w.heap.size,k*2+1,none⟩=some z1:=s1;have sf1:=(sp.below hb2).frozen (k*2+1);have N:=sp.next hb2 hlt o2 hb.size;have N2:Below w.heap.size w (stN w2 w.heap.size (k*zaq.sz) [.int .i64 (x k).stamp,.slice bao1 (x k).bytes.1 bcap1]):=(hb.trans (hb2.mono hb.size)).trans (zby (Nat.le_refl _) _ _);clear o2 hb2 sp hb
   go_wp2_with fail
   go_roundw
   case rel=>
    obtain ⟨ce',Ls',N⟩:=N;exact ⟨k+1,by omega,by go_num,ce',Ls',N,N2⟩
   case measure=>simp [intOf];omega
  ·obtain rfl:k=n:=by omega
   go_wp2;go_ret;exact ⟨_,rfl,sp.done (Nat.le_refl _),hb⟩
set_option maxRecDepth 20000 in
theorem zhG:ToV zae zao 62:=fun cs d hi w r hhi hn=>by
 obtain ⟨ao1,cap1,rfl,h1⟩:=zaM r;clear r;unfold zao at hn;have R1:=hid h1;clear h1
 go_enter Tryz.func62,Tryz.ntmps62
 go_wp2_with fail
 have T0:=zb2 w #[.bool d.wiped,.slice ao1 d.blocks.1 cap1] #[.bool false,.slice none 0 0] #[.bool d.wiped,.slice none 0 0] 93 79 79;refine (zgx _ d.blocks hi _ ((zaq.slice 83).rd_below R1.out T0.bel hhi) (Nat.le_trans hhi T0.bel.size) (by omega)).mono ?_;rintro e w1 ⟨v1,rfl,o1,b1⟩;have L1:=T0.lt;obtain ⟨bo1,bcap1,hv⟩:=zc7 o1;obtain rfl:=zcM hv;clear hv;have T1:Three w w1 #[.bool d.wiped,.slice ao1 d.blocks.1 cap1] #[.bool false,.slice none 0 0] #[.bool d.wiped,.slice none 0 0] 93 79 79:=T0.call b1;have O1:Hid (OwnT (zaq.slice 83) w1 (w.heap.size+1+1+1) (w1.heap.size) d.blocks [.slice bo1 d.blocks.1 bcap1]):=o1.weaken (by simp<;>omega) (Nat.le_refl _);clear o1;have LT1:w.heap.size+1+1+1≤w1.heap.size:=T1.lt;have y1_0:w1.cell? ⟨w.heap.size+1+1,0,none⟩=some (.bool d.wiped):=T1.b3.cell 0;have y1_1:w1.cell? ⟨w.heap.size+1+1,1,none⟩=some (.slice none 0 0):=T1.b3.cell 1;have yf1_1:w1.frozen? ⟨w.heap.size+1+1,1,none⟩=false:=T1.b3.frozen 1;have z1_0:w1.cell? ⟨w.heap.size+1,0,none⟩=some (.bool false):=T1.b2.cell 0;have zf1_0:w1.frozen? ⟨w.heap.size+1,0,none⟩=false:=T1.b2.frozen 0;have z1_1:w1.cell? ⟨w.heap.size+1,1,none⟩=some (.slice none 0 0):=T1.b2.cell 1;have zf1_1:w1.frozen? ⟨w.heap.size+1,1,none⟩=false:=T1.b2.frozen 1;have Bq:=hid T1.bel;clear T1 b1;go_wp2;refine bodyPost_ret (v:=.agg #[.bool d.wiped,.slice bo1 d.blocks.1 bcap1]) (by simp [results,Tryz.results62,go_sem,y1_0,z1_0,y1_1,z1_1]) rfl ?_;have F:OwnT zae w1 (w.heap.size+1+1+1) w1.heap.size d ([.bool d.wiped]++[.slice bo1 d.blocks.1 bcap1]):=OwnT.conv (OwnT.pre (A:=layB) (a:=d.wiped) (c:=[.bool d.wiped]) ⟨rfl,trivial,rfl⟩ (O1.out));exact ⟨[.bool d.wiped,.slice bo1 d.blocks.1 bcap1],rfl,OwnT.fin F 1 0 [.slice bo1 d.blocks.1 bcap1] [.bool d.wiped,.slice bo1 d.blocks.1 bcap1] _ rfl,zcr Bq.out 1 0 [.slice bo1 d.blocks.1 bcap1] [.bool d.wiped,.slice bo1 d.blocks.1 bcap1] _ rfl⟩
theorem zgy:(Tryz.prog.info? 79).map (fun i=>(i.zero.map (·.cells),i.size,i.bytes))=some (some #[.bool false,.slice none 0 0],2,32):=by kernel_rfl
theorem zgz:ToS (zae.slice 79) (szSl zao) 39:=fun v d hi w h hhi hn=>by
 obtain ⟨n,x⟩:=d;obtain ⟨ao,cap,hv,hm,hc⟩:=h
 cases hv
 have hn1:=zfw hn;have hn2:∀ i,i<n→zao (x i)≤1048576:=fun i hi=>zcS hn hi
 simp only at hn1 hm hc
 clear hn
 go_enter Tryz.func39,Tryz.ntmps39
 go_wp2_with (at_make;refine zc5 zae [.bool false,.slice none 0 0] _ 79 32 (by decide) rfl Tryz.underlying80 zgy x (fun _=>[]) _ rfl _ _ rfl _ _ n rfl rfl rfl rfl (by omega) (by omega) ?_;intro w1 sp1 hb1)
 go_loopw [4] (fun i wr=>∃ k:Nat,k≤n∧i=.int .i64 k∧∃ ce Ls,SlP zae 79 wr w.heap.size w.heap.size n n k x ce Ls∧Below w.heap.size w wr) (fun i _=>n-(intOf i).toNat)
 case atStart=>exact ⟨0,Nat.zero_le _,rfl,_,_,sp1,hb1⟩
 case round=>
  clear sp1 hb1;obtain ⟨k,hk,rfl,ce,Ls,sp,hb⟩:=hrel
  by_cases hlt:k<n
  ·obtain ⟨b,off,rfl,hblt,hel⟩:=hc (by omega)
   obtain ⟨ck,hrk,hcell⟩:=zat (t:=0) hel hb hhi hblt hlt;obtain ⟨ao1,cap1,rfl,-⟩:=zaM hrk;have c0:wr.cell? ⟨b,off+k*2,none⟩=some (.bool (x k).wiped):=hcell 0 (by decide);have c1:wr.cell? ⟨b,off+k*2+1,none⟩=some (.slice ao1 (x k).blocks.1 cap1):=hcell 1 (by decide);clear hc hel hcell
   go_wp2_with fail
   refine (zhG _ (x k) hi wr hrk (Nat.le_trans hhi hb.size) (hn2 k hlt)).mono ?_;rintro e w2 ⟨cs',rfl,o2,hb2⟩;obtain ⟨bao1,bcap1,rfl⟩:=zge o2;obtain ⟨z0,s0⟩:=sp.some hb2 hlt (show 0<zae.sz by decide);have s0:w2.cell? ⟨w.heap.size,k*2,none⟩=some z0:=s0;have sf0:=(sp.below hb2).frozen (k*2);obtain ⟨z1,s1⟩:=sp.some hb2 hlt (show 1<zae.sz by decide);have s1:w2.cell? ⟨w.heap.size,k*2+1,none⟩=some z1:=s1;have sf1:=(sp.below hb2).frozen (k*2+1);have N:=sp.next hb2 hlt o2 hb.size;have N2:Below w.heap.size w (stN w2 w.heap.size (k*zae.sz) [.bool (x k).wiped,.slice bao1 (x k).blocks.1 bcap1]):=(hb.trans (hb2.mono hb.size)).trans (zby (Nat.le_refl _) _ _);clear o2 hb2 sp hb
   go_wp2_with fail
   go_roundw
   case rel=>
    obtain ⟨ce',Ls',N⟩:=N;exact ⟨k+1,by omega,by go_num,ce',Ls',N,N2⟩
   case measure=>simp [intOf];omega
  ·obtain rfl:k=n:=by omega
   go_wp2;go_ret;exact ⟨_,rfl,sp.done (Nat.le_refl _),hb⟩
theorem zfH:(Tryz.prog.info? 80).map (fun i=>(i.zero.map (·.cells),i.size,i.bytes))=some (some #[.slice none 0 0],1,24):=by kernel_rfl
theorem zfI:ToS ((zae.slice 79).slice 80) (szSl (szSl zao)) 16:=fun v d hi w h hhi hn=>by
 obtain ⟨n,x⟩:=d;obtain ⟨ao,cap,hv,hm,hc⟩:=h
 cases hv
 have hn1:=zfw hn;have hn2:∀ i,i<n→(szSl zao) (x i)≤1048576:=fun i hi=>zcS hn hi
 simp only at hn1 hm hc
 clear hn
 go_enter Tryz.func16,Tryz.ntmps16
 go_wp2_with (at_make;refine zc5 (zae.slice 79) [.slice none 0 0] _ 80 24 (by decide) rfl Tryz.underlying32 zfH x (fun _=>[]) _ rfl _ _ rfl _ _ n rfl rfl rfl rfl (by omega) (by omega) ?_;intro w1 sp1 hb1)
 go_loopw [4] (fun i wr=>∃ k:Nat,k≤n∧i=.int .i64 k∧∃ ce Ls,SlP (zae.slice 79) 80 wr w.heap.size w.heap.size n n k x ce Ls∧Below w.heap.size w wr) (fun i _=>n-(intOf i).toNat)
 case atStart=>exact ⟨0,Nat.zero_le _,rfl,_,_,sp1,hb1⟩
 case round=>
  clear sp1 hb1;obtain ⟨k,hk,rfl,ce,Ls,sp,hb⟩:=hrel
  by_cases hlt:k<n
  ·obtain ⟨b,off,rfl,hblt,hel⟩:=hc (by omega)
   obtain ⟨ck,hrk,hcell⟩:=zat (t:=0) hel hb hhi hblt hlt;obtain ⟨ao9,cap9,rfl⟩:=za0 hrk
   have c0:wr.cell? ⟨b,off+k,none⟩=some (.slice ao9 (x k).1 cap9):=by
    have h:=hcell 0 (show 0<1 by decide);rw [show (zae.slice 79).sz=1 from rfl,Nat.mul_one,Nat.add_zero] at h;exact h
   clear hc hel hcell
   go_wp2_with fail
   refine (zgz _ (x k) hi wr hrk (Nat.le_trans hhi hb.size) (hn2 k hlt)).mono ?_;rintro e w2 ⟨v',rfl,o2,hb2⟩;obtain ⟨bao9,bcap9,hv'⟩:=zc7 o2;obtain rfl:=zcM hv';clear hv';obtain ⟨z0,s0⟩:=sp.some hb2 hlt (show 0<(zae.slice 79).sz by decide);rw [show (zae.slice 79).sz=1 from rfl,Nat.mul_one,Nat.add_zero] at s0;have sf0:=(sp.below hb2).frozen k;have N:=sp.next hb2 hlt o2 hb.size;have N2:Below w.heap.size w (stN w2 w.heap.size (k*(zae.slice 79).sz) [.slice bao9 (x k).1 bcap9]):=(hb.trans (hb2.mono hb.size)).trans (zby (Nat.le_refl _) _ _);rw [show (zae.slice 79).sz=1 from rfl,Nat.mul_one] at N N2;clear o2 hb2 sp hb
   go_wp2_with fail
   go_roundw
   case rel=>
    obtain ⟨ce',Ls',N⟩:=N;exact ⟨k+1,by omega,by go_num,ce',Ls',N,N2⟩
   case measure=>simp [intOf];omega
  ·obtain rfl:k=n:=by omega
   go_wp2;go_ret;exact ⟨_,rfl,sp.done (Nat.le_refl _),hb⟩
end Go.Proofs.YtfhgcadinjfooaaGreat
