/- What the frames of all laws share: an integer that came in as a natural number, a slice of bytes that came in as a row of cells. -/
import Derived.Test.YtlpbohnadenacaaGreatChecked
import Derived.WalkKit
import Derived.ProofKit
import Derived.OpenShut
import Derived.ChangeOld
import Derived.Below
import Derived.Test.YtlpbohnadenacaaGreatProg
import Derived.WalkLawsBesides
import Derived.Deep.Slices
import Derived.BigQuiet
import Derived.Deep.QuietTactic
import Derived.Deep.Matrix
import Derived.ChangeSame
import Derived.ChangeMaps5
import Derived.Maps.AppendAt
set_option linter.unusedVariables false
set_option linter.unusedSimpArgs false
set_option maxHeartbeats 16000000
namespace Go.Proofs.YtlpbohnadenacaaGreat
open Go.ChangeShapes Go.WideShapes Go.ChangeAt Go.RowKit
theorem zjZ:ownKnob Tryz.prog.godebug=none:=by kernel_rfl
theorem zfC:laidOutB Tryz.prog=true:=by kernel_rfl
def IsRow (w:World) (a:Option Addr) (len cap:Nat) (zs:List Int):Prop:=
 (a=none∧len=0∧cap=0∧zs=[]) ∨
 ∃ x,a=some x∧len≤cap∧cap≤maxLen∧zs.length=cap∧(∀ i,i<zs.length→w.cell? (x.add i)=some (.int .u8 (zs.getD i 0)))∧∀ n∈zs,(Lit.int .u8 n).wf=true
theorem zhE {t e:TypeId} {H:Type} {enc:TypeId×Value→H} {W:World} {a:Option Addr} {len cap:Nat} {d:DataW H} {ps:List MemPlace}
 (hu:Tryz.prog.underlying t=some (.slice e)) (he:Tryz.prog.underlying e=some (.int .u8)) (hc:Tryz.prog.cellsOf e=1)
 (h:DataW.Trod enc Tryz.prog W 0 (fun _=>true) true t (.slice a len cap) d ps):∃ zs,IsRow W a len cap zs:=by
 obtain ⟨fuel,hf⟩:=h
 rcases open_ints hu he hc hf with ⟨hcs,_⟩ | ⟨x,l,c,zs,hcs,_,hl,hm,hz,_,hcell,hwz⟩
 ·simp [Value.cells] at hcs
  obtain ⟨rfl,rfl,rfl⟩:=hcs;exact ⟨[],.inl ⟨rfl,rfl,rfl,rfl⟩⟩
 ·simp [Value.cells] at hcs
  obtain ⟨rfl,rfl,rfl⟩:=hcs;exact ⟨zs,.inr ⟨_,rfl,hl,hm,by simpa using hz,hcell,hwz⟩⟩
end Go.Proofs.YtlpbohnadenacaaGreat
namespace Go.Proofs.YtlpbohnadenacaaGreat.F256
def dblN (x:Nat):Nat:=if 255<2*x then (2*x) ^^^ 285 else 2*x
def tabN (a:Nat):Nat→Nat
 | 0=>a
 | k+1=>dblN (tabN a k)
def accN (a b:Nat):Nat→Nat
 | 0=>0
 | k+1=>if b/2 ^ k%2=1 then accN a b k ^^^ tabN a k else accN a b k
def mulN (a b:Nat):Nat:=accN a b 8
def powN (a:Nat):Nat→Nat
 | 0=>1
 | n+1=>mulN (powN a n) a
def allB (n:Nat) (p:Nat→Bool):Bool:=n.rec true fun k r=>p k&&r
theorem zcd {p:Nat→Bool}:∀ {n:Nat},allB n p=true→∀ i,i<n→p i=true
 | 0,_,i,h=>absurd h (Nat.not_lt_zero i)
 | n+1,h,i,hi=>by
  have h':(p n&&allB n p)=true:=h;rw [Bool.and_eq_true] at h'
  rcases Nat.lt_succ_iff_lt_or_eq.mp hi with hi | rfl
  ·exact zcd h'.2 i hi
  ·exact h'.1
theorem zgG {x y:Nat} (hx:x<256) (hy:y<256):x ^^^ y<256:=Nat.xor_lt_two_pow (n:=8) hx hy
theorem zly {x:Nat} (hx:x<256):dblN x<256:=by
 have h:allB 256 (fun x=>decide (dblN x<256))=true:=by decide +kernel
 simpa using zcd h x hx
theorem zci {a:Nat} (ha:a<256):∀ k,tabN a k<256
 | 0=>ha
 | k+1=>zly (zci ha k)
theorem zc9 {a b:Nat} (ha:a<256):∀ k,accN a b k<256
 | 0=>by simp [accN]
 | k+1=>by
  simp only [accN]
  split
  ·exact zgG (zc9 ha k) (zci ha k)
  ·exact zc9 ha k
theorem zb4 {a b:Nat} (ha:a<256):mulN a b<256:=zc9 ha 8
theorem ziE {x y:Nat} (hx:x<256) (hy:y<256):dblN (x ^^^ y)=dblN x ^^^ dblN y:=by
 have h:allB 256 (fun x=>allB 256 fun y=>dblN (x ^^^ y)==dblN x ^^^ dblN y)=true:=by decide +kernel
 simpa using zcd (zcd h x hx) y hy
theorem ziF {x y:Nat} (hx:x<256) (hy:y<256):∀ k,tabN (x ^^^ y) k=tabN x k ^^^ tabN y k
 | 0=>rfl
 | k+1=>by simp only [tabN,ziF hx hy k,ziE (zci hx k) (zci hy k)]
theorem xor4 (a b c d:Nat):(a ^^^ b) ^^^ (c ^^^ d)=(a ^^^ c) ^^^ (b ^^^ d):=by
 rw [Nat.xor_assoc,Nat.xor_assoc,← Nat.xor_assoc b c d,Nat.xor_comm b c,Nat.xor_assoc c b d]
theorem ziG {x y b:Nat} (hx:x<256) (hy:y<256):∀ k,accN (x ^^^ y) b k=accN x b k ^^^ accN y b k
 | 0=>by simp [accN]
 | k+1=>by
  simp only [accN,ziG hx hy k,ziF hx hy k]
  split
  ·exact xor4 _ _ _ _
  ·rfl
theorem zfZ {x y b:Nat} (hx:x<256) (hy:y<256):mulN (x ^^^ y) b=mulN x b ^^^ mulN y b:=ziG hx hy 8
theorem zf0 (a:Nat):∀ k,tabN (dblN a) k=dblN (tabN a k)
 | 0=>rfl
 | k+1=>by simp only [tabN,zf0 a k]
theorem ziH {a b:Nat} (ha:a<256):∀ k,accN (dblN a) b k=dblN (accN a b k)
 | 0=>rfl
 | k+1=>by
  simp only [accN,ziH ha k,zf0 a k]
  split
  ·rw [ziE (zc9 ha k) (zci ha k)]
  ·rfl
theorem zk1 {a b:Nat} (ha:a<256):mulN (dblN a) b=dblN (mulN a b):=ziH ha 8
theorem zdX {b:Nat} (hb:b<256):mulN 1 b=b:=by
 have h:allB 256 (fun b=>mulN 1 b==b)=true:=by decide +kernel
 simpa using zcd h b hb
theorem zcF {b:Nat} (hb:b<256):mulN 0 b=0:=by
 have h:allB 256 (fun b=>mulN 0 b==0)=true:=by decide +kernel
 simpa using zcd h b hb
theorem zbR (a:Nat):mulN a 0=0:=by simp [mulN,accN]
abbrev E (n:Nat):Nat:=tabN 1 n
theorem E_lt (n:Nat):E n<256:=zci (by decide) n
theorem zeT (a i:Nat):∀ j,tabN (tabN a i) j=tabN a (i+j)
 | 0=>rfl
 | j+1=>by rw [← Nat.add_assoc];simp only [tabN,zeT a i j]
theorem zlq {b:Nat} (hb:b<256):∀ i,mulN (E i) b=tabN b i
 | 0=>zdX hb
 | i+1=>by simp only [E,tabN];rw [zk1 (E_lt i),show mulN (tabN 1 i) b=tabN b i from zlq hb i]
theorem zdK (i j:Nat):mulN (E i) (E j)=E (i+j):=by rw [zlq (E_lt j),zeT,Nat.add_comm]
theorem E_255:E 255=1:=by decide +kernel
theorem zj0 (n:Nat):E (n+255)=E n:=by
 have:tabN (tabN 1 255) n=tabN 1 (255+n):=zeT 1 255 n;rw [show tabN 1 255=1 from E_255,Nat.add_comm] at this;exact this.symm
theorem zlN (n:Nat):E (n%255)=E n:=by
 have:∀ q r,E (r+255*q)=E r:=by
  intro q;induction q with
  | zero=>intro r;rfl
  | succ q ih=>intro r;rw [Nat.mul_succ,← Nat.add_assoc,zj0,ih]
 have h:=this (n/255) (n%255);rw [Nat.mod_add_div] at h;exact h.symm
def ziI:Nat→Nat→List Nat
 | 0,_=>[]
 | n+1,x=>x::ziI n (dblN x)
theorem zfD {y:Nat}:∀ {n:Nat} {x:Nat},y∈ziI n x→∃ k,k<n∧tabN x k=y
 | 0,x,h=>by cases h
 | n+1,x,h=>by
  simp only [ziI,List.mem_cons] at h
  rcases h with rfl | h
  ·exact ⟨0,Nat.succ_pos n,rfl⟩
  ·obtain ⟨k,hk,e⟩:=zfD h
   exact ⟨k+1,Nat.succ_lt_succ hk,by rw [← e,zf0];rfl⟩
theorem zfE {x:Nat} (hx:x<256) (h0:x≠0):∃ k,k<255∧E k=x:=by
 have h:allB 256 (fun x=>x==0||(ziI 255 1).contains x)=true:=by decide +kernel
 have:=zcd h x hx
 simp only [Bool.or_eq_true,beq_iff_eq,List.contains_iff_mem] at this
 exact zfD (this.resolve_left h0)
theorem zcG {a b:Nat} (ha:a<256) (hb:b<256):mulN a b=mulN b a:=by
 by_cases h0:a=0
 ·subst h0;rw [zcF hb,zbR]
 ·by_cases h1:b=0
  ·subst h1;rw [zcF ha,zbR]
  ·obtain ⟨i,_,rfl⟩:=zfE ha h0
   obtain ⟨j,_,rfl⟩:=zfE hb h1;rw [zdK,zdK,Nat.add_comm]
theorem zdt {a b c:Nat} (ha:a<256) (hb:b<256) (hc:c<256):mulN (mulN a b) c=mulN a (mulN b c):=by
 by_cases h0:a=0
 ·subst h0;rw [zcF hb,zcF hc,zcF (zb4 hb)]
 ·by_cases h1:b=0
  ·subst h1;rw [zbR,zcF hc,zbR]
  ·by_cases h2:c=0
   ·subst h2;rw [zbR,zbR,zbR]
   ·obtain ⟨i,_,rfl⟩:=zfE ha h0
    obtain ⟨j,_,rfl⟩:=zfE hb h1;obtain ⟨k,_,rfl⟩:=zfE hc h2;rw [zdK,zdK,zdK,zdK,Nat.add_assoc]
theorem ziJ {a:Nat} (ha:a<256):mulN a 1=a:=by rw [zcG ha (by decide),zdX ha]
theorem zfp {a x y:Nat} (ha:a<256) (hx:x<256) (hy:y<256):mulN a (x ^^^ y)=mulN a x ^^^ mulN a y:=by
 rw [zcG ha (zgG hx hy),zfZ hx hy,zcG hx ha,zcG hy ha]
theorem zcr {a:Nat}:∀ n,powN a n<256
 | 0=>by simp [powN]
 | n+1=>zb4 (zcr n)
theorem zj1 (i:Nat):∀ n,powN (E i) n=E (i*n)
 | 0=>rfl
 | n+1=>by rw [powN,zj1 i n,zdK,Nat.mul_succ]
theorem zj2 {n:Nat} (h:0<n):powN 0 n=0:=by
 cases n with
 | zero=>cases h
 | succ n=>exact zbR _
theorem zf1 {a:Nat} (ha:a<256) (m:Nat):∀ n,powN a (m+n)=mulN (powN a m) (powN a n)
 | 0=>by rw [powN,ziJ (zcr m)];rfl
 | n+1=>by rw [← Nat.add_assoc,powN,zf1 ha m n,powN,zdt (zcr m) (zcr n) ha]
theorem zhF {a:Nat} (ha:a<256):∀ n,powN (mulN a a) n=powN a (2*n)
 | 0=>rfl
 | n+1=>by
  rw [powN,zhF ha n,Nat.mul_succ,zf1 ha (2*n) 2]
  congr 1
  show mulN a a=mulN (mulN 1 a) a
  rw [zdX ha]
theorem zk2 {a:Nat} (ha:a<256) (h0:a≠0) (n:Nat):powN a (n%255)=powN a n:=by
 obtain ⟨i,_,rfl⟩:=zfE ha h0;rw [zj1,zj1,← zlN (i*(n%255)),← zlN (i*n),Nat.mul_mod,Nat.mod_mod,← Nat.mul_mod]
end Go.Proofs.YtlpbohnadenacaaGreat.F256
namespace Go.Proofs.YtlpbohnadenacaaGreat
open Go.RowKit F256
theorem zbi {k:IntKind} {x y:Int} (h:x=y):Value.int k x=Value.int k y:=by rw [h]
theorem zcs {k:IntKind} {x y:Int} (h:x=y):Ending.returned (Value.int k x)=Ending.returned (Value.int k y):=by rw [h]
theorem zdL (a b:Nat) (ha:a<65536) (hb:b<65536):bits .xor .i64 (a:Int) (b:Int)=((a ^^^ b:Nat):Int):=by
 have ha':a%2 ^ 64=a:=Nat.mod_eq_of_lt (by omega);have hb':b%2 ^ 64=b:=Nat.mod_eq_of_lt (by omega);have hx:a ^^^ b<2 ^ 16:=Nat.xor_lt_two_pow (by omega) (by omega)
 show IntKind.i64.wrap ((BitVec.ofInt 64 (a:Int) ^^^ BitVec.ofInt 64 (b:Int)).toNat:Int)=_
 rw [BitVec.toNat_xor,BitVec.ofInt_natCast,BitVec.ofInt_natCast,BitVec.toNat_ofNat,BitVec.toNat_ofNat,ha',hb',IntKind.wrap_i64];omega
theorem zj3 (b k:Nat) (hb:b<256):bits .and .u8 ((b:Int)/2 ^ k) 1=((b/2 ^ k%2:Nat):Int):=by
 have e:((b:Int)/2 ^ k)=((b/2 ^ k:Nat):Int):=by simp
 have hlt:b/2 ^ k<256:=Nat.lt_of_le_of_lt (Nat.div_le_self _ _) hb;rw [e];have:=u8_and_nat (b/2 ^ k) 1 hlt (by decide);rw [show ((1:Nat):Int)=1 from rfl] at this;rw [this];rw [show (1:Nat)=2 ^ 1-1 from rfl,Nat.and_two_pow_sub_one_eq_mod]
theorem zj4 {b k:Nat} (hb:b<256) (h:(bits .and .u8 ((b:Int)/2 ^ k) 1==1)=true):b/2 ^ k%2=1:=by
 rw [zj3 b k hb,beq_iff_eq] at h;omega
theorem zlO {b k:Nat} (hb:b<256) (h:(bits .and .u8 ((b:Int)/2 ^ k) 1==1)=false):¬ b/2 ^ k%2=1:=by
 rw [zj3 b k hb] at h;intro e;rw [e] at h;exact absurd h (by decide)
theorem o_yes {a b k:Nat} (ha:a<256) (hb:b<256) (h:(bits .and .u8 ((b:Int)/2 ^ k) 1==1)=true) :
 bits .xor .i64 (accN a b k:Int) (tabN a k:Int)=((accN a b (k+1):Nat):Int):=by
 have h1:=zc9 (b:=b) ha k;have h2:=zci ha k;rw [zdL _ _ (by omega) (by omega)]
 simp only [accN,if_pos (zj4 hb h)]
theorem o_no {a b k:Nat} (hb:b<256) (h:(bits .and .u8 ((b:Int)/2 ^ k) 1==1)=false) :
 (accN a b k:Int)=((accN a b (k+1):Nat):Int):=by
 simp only [accN,if_neg (zlO hb h)]
theorem zlP {a k:Nat} (ha:a<256) (h:(255:Int)<2*(tabN a k:Int)):bits .xor .i64 (2*(tabN a k:Int)) 285=((tabN a (k+1):Nat):Int):=by
 have h2:=zci ha k;have:=zdL (2*tabN a k) 285 (by omega) (by omega);rw [show ((2*tabN a k:Nat):Int)=2*(tabN a k:Int) by omega,show ((285:Nat):Int)=285 from rfl] at this;rw [this]
 simp only [tabN,dblN]
 rw [if_pos (by omega)]
theorem x_in {a k:Nat} (h:2*(tabN a k:Int)≤255):2*(tabN a k:Int)=((tabN a (k+1):Nat):Int):=by
 simp only [tabN,dblN]
 rw [if_neg (by omega)];omega
theorem zj5 {w w1 w2:World} (h:Below w.heap.size w w1) (k:Below w1.heap.size w1 w2):Below w.heap.size w w2:=h.trans (k.mono h.size)
theorem bnew {w w2:World} {o:Obj} (h:Below (w.alloc o).heap.size (w.alloc o) w2):Below w.heap.size w w2:=
 ((Below.refl _ _).alloc (Nat.le_refl _) o).trans (h.mono (by simp))
theorem bsize {w w2:World} {o:Obj} (h:Below (w.alloc o).heap.size (w.alloc o) w2):w.heap.size<w2.heap.size:=by
 have:=h.size
 simp at this
 omega
theorem bAl (w:World) (o:Obj):Below w.heap.size w (w.alloc o):=(Below.refl _ _).alloc (Nat.le_refl _) _
theorem hid {p:Prop} (h:p):Hid p:=h
def cellsOf (n:Nat) (f:Nat→Nat):List Value:=(List.range n).map fun i=>Value.int .u8 (f i)
theorem zah (n:Nat) (f:Nat→Nat):(cellsOf n f).length=n:=by simp [cellsOf]
theorem zas (n:Nat) (f:Nat→Nat) (i:Nat) (h:i<n):(cellsOf n f)[i]?=some (.int .u8 (f i)):=by simp [cellsOf,h]
theorem zja {n:Nat} {f g:Nat→Nat} (h:∀ i,i<n→f i=g i):cellsOf n f=cellsOf n g:=by
 apply List.map_congr_left
 intro i hi;rw [h i (List.mem_range.mp hi)]
theorem zhG (n:Nat) (f g:Nat→Nat) (k:Nat) (x:Nat) (hk:k<n) (h:∀ i,i<n→g i=if i=k then x else f i):(cellsOf n f).set k (.int .u8 x)=cellsOf n g:=by
 apply List.ext_getElem?
 intro i
 by_cases hi:i<n
 ·rw [zas n g i hi,h i hi,List.getElem?_set]
  by_cases e:k=i
  ·subst e;simp [zah,hk]
  ·rw [if_neg e,if_neg (fun h=>e h.symm),zas n f i hi]
 ·rw [List.getElem?_eq_none (by rw [List.length_set,zah];omega),List.getElem?_eq_none (by rw [zah];omega)]
theorem zgH (n:Nat) (f:Nat→Nat):cellsOf n f++[.int .u8 (f n)]=cellsOf (n+1) f:=by
 simp [cellsOf,List.range_succ]
theorem zgI (n:Nat):(madeCells #[Value.int .u8 0] n).toList=cellsOf n fun _=>0:=by
 rw [toList_madeCells_one]
 apply List.ext_getElem?
 intro i
 by_cases hi:i<n
 ·rw [zas _ _ _ hi];simp [hi]
 ·rw [List.getElem?_eq_none (by simp;omega),List.getElem?_eq_none (by rw [zah];omega)]
def Own (w:World) (lo hi:Nat) (v:Value) (n:Nat) (f:Nat→Nat):Prop:=
 w.ownsRow lo 5 1 v n (cellsOf n f)∧∀ k,v.ownBlock=some k→k<hi
def Rd (w:World) (hi:Nat) (v:Value) (n:Nat) (f:Nat→Nat):Prop:=
 ∃ ao cap,v=.slice ao n cap∧n≤maxLen∧(n≠0→∃ b off,ao=some ⟨b,off,none⟩∧b<hi∧∀ i,i<n→w.cell? ⟨b,off+i,none⟩=some (.int .u8 (f i)))
structure Out (lo hi:Nat) (w w':World):Prop where
 os:w'.os=w.os
 tape:w'.tape=w.tape
 output:w'.output=w.output
 size:w'.heap.size=w.heap.size
 block:∀ k,(k<lo∨hi≤k)→w'.heap[k]?=w.heap[k]?
theorem Out.refl (lo hi:Nat) (w:World):Out lo hi w w:=⟨rfl,rfl,rfl,rfl,fun _ _=>rfl⟩
theorem Out.below {lo hi:Nat} {w w':World} (h:Out lo hi w w'):Below lo w w':=⟨h.os,h.tape,h.output,Nat.le_of_eq h.size.symm,fun k hk=>h.block k (.inl hk)⟩
theorem Own.below {w w':World} {lo hi B:Nat} {v:Value} {n:Nat} {f:Nat→Nat} (h:Own w lo hi v n f) (hb:Below B w w') (hB:hi≤B):Own w' lo hi v n f:=by
 refine ⟨⟨h.1.1,?_⟩,h.2⟩
 rcases h.1.2 with hn | ⟨g,cap,cur,rfl,hbg,hgg,rest⟩
 ·exact .inl hn
 ·have:=h.2 g rfl
  exact .inr ⟨g,cap,cur,rfl,hbg,(hb.block g (by omega)).trans hgg,rest⟩
theorem Own.out {w w':World} {lo hi lo' hi':Nat} {v:Value} {n:Nat} {f:Nat→Nat} (h:Own w lo hi v n f) (hb:Out lo' hi' w w') (hB:hi≤lo'∨hi'≤lo):Own w' lo hi v n f:=by
 refine ⟨⟨h.1.1,?_⟩,h.2⟩
 rcases h.1.2 with hn | ⟨g,cap,cur,rfl,hbg,hgg,rest⟩
 ·exact .inl hn
 ·have:=h.2 g rfl
  exact .inr ⟨g,cap,cur,rfl,hbg,(hb.block g (by omega)).trans hgg,rest⟩
theorem Own.mono {w:World} {lo hi hi':Nat} {v:Value} {n:Nat} {f:Nat→Nat} (h:Own w lo hi v n f) (hB:hi≤hi'):Own w lo hi' v n f:=
 ⟨h.1,fun k hk=>Nat.lt_of_lt_of_le (h.2 k hk) hB⟩
theorem Own.rd {w:World} {lo hi:Nat} {v:Value} {n:Nat} {f:Nat→Nat} (h:Own w lo hi v n f):Rd w hi v n f:=by
 rcases h.1.2 with ⟨rfl,rfl⟩ | ⟨g,cap,cur,rfl,hbg,hgg,hnc,hcm,rest⟩
 ·exact ⟨none,0,rfl,Nat.zero_le _,fun h=>absurd rfl h⟩
 ·refine ⟨_,_,rfl,Nat.le_trans hnc hcm,fun _=>⟨g,0,rfl,h.2 g rfl,fun i hi=>?_⟩⟩
  have:=h.1.cellAt i (by omega);rw [Nat.zero_add,this,zas n f i hi]
theorem Rd.below {w w':World} {hi B:Nat} {v:Value} {n:Nat} {f:Nat→Nat} (h:Rd w hi v n f) (hb:Below B w w') (hB:hi≤B):Rd w' hi v n f:=by
 obtain ⟨ao,cap,rfl,hn,hc⟩:=h;refine ⟨ao,cap,rfl,hn,fun h0=>?_⟩;obtain ⟨b,off,rfl,hlt,hcell⟩:=hc h0;exact ⟨b,off,rfl,hlt,fun i hi=>(hb.cell (p:=⟨b,off+i,none⟩) (by show b<B;omega)).trans (hcell i hi)⟩
theorem Rd.mono {w:World} {hi hi':Nat} {v:Value} {n:Nat} {f:Nat→Nat} (h:Rd w hi v n f) (hB:hi≤hi'):Rd w hi' v n f:=by
 obtain ⟨ao,cap,rfl,hn,hc⟩:=h;refine ⟨ao,cap,rfl,hn,fun h0=>?_⟩;obtain ⟨b,off,rfl,hlt,hcell⟩:=hc h0;exact ⟨b,off,rfl,by omega,hcell⟩
theorem Own.congr {w:World} {lo hi:Nat} {v:Value} {n:Nat} {f g:Nat→Nat} (h:Own w lo hi v n f) (e:∀ i,i<n→f i=g i):Own w lo hi v n g:=by
 refine ⟨?_,h.2⟩;rw [← zja e];exact h.1
theorem zlz (w:World) (lo hi:Nat) (f:Nat→Nat):Own w lo hi (.slice none 0 0) 0 f:=⟨World.ownsRow_nil _ _ _ _,fun _ h=>by cases h⟩
theorem Own.form {w:World} {lo hi:Nat} {v:Value} {n:Nat} {f:Nat→Nat} (h:Own w lo hi v n f) (h0:n≠0) :
 ∃ g cap,v=.slice (some ⟨g,0,none⟩) n cap∧lo≤g∧g<hi∧g<w.heap.size∧n≤cap:=by
 rcases h.1.2 with ⟨rfl,rfl⟩ | ⟨g,cap,cur,rfl,hbg,hgg,hnc,_⟩
 ·exact absurd rfl h0
 ·exact ⟨g,cap,rfl,hbg,h.2 g rfl,(Array.getElem?_eq_some_iff.1 hgg).1,hnc⟩
theorem Own.slice {w:World} {lo hi:Nat} {v:Value} {n:Nat} {f:Nat→Nat} (h:Own w lo hi v n f):∃ ao cap,v=.slice ao n cap:=by
 rcases h.1.2 with ⟨rfl,rfl⟩ | ⟨g,cap,cur,rfl,_⟩
 ·exact ⟨_,_,rfl⟩
 ·exact ⟨_,_,rfl⟩
theorem Own.store {w:World} {lo hi g cap n:Nat} {f g':Nat→Nat} (h:Own w lo hi (.slice (some ⟨g,0,none⟩) n cap) n f) (k x:Nat) (hk:k<n)
 (e:∀ i,i<n→g' i=if i=k then x else f i):Own (w.setCell ⟨g,k,none⟩ (.int .u8 x)) lo hi (.slice (some ⟨g,0,none⟩) n cap) n g':=by
 refine ⟨?_,h.2⟩;have:=(h.1.stored k (.int .u8 x)).1;rw [zhG n f g' k x hk e] at this;exact this
theorem zcH (w:World) (lo hi g k:Nat) (u:Value) (h1:lo≤g) (h2:g<hi):Out lo hi w (w.setCell ⟨g,k,none⟩ u):=
 ⟨rfl,rfl,rfl,by simp,fun j hj=>heap_setCell_other w ⟨g,k,none⟩ j u (by show j≠g;omega)⟩
theorem Out.trans {lo hi:Nat} {a b c:World} (h:Out lo hi a b) (k:Out lo hi b c):Out lo hi a c:=
 ⟨k.os.trans h.os,k.tape.trans h.tape,k.output.trans h.output,k.size.trans h.size,fun i hi=>(k.block i hi).trans (h.block i hi)⟩
theorem zf2:(Tryz.prog.info? 5).map (fun i=>(i.zero,i.size,i.bytes))=some (some (.int .u8 0),1,1):=by kernel_rfl
theorem zb7 {w w':World} (h:w.grownBy w' none):Below w.heap.size w w':=⟨h.os,h.tape,h.output,h.size,fun k hk=>h.block k hk (by simp)⟩
theorem zcm (w:World) {ops:Array Oper} {rest:List Oper} {o:Oper} {a:Act} {Q:Exit→Act→World→Prop}
 (hg:o.guard=none) (l c:Operand) (hop:o.op=Op.makeSlice 29 l c) (L C:Int) (n:Nat) (hl:a.eval l=.int .i64 L) (hc:a.eval c=.int .i64 C) (hL:L=(n:Int)) (hC:C=(n:Int)) (hn:n≤140737488351232)
 (hK:∀ w',Own w' w.heap.size w'.heap.size (.slice (some ⟨w.heap.size,0,none⟩) n n) n (fun _=>0)→Below w.heap.size w w'→w.heap.size<w'.heap.size→wpList Tryz.prog ops Q rest (a.put o.dst (.slice (some ⟨w.heap.size,0,none⟩) n n)) w') :
 wpList Tryz.prog ops Q (o::rest) a w:=by
 obtain ⟨i0,hi0,hz0,hz1,hz2⟩:=info_parts zf2;refine wpList_make_full w hg l c 29 hop w.heap.size 5 i0 (.int .u8 0) 1 Tryz.underlying29 hi0 hz0 hz1 .i64 .i64 L C n hl hc hL hC (by rw [hz2];omega) (by unfold maxLen;omega) (Nat.le_refl _) ?_;intro w' hown hgrow
 have hown':w'.ownsRow w.heap.size 5 1 (.slice (some ⟨w.heap.size,0,none⟩) n n) n (cellsOf n fun _=>0):=by
  rw [← zgI n]
  have e:(madeCells (Value.int IntKind.u8 0).cells (n*1)).toList=(madeCells #[Value.int .u8 0] n).toList:=by rw [Nat.mul_one];rfl
  rw [← e];exact hown
 have hlt:=(hown'.lt _ rfl).2;exact hK w' ⟨hown',fun k hk=>(hown'.lt k hk).2⟩ (zb7 hgrow) hlt
theorem Own.alloc {w:World} {lo hi:Nat} {v:Value} {n:Nat} {f:Nat→Nat} (h:Own w lo hi v n f) (o:Obj):Own (w.alloc o) lo hi v n f:=⟨h.1.alloc o,h.2⟩
theorem Own.drew {w:World} {lo hi:Nat} {v:Value} {n:Nat} {f:Nat→Nat} (h:Own w lo hi v n f):Own w.drew lo hi v n f:=h
theorem zeU (w:World) (ty:TypeId) (lo hi:Nat) (v:Value) (n:Nat) (f:Nat→Nat) (hown:Own w lo hi v n f) (b c:Nat) (hcell:w.cell? ⟨b,0,none⟩=some (.int .u8 (f n))) (hn:n+1≤140737488351232) (hlo:lo≤w.heap.size) :
 ∃ v' w',(Builtin.append_ #[29,29] ty #[v,.slice (some ⟨b,0,none⟩) 1 c]).run Tryz.prog w=.ok v' w'∧Own w' lo w'.heap.size v' (n+1) f∧Below lo w w':=by
 obtain ⟨i0,hi0,hz0,hz1,hz2⟩:=info_parts zf2
 obtain ⟨v',w',hr,h2,h3,_⟩:=run_append_own (P:=Tryz.prog) w lo 29 ty 5 i0 (.int .u8 0) 1 1 Tryz.underlying29 hi0 hz0 hz1 hz2 rfl (by decide) v n (cellsOf n f) hown.1 ⟨b,0,none⟩ 1 c [.int .u8 (f n)] rfl
  (fun j u hj=>by
   match j,hj with
   | 0,hj=>simp at hj;subst hj;simpa [Addr.add] using hcell)
  (fun u hu=>by simp at hu;subst hu;rfl) (by unfold maxLen;omega) (by omega) hlo
 rw [zgH] at h2;exact ⟨v',w',hr,⟨h2,fun k hk=>(h2.lt k hk).2⟩,(Below.refl _ _).grown h3 hlo (fun k hk=>(hown.1.lt k hk).1)⟩
theorem zgJ {ops:Array Oper} {o:Oper} {a:Act} {w:World} {K:Act→World→Prop} {Q:Exit→Act→World→Prop} {E:Prop}
 (hg:o.guard=none) (s x:Operand) (hop:o.op=Op.call { callee:=Callee.builtin Builtin.append,args:=#[s,x],argTypes:=#[29,29] })
 (lo hi:Nat) (v:Value) (n:Nat) (f:Nat→Nat) (hs:a.eval s=v) (hown:Own w lo hi v n f) (b c:Nat) (hx:a.eval x=.slice (some ⟨b,0,none⟩) 1 c) (hcell:w.cell? ⟨b,0,none⟩=some (.int .u8 (f n)))
 (hn:n+1≤140737488351232) (hlo:lo≤w.heap.size)
 (hK:∀ v' w',Own w' lo w'.heap.size v' (n+1) f→Below lo w w'→K (a.put o.dst v') w') :
 if Region.wanted o (yielded ops a.tmps)=true then Oper.wp Tryz.prog o a w K Q else E:=by
 have hw:Region.wanted o (yielded ops a.tmps)=true:=by simp [Region.wanted,hg]
 rw [if_pos hw];obtain ⟨v',w',hrun,r1,r2⟩:=zeU w o.type lo hi v n f hown b c hcell hn hlo;unfold Oper.wp
 simp [execOp,hop,resolve,invoke,builtin,hs,hx,hrun,Result.andThen]
 exact hK v' w' r1 r2
theorem zjb {ops:Array Oper} {rest:List Oper} {o:Oper} {a:Act} {w:World} {Q:Exit→Act→World→Prop}
 (hg:o.guard=none) (s x:Operand) (hop:o.op=Op.call { callee:=Callee.builtin Builtin.append,args:=#[s,x],argTypes:=#[29,29] })
 (lo hi:Nat) (v:Value) (n:Nat) (f:Nat→Nat) (hs:a.eval s=v) (hown:Own w lo hi v n f) (b c:Nat) (hx:a.eval x=.slice (some ⟨b,0,none⟩) 1 c) (hcell:w.cell? ⟨b,0,none⟩=some (.int .u8 (f n)))
 (hn:n+1≤140737488351232) (hlo:lo≤w.heap.size)
 (hK:∀ v' w',Own w' lo w'.heap.size v' (n+1) f→Below lo w w'→wpList Tryz.prog ops Q rest (a.put o.dst v') w'):wpList Tryz.prog ops Q (o::rest) a w:=by
 refine wpList_plain hg fun K hK'=>?_;obtain ⟨v',w',hrun,r1,r2⟩:=zeU w o.type lo hi v n f hown b c hcell hn hlo;unfold Oper.wp
 simp [execOp,hop,resolve,invoke,builtin,hs,hx,hrun,Result.andThen]
 exact hK' _ _ (hK v' w' r1 r2)
theorem zf3 (w:World) (g:Nat→Nat):Own (w.alloc (.cells #[] 5)) w.heap.size (w.alloc (.cells #[] 5)).heap.size (.slice (some ⟨w.heap.size,0,none⟩) 0 0) 0 g:=by
 have h:=World.ownsRow_lit (base:=w.heap.size) (e:=5) (size:=1) w #[] 0 (Nat.le_refl _) (Nat.zero_le _) rfl;exact ⟨h,fun k hk=>(h.lt k hk).2⟩
theorem Own.weaken {w:World} {lo hi lo' hi':Nat} {v:Value} {n:Nat} {f:Nat→Nat} (h:Own w lo hi v n f) (h1:lo'≤lo) (h2:hi≤hi'):Own w lo' hi' v n f:=by
 refine ⟨⟨h.1.1,?_⟩,fun k hk=>Nat.lt_of_lt_of_le (h.2 k hk) h2⟩
 rcases h.1.2 with hn | ⟨g,cap,cur,rfl,hbg,rest⟩
 ·exact .inl hn
 ·exact .inr ⟨g,cap,cur,rfl,by omega,rest⟩
theorem zda {wr:World} {g:Nat} {x y:Value} {t:TypeId} (h:wr.heap[g]?=some (.cells #[x,y] t (0,0))) :
 wr.cell? ⟨g,0,none⟩=some x∧wr.cell? ⟨g,1,none⟩=some y∧wr.frozen? ⟨g,0,none⟩=false∧wr.frozen? ⟨g,1,none⟩=false:=
 ⟨by rw [cell_of_row wr g 0 _ t _ h];rfl,by rw [cell_of_row wr g 1 _ t _ h];rfl,frozen_of_row wr g 0 _ t h,frozen_of_row wr g 1 _ t h⟩
structure Chg (lo hi:Nat) (w w':World):Prop where
 os:w'.os=w.os
 tape:w'.tape=w.tape
 output:w'.output=w.output
 size:w.heap.size≤w'.heap.size
 block:∀ k,k<w.heap.size→(k<lo∨hi≤k)→w'.heap[k]?=w.heap[k]?
theorem Out.chg {lo hi:Nat} {w w':World} (h:Out lo hi w w'):Chg lo hi w w':=⟨h.os,h.tape,h.output,Nat.le_of_eq h.size.symm,fun k _ hk=>h.block k hk⟩
theorem Below.chg {w w':World} (h:Below w.heap.size w w') (lo hi:Nat):Chg lo hi w w':=⟨h.os,h.tape,h.output,h.size,fun k hk _=>h.block k hk⟩
theorem Chg.trans {lo hi:Nat} {a b c:World} (h:Chg lo hi a b) (k:Chg lo hi b c):Chg lo hi a c:=
 ⟨k.os.trans h.os,k.tape.trans h.tape,k.output.trans h.output,Nat.le_trans h.size k.size,fun i hi ho=>(k.block i (Nat.lt_of_lt_of_le hi h.size) ho).trans (h.block i hi ho)⟩
theorem Chg.below {lo hi B:Nat} {w w':World} (h:Chg lo hi w w') (h1:B≤lo) (h2:B≤w.heap.size):Below B w w':=⟨h.os,h.tape,h.output,h.size,fun k hk=>h.block k (by omega) (.inl (by omega))⟩
theorem Own.chg {w w':World} {lo hi lo' hi':Nat} {v:Value} {n:Nat} {f:Nat→Nat} (h:Own w lo hi v n f) (hb:Chg lo' hi' w w') (hB:hi≤lo'∨hi'≤lo):Own w' lo hi v n f:=by
 refine ⟨⟨h.1.1,?_⟩,h.2⟩
 rcases h.1.2 with hn | ⟨g,cap,cur,rfl,hbg,hgg,rest⟩
 ·exact .inl hn
 ·have:=h.2 g rfl
  exact .inr ⟨g,cap,cur,rfl,hbg,(hb.block g (Array.getElem?_eq_some_iff.1 hgg).1 (by omega)).trans hgg,rest⟩
def Box (w:World) (b:Nat) (cs:Array Value) (t:TypeId):Prop:=w.heap[b]?=some (.cells cs t (0,0))
theorem Box.lt {w:World} {b:Nat} {cs:Array Value} {t:TypeId} (h:Box w b cs t):b<w.heap.size:=(Array.getElem?_eq_some_iff.1 h).1
theorem Box.below {w w':World} {b B:Nat} {cs:Array Value} {t:TypeId} (h:Box w b cs t) (hb:Below B w w') (hB:b<B):Box w' b cs t:=(hb.block b hB).trans h
theorem Box.chg {w w':World} {b lo hi:Nat} {cs:Array Value} {t:TypeId} (h:Box w b cs t) (hb:Chg lo hi w w') (hB:b<lo∨hi≤b):Box w' b cs t:=(hb.block b h.lt hB).trans h
theorem Box.cell {w:World} {b:Nat} {cs:Array Value} {t:TypeId} (h:Box w b cs t) (j:Nat):w.cell? ⟨b,j,none⟩=cs[j]?:=cell_of_row w b j cs t _ h
theorem Box.frozen {w:World} {b:Nat} {cs:Array Value} {t:TypeId} (h:Box w b cs t) (j:Nat):w.frozen? ⟨b,j,none⟩=false:=frozen_of_row w b j cs t h
theorem zay (w:World) (cs:Array Value) (t:TypeId):Box (w.alloc (.cells cs t)) w.heap.size cs t:=heap_alloc_new w _
theorem zaE {ops:Array Oper} {o:Oper} {a:Act} {w:World} {K:Act→World→Prop} {Q:Exit→Act→World→Prop} {E:Prop}
 (hg:o.guard=none) (n:Nat) (args:Array Operand) (ty:Array TypeId) (hop:o.op=Op.call { callee:=Callee.value (.func n),args:=args,argTypes:=ty }) (vals:Array Value) (hv:args.map a.eval=vals)
 {fn : Func} (hfn : Tryz.prog.funcs[n]? = some fn) (hnm : (fn.name == "runtime.NumGoroutine") = false) (hbd : fn.body.isSome = true)
 {R:Ending→World→Prop} (hc:Calls Tryz.prog n vals w R) (hK:∀ e w',R e w'→∃ v,e=.returned v∧K (a.put o.dst v) w') :
 if Region.wanted o (yielded ops a.tmps)=true then Oper.wp Tryz.prog o a w K Q else E:=by
 have hw:Region.wanted o (yielded ops a.tmps)=true:=by simp [Region.wanted,hg]
 have hn' : ¬ fn.name = "runtime.NumGoroutine" := by simpa using hnm
 have hb':¬ fn.body=none:=by intro h;rw [h] at hbd;cases hbd
 rw [if_pos hw];unfold Oper.wp
 simp [execOp,hop,resolve,invoke,Act.eval,Result.andThen,Deferred.ofValue,callFunc,Oper.upon,hv,hfn,hn',hb']
 refine hc.mono fun e w' h=>?_;obtain ⟨v,rfl,hk⟩:=hK e w' h;exact hk
theorem zb8 (w:World) (o:Obj) (b j:Nat) (h:b<w.heap.size):(w.alloc o).cell? ⟨b,j,none⟩=w.cell? ⟨b,j,none⟩:=World.cell?_of_block (Below.heap_alloc w o b h)
end Go.Proofs.YtlpbohnadenacaaGreat
namespace Go.Proofs.YtlpbohnadenacaaGreat
open Go.ChangeShapes Go.WideShapes Go.ChangeAt Go.RowKit F256
theorem zeM (b off j:Nat):(⟨b,off,none⟩:Addr).add j=⟨b,off+j,none⟩:=by unfold Addr.add;split<;>simp_all
theorem IsRow.rd {w:World} {a:Option Addr} {len cap:Nat} {zs:List Int} (h:IsRow w a len cap zs):∃ f:Nat→Nat,(∀ i,f i<256)∧Rd w w.heap.size (.slice a len cap) len f:=by
 rcases h with ⟨rfl,rfl,rfl,rfl⟩ | ⟨x,rfl,hl,hm,hz,hcell,hwz⟩
 ·exact ⟨fun _=>0,fun _=>Nat.zero_lt_succ _,none,0,rfl,Nat.zero_le _,fun h=>absurd rfl h⟩
 ·have hb:∀ i,0≤zs.getD i 0∧zs.getD i 0≤255:=fun i=>by
   by_cases h:i<zs.length
   ·have e:zs.getD i 0=zs[i]:=by simp [List.getD,h]
    rw [e];exact bounds_u8 (hwz _ (List.getElem_mem h))
   ·have e:zs.getD i 0=0:=by simp [List.getD,h]
    rw [e];omega
  refine ⟨fun i=>(zs.getD i 0).toNat,fun i=>by have:=hb i;show (zs.getD i 0).toNat<256;omega,some x,cap,rfl,by omega,fun h0=>?_⟩;have h00:=hcell 0 (by omega);have hspot:(x.add 0).spot=none:=World.cell?_spot h00;obtain ⟨b,off,spot⟩:=x
  have hspot':spot=none:=by simpa [Addr.add] using hspot
  subst hspot';refine ⟨b,off,rfl,World.block_lt_of_cell? w _ h00,fun i hi=>?_⟩;have hci:=hcell i (by omega)
  have e:(((zs.getD i 0).toNat:Nat):Int)=zs.getD i 0:=by have:=hb i;omega
  rw [e,← zeM];exact hci
end Go.Proofs.YtlpbohnadenacaaGreat
namespace Go.Proofs.YtlpbohnadenacaaGreat
open Go.RowKit F256
def za9 (n:Nat) (f:Nat→Int):List Value:=(List.range n).map fun i=>Value.int .i64 (f i)
theorem zaw (n:Nat) (f:Nat→Int):(za9 n f).length=n:=by simp [za9]
theorem zbl (n:Nat) (f:Nat→Int) (i:Nat) (h:i<n):(za9 n f)[i]?=some (.int .i64 (f i)):=by simp [za9,h]
theorem zj6 {n:Nat} {f g:Nat→Int} (h:∀ i,i<n→f i=g i):za9 n f=za9 n g:=by
 apply List.map_congr_left
 intro i hi;rw [h i (List.mem_range.mp hi)]
theorem zjc (n:Nat) (f g:Nat→Int) (k:Nat) (x:Int) (hk:k<n) (h:∀ i,i<n→g i=if i=k then x else f i):(za9 n f).set k (.int .i64 x)=za9 n g:=by
 apply List.ext_getElem?
 intro i
 by_cases hi:i<n
 ·rw [zbl n g i hi,h i hi,List.getElem?_set]
  by_cases e:k=i
  ·subst e;simp [zaw,hk]
  ·rw [if_neg e,if_neg (fun h=>e h.symm),zbl n f i hi]
 ·rw [List.getElem?_eq_none (by rw [List.length_set,zaw];omega),List.getElem?_eq_none (by rw [zaw];omega)]
theorem zhH (n:Nat):(madeCells #[Value.int .i64 0] n).toList=za9 n fun _=>0:=by
 rw [toList_madeCells_one]
 apply List.ext_getElem?
 intro i
 by_cases hi:i<n
 ·rw [zbl _ _ _ hi];simp [hi]
 ·rw [List.getElem?_eq_none (by simp;omega),List.getElem?_eq_none (by rw [zaw];omega)]
def OwnI (w:World) (lo hi:Nat) (v:Value) (n:Nat) (f:Nat→Int):Prop:=
 w.ownsRow lo 2 1 v n (za9 n f)∧∀ k,v.ownBlock=some k→k<hi
def RdI (w:World) (hi:Nat) (v:Value) (n:Nat) (f:Nat→Int):Prop:=
 ∃ ao cap,v=.slice ao n cap∧n≤maxLen∧(n≠0→∃ b off,ao=some ⟨b,off,none⟩∧b<hi∧∀ i,i<n→w.cell? ⟨b,off+i,none⟩=some (.int .i64 (f i)))
theorem OwnI.mono {w:World} {lo hi hi':Nat} {v:Value} {n:Nat} {f:Nat→Int} (h:OwnI w lo hi v n f) (hB:hi≤hi'):OwnI w lo hi' v n f:=
 ⟨h.1,fun k hk=>Nat.lt_of_lt_of_le (h.2 k hk) hB⟩
theorem OwnI.rd {w:World} {lo hi:Nat} {v:Value} {n:Nat} {f:Nat→Int} (h:OwnI w lo hi v n f):RdI w hi v n f:=by
 rcases h.1.2 with ⟨rfl,rfl⟩ | ⟨g,cap,cur,rfl,hbg,hgg,hnc,hcm,rest⟩
 ·exact ⟨none,0,rfl,Nat.zero_le _,fun h=>absurd rfl h⟩
 ·refine ⟨_,_,rfl,Nat.le_trans hnc hcm,fun _=>⟨g,0,rfl,h.2 g rfl,fun i hi=>?_⟩⟩
  have:=h.1.cellAt i (by omega);rw [Nat.zero_add,this,zbl n f i hi]
theorem RdI.below {w w':World} {hi B:Nat} {v:Value} {n:Nat} {f:Nat→Int} (h:RdI w hi v n f) (hb:Below B w w') (hB:hi≤B):RdI w' hi v n f:=by
 obtain ⟨ao,cap,rfl,hn,hc⟩:=h;refine ⟨ao,cap,rfl,hn,fun h0=>?_⟩;obtain ⟨b,off,rfl,hlt,hcell⟩:=hc h0;exact ⟨b,off,rfl,hlt,fun i hi=>(hb.cell (p:=⟨b,off+i,none⟩) (by show b<B;omega)).trans (hcell i hi)⟩
theorem OwnI.congr {w:World} {lo hi:Nat} {v:Value} {n:Nat} {f g:Nat→Int} (h:OwnI w lo hi v n f) (e:∀ i,i<n→f i=g i):OwnI w lo hi v n g:=by
 refine ⟨?_,h.2⟩;rw [← zj6 e];exact h.1
theorem OwnI.form {w:World} {lo hi:Nat} {v:Value} {n:Nat} {f:Nat→Int} (h:OwnI w lo hi v n f) (h0:n≠0) :
 ∃ g cap,v=.slice (some ⟨g,0,none⟩) n cap∧lo≤g∧g<hi∧g<w.heap.size∧n≤cap:=by
 rcases h.1.2 with ⟨rfl,rfl⟩ | ⟨g,cap,cur,rfl,hbg,hgg,hnc,_⟩
 ·exact absurd rfl h0
 ·exact ⟨g,cap,rfl,hbg,h.2 g rfl,(Array.getElem?_eq_some_iff.1 hgg).1,hnc⟩
theorem OwnI.slice {w:World} {lo hi:Nat} {v:Value} {n:Nat} {f:Nat→Int} (h:OwnI w lo hi v n f):∃ ao cap,v=.slice ao n cap:=by
 rcases h.1.2 with ⟨rfl,rfl⟩ | ⟨g,cap,cur,rfl,_⟩
 ·exact ⟨_,_,rfl⟩
 ·exact ⟨_,_,rfl⟩
theorem OwnI.store {w:World} {lo hi g cap n:Nat} {f g':Nat→Int} (h:OwnI w lo hi (.slice (some ⟨g,0,none⟩) n cap) n f) (k:Nat) (x:Int) (hk:k<n)
 (e:∀ i,i<n→g' i=if i=k then x else f i):OwnI (w.setCell ⟨g,k,none⟩ (.int .i64 x)) lo hi (.slice (some ⟨g,0,none⟩) n cap) n g':=by
 refine ⟨?_,h.2⟩;have:=(h.1.stored k (.int .i64 x)).1;rw [zjc n f g' k x hk e] at this;exact this
theorem ziK:(Tryz.prog.info? 2).map (fun i=>(i.zero,i.size,i.bytes))=some (some (.int .i64 0),1,8):=by kernel_rfl
theorem ziL (w:World) {ops:Array Oper} {rest:List Oper} {o:Oper} {a:Act} {Q:Exit→Act→World→Prop}
 (hg:o.guard=none) (l c:Operand) (hop:o.op=Op.makeSlice 25 l c) (L C:Int) (n:Nat) (hl:a.eval l=.int .i64 L) (hc:a.eval c=.int .i64 C) (hL:L=(n:Int)) (hC:C=(n:Int)) (hn:n≤1000000000)
 (hK:∀ w',OwnI w' w.heap.size w'.heap.size (.slice (some ⟨w.heap.size,0,none⟩) n n) n (fun _=>0)→Below w.heap.size w w'→w.heap.size<w'.heap.size→wpList Tryz.prog ops Q rest (a.put o.dst (.slice (some ⟨w.heap.size,0,none⟩) n n)) w') :
 wpList Tryz.prog ops Q (o::rest) a w:=by
 obtain ⟨i0,hi0,hz0,hz1,hz2⟩:=info_parts ziK;refine wpList_make_full w hg l c 25 hop w.heap.size 2 i0 (.int .i64 0) 1 Tryz.underlying25 hi0 hz0 hz1 .i64 .i64 L C n hl hc hL hC (by rw [hz2];omega) (by unfold maxLen;omega) (Nat.le_refl _) ?_;intro w' hown hgrow
 have hown':w'.ownsRow w.heap.size 2 1 (.slice (some ⟨w.heap.size,0,none⟩) n n) n (za9 n fun _=>0):=by
  rw [← zhH n]
  have e:(madeCells (Value.int IntKind.i64 0).cells (n*1)).toList=(madeCells #[Value.int .i64 0] n).toList:=by rw [Nat.mul_one];rfl
  rw [← e];exact hown
 have hlt:=(hown'.lt _ rfl).2;exact hK w' ⟨hown',fun k hk=>(hown'.lt k hk).2⟩ (zb7 hgrow) hlt
theorem OwnI.weaken {w:World} {lo hi lo' hi':Nat} {v:Value} {n:Nat} {f:Nat→Int} (h:OwnI w lo hi v n f) (h1:lo'≤lo) (h2:hi≤hi'):OwnI w lo' hi' v n f:=by
 refine ⟨⟨h.1.1,?_⟩,fun k hk=>Nat.lt_of_lt_of_le (h.2 k hk) h2⟩
 rcases h.1.2 with hn | ⟨g,cap,cur,rfl,hbg,rest⟩
 ·exact .inl hn
 ·exact .inr ⟨g,cap,cur,rfl,by omega,rest⟩
end Go.Proofs.YtlpbohnadenacaaGreat
namespace Go.Proofs.YtlpbohnadenacaaGreat
open Go.ChangeShapes Go.WideShapes Go.ChangeAt Go.RowKit F256
def IsRowI (w:World) (a:Option Addr) (len cap:Nat) (zs:List Int):Prop:=
 (a=none∧len=0∧cap=0∧zs=[]) ∨
 ∃ x,a=some x∧len≤cap∧cap≤maxLen∧zs.length=cap∧(∀ i,i<zs.length→w.cell? (x.add i)=some (.int .i64 (zs.getD i 0)))∧∀ n∈zs,(Lit.int .i64 n).wf=true
theorem zgK {t e:TypeId} {H:Type} {enc:TypeId×Value→H} {W:World} {a:Option Addr} {len cap:Nat} {d:DataW H} {ps:List MemPlace}
 (hu:Tryz.prog.underlying t=some (.slice e)) (he:Tryz.prog.underlying e=some (.int .i64)) (hc:Tryz.prog.cellsOf e=1)
 (h:DataW.Trod enc Tryz.prog W 0 (fun _=>true) true t (.slice a len cap) d ps):∃ zs,IsRowI W a len cap zs:=by
 obtain ⟨fuel,hf⟩:=h
 rcases open_ints hu he hc hf with ⟨hcs,_⟩ | ⟨x,l,c,zs,hcs,_,hl,hm,hz,_,hcell,hwz⟩
 ·simp [Value.cells] at hcs
  obtain ⟨rfl,rfl,rfl⟩:=hcs;exact ⟨[],.inl ⟨rfl,rfl,rfl,rfl⟩⟩
 ·simp [Value.cells] at hcs
  obtain ⟨rfl,rfl,rfl⟩:=hcs;exact ⟨zs,.inr ⟨_,rfl,hl,hm,by simpa using hz,hcell,hwz⟩⟩
theorem IsRowI.rd {w:World} {a:Option Addr} {len cap:Nat} {zs:List Int} (h:IsRowI w a len cap zs):∃ f:Nat→Int,(∀ i,-9223372036854775808≤f i∧f i≤9223372036854775807)∧RdI w w.heap.size (.slice a len cap) len f:=by
 rcases h with ⟨rfl,rfl,rfl,rfl⟩ | ⟨x,rfl,hl,hm,hz,hcell,hwz⟩
 ·exact ⟨fun _=>0,fun _=>(by show -9223372036854775808≤(0:Int)∧(0:Int)≤9223372036854775807;omega),none,0,rfl,Nat.zero_le _,fun h=>absurd rfl h⟩
 ·have hb:∀ i,-9223372036854775808≤zs.getD i 0∧zs.getD i 0≤9223372036854775807:=fun i=>by
   by_cases h:i<zs.length
   ·have e:zs.getD i 0=zs[i]:=by simp [List.getD,h]
    rw [e];exact bounds_i64 (hwz _ (List.getElem_mem h))
   ·have e:zs.getD i 0=0:=by simp [List.getD,h]
    rw [e];omega
  refine ⟨fun i=>zs.getD i 0,hb,some x,cap,rfl,by omega,fun h0=>?_⟩;have h00:=hcell 0 (by omega);have hspot:(x.add 0).spot=none:=World.cell?_spot h00;obtain ⟨b,off,spot⟩:=x
  have hspot':spot=none:=by simpa [Addr.add] using hspot
  subst hspot';refine ⟨b,off,rfl,World.block_lt_of_cell? w _ h00,fun i hi=>?_⟩;have hci:=hcell i (by omega);rw [← zeM];exact hci
end Go.Proofs.YtlpbohnadenacaaGreat
namespace Go.Proofs.YtlpbohnadenacaaGreat
open Go.RowKit
def catN {β:Type} (n:Nat) (f:Nat→List β):List β:=(List.range n).flatMap f
theorem zct {β:Type} (f:Nat→List β):catN 0 f=[]:=rfl
theorem zbm {β:Type} (n:Nat) (f:Nat→List β):catN (n+1) f=catN n f++f n:=by
 unfold catN;rw [List.range_succ,List.flatMap_append]
 simp
theorem zdY {β:Type} {n s:Nat} {f:Nat→List β} (h:∀ i,i<n→(f i).length=s):(catN n f).length=n*s:=by
 induction n with
 | zero=>simp [catN]
 | succ n ih=>rw [zbm,List.length_append,ih (fun i hi=>h i (by omega)),h n (by omega),Nat.succ_mul]
theorem zdu {β:Type} {n:Nat} {f g:Nat→List β} (h:∀ i,i<n→f i=g i):catN n f=catN n g:=by
 induction n with
 | zero=>rfl
 | succ n ih=>rw [zbm,zbm,ih (fun i hi=>h i (by omega)),h n (by omega)]
theorem zdv {β:Type} {n s:Nat} {f:Nat→List β} (h:∀ i,i<n→(f i).length=s) {i j:Nat} (hi:i<n) (hj:j<s):(catN n f)[i*s+j]?=(f i)[j]?:=by
 induction n with
 | zero=>omega
 | succ n ih=>
  have hl:(catN n f).length=n*s:=zdY (fun i hi=>h i (by omega));rw [zbm]
  by_cases c:i<n
  ·have:i*s+j<n*s:=by
    have:=Nat.mul_le_mul_right s (show i+1≤n from c);rw [Nat.succ_mul] at this;omega
   rw [List.getElem?_append_left (by omega),ih (fun i hi=>h i (by omega)) c]
  ·obtain rfl:i=n:=by omega
   rw [List.getElem?_append_right (by omega),hl]
   congr 1
   omega
theorem zk3 {β:Type} {n s:Nat} {f:Nat→List β} (h:∀ i,i<n→(f i).length=s) {i j:Nat} (hi:i<n) (hj:j<s) (u:β):(catN n f).set (i*s+j) u=catN n (fun k=>if k=i then (f i).set j u else f k):=by
 induction n with
 | zero=>omega
 | succ n ih=>
  have hl:(catN n f).length=n*s:=zdY (fun i hi=>h i (by omega));rw [zbm,zbm]
  by_cases c:i<n
  ·have:i*s+j<n*s:=by
    have:=Nat.mul_le_mul_right s (show i+1≤n from c);rw [Nat.succ_mul] at this;omega
   rw [List.set_append_left _ _ (by omega),ih (fun i hi=>h i (by omega)) c,if_neg (by omega)]
  ·obtain rfl:i=n:=by omega
   rw [List.set_append_right _ _ (by omega),hl,if_pos rfl]
   congr 1
   ·exact zdu (fun k hk=>by rw [if_neg (by omega)])
   ·congr 1
    omega
theorem zaz {β:Type} {n:Nat} {f:Nat→List β} {b:β}:b∈catN n f↔∃ i,i<n∧b∈f i:=by
 unfold catN
 simp [List.mem_flatMap]
structure Lay (α:Type) where
 sz:Nat
 rd:World→Nat→α→List Value→Prop
 own:World→α→List Value→List Nat→Prop
 rd_len:∀ {w:World} {hi:Nat} {a:α} {cs:List Value},rd w hi a cs→cs.length=sz
 rd_below:∀ {w w':World} {hi B:Nat} {a:α} {cs:List Value},rd w hi a cs→Below B w w'→hi≤B→rd w' hi a cs
 rd_mono:∀ {w:World} {hi hi':Nat} {a:α} {cs:List Value},rd w hi a cs→hi≤hi'→rd w hi' a cs
 own_len:∀ {w:World} {a:α} {cs:List Value} {L:List Nat},own w a cs L→cs.length=sz
 own_kept:∀ {w w':World} {a:α} {cs:List Value} {L:List Nat},own w a cs L→(∀ b,b∈L→w'.heap[b]?=w.heap[b]?)→own w' a cs L
 own_lt:∀ {w:World} {a:α} {cs:List Value} {L:List Nat},own w a cs L→∀ b,b∈L→b<w.heap.size
 own_rd:∀ {w:World} {hi:Nat} {a:α} {cs:List Value} {L:List Nat},own w a cs L→(∀ b,b∈L→b<hi)→rd w hi a cs
 own_one:∀ {w:World} {a:α} {cs:List Value} {L:List Nat},own w a cs L→∀ u,u∈cs→u.oneCell'=true
def Lay.plain {α:Type} (enc:α→Value) (ok:α→Prop) (one:∀ a,(enc a).oneCell'=true):Lay α where
 sz:=1
 rd:=fun _ _ a cs=>cs=[enc a]∧ok a
 own:=fun _ a cs L=>cs=[enc a]∧ok a∧L=[]
 rd_len:=fun h=>by rw [h.1];rfl
 rd_below:=fun h _ _=>h
 rd_mono:=fun h _=>h
 own_len:=fun h=>by rw [h.1];rfl
 own_kept:=fun h _=>h
 own_lt:=fun h b hb=>by rw [h.2.2] at hb;cases hb
 own_rd:=fun h _=>⟨h.1,h.2.1⟩
 own_one:=fun {w a cs L} h u hu=>by rw [h.1] at hu;simp at hu;subst hu;exact one a
def layI:Lay Int:=Lay.plain (fun a=>.int .i64 a) (fun a=>-9223372036854775808≤a∧a≤9223372036854775807) (fun _=>rfl)
def layB:Lay Bool:=Lay.plain (fun a=>.bool a) (fun _=>True) (fun _=>rfl)
def layS:Lay ByteArray:=Lay.plain (fun a=>.string a) (fun a=>a.size≤maxLen) (fun _=>rfl)
def Lay.two {α β:Type} (A:Lay α) (B:Lay β):Lay (α×β) where
 sz:=A.sz+B.sz
 rd:=fun w hi p cs=>∃ c d,cs=c++d∧A.rd w hi p.1 c∧B.rd w hi p.2 d
 own:=fun w p cs L=>∃ c d K M,cs=c++d∧L=K++M∧A.own w p.1 c K∧B.own w p.2 d M
 rd_len:=fun h=>by obtain ⟨c,d,rfl,h1,h2⟩:=h;rw [List.length_append,A.rd_len h1,B.rd_len h2]
 rd_below:=fun h hb hB=>by obtain ⟨c,d,rfl,h1,h2⟩:=h;exact ⟨c,d,rfl,A.rd_below h1 hb hB,B.rd_below h2 hb hB⟩
 rd_mono:=fun h hb=>by obtain ⟨c,d,rfl,h1,h2⟩:=h;exact ⟨c,d,rfl,A.rd_mono h1 hb,B.rd_mono h2 hb⟩
 own_len:=fun h=>by obtain ⟨c,d,K,M,rfl,rfl,h1,h2⟩:=h;rw [List.length_append,A.own_len h1,B.own_len h2]
 own_kept:=fun h hk=>by
  obtain ⟨c,d,K,M,rfl,rfl,h1,h2⟩:=h;exact ⟨c,d,K,M,rfl,rfl,A.own_kept h1 (fun b hb=>hk b (List.mem_append_left _ hb)),B.own_kept h2 (fun b hb=>hk b (List.mem_append_right _ hb))⟩
 own_lt:=fun h b hb=>by
  obtain ⟨c,d,K,M,rfl,rfl,h1,h2⟩:=h
  rcases List.mem_append.1 hb with h | h
  ·exact A.own_lt h1 b h
  ·exact B.own_lt h2 b h
 own_rd:=fun h hk=>by
  obtain ⟨c,d,K,M,rfl,rfl,h1,h2⟩:=h;exact ⟨c,d,rfl,A.own_rd h1 (fun b hb=>hk b (List.mem_append_left _ hb)),B.own_rd h2 (fun b hb=>hk b (List.mem_append_right _ hb))⟩
 own_one:=fun h u hu=>by
  obtain ⟨c,d,K,M,rfl,rfl,h1,h2⟩:=h
  rcases List.mem_append.1 hu with h | h
  ·exact A.own_one h1 u h
  ·exact B.own_one h2 u h
def Lay.as {α β:Type} (A:Lay α) (to:β→α):Lay β where
 sz:=A.sz
 rd:=fun w hi b cs=>A.rd w hi (to b) cs
 own:=fun w b cs L=>A.own w (to b) cs L
 rd_len:=A.rd_len
 rd_below:=A.rd_below
 rd_mono:=A.rd_mono
 own_len:=A.own_len
 own_kept:=A.own_kept
 own_lt:=A.own_lt
 own_rd:=A.own_rd
 own_one:=A.own_one
def zad:Lay (Nat×(Nat→Nat)) where
 sz:=1
 rd:=fun w hi p cs=>∃ v,cs=[v]∧Rd w hi v p.1 p.2∧∀ i,p.2 i<256
 own:=fun w p cs L=>∃ v,cs=[v]∧L=v.ownBlock.toList∧Own w 0 w.heap.size v p.1 p.2∧∀ i,p.2 i<256
 rd_len:=fun h=>by obtain ⟨v,rfl,_⟩:=h;rfl
 rd_below:=fun h hb hB=>by obtain ⟨v,rfl,h1,h2⟩:=h;exact ⟨v,rfl,h1.below hb hB,h2⟩
 rd_mono:=fun h hb=>by obtain ⟨v,rfl,h1,h2⟩:=h;exact ⟨v,rfl,h1.mono hb,h2⟩
 own_len:=fun h=>by obtain ⟨v,rfl,_⟩:=h;rfl
 own_kept:=fun h hk=>by
  obtain ⟨v,rfl,rfl,h1,h2⟩:=h;have h3:=h1.1.lt;refine ⟨v,rfl,rfl,?_,h2⟩
  rcases h1.1.2 with hn | ⟨g,cap,cur,rfl,hbg,hgg,rest⟩
  ·exact ⟨⟨h1.1.1,.inl hn⟩,fun k hk'=>by rw [hn.1] at hk';cases hk'⟩
  ·have e:=hk g (by simp [Value.ownBlock])
   rw [hgg] at e
   exact ⟨⟨h1.1.1,.inr ⟨g,cap,cur,rfl,hbg,e,rest⟩⟩,fun k hk'=>by
    simp [Value.ownBlock] at hk'
    subst hk'
    exact (Array.getElem?_eq_some_iff.1 e).1⟩
 own_lt:=fun h b hb=>by
  obtain ⟨v,rfl,rfl,h1,h2⟩:=h;exact (h1.1.lt b (by simpa using hb)).2
 own_rd:=fun h hk=>by
  obtain ⟨v,rfl,rfl,h1,h2⟩:=h;refine ⟨v,rfl,?_,h2⟩;obtain ⟨ao,cap,rfl,hm,hc⟩:=h1.rd;refine ⟨ao,cap,rfl,hm,fun h0=>?_⟩;obtain ⟨b,off,rfl,hb,hcell⟩:=hc h0;exact ⟨b,off,rfl,hk b (by simp [Value.ownBlock]),hcell⟩
 own_one:=fun h u hu=>by
  obtain ⟨v,rfl,rfl,h1,h2⟩:=h;obtain ⟨ao,cap,rfl⟩:=h1.slice
  simp at hu
  subst hu;rfl
def Lay.slice {α:Type} (E:Lay α) (t:TypeId):Lay (Nat×(Nat→α)) where
 sz:=1
 rd:=fun w hi p cs=>∃ ao cap,cs=[.slice ao p.1 cap]∧p.1≤maxLen∧(p.1≠0→∃ b off,ao=some ⟨b,off,none⟩∧b<hi∧∀ i,i<p.1→∃ ce,E.rd w hi (p.2 i) ce∧∀ j,j<E.sz→w.cell? ⟨b,off+(i*E.sz+j),none⟩=ce[j]?)
 own:=fun w p cs L=>∃ (v:Value) (ce:Nat→List Value) (Ls:Nat→List Nat),cs=[v]∧L=v.ownBlock.toList++catN p.1 Ls∧w.ownsRow 0 t E.sz v p.1 (catN p.1 ce)∧∀ i,i<p.1→E.own w (p.2 i) (ce i) (Ls i)
 rd_len:=fun h=>by obtain ⟨ao,cap,rfl,_⟩:=h;rfl
 rd_below:=fun h hb hB=>by
  obtain ⟨ao,cap,rfl,hm,hc⟩:=h;refine ⟨ao,cap,rfl,hm,fun h0=>?_⟩;obtain ⟨b,off,rfl,hbh,hcell⟩:=hc h0;refine ⟨b,off,rfl,hbh,fun i hi=>?_⟩;obtain ⟨ce,h1,h2⟩:=hcell i hi;exact ⟨ce,E.rd_below h1 hb hB,fun j hj=>(hb.cell (p:=⟨b,off+(i*E.sz+j),none⟩) (by show b<_;omega)).trans (h2 j hj)⟩
 rd_mono:=fun h hb=>by
  obtain ⟨ao,cap,rfl,hm,hc⟩:=h;refine ⟨ao,cap,rfl,hm,fun h0=>?_⟩;obtain ⟨b,off,rfl,hbh,hcell⟩:=hc h0;refine ⟨b,off,rfl,by omega,fun i hi=>?_⟩;obtain ⟨ce,h1,h2⟩:=hcell i hi;exact ⟨ce,E.rd_mono h1 hb,h2⟩
 own_len:=fun h=>by obtain ⟨v,ce,Ls,rfl,_⟩:=h;rfl
 own_kept:=fun h hk=>by
  obtain ⟨v,ce,Ls,rfl,rfl,h1,h2⟩:=h;refine ⟨v,ce,Ls,rfl,rfl,⟨h1.1,?_⟩,fun i hi=>E.own_kept (h2 i hi) (fun b hb=>hk b (List.mem_append_right _ (zaz.2 ⟨i,hi,hb⟩)))⟩
  rcases h1.2 with hn | ⟨g,cap,cur,rfl,hbg,hgg,rest⟩
  ·exact .inl hn
  ·exact .inr ⟨g,cap,cur,rfl,hbg,(hk g (by simp [Value.ownBlock])).trans hgg,rest⟩
 own_lt:=fun h b hb=>by
  obtain ⟨v,ce,Ls,rfl,rfl,h1,h2⟩:=h
  rcases List.mem_append.1 hb with h | h
  ·exact (h1.lt b (by simpa using h)).2
  ·obtain ⟨i,hi,hbi⟩:=zaz.1 h
   exact E.own_lt (h2 i hi) b hbi
 own_rd:=fun {w} {hi0} {p} {cs} {L} h hk=>by
  obtain ⟨v,ce,Ls,rfl,rfl,h1,h2⟩:=h
  rcases h1.2 with ⟨rfl,h0⟩ | ⟨g,cap,cur,rfl,hbg,hgg,hnc,hcm,hcs,htake⟩
  ·exact ⟨none,0,by rw [h0],by omega,fun h=>absurd h0 h⟩
  ·refine ⟨_,_,rfl,by omega,fun h0=>⟨g,0,rfl,hk g (by simp [Value.ownBlock]),fun i hi=>?_⟩⟩
   refine ⟨ce i,E.own_rd (h2 i hi) (fun b hb=>hk b (List.mem_append_right _ (zaz.2 ⟨i,hi,hb⟩))),fun j hj=>?_⟩
   have hlt:i*E.sz+j<p.1*E.sz:=by
    have:=Nat.mul_le_mul_right E.sz (show i+1≤p.1 from hi);rw [Nat.succ_mul] at this;omega
   rw [Nat.zero_add,h1.cellAt _ hlt,zdv (fun i hi=>E.own_len (h2 i hi)) hi hj]
 own_one:=fun h u hu=>by
  obtain ⟨v,ce,Ls,rfl,rfl,h1,h2⟩:=h
  simp at hu
  subst hu
  rcases h1.2 with ⟨rfl,_⟩ | ⟨g,cap,cur,rfl,_⟩
  ·rfl
  ·rfl
def OwnT {α:Type} (A:Lay α) (w:World) (lo hi:Nat) (a:α) (cs:List Value):Prop:=∃ L,A.own w a cs L∧L.Nodup∧∀ b,b∈L→lo≤b∧b<hi
theorem OwnT.rd {α:Type} {A:Lay α} {w:World} {lo hi:Nat} {a:α} {cs:List Value} (h:OwnT A w lo hi a cs):A.rd w hi a cs:=by
 obtain ⟨L,h1,_,h3⟩:=h;exact A.own_rd h1 (fun b hb=>(h3 b hb).2)
theorem OwnT.below {α:Type} {A:Lay α} {w w':World} {lo hi B:Nat} {a:α} {cs:List Value} (h:OwnT A w lo hi a cs) (hb:Below B w w') (hB:hi≤B):OwnT A w' lo hi a cs:=by
 obtain ⟨L,h1,h2,h3⟩:=h;exact ⟨L,A.own_kept h1 (fun b hb'=>hb.block b (by have:=(h3 b hb').2;omega)),h2,h3⟩
theorem OwnT.chg {α:Type} {A:Lay α} {w w':World} {lo hi lo' hi':Nat} {a:α} {cs:List Value} (h:OwnT A w lo hi a cs) (hc:Chg lo' hi' w w') (hB:hi≤lo'∨hi'≤lo):OwnT A w' lo hi a cs:=by
 obtain ⟨L,h1,h2,h3⟩:=h;exact ⟨L,A.own_kept h1 (fun b hb'=>hc.block b (A.own_lt h1 b hb') (by have:=h3 b hb';omega)),h2,h3⟩
theorem OwnT.weaken {α:Type} {A:Lay α} {w:World} {lo hi lo' hi':Nat} {a:α} {cs:List Value} (h:OwnT A w lo hi a cs) (h1:lo'≤lo) (h2:hi≤hi'):OwnT A w lo' hi' a cs:=by
 obtain ⟨L,k1,k2,k3⟩:=h;exact ⟨L,k1,k2,fun b hb=>by have:=k3 b hb;omega⟩
def CapP (v:Value) (n:Nat):Prop:=∃ ao cap,v=.slice ao n cap∧n≤cap
def zal:Lay (Nat×(Nat→Int)) where
 sz:=1
 rd:=fun w hi p cs=>∃ v,cs=[v]∧(RdI w hi v p.1 p.2∧CapP v p.1)∧∀ i,-9223372036854775808≤p.2 i∧p.2 i≤9223372036854775807
 own:=fun w p cs L=>∃ v,cs=[v]∧L=v.ownBlock.toList∧OwnI w 0 w.heap.size v p.1 p.2∧∀ i,-9223372036854775808≤p.2 i∧p.2 i≤9223372036854775807
 rd_len:=fun h=>by obtain ⟨v,rfl,_⟩:=h;rfl
 rd_below:=fun h hb hB=>by obtain ⟨v,rfl,⟨h1,hcp⟩,h2⟩:=h;exact ⟨v,rfl,⟨h1.below hb hB,hcp⟩,h2⟩
 rd_mono:=fun h hb=>by
  obtain ⟨v,rfl,⟨⟨ao,cap,rfl,hm,hc⟩,hcp⟩,h2⟩:=h;refine ⟨_,rfl,⟨⟨ao,cap,rfl,hm,fun h0=>?_⟩,hcp⟩,h2⟩;obtain ⟨b,off,rfl,hbh,hcell⟩:=hc h0;exact ⟨b,off,rfl,by omega,hcell⟩
 own_len:=fun h=>by obtain ⟨v,rfl,_⟩:=h;rfl
 own_kept:=fun h hk=>by
  obtain ⟨v,rfl,rfl,h1,h2⟩:=h;refine ⟨v,rfl,rfl,?_,h2⟩
  rcases h1.1.2 with hn | ⟨g,cap,cur,rfl,hbg,hgg,rest⟩
  ·exact ⟨⟨h1.1.1,.inl hn⟩,fun k hk'=>by rw [hn.1] at hk';cases hk'⟩
  ·have e:=hk g (by simp [Value.ownBlock])
   rw [hgg] at e
   exact ⟨⟨h1.1.1,.inr ⟨g,cap,cur,rfl,hbg,e,rest⟩⟩,fun k hk'=>by
    simp [Value.ownBlock] at hk'
    subst hk'
    exact (Array.getElem?_eq_some_iff.1 e).1⟩
 own_lt:=fun h b hb=>by
  obtain ⟨v,rfl,rfl,h1,h2⟩:=h;exact (h1.1.lt b (by simpa using hb)).2
 own_rd:=fun {w hi p cs L} h hk=>by
  obtain ⟨v,rfl,rfl,h1,h2⟩:=h
  have hcp:CapP v p.1:=by
   rcases h1.1.2 with ⟨e,h0⟩ | ⟨g,cap,cur,e,hbg,hgg,hnc,_⟩
   ·exact ⟨none,0,by rw [e,h0],by omega⟩
   ·exact ⟨_,cap,e,hnc⟩
  refine ⟨v,rfl,⟨?_,hcp⟩,h2⟩;obtain ⟨ao,cap,rfl,hm,hc⟩:=h1.rd;refine ⟨ao,cap,rfl,hm,fun h0=>?_⟩;obtain ⟨b,off,rfl,hb,hcell⟩:=hc h0;exact ⟨b,off,rfl,hk b (by simp [Value.ownBlock]),hcell⟩
 own_one:=fun h u hu=>by
  obtain ⟨v,rfl,rfl,h1,h2⟩:=h;obtain ⟨ao,cap,rfl⟩:=h1.slice
  simp at hu
  subst hu;rfl
structure ChgL (K:List Nat) (w w':World):Prop where
 os:w'.os=w.os
 tape:w'.tape=w.tape
 output:w'.output=w.output
 size:w.heap.size≤w'.heap.size
 block:∀ b,b<w.heap.size→b∉K→w'.heap[b]?=w.heap[b]?
theorem ChgL.refl (K:List Nat) (w:World):ChgL K w w:=⟨rfl,rfl,rfl,Nat.le_refl _,fun _ _ _=>rfl⟩
theorem ChgL.trans {K:List Nat} {a b c:World} (h:ChgL K a b) (k:ChgL K b c):ChgL K a c:=
 ⟨k.os.trans h.os,k.tape.trans h.tape,k.output.trans h.output,Nat.le_trans h.size k.size,fun i hi hn=>(k.block i (Nat.lt_of_lt_of_le hi h.size) hn).trans (h.block i hi hn)⟩
theorem ChgL.mono {K K':List Nat} {w w':World} (h:ChgL K w w') (hs:∀ b,b∈K→b∈K'):ChgL K' w w':=
 ⟨h.os,h.tape,h.output,h.size,fun b hb hn=>h.block b hb (fun x=>hn (hs b x))⟩
theorem ChgL.store (K:List Nat) (w:World) (b j:Nat) (u:Value) (hb:b∈K):ChgL K w (w.setCell ⟨b,j,none⟩ u):=
 ⟨rfl,rfl,rfl,by simp,fun k hk hn=>heap_setCell_other w ⟨b,j,none⟩ k u (by show k≠b;intro h;subst h;exact hn hb)⟩
theorem ChgL.of_below {K:List Nat} {w w':World} (h:Below w.heap.size w w'):ChgL K w w':=⟨h.os,h.tape,h.output,h.size,fun b hb _=>h.block b hb⟩
theorem ChgL.of_out {K:List Nat} {g:Nat} {w w':World} (h:Out g (g+1) w w') (hg:g∈K):ChgL K w w':=
 ⟨h.os,h.tape,h.output,Nat.le_of_eq h.size.symm,fun b _ hn=>h.block b (by
  by_cases c:b=g
  ·subst c;exact absurd hg hn
  ·omega)⟩
theorem ChgL.chg {K:List Nat} {lo hi:Nat} {w w':World} (h:ChgL K w w') (hK:∀ b,b∈K→lo≤b∧b<hi):Chg lo hi w w':=
 ⟨h.os,h.tape,h.output,h.size,fun b hb hn=>h.block b hb (fun x=>by have:=hK b x;omega)⟩
theorem Lay.own_chgL {α:Type} (A:Lay α) {w w':World} {a:α} {cs:List Value} {K L:List Nat} (h:A.own w a cs L) (hc:ChgL K w w') (hd:∀ b,b∈L→b∉K):A.own w' a cs L:=
 A.own_kept h (fun b hb=>hc.block b (A.own_lt h b hb) (hd b hb))
def upd {β:Type} (f:Nat→β) (i:Nat) (a:β):Nat→β:=fun k=>if k=i then a else f k
theorem zaH {β:Type} (f:Nat→β) (i:Nat) (a:β):upd f i a i=a:=by simp [upd]
theorem zaN {β:Type} (f:Nat→β) {i k:Nat} (a:β) (h:k≠i):upd f i a k=f k:=by simp [upd,h]
structure SlO {α:Type} (E:Lay α) (t:TypeId) (w:World) (g cap n:Nat) (x:Nat→α) (ce:Nat→List Value) (Ls:Nat→List Nat):Prop where
 row:w.ownsRow 0 t E.sz (.slice (some ⟨g,0,none⟩) n cap) n (catN n ce)
 each:∀ i,i<n→E.own w (x i) (ce i) (Ls i)
section
variable {α:Type} {E:Lay α} {t:TypeId} {w w':World} {g cap n:Nat} {x:Nat→α} {ce:Nat→List Value} {Ls:Nat→List Nat}
theorem zbc {p:Nat×(Nat→α)} {cs:List Value} {L:List Nat} (h:(E.slice t).own w p cs L) (h0:p.1≠0):∃ g cap ce Ls,cs=[.slice (some ⟨g,0,none⟩) p.1 cap]∧L=g::catN p.1 Ls∧SlO E t w g cap p.1 p.2 ce Ls:=by
 obtain ⟨v,ce,Ls,rfl,rfl,h1,h2⟩:=h;have h1':=h1
 rcases h1.2 with ⟨rfl,h⟩ | ⟨g,cap,cur,rfl,_⟩
 ·exact absurd h h0
 ·exact ⟨g,cap,ce,Ls,rfl,by simp [Value.ownBlock],h1',h2⟩
theorem SlO.own (h:SlO E t w g cap n x ce Ls):(E.slice t).own w (n,x) [.slice (some ⟨g,0,none⟩) n cap] (g::catN n Ls):=
 ⟨_,ce,Ls,rfl,by simp [Value.ownBlock],h.row,h.each⟩
theorem SlO.lens (h:SlO E t w g cap n x ce Ls):∀ i,i<n→(ce i).length=E.sz:=fun i hi=>E.own_len (h.each i hi)
theorem zlr {i n s j:Nat} (hi:i<n) (hj:j<s):i*s+j<n*s:=by
 have:=Nat.mul_le_mul_right s (show i+1≤n from hi);rw [Nat.succ_mul] at this;omega
theorem SlO.cell (h:SlO E t w g cap n x ce Ls) {i j:Nat} (hi:i<n) (hj:j<E.sz):w.cell? ⟨g,i*E.sz+j,none⟩=(ce i)[j]?:=by
 rw [h.row.cellAt _ (zlr hi hj),zdv h.lens hi hj]
theorem SlO.frozen (h:SlO E t w g cap n x ce Ls) (j:Nat):w.frozen? ⟨g,j,none⟩=false:=h.row.frozenAt j
theorem SlO.lt (h:SlO E t w g cap n x ce Ls):g<w.heap.size:=(h.row.lt g rfl).2
theorem SlO.store (h:SlO E t w g cap n x ce Ls) (nd:(g::catN n Ls).Nodup) {i j:Nat} (hi:i<n) (hj:j<E.sz) (u:Value) {a':α} (ha:E.own w a' ((ce i).set j u) (Ls i)) :
 SlO E t (w.setCell ⟨g,i*E.sz+j,none⟩ u) g cap n (upd x i a') (upd ce i ((ce i).set j u)) Ls:=by
 have hg:∀ k,k<n→∀ b,b∈Ls k→b≠g:=fun k hk b hb hh=>by
  subst hh;exact (List.nodup_cons.1 nd).1 (zaz.2 ⟨k,hk,hb⟩)
 refine ⟨?_,fun k hk=>?_⟩
 ·have:=(h.row.stored (i*E.sz+j) u).1
  rw [zk3 h.lens hi hj] at this;exact this
 ·by_cases c:k=i
  ·subst c
   rw [zaH,zaH];exact E.own_kept ha (fun b hb=>heap_setCell_other w _ b u (hg k hk b hb))
  ·rw [zaN x a' c,zaN ce _ c]
   exact E.own_kept (h.each k hk) (fun b hb=>heap_setCell_other w _ b u (hg k hk b hb))
theorem zbS {n:Nat} {Ls:Nat→List Nat} (nd:(catN n Ls).Nodup) {i k:Nat} (hi:i<n) (hk:k<n) (hne:k≠i) {b:Nat} (hb:b∈Ls k):b∉Ls i:=by
 induction n with
 | zero=>omega
 | succ n ih=>
  rw [zbm] at nd;obtain ⟨n1,n2,n3⟩:=List.nodup_append.1 nd
  by_cases ci:i=n
  ·subst ci
   intro hbi;exact n3 b (zaz.2 ⟨k,by omega,hb⟩) b hbi rfl
  ·by_cases ck:k=n
   ·subst ck
    intro hbi;exact n3 b (zaz.2 ⟨i,by omega,hbi⟩) b hb rfl
   ·exact ih n1 (by omega) (by omega)
theorem SlO.into (h:SlO E t w g cap n x ce Ls) (nd:(g::catN n Ls).Nodup) {i:Nat} (hi:i<n) (hc:ChgL (Ls i) w w') {a':α} (ha:E.own w' a' (ce i) (Ls i)) :
 SlO E t w' g cap n (upd x i a') ce Ls:=by
 refine ⟨?_,fun k hk=>?_⟩
 ·refine ⟨h.row.1,?_⟩
  rcases h.row.2 with ⟨hn,_⟩ | ⟨g',cap',cur,he,hbg,hgg,rest⟩
  ·cases hn
  ·cases he
   refine .inr ⟨g,cap,cur,rfl,hbg,(hc.block g h.lt (fun hb=>(List.nodup_cons.1 nd).1 (zaz.2 ⟨i,hi,hb⟩))).trans hgg,rest⟩
 ·by_cases c:k=i
  ·subst c
   rw [zaH];exact ha
  ·rw [zaN x a' c]
   exact E.own_chgL (h.each k hk) hc (fun b hb=>zbS (List.nodup_cons.1 nd).2 hi hk c hb)
theorem SlO.kept (h:SlO E t w g cap n x ce Ls) (hk:∀ b,b∈g::catN n Ls→w'.heap[b]?=w.heap[b]?):SlO E t w' g cap n x ce Ls:=by
 refine ⟨⟨h.row.1,?_⟩,fun i hi=>E.own_kept (h.each i hi) (fun b hb=>hk b (List.mem_cons_of_mem _ (zaz.2 ⟨i,hi,hb⟩)))⟩
 rcases h.row.2 with ⟨hn,_⟩ | ⟨g',cap',cur,he,hbg,hgg,rest⟩
 ·cases hn
 ·cases he
  exact .inr ⟨g,cap,cur,rfl,hbg,(hk g (List.mem_cons_self ..)).trans hgg,rest⟩
end
end Go.Proofs.YtlpbohnadenacaaGreat
namespace Go.Proofs.YtlpbohnadenacaaGreat
open Go.ChangeShapes Go.WideShapes Go.ChangeAt Go.RowKit Go.Deep
structure Opens {α:Type} (A:Lay α) (t:TypeId):Prop where
 size:Tryz.prog.cellsOf t=A.sz
 inh:∃ a:α,True
 opens:∀ {H:Type} {enc:TypeId×Value→H} {W:World} {fuel:Nat} {cs:List Value} {x:DataW H×List MemPlace},DataW.trod enc Tryz.prog W 0 (fun _=>true) true fuel t cs=some x→∃ a,A.rd W W.heap.size a cs
theorem zce {t:TypeId} (hu:Tryz.prog.underlying t=some (.int .i64)) (hc:Tryz.prog.cellsOf t=1):Opens layI t:=
 ⟨hc,⟨0,trivial⟩,fun h=>by
  obtain ⟨n,rfl,_,hw⟩:=DataW.trod_int hu h
  exact ⟨n,rfl,bounds_i64 hw⟩⟩
theorem zj7 {t:TypeId} (hu:Tryz.prog.underlying t=some .bool) (hc:Tryz.prog.cellsOf t=1):Opens layB t:=
 ⟨hc,⟨false,trivial⟩,fun h=>by
  obtain ⟨b,rfl,_⟩:=DataW.trod_bool hu h
  exact ⟨b,rfl,trivial⟩⟩
theorem zlQ {t:TypeId} (hu:Tryz.prog.underlying t=some .string) (hc:Tryz.prog.cellsOf t=1):Opens layS t:=
 ⟨hc,⟨ByteArray.empty,trivial⟩,fun h=>by
  obtain ⟨s,rfl,_,hm⟩:=DataW.trod_string hu h
  exact ⟨s,rfl,hm⟩⟩
theorem zcu {α:Type} {E:Lay α} {t e u:TypeId} (hs:0<E.sz) (hu:Tryz.prog.underlying t=some (.slice e)) (hc:Tryz.prog.cellsOf t=1) (hE:Opens E e):Opens (E.slice u) t:=by
 obtain ⟨a0,_⟩:=hE.inh;refine ⟨hc,⟨(0,fun _=>a0),trivial⟩,fun {H enc W fuel cs x} h=>?_⟩
 rcases open_slice hu h with ⟨rfl,_⟩ | ⟨a,len,cap,m,n,D,Pl,rfl,_,hl,hm,hmm,_,hel⟩
 ·exact ⟨(0,fun _=>a0),none,0,rfl,Nat.zero_le _,fun h0=>absurd rfl h0⟩
 ·have hlm:len≤m:=by rw [hmm];simp;exact hl
  have each:∀ i,∃ y:α,i<len→∃ ce,E.rd W W.heap.size y ce∧W.cells? 0 (a.add (i*E.sz)) E.sz=some ce:=fun i=>by
   by_cases hi:i<len
   ·obtain ⟨ce,h1,h2⟩:=hel i (by omega)
    obtain ⟨y,hy⟩:=hE.opens h2;rw [hE.size] at h1;exact ⟨y,fun _=>⟨ce,hy,h1⟩⟩
   ·exact ⟨a0,fun h=>absurd h hi⟩
  refine ⟨(len,fun i=>(each i).choose),some a,cap,rfl,by show len≤maxLen;omega,fun h0=>?_⟩;have h0':0<len:=Nat.pos_of_ne_zero h0;obtain ⟨ce0,_,hc0⟩:=(each 0).choose_spec h0';obtain ⟨_,hl0,hcell0⟩:=World.cells?_some hc0;have h00:=hcell0 0 hs;rw [List.getElem?_eq_getElem (by omega)] at h00;have hspot:=World.cell?_spot h00;have hblk:=World.block_lt_of_cell? W _ h00;obtain ⟨b,off,spot⟩:=a
  have hspot':spot=none:=by simpa [Addr.add] using hspot
  subst hspot';refine ⟨b,off,rfl,by simpa [Addr.add] using hblk,fun i hi=>?_⟩;obtain ⟨ce,h1,h2⟩:=(each i).choose_spec hi;obtain ⟨_,_,hcell⟩:=World.cells?_some h2;refine ⟨ce,h1,fun j hj=>?_⟩;have:=hcell j hj;rw [zeM,zeM,Nat.add_assoc] at this;exact this
theorem zek {t e:TypeId} (hu:Tryz.prog.underlying t=some (.slice e)) (he:Tryz.prog.underlying e=some (.int .u8)) (hc:Tryz.prog.cellsOf t=1) (hc1:Tryz.prog.cellsOf e=1):Opens zad t:=
 ⟨hc,⟨(0,fun _=>0),trivial⟩,fun {H enc W fuel cs x} h=>by
  have hsl:∃ a len cap,cs=[.slice a len cap]:=by
   rcases open_slice hu h with ⟨rfl,_⟩ | ⟨a,len,cap,_,_,_,_,rfl,_⟩
   ·exact ⟨_,_,_,rfl⟩
   ·exact ⟨_,_,_,rfl⟩
  obtain ⟨a,len,cap,rfl⟩:=hsl;obtain ⟨d,ps⟩:=x;obtain ⟨zs,hz⟩:=zhE (t:=t) (a:=a) (len:=len) (cap:=cap) hu he hc1 ⟨fuel,h⟩;obtain ⟨f,kf,hr⟩:=hz.rd
  exact ⟨(len,f),_,rfl,hr,kf⟩⟩
theorem zgL {t e:TypeId} (hu:Tryz.prog.underlying t=some (.slice e)) (he:Tryz.prog.underlying e=some (.int .i64)) (hc:Tryz.prog.cellsOf t=1) (hc1:Tryz.prog.cellsOf e=1):Opens zal t:=
 ⟨hc,⟨(0,fun _=>0),trivial⟩,fun {H enc W fuel cs x} h=>by
  have hsl:∃ a len cap,cs=[.slice a len cap]∧len≤cap:=by
   rcases open_slice hu h with ⟨rfl,_⟩ | ⟨a,len,cap,_,_,_,_,rfl,_,hl,_⟩
   ·exact ⟨_,_,_,rfl,Nat.le_refl _⟩
   ·exact ⟨_,_,_,rfl,hl⟩
  obtain ⟨a,len,cap,rfl,hl⟩:=hsl;obtain ⟨d,ps⟩:=x;obtain ⟨zs,hz⟩:=zgK (t:=t) (a:=a) (len:=len) (cap:=cap) hu he hc1 ⟨fuel,h⟩;obtain ⟨f,kf,hr⟩:=hz.rd
  exact ⟨(len,f),_,rfl,⟨hr,_,_,rfl,hl⟩,kf⟩⟩
theorem zdZ {α β:Type} {A:Lay α} {t:TypeId} {to:β→α} (back:α→β) (hb:∀ a,to (back a)=a) (h:Opens A t):Opens (A.as to) t:=
 ⟨h.size,by obtain ⟨a,_⟩:=h.inh;exact ⟨back a,trivial⟩,fun h1=>by
  obtain ⟨a,ha⟩:=h.opens h1
  exact ⟨back a,by show A.rd _ _ (to (back a)) _;rw [hb];exact ha⟩⟩
structure OpensFrom {α:Type} (A:Lay α) (fs:Array Field) (i o tot:Nat):Prop where
 fits:o+A.sz=tot
 inh:∃ a:α,True
 opens:∀ {H:Type} {enc:TypeId×Value→H} {W:World} {n:Nat} {cs:List Value} {xs:List (DataW H×List MemPlace)},cs.length=tot→xs.length=fs.size→
  (∀ (k:Nat) (f:Field),fs[k]?=some f→DataW.trod enc Tryz.prog W 0 (fun _=>true) true n f.type ((cs.drop f.offset).take (Tryz.prog.cellsOf f.type))=xs[k]?)→∃ a,A.rd W W.heap.size a (cs.drop o)
theorem zco {α:Type} {A:Lay α} {fs:Array Field} {i o tot:Nat} {t:TypeId} (hf:∃ f,fs[i]?=some f∧f.type=t∧f.offset=o) (h:Opens A t) (ht:o+A.sz=tot):OpensFrom A fs i o tot:=
 ⟨ht,h.inh,fun {H enc W n cs xs} hl hx hget=>by
  obtain ⟨f,h1,h2,h3⟩:=hf;have hg:=hget i f h1
  have hi:i<xs.length:=by rw [hx];exact (Array.getElem?_eq_some_iff.1 h1).1
  rw [List.getElem?_eq_getElem hi,h2,h3,h.size] at hg;obtain ⟨a,ha⟩:=h.opens hg;rw [List.take_of_length_le (by rw [List.length_drop];omega)] at ha
  exact ⟨a,ha⟩⟩
theorem zaD {α β:Type} {A:Lay α} {B:Lay β} {fs:Array Field} {i o tot:Nat} {t:TypeId} (hf:∃ f,fs[i]?=some f∧f.type=t∧f.offset=o) (h:Opens A t) (hB:OpensFrom B fs (i+1) (o+A.sz) tot):OpensFrom (A.two B) fs i o tot:=
 ⟨by show o+(A.sz+B.sz)=tot;have:=hB.fits;omega,by obtain ⟨a,_⟩:=h.inh;obtain ⟨b,_⟩:=hB.inh;exact ⟨(a,b),trivial⟩,fun {H enc W n cs xs} hl hx hget=>by
  obtain ⟨f,h1,h2,h3⟩:=hf;have hg:=hget i f h1
  have hi:i<xs.length:=by rw [hx];exact (Array.getElem?_eq_some_iff.1 h1).1
  rw [List.getElem?_eq_getElem hi,h2,h3,h.size] at hg;obtain ⟨a,ha⟩:=h.opens hg;obtain ⟨b,hb⟩:=hB.opens hl hx hget;refine ⟨(a,b),_,_,?_,ha,hb⟩
  rw [← List.drop_drop,List.take_append_drop]⟩
theorem zbL {α:Type} {A:Lay α} {t:TypeId} {fs:Array Field} (hu:Tryz.prog.underlying t=some (.struct fs)) (hc:Tryz.prog.cellsOf t=A.sz) (h:OpensFrom A fs 0 0 A.sz):Opens A t:=
 ⟨hc,h.inh,fun {H enc W fuel cs x} h1=>by
  obtain ⟨xs,n,_,_,hl,hlen,hget⟩:=DataW.trod_struct hu h1;obtain ⟨a,ha⟩:=h.opens (by rw [hl,hc]) hlen hget
  exact ⟨a,by simpa using ha⟩⟩
end Go.Proofs.YtlpbohnadenacaaGreat
namespace Go.Proofs.YtlpbohnadenacaaGreat
open Go.RowKit
def stN (w:World) (g:Nat):Nat→List Value→World
 | _,[]=>w
 | off,c::cs=>stN (w.setCell ⟨g,off,none⟩ c) g (off+1) cs
def setL {β:Type} (xs:List β):Nat→List β→List β
 | _,[]=>xs
 | off,c::cs=>setL (xs.set off c) (off+1) cs
theorem zbo (g b:Nat) (hb:b≠g):∀ (cs:List Value) (w:World) (off:Nat),(stN w g off cs).heap[b]?=w.heap[b]?
 | [],w,off=>rfl
 | c::cs,w,off=>(zbo g b hb cs _ _).trans (heap_setCell_other w ⟨g,off,none⟩ b c hb)
theorem zbj (g:Nat):∀ (cs:List Value) (w:World) (off:Nat),(stN w g off cs).heap.size=w.heap.size
 | [],w,off=>rfl
 | c::cs,w,off=>(zbj g cs _ _).trans (by simp)
theorem za1 (g:Nat):∀ (cs:List Value) (w:World) (off:Nat),(stN w g off cs).os=w.os∧(stN w g off cs).tape=w.tape∧(stN w g off cs).output=w.output
 | [],w,off=>⟨rfl,rfl,rfl⟩
 | c::cs,w,off=>za1 g cs _ _
theorem zaS {B g:Nat} {w:World} (h:B≤g) (cs:List Value) (off:Nat):Below B w (stN w g off cs):=
 ⟨(za1 g cs w off).1,(za1 g cs w off).2.1,(za1 g cs w off).2.2,Nat.le_of_eq (zbj g cs w off).symm,fun k hk=>zbo g k (by omega) cs w off⟩
theorem zf4 {base cap n s g:Nat} {t:TypeId}:∀ (cs:List Value) (w:World) (off:Nat) (xs:List Value),w.ownsRow base t s (.slice (some ⟨g,0,none⟩) n cap) n xs→(stN w g off cs).ownsRow base t s (.slice (some ⟨g,0,none⟩) n cap) n (setL xs off cs)
 | [],w,off,xs,h=>h
 | c::cs,w,off,xs,h=>zf4 cs _ _ _ (h.stored off c).1
theorem ziM {β:Type}:∀ (cs:List β) (xs:List β) (off i:Nat),off+cs.length≤xs.length→(setL xs off cs)[i]?=if off≤i∧i<off+cs.length then cs[i-off]? else xs[i]?
 | [],xs,off,i,h=>by simp [setL];omega
 | c::cs,xs,off,i,h=>by
  simp only [List.length_cons] at h
  rw [setL,ziM cs (xs.set off c) (off+1) i (by simp;omega),List.length_cons]
  by_cases c1:off+1≤i∧i<off+1+cs.length
  ·rw [if_pos c1,if_pos (by omega),show i-off=(i-(off+1))+1 by omega,List.getElem?_cons_succ]
  ·rw [if_neg c1]
   by_cases c2:i=off
   ·subst c2
    rw [if_pos (by omega),List.getElem?_set_self (by omega),Nat.sub_self];rfl
   ·rw [if_neg (by omega),List.getElem?_set_ne (fun h=>c2 h.symm)]
theorem zeV {n s:Nat} {ce:Nat→List Value} (h:∀ i,i<n→(ce i).length=s) {k:Nat} (hk:k<n) {cs:List Value} (hcs:cs.length=s):setL (catN n ce) (k*s) cs=catN n (upd ce k cs):=by
 have hl:=zdY h
 have hu:∀ i,i<n→(upd ce k cs i).length=s:=fun i hi=>by
  by_cases c:i=k
  ·subst c;rw [zaH];exact hcs
  ·rw [zaN ce cs c];exact h i hi
 have hl2:=zdY hu
 have hks:k*s+s≤n*s:=by
  have:=Nat.mul_le_mul_right s (show k+1≤n from hk);rw [Nat.succ_mul] at this;exact this
 apply List.ext_getElem?
 intro i;rw [ziM cs _ _ i (by omega)]
 by_cases hi:i<n*s
 ·have hs:0<s:=by
   rcases Nat.eq_zero_or_pos s with h0 | h0
   ·rw [h0] at hi;omega
   ·exact h0
  have e:i/s*s+i%s=i:=by rw [Nat.mul_comm];exact Nat.div_add_mod i s
  have hq:i/s<n:=(Nat.div_lt_iff_lt_mul hs).2 hi;have hr:=Nat.mod_lt i hs;have g1:=zdv h hq hr;have g2:=zdv hu hq hr;rw [e] at g1 g2;rw [g1,g2]
  by_cases c:i/s=k
  ·have h1:k*s≤i:=by rw [← c];omega
   have h2:i<k*s+s:=by rw [← c];omega
   rw [if_pos ⟨h1,by omega⟩,c,zaH]
   congr 1
   rw [← c];omega
  ·rw [zaN ce cs c,if_neg]
   rintro ⟨h1,h2⟩
   apply c
   have h3:k≤i/s:=(Nat.le_div_iff_mul_le hs).2 h1;have h4:i/s<k+1:=(Nat.div_lt_iff_lt_mul hs).2 (by rw [Nat.succ_mul];omega);omega
 ·rw [if_neg (by omega),List.getElem?_eq_none (by omega),List.getElem?_eq_none (by omega)]
structure SlP {α:Type} (E:Lay α) (t:TypeId) (w:World) (lo g cap n k:Nat) (x:Nat→α) (ce:Nat→List Value) (Ls:Nat→List Nat):Prop where
 row:w.ownsRow lo t E.sz (.slice (some ⟨g,0,none⟩) n cap) n (catN n ce)
 lens:∀ i,i<n→(ce i).length=E.sz
 each:∀ i,i<k→E.own w (x i) (ce i) (Ls i)
 nd:(g::catN k Ls).Nodup
 low:∀ b,b∈catN k Ls→lo≤b
section
variable {α:Type} {E:Lay α} {t:TypeId} {w w':World} {lo g cap n k:Nat} {x:Nat→α} {ce:Nat→List Value} {Ls:Nat→List Nat}
theorem SlP.cell (h:SlP E t w lo g cap n k x ce Ls) {i j:Nat} (hi:i<n) (hj:j<E.sz):w.cell? ⟨g,i*E.sz+j,none⟩=(ce i)[j]?:=by
 rw [h.row.cellAt _ (zlr hi hj),zdv h.lens hi hj]
theorem SlP.frozen (h:SlP E t w lo g cap n k x ce Ls) (j:Nat):w.frozen? ⟨g,j,none⟩=false:=h.row.frozenAt j
theorem SlP.lt (h:SlP E t w lo g cap n k x ce Ls):g<w.heap.size:=(h.row.lt g rfl).2
theorem SlP.mem_lt (h:SlP E t w lo g cap n k x ce Ls):∀ b,b∈catN k Ls→b<w.heap.size:=fun b hb=>by
 obtain ⟨i,hi,hbi⟩:=zaz.1 hb;exact E.own_lt (h.each i hi) b hbi
theorem SlP.below (h:SlP E t w lo g cap n k x ce Ls) (hb:Below w.heap.size w w'):SlP E t w' lo g cap n k x ce Ls:=by
 refine ⟨⟨h.row.1,?_⟩,h.lens,fun i hi=>E.own_kept (h.each i hi) (fun b hb'=>hb.block b (E.own_lt (h.each i hi) b hb')),h.nd,h.low⟩
 rcases h.row.2 with ⟨hn,_⟩ | ⟨g',cap',cur,he,hbg,hgg,rest⟩
 ·cases hn
 ·cases he
  exact .inr ⟨g,cap,cur,rfl,hbg,(hb.block g h.lt).trans hgg,rest⟩
theorem SlP.lay {w1:World} (h1:SlP E t w1 lo g cap n k x ce Ls) (hb:Below w1.heap.size w1 w) (hk:k<n) {a:α} {cs:List Value} {K:List Nat} (ha:E.own w a cs K) (hnd:K.Nodup) (hK:∀ b,b∈K→w1.heap.size≤b) (hlo:lo≤w1.heap.size) :
 SlP E t (stN w g (k*E.sz) cs) lo g cap n (k+1) (upd x k a) (upd ce k cs) (upd Ls k K):=by
 have h:=h1.below hb;have hcs:=E.own_len ha
 have eL:catN (k+1) (upd Ls k K)=catN k Ls++K:=by
  rw [zbm,zaH,zdu (g:=Ls) (fun i hi=>zaN Ls K (by omega))]
 have hg1:=h1.lt
 have hgne:∀ b,b∈catN (k+1) (upd Ls k K)→b≠g:=fun b hb' hh=>by
  subst hh;rw [eL] at hb'
  rcases List.mem_append.1 hb' with h3 | h3
  ·exact (List.nodup_cons.1 h.nd).1 h3
  ·have:=hK b h3;omega
 have own':∀ i,i<k+1→E.own w (upd x k a i) (upd ce k cs i) (upd Ls k K i):=fun i hi=>by
  by_cases c:i=k
  ·subst c;rw [zaH,zaH,zaH];exact ha
  ·rw [zaN x a c,zaN ce cs c,zaN Ls K c];exact h.each i (by omega)
 refine ⟨?_,fun i hi=>?_,fun i hi=>?_,?_,?_⟩
 ·have:=zf4 cs w (k*E.sz) _ h.row
  rw [zeV h.lens hk hcs] at this;exact this
 ·by_cases c:i=k
  ·subst c;rw [zaH];exact hcs
  ·rw [zaN ce cs c];exact h.lens i hi
 ·exact E.own_kept (own' i hi) (fun b hb'=>zbo g b (hgne b (zaz.2 ⟨i,hi,hb'⟩)) cs w _)
 ·rw [eL]
  refine List.nodup_cons.2 ⟨fun hb'=>hgne g (by rw [eL];exact hb') rfl,List.nodup_append.2 ⟨(List.nodup_cons.1 h.nd).2,hnd,fun b hb1 c hc1 hh=>?_⟩⟩;subst hh;have k1:=h1.mem_lt b hb1;have k2:=hK b hc1;omega
 ·rw [eL]
  intro b hb'
  rcases List.mem_append.1 hb' with h3 | h3
  ·exact h.low b h3
  ·have:=hK b h3;omega
theorem SlP.done (h:SlP E t w lo g cap n n x ce Ls) (hg:lo≤g):OwnT (E.slice t) w lo w.heap.size (n,x) [.slice (some ⟨g,0,none⟩) n cap]:=by
 refine ⟨g::catN n Ls,⟨_,ce,Ls,rfl,by simp [Value.ownBlock],⟨h.row.1,?_⟩,h.each⟩,h.nd,fun b hb=>?_⟩
 ·rcases h.row.2 with ⟨hn,_⟩ | ⟨g',cap',cur,he,hbg,rest⟩
  ·cases hn
  ·exact .inr ⟨g',cap',cur,he,Nat.zero_le _,rest⟩
 ·rcases List.mem_cons.1 hb with rfl | hb
  ·exact ⟨hg,h.lt⟩
  ·exact ⟨h.low b hb,h.mem_lt b hb⟩
end
def zel (n:Nat):Lay (Nat→Int) where
 sz:=n
 rd:=fun _ _ s cs=>cs=(List.range n).map (fun i=>Value.int .i64 (s i))∧∀ i,-9223372036854775808≤s i∧s i≤9223372036854775807
 own:=fun _ s cs L=>cs=(List.range n).map (fun i=>Value.int .i64 (s i))∧(∀ i,-9223372036854775808≤s i∧s i≤9223372036854775807)∧L=[]
 rd_len:=fun h=>by rw [h.1];simp
 rd_below:=fun h _ _=>h
 rd_mono:=fun h _=>h
 own_len:=fun h=>by rw [h.1];simp
 own_kept:=fun h _=>h
 own_lt:=fun h b hb=>by rw [h.2.2] at hb;cases hb
 own_rd:=fun h _=>⟨h.1,h.2.1⟩
 own_one:=fun h u hu=>by
  rw [h.1] at hu;obtain ⟨i,_,rfl⟩:=List.mem_map.1 hu;rfl
structure BlockD where
 stamp:Int
 bytes:Nat×(Nat→Nat)
structure DriveD where
 wiped:Bool
 blocks:Nat×(Nat→BlockD)
structure RecD where
 kind:Int
 seq:Int
 name:ByteArray
 length:Int
 group:Int
 row:Int
 rows:Nat×(Nat→Int)
 data:Nat×(Nat→Nat)
 delta:Nat×(Nat→Nat)
structure TapeD where
 wiped:Bool
 recs:Nat×(Nat→RecD)
structure WorldD where
 shape:Nat→Int
 groups:Nat×(Nat→Nat×(Nat→DriveD))
 on:Nat×(Nat→Int)
 tapes:Nat×(Nat→TapeD)
 writes:Int
 stop:Int
 down:Bool
def zaf:Lay BlockD:=(layI.two zad).as fun d=>(d.stamp,d.bytes)
def zaa:Lay DriveD:=(layB.two (zaf.slice 99)).as fun d=>(d.wiped,d.blocks)
def zae:Lay RecD:=(layI.two (layI.two (layS.two (layI.two (layI.two (layI.two (zal.two (zad.two zad)))))))).as fun d=>(d.kind,d.seq,d.name,d.length,d.group,d.row,d.rows,d.data,d.delta)
def zan:Lay TapeD:=(layB.two (zae.slice 43)).as fun d=>(d.wiped,d.recs)
def zab:Lay WorldD:=((zel 9).two (((zaa.slice 97).slice 94).two (zal.two ((zan.slice 103).two (layI.two (layI.two layB)))))).as fun d=>(d.shape,d.groups,d.on,d.tapes,d.writes,d.stop,d.down)
@[reducible] def rwW (d:WorldD) (a:Option Addr) (k:Nat) (b:Option Addr) (l:Nat) (c:Option Addr) (m:Nat):List Value:=[.int .i64 (d.shape 0),.int .i64 (d.shape 1),.int .i64 (d.shape 2),.int .i64 (d.shape 3),.int .i64 (d.shape 4),.int .i64 (d.shape 5),.int .i64 (d.shape 6),.int .i64 (d.shape 7),.int .i64 (d.shape 8),.slice a d.groups.1 k,.slice b d.on.1 l,.slice c d.tapes.1 m,.int .i64 d.writes,.int .i64 d.stop,.bool d.down]
@[reducible] def rwR (r:RecD) (a:Option Addr) (k:Nat) (b:Option Addr) (l:Nat) (c:Option Addr) (m:Nat):List Value:=[.int .i64 r.kind,.int .i64 r.seq,.string r.name,.int .i64 r.length,.int .i64 r.group,.int .i64 r.row,.slice a r.rows.1 k,.slice b r.data.1 l,.slice c r.delta.1 m]
@[reducible] def rwS (s:Nat→Int):List Value:=[.int .i64 (s 0),.int .i64 (s 1),.int .i64 (s 2),.int .i64 (s 3),.int .i64 (s 4),.int .i64 (s 5),.int .i64 (s 6),.int .i64 (s 7),.int .i64 (s 8)]
@[reducible] def rwZ:List Value:=[.int .i64 0,.int .i64 0,.int .i64 0,.int .i64 0,.int .i64 0,.int .i64 0,.int .i64 0,.int .i64 0,.int .i64 0,.int .i64 0,.slice none 0 0,.slice none 0 0,.slice none 0 0,.int .i64 0,.int .i64 0,.bool false]
@[reducible] def rwY:List Value:=[.int .i64 0,.int .i64 0,.int .i64 0,.int .i64 0,.int .i64 0,.int .i64 0,.int .i64 0,.int .i64 0,.int .i64 0,.slice none 0 0,.slice none 0 0,.slice none 0 0,.int .i64 0,.int .i64 0,.bool false]
@[reducible] def rwV (a b c d e f g h i:Int) (p:Option Addr) (l k:Nat) (q:Option Addr) (m n:Nat) (r:Option Addr) (s t:Nat) (u v:Int) (z:Bool):List Value:=[.int .i64 a,.int .i64 b,.int .i64 c,.int .i64 d,.int .i64 e,.int .i64 f,.int .i64 g,.int .i64 h,.int .i64 i,.slice p l k,.slice q m n,.slice r s t,.int .i64 u,.int .i64 v,.bool z]
end Go.Proofs.YtlpbohnadenacaaGreat
namespace Go.Proofs.YtlpbohnadenacaaGreat
open Go.RowKit F256
theorem zhI (v:Value) (n:Nat) (f:Nat→Nat) (hi:Nat) (w:World) (h:Rd w hi v n f) (hhi:hi≤w.heap.size) (hn:n≤140737488351232) :
 Calls Tryz.prog 30 #[v] w fun e w'=>∃ v',e=.returned v'∧Own w' w.heap.size w'.heap.size v' n f∧Below w.heap.size w w':=by
 obtain ⟨ao,cap,rfl,hm,hc⟩:=h
 go_enter Tryz.func30,Tryz.ntmps30
 go_wp2_with (at_make;refine zcm _ rfl _ _ rfl _ _ n rfl rfl rfl rfl hn ?_;intro w1 hown1 hb1 hz1)
 go_loopw [4] (fun i wr=>∃ k:Nat,k≤n∧i=.int .i64 k∧Own wr w.heap.size w1.heap.size (.slice (some ⟨w.heap.size,0,none⟩) n n) n (fun i=>if i<k then f i else 0)∧Below w.heap.size w wr∧wr.heap.size=w1.heap.size) (fun i _=>n-(intOf i).toNat)
 case atStart=>exact ⟨0,Nat.zero_le _,rfl,hown1,hb1,rfl⟩
 case round=>
  obtain ⟨k,hk,rfl,hown,hb,hz⟩:=hrel
  by_cases hlt:k<n
  ·obtain ⟨b,off,rfl,hblt,hcell⟩:=hc (by omega)
   have hck:wr.cell? ⟨b,off+k,none⟩=some (.int .u8 (f k)):=(hb.cell (p:=⟨b,off+k,none⟩) (by show b<w.heap.size;omega)).trans (hcell k hlt)
   have hco:wr.cell? ⟨w.heap.size,k,none⟩=some (.int .u8 (0:Nat)):=by
    have:=hown.1.cellAt k (by omega);rw [this,zas _ _ _ hlt,if_neg (Nat.lt_irrefl k)]
   have hfo:wr.frozen? ⟨w.heap.size,k,none⟩=false:=hown.1.frozenAt k
   have R:Own (wr.setCell ⟨w.heap.size,k,none⟩ (.int .u8 (f k))) w.heap.size w1.heap.size (.slice (some ⟨w.heap.size,0,none⟩) n n) n (fun i=>if i<k+1 then f i else 0):=
    hown.store k (f k) hlt (fun i _=>by by_cases e:i=k<;>simp [e]<;>by_cases e':i<k<;>simp [e']<;>omega)
   have R2:Below w.heap.size w (wr.setCell ⟨w.heap.size,k,none⟩ (.int .u8 (f k))):=hb.setCell (Nat.le_refl _) _;clear hown hb hc hcell;go_wp2
   go_roundw
   case rel=>exact ⟨k+1,by omega,by go_num,R,R2,by simpa using hz⟩
   case measure=>simp [intOf];omega
  ·have hkn:k=n:=by omega
   subst hkn;go_wp2;go_ret;exact ⟨_,rfl,(hown.congr (fun i hi=>by simp [hi])).mono (by omega),hb⟩
theorem zgM (v1 v2:Value) (n:Nat) (f:Nat→Nat) (h1 h2:Nat) (w:World) (r1:Rd w h1 v1 n f) (r2:Rd w h2 v2 n f) :
 Calls Tryz.prog 40 #[v1,v2] w fun e w'=>e=.returned (.bool true)∧Below w.heap.size w w':=by
 obtain ⟨ao,cap,rfl,hm,hc⟩:=r1;obtain ⟨ao2,cap2,rfl,_,hc2⟩:=r2;unfold maxLen at hm
 go_enter Tryz.func40,Tryz.ntmps40
 go_wp2
 go_loopw [5] (fun i wr=>∃ k:Nat,k≤n∧i=.int .i64 k∧∃ m,wr=w.drewN m) (fun i _=>n-(intOf i).toNat)
 case atStart=>exact ⟨0,Nat.zero_le _,rfl,0,rfl⟩
 case round=>
  obtain ⟨k,hk,rfl,m,rfl⟩:=hrel
  by_cases hlt:k<n
  ·obtain ⟨b,off,rfl,hblt,hcell⟩:=hc (by omega)
   obtain ⟨b2,off2,rfl,hblt2,hcell2⟩:=hc2 (by omega);have hck:w.cell? ⟨b,off+k,none⟩=some (.int .u8 (f k)):=hcell k hlt;have hck2:w.cell? ⟨b2,off2+k,none⟩=some (.int .u8 (f k)):=hcell2 k hlt;clear hc hc2 hcell hcell2;go_wp2
   go_quiet (fail)
   go_wp2
   go_roundw
   case rel=>exact ⟨k+1,by omega,by go_num,_,rfl⟩
   case measure=>simp [intOf];omega
  ·have hkn:k=n:=by omega
   subst hkn;go_wp2;go_ret;exact ⟨rfl,below_drewN (Below.refl _ _) _⟩
def zeI (k:Nat):Nat→Nat:=fun i=>(k+i)%256
theorem zeW (j k:Nat):((zeI j k:Nat):Int)=((j:Int)+(k:Int))%256:=by unfold zeI;omega
theorem zd0 (v:Value) (n:Nat) (f:Nat→Nat) (lo hi:Nat) (j:Nat) (hj:j≤1000000000) (hn:n≤1000000000) (w:World) (h:Own w lo hi v n f) :
 Calls Tryz.prog 44 #[v,.int .i64 j] w fun e w'=>e=.returned (.int .i64 ((j+n:Nat):Int))∧Own w' lo hi v n (zeI j)∧Out lo hi w w':=by
 by_cases h0:n=0
 ·subst h0
  have hown:=h.congr (g:=zeI j) (fun i hi=>by omega);obtain ⟨ao,cap,rfl⟩:=h.slice;clear h
  go_enter Tryz.func44,Tryz.ntmps44
  go_wp2
  go_loopw [1,5] (fun x i wr=>x=.int .i64 j∧i=.int .i64 0∧wr=w) (fun _ _ _=>0)
  case atStart=>exact ⟨rfl,rfl,rfl⟩
  case round=>
   obtain ⟨rfl,rfl,rfl⟩:=hrel;go_wp2;go_ret;exact ⟨zcs (by omega),hown,Out.refl _ _ _⟩
 ·obtain ⟨g,cap,rfl,hlo,hhi,hgs,hcap⟩:=h.form h0
  go_enter Tryz.func44,Tryz.ntmps44
  go_wp2
  go_loopw [1,5] (fun x i wr=>∃ k:Nat,k≤n∧i=.int .i64 k∧x=.int .i64 ((j+k:Nat):Int)∧Own wr lo hi (.slice (some ⟨g,0,none⟩) n cap) n (fun i=>if i<k then zeI j i else f i)∧Out lo hi w wr) (fun _ i _=>n-(intOf i).toNat)
  case atStart=>exact ⟨0,Nat.zero_le _,rfl,rfl,h,Out.refl _ _ _⟩
  case round=>
   obtain ⟨k,hk,rfl,rfl,hown,hout⟩:=hrel
   by_cases hlt:k<n
   ·have hco:∃ u,wr.cell? ⟨g,k,none⟩=some u:=by
     have:=hown.1.cellAt k (by omega);exact ⟨_,by rw [this,zas _ _ _ hlt]⟩
    obtain ⟨u,hco⟩:=hco;have hfo:wr.frozen? ⟨g,k,none⟩=false:=hown.1.frozenAt k
    have R:Own (wr.setCell ⟨g,k,none⟩ (.int .u8 (zeI j k))) lo hi (.slice (some ⟨g,0,none⟩) n cap) n (fun i=>if i<k+1 then zeI j i else f i):=
     hown.store k (zeI j k) hlt (fun i _=>by by_cases e:i=k<;>simp [e]<;>by_cases e':i<k<;>simp [e']<;>omega)
    have R2:Out lo hi w (wr.setCell ⟨g,k,none⟩ (.int .u8 (zeI j k))):=hout.trans (zcH wr lo hi g k _ hlo hhi);clear hown hout h;go_wp2
    go_roundw
    case rel=>exact ⟨k+1,by omega,by go_num,zbi (by omega),by rw [← zeW];exact R,by rw [← zeW];exact R2⟩
    case measure=>simp [intOf];omega
   ·have hkn:k=n:=by omega
    subst hkn;go_wp2;go_ret;exact ⟨rfl,hown.congr (fun i hi=>by simp [hi]),hout⟩
theorem zf5 (v:Value) (n:Nat) (hi:Nat) (j:Nat) (hj:j≤1000000000) (hn:n≤1000000000) (w:World) (h:Rd w hi v n (zeI j)) :
 Calls Tryz.prog 168 #[v,.int .i64 j] w fun e w'=>e=.returned (.int .i64 ((j+n:Nat):Int))∧w'=w:=by
 obtain ⟨ao,cap,rfl,hm,hc⟩:=h
 go_enter Tryz.func168,Tryz.ntmps168
 go_wp2
 go_loop [1,5] (fun x i=>∃ k:Nat,k≤n∧i=.int .i64 k∧x=.int .i64 ((j+k:Nat):Int)) (fun _ i=>n-(intOf i).toNat)
 case atStart=>exact ⟨0,Nat.zero_le _,rfl,rfl⟩
 case round=>
  obtain ⟨k,hk,rfl,rfl⟩:=hrel
  by_cases hlt:k<n
  ·obtain ⟨b,off,rfl,hblt,hcell⟩:=hc (by omega)
   have hck:w.cell? ⟨b,off+k,none⟩=some (.int .u8 (((j:Int)+(k:Int))%256)):=by rw [← zeW];exact hcell k hlt
   clear hc hcell;go_wp2
   go_round
   case rel=>exact ⟨k+1,by omega,by go_num,zbi (by omega)⟩
   case measure=>simp [intOf];omega
  ·have hkn:k=n:=by omega
   subst hkn;go_wp2;go_ret;exact ⟨rfl,rfl⟩
def zaT (n:Nat) (e:Nat→Value):List Value:=(List.range n).map e
theorem zaV (n:Nat) (e:Nat→Value):(zaT n e).length=n:=by simp [zaT]
theorem zbn (n:Nat) (e:Nat→Value) (i:Nat) (h:i<n):(zaT n e)[i]?=some (e i):=by simp [zaT,h]
theorem zdb {n:Nat} {e g:Nat→Value} (h:∀ i,i<n→e i=g i):zaT n e=zaT n g:=by
 apply List.map_congr_left
 intro i hi;rw [h i (List.mem_range.mp hi)]
theorem zjd (n:Nat) (e g:Nat→Value) (k:Nat) (x:Value) (hk:k<n) (h:∀ i,i<n→g i=if i=k then x else e i):(zaT n e).set k x=zaT n g:=by
 apply List.ext_getElem?
 intro i
 by_cases hi:i<n
 ·rw [zbn n g i hi,h i hi,List.getElem?_set]
  by_cases c:k=i
  ·subst c;simp [zaV,hk]
  ·rw [if_neg c,if_neg (fun h=>c h.symm),zbn n e i hi]
 ·rw [List.getElem?_eq_none (by rw [List.length_set,zaV];omega),List.getElem?_eq_none (by rw [zaV];omega)]
theorem zdM (n:Nat) (e:Nat→Value):zaT n e++[e n]=zaT (n+1) e:=by
 simp [zaT,List.range_succ]
abbrev nilS:Value:=.slice none 0 0
theorem zhJ (n:Nat):(madeCells #[nilS] n).toList=zaT n fun _=>nilS:=by
 rw [toList_madeCells_one]
 apply List.ext_getElem?
 intro i
 by_cases hi:i<n
 ·rw [zbn _ _ _ hi];simp [hi]
 ·rw [List.getElem?_eq_none (by simp;omega),List.getElem?_eq_none (by rw [zaV];omega)]
def RdM (w:World) (hi:Nat) (v:Value) (R:Nat) (n:Nat→Nat) (f:Nat→Nat→Nat):Prop:=
 ∃ (ao:Option Addr) (cap:Nat) (e:Nat→Value),v=.slice ao R cap∧R≤maxLen∧(R≠0→∃ b off,ao=some ⟨b,off,none⟩∧b<hi∧∀ i,i<R→w.cell? ⟨b,off+i,none⟩=some (e i))∧
  ∀ i,i<R→Rd w hi (e i) (n i) (f i)
def zlR (g R:Nat) (e:Nat→Value):Prop:=(∀ i,i<R→(e i).ownBlock≠some g)∧∀ i j,i<R→j<R→i≠j→∀ k,(e i).ownBlock=some k→(e j).ownBlock≠some k
structure OwnE (w:World) (lo hi:Nat) (v:Value) (R:Nat) (n:Nat→Nat) (f:Nat→Nat→Nat) (g cap:Nat) (e:Nat→Value):Prop where
 val:v=.slice (some ⟨g,0,none⟩) R cap
 low:lo≤g
 high:g<hi
 row:w.ownsRow lo 29 1 v R (zaT R e)
 each:∀ i,i<R→Own w lo hi (e i) (n i) (f i)
 apart:zlR g R e
def OwnM (w:World) (lo hi:Nat) (v:Value) (R:Nat) (n:Nat→Nat) (f:Nat→Nat→Nat):Prop:=∃ g cap e,OwnE w lo hi v R n f g cap e
theorem RdM.below {w w':World} {hi B:Nat} {v:Value} {R:Nat} {n:Nat→Nat} {f:Nat→Nat→Nat} (h:RdM w hi v R n f) (hb:Below B w w') (hB:hi≤B):RdM w' hi v R n f:=by
 obtain ⟨ao,cap,e,rfl,hm,hc,he⟩:=h;refine ⟨ao,cap,e,rfl,hm,fun h0=>?_,fun i hi=>(he i hi).below hb hB⟩;obtain ⟨b,off,rfl,hlt,hcell⟩:=hc h0;exact ⟨b,off,rfl,hlt,fun i hi=>(hb.cell (p:=⟨b,off+i,none⟩) (by show b<B;omega)).trans (hcell i hi)⟩
theorem zcN {w w':World} {lo:Nat} {t:TypeId} {v:Value} {R:Nat} {xs:List Value} (h:w.ownsRow lo t 1 v R xs) (hk:∀ g,v.ownBlock=some g→w'.heap[g]?=w.heap[g]?):w'.ownsRow lo t 1 v R xs:=by
 refine ⟨h.1,?_⟩
 rcases h.2 with hn | ⟨g,cap,cur,rfl,hbg,hgg,rest⟩
 ·exact .inl hn
 ·exact .inr ⟨g,cap,cur,rfl,hbg,(hk g rfl).trans hgg,rest⟩
theorem Own.kept {w w':World} {lo hi:Nat} {v:Value} {n:Nat} {f:Nat→Nat} (h:Own w lo hi v n f) (hk:∀ g,v.ownBlock=some g→w'.heap[g]?=w.heap[g]?):Own w' lo hi v n f:=⟨zcN h.1 hk,h.2⟩
theorem OwnE.cell {w:World} {lo hi:Nat} {v:Value} {R:Nat} {n:Nat→Nat} {f:Nat→Nat→Nat} {g cap:Nat} {e:Nat→Value} (h:OwnE w lo hi v R n f g cap e) (i:Nat) (hi:i<R):w.cell? ⟨g,i,none⟩=some (e i):=by
 have hr:=h.row;rw [h.val] at hr;rw [hr.cellAt i (by omega),zbn R e i hi]
theorem OwnE.rd {w:World} {lo hi:Nat} {v:Value} {R:Nat} {n:Nat→Nat} {f:Nat→Nat→Nat} {g cap:Nat} {e:Nat→Value} (h:OwnE w lo hi v R n f g cap e):RdM w hi v R n f:=by
 have hle:R≤maxLen:=by
  rcases h.row.2 with ⟨h1,h2⟩ | ⟨g',cap',cur,h1,_,_,hnc,hcm,_⟩
  ·rw [h2];exact Nat.zero_le _
  ·omega
 exact ⟨_,cap,e,h.val,hle,fun _=>⟨g,0,rfl,h.high,fun i hi=>by rw [Nat.zero_add];exact h.cell i hi⟩,fun i hi=>(h.each i hi).rd⟩
def tlo (v:Value) (lo:Nat):Nat:=match v.ownBlock with | some k=>k | none=>lo
def thi (v:Value) (lo:Nat):Nat:=match v.ownBlock with | some k=>k+1 | none=>lo
theorem Own.tight {w:World} {lo hi:Nat} {v:Value} {n:Nat} {f:Nat→Nat} (h:Own w lo hi v n f):Own w (tlo v lo) (thi v lo) v n f:=by
 rcases h.1.2 with ⟨rfl,rfl⟩ | ⟨g,cap,cur,rfl,hbg,rest⟩
 ·exact zlz _ _ _ _
 ·exact ⟨⟨h.1.1,.inr ⟨g,cap,cur,rfl,Nat.le_refl _,rest⟩⟩,fun k hk=>by simp [Value.ownBlock] at hk;subst hk;simp [thi,Value.ownBlock]⟩
def sumN (n:Nat→Nat):Nat→Nat
 | 0=>0
 | k+1=>sumN n k+n k
theorem zbu (n:Nat→Nat):∀ {a b:Nat},a≤b→sumN n a≤sumN n b
 | a,0,h=>by
  have:a=0:=by omega
  subst this;exact Nat.le_refl _
 | a,b+1,h=>by
  by_cases e:a=b+1
  ·subst e;exact Nat.le_refl _
  ·have:=zbu n (show a≤b by omega)
   simp only [sumN]
   omega
theorem zhK:(Tryz.prog.info? 29).map (fun i=>(i.zero,i.size,i.bytes))=some (some nilS,1,24):=by kernel_rfl
end Go.Proofs.YtlpbohnadenacaaGreat
namespace Go.Proofs.YtlpbohnadenacaaGreat
open Go.ChangeShapes Go.WideShapes Go.ChangeAt Go.RowKit Go.Deep F256
end Go.Proofs.YtlpbohnadenacaaGreat
namespace Go.Proofs.YtlpbohnadenacaaGreat
def zak (s:Nat→Int):Value:=.agg #[.int .i64 (s 0),.int .i64 (s 1),.int .i64 (s 2),.int .i64 (s 3),.int .i64 (s 4),.int .i64 (s 5),.int .i64 (s 6),.int .i64 (s 7),.int .i64 (s 8)]
end Go.Proofs.YtlpbohnadenacaaGreat
namespace Go.Proofs.YtlpbohnadenacaaGreat
open Go.ChangeShapes Go.WideShapes Go.ChangeAt Go.RowKit
end Go.Proofs.YtlpbohnadenacaaGreat
namespace Go.Proofs.YtlpbohnadenacaaGreat
open Go.ChangeShapes Go.WideShapes Go.ChangeAt Go.RowKit Go.Deep
theorem ziN:Opens zae 31:=
 zdZ (A:=layI.two (layI.two (layS.two (layI.two (layI.two (layI.two (zal.two (zad.two zad)))))))) (fun p=>⟨p.1,p.2.1,p.2.2.1,p.2.2.2.1,p.2.2.2.2.1,p.2.2.2.2.2.1,p.2.2.2.2.2.2.1,p.2.2.2.2.2.2.2.1,p.2.2.2.2.2.2.2.2⟩) (fun _=>rfl)
  (zbL Tryz.underlying31 (show _=9 by kernel_rfl)
   (zaD ⟨_,rfl,rfl,rfl⟩ (zce Tryz.underlying2 (by kernel_rfl))
   (zaD ⟨_,rfl,rfl,rfl⟩ (zce Tryz.underlying2 (by kernel_rfl))
   (zaD ⟨_,rfl,rfl,rfl⟩ (zlQ Tryz.underlying9 (by kernel_rfl))
   (zaD ⟨_,rfl,rfl,rfl⟩ (zce Tryz.underlying2 (by kernel_rfl))
   (zaD ⟨_,rfl,rfl,rfl⟩ (zce Tryz.underlying2 (by kernel_rfl))
   (zaD ⟨_,rfl,rfl,rfl⟩ (zce Tryz.underlying2 (by kernel_rfl))
   (zaD ⟨_,rfl,rfl,rfl⟩ (zgL Tryz.underlying25 Tryz.underlying2 (by kernel_rfl) (by kernel_rfl))
   (zaD ⟨_,rfl,rfl,rfl⟩ (zek Tryz.underlying29 Tryz.underlying5 (by kernel_rfl) (by kernel_rfl))
   (zco ⟨_,rfl,rfl,rfl⟩ (zek Tryz.underlying29 Tryz.underlying5 (by kernel_rfl) (by kernel_rfl)) rfl))))))))))
set_option maxRecDepth 20000 in
theorem zdH {α:Type} {A:Lay α} {fs:Array Field} {H:Type} {enc:TypeId×Value→H} {W:World} {r:Reach} {b0:Nat} {v:Value} {d:DataW H} {ps:List MemPlace} {t:TypeId}
 (hO:Opens A t) (hu:Tryz.prog.underlying t=some (.struct fs)) (hval:Value.okWide Tryz.prog W r b0 t v) (h:DataW.Trod enc Tryz.prog W 0 (fun _=>true) true t v d ps) :
 ∃ cs a,v=.agg cs.toArray∧A.rd W W.heap.size a cs:=by
 obtain ⟨cs,rfl,hsz⟩:=okWide_struct hu hval;obtain ⟨fuel,hfu⟩:=h;have hfu':DataW.trod enc Tryz.prog W 0 (fun _=>true) true fuel t cs.toList=some (d,ps):=hfu;obtain ⟨a,ha⟩:=hO.opens hfu';exact ⟨cs.toList,a,by simp,ha⟩
theorem zj8 {α β:Type} {A:Lay α} {B:Lay β} {t:TypeId} (h:Opens A t) (hs:A.sz=B.sz) (hi:∃ b:β,True) (f:∀ W hi a cs,A.rd W hi a cs→∃ b,B.rd W hi b cs):Opens B t:=
 ⟨h.size.trans hs,hi,fun h1=>by
  obtain ⟨a,ha⟩:=h.opens h1
  exact f _ _ _ _ ha⟩
def nine (a0 a1 a2 a3 a4 a5 a6 a7 a8:Int):Nat→Int
 | 0=>a0 | 1=>a1 | 2=>a2 | 3=>a3 | 4=>a4 | 5=>a5 | 6=>a6 | 7=>a7 | 8=>a8 | _=>0
theorem zhL:Opens (zel 9) 23:=by
 refine zj8 (A:=layI.two (layI.two (layI.two (layI.two (layI.two (layI.two (layI.two (layI.two layI)))))))) ?_ rfl ⟨fun _=>0,trivial⟩ ?_
 ·exact zbL Tryz.underlying23 (show _=9 by kernel_rfl)
   (zaD ⟨_,rfl,rfl,rfl⟩ (zce Tryz.underlying2 (by kernel_rfl))
   (zaD ⟨_,rfl,rfl,rfl⟩ (zce Tryz.underlying2 (by kernel_rfl))
   (zaD ⟨_,rfl,rfl,rfl⟩ (zce Tryz.underlying2 (by kernel_rfl))
   (zaD ⟨_,rfl,rfl,rfl⟩ (zce Tryz.underlying2 (by kernel_rfl))
   (zaD ⟨_,rfl,rfl,rfl⟩ (zce Tryz.underlying2 (by kernel_rfl))
   (zaD ⟨_,rfl,rfl,rfl⟩ (zce Tryz.underlying2 (by kernel_rfl))
   (zaD ⟨_,rfl,rfl,rfl⟩ (zce Tryz.underlying2 (by kernel_rfl))
   (zaD ⟨_,rfl,rfl,rfl⟩ (zce Tryz.underlying2 (by kernel_rfl))
   (zco ⟨_,rfl,rfl,rfl⟩ (zce Tryz.underlying2 (by kernel_rfl)) rfl)))))))))
 ·intro W hi a cs h
  obtain ⟨a0,a1,a2,a3,a4,a5,a6,a7,a8⟩:=a;obtain ⟨_,_,rfl,⟨rfl,k0⟩,_,_,rfl,⟨rfl,k1⟩,_,_,rfl,⟨rfl,k2⟩,_,_,rfl,⟨rfl,k3⟩,_,_,rfl,⟨rfl,k4⟩,_,_,rfl,⟨rfl,k5⟩,_,_,rfl,⟨rfl,k6⟩,_,_,rfl,⟨rfl,k7⟩,⟨rfl,k8⟩⟩:=h;refine ⟨nine a0 a1 a2 a3 a4 a5 a6 a7 a8,rfl,fun i=>?_⟩
  match i with
  | 0=>exact k0
  | 1=>exact k1
  | 2=>exact k2
  | 3=>exact k3
  | 4=>exact k4
  | 5=>exact k5
  | 6=>exact k6
  | 7=>exact k7
  | 8=>exact k8
  | n+9=>exact ⟨show (-9223372036854775808:Int)≤0 by decide,show (0:Int)≤9223372036854775807 by decide⟩
theorem zje:Opens zaf 190:=
 zdZ (A:=layI.two zad) (fun p=>⟨p.1,p.2⟩) (fun _=>rfl)
  (zbL Tryz.underlying190 (show _=2 by kernel_rfl)
   (zaD ⟨_,rfl,rfl,rfl⟩ (zce Tryz.underlying2 (by kernel_rfl))
   (zco ⟨_,rfl,rfl,rfl⟩ (zek Tryz.underlying29 Tryz.underlying5 (by kernel_rfl) (by kernel_rfl)) rfl)))
theorem zjf:Opens zaa 143:=
 zdZ (A:=layB.two (zaf.slice 99)) (fun p=>⟨p.1,p.2⟩) (fun _=>rfl)
  (zbL Tryz.underlying143 (show _=2 by kernel_rfl)
   (zaD ⟨_,rfl,rfl,rfl⟩ (zj7 Tryz.underlying4 (by kernel_rfl))
   (zco ⟨_,rfl,rfl,rfl⟩ (zcu (by decide) Tryz.underlying141 (by kernel_rfl) zje) rfl)))
theorem zj9:Opens zan 85:=
 zdZ (A:=layB.two (zae.slice 43)) (fun p=>⟨p.1,p.2⟩) (fun _=>rfl)
  (zbL Tryz.underlying85 (show _=2 by kernel_rfl)
   (zaD ⟨_,rfl,rfl,rfl⟩ (zj7 Tryz.underlying4 (by kernel_rfl))
   (zco ⟨_,rfl,rfl,rfl⟩ (zcu (by decide) Tryz.underlying83 (by kernel_rfl) ziN) rfl)))
theorem zjg:Opens zab 28:=
 zdZ (A:=(zel 9).two (((zaa.slice 97).slice 94).two (zal.two ((zan.slice 103).two (layI.two (layI.two layB)))))) (fun p=>⟨p.1,p.2.1,p.2.2.1,p.2.2.2.1,p.2.2.2.2.1,p.2.2.2.2.2.1,p.2.2.2.2.2.2⟩) (fun _=>rfl)
  (zbL Tryz.underlying28 (show _=15 by kernel_rfl)
   (zaD ⟨_,rfl,rfl,rfl⟩ zhL
   (zaD ⟨_,rfl,rfl,rfl⟩ (zcu (by decide) Tryz.underlying24 (by kernel_rfl) (zcu (by decide) Tryz.underlying81 (by kernel_rfl) zjf))
   (zaD ⟨_,rfl,rfl,rfl⟩ (zgL Tryz.underlying25 Tryz.underlying2 (by kernel_rfl) (by kernel_rfl))
   (zaD ⟨_,rfl,rfl,rfl⟩ (zcu (by decide) Tryz.underlying26 (by kernel_rfl) zj9)
   (zaD ⟨_,rfl,rfl,rfl⟩ (zce Tryz.underlying2 (by kernel_rfl))
   (zaD ⟨_,rfl,rfl,rfl⟩ (zce Tryz.underlying2 (by kernel_rfl))
   (zco ⟨_,rfl,rfl,rfl⟩ (zj7 Tryz.underlying4 (by kernel_rfl)) rfl))))))))
end Go.Proofs.YtlpbohnadenacaaGreat
namespace Go.Proofs.YtlpbohnadenacaaGreat
open Go.RowKit
theorem zka (zs:List Value) (hz:0<zs.length) (n:Nat):(madeCells zs.toArray (n*zs.length)).toList=catN n (fun _=>zs):=by
 have hl:∀ i,i<n→((fun _=>zs:Nat→List Value) i).length=zs.length:=fun _ _=>rfl
 apply List.ext_getElem?
 intro i
 by_cases hi:i<n*zs.length
 ·have e:i/zs.length*zs.length+i%zs.length=i:=by rw [Nat.mul_comm];exact Nat.div_add_mod i zs.length
  have hq:i/zs.length<n:=(Nat.div_lt_iff_lt_mul hz).2 hi;have hr:=Nat.mod_lt i hz;have g1:=zdv hl hq hr;rw [e] at g1;rw [g1]
  simp only [madeCells,Array.toList_map,Array.toList_range,List.getElem?_map,List.getElem?_range hi,Option.map_some]
  simp [hr]
 ·rw [List.getElem?_eq_none (by simp [size_madeCells];omega),List.getElem?_eq_none (by rw [zdY hl];omega)]
theorem zb9 {α:Type} (E:Lay α) (zs:List Value) (T e:TypeId) (by_:Nat) (hs:0<E.sz) (hzs:zs.length=E.sz) (hu:Tryz.prog.underlying T=some (.slice e)) (hi:(Tryz.prog.info? e).map (fun i=>(i.zero.map (·.cells),i.size,i.bytes))=some (some zs.toArray,E.sz,by_))
 (x:Nat→α) (Ls:Nat→List Nat) (w:World) {ops:Array Oper} {rest:List Oper} {o:Oper} {a:Act} {Q:Exit→Act→World→Prop}
 (hg:o.guard=none) (l c:Operand) (hop:o.op=Op.makeSlice T l c) (L C:Int) (n:Nat) (hl:a.eval l=.int .i64 L) (hc:a.eval c=.int .i64 C) (hL:L=(n:Int)) (hC:C=(n:Int)) (hn:by_*n≤281474976710656) (hm:n≤maxLen)
 (hK:∀ w',SlP E e w' w.heap.size w.heap.size n n 0 x (fun _=>zs) Ls→Below w.heap.size w w'→wpList Tryz.prog ops Q rest (a.put o.dst (.slice (some ⟨w.heap.size,0,none⟩) n n)) w') :
 wpList Tryz.prog ops Q (o::rest) a w:=by
 obtain ⟨i0,hi0⟩:∃ i0,Tryz.prog.info? e=some i0:=by
  cases h:Tryz.prog.info? e with
  | none=>rw [h] at hi;cases hi
  | some i0=>exact ⟨i0,rfl⟩
 rw [hi0] at hi
 simp only [Option.map_some,Option.some.injEq,Prod.mk.injEq] at hi
 obtain ⟨h1,h2,h3⟩:=hi
 obtain ⟨z,hz,hzc⟩:∃ z,i0.zero=some z∧z.cells=zs.toArray:=by
  cases h:i0.zero with
  | none=>rw [h] at h1;cases h1
  | some z=>rw [h] at h1;exact ⟨z,rfl,by simpa using h1⟩
 refine wpList_make_full w hg l c T hop w.heap.size e i0 z E.sz hu hi0 hz h2 .i64 .i64 L C n hl hc hL hC (by rw [h3];exact hn) hm (Nat.le_refl _) ?_;intro w' hown hgrow;rw [hzc,← hzs,zka zs (by omega)] at hown;rw [hzs] at hown;exact hK w' ⟨hown,fun _ _=>hzs,fun i hi=>by omega,by simp [zct],fun b hb=>by rw [zct] at hb;cases hb⟩ (zb7 hgrow)
structure SlG {α:Type} (E:Lay α) (t:TypeId) (w:World) (lo:Nat) (v:Value) (n:Nat) (x:Nat→α) (ce:Nat→List Value) (Ls:Nat→List Nat):Prop where
 row:w.ownsRow lo t E.sz v n (catN n ce)
 each:∀ i,i<n→E.own w (x i) (ce i) (Ls i)
 nd:(v.ownBlock.toList++catN n Ls).Nodup
 low:∀ b,b∈catN n Ls→lo≤b
section
variable {α:Type} {E:Lay α} {t:TypeId} {w w':World} {lo n:Nat} {v:Value} {x:Nat→α} {ce:Nat→List Value} {Ls:Nat→List Nat}
theorem SlG.nil (x:Nat→α) (w:World) (lo:Nat):SlG E t w lo (.slice none 0 0) 0 x (fun _=>[]) (fun _=>[]):=⟨World.ownsRow_nil w lo t E.sz,fun i hi=>by omega,by simp [Value.ownBlock,zct],fun b hb=>by rw [zct] at hb;cases hb⟩
theorem SlG.mem_lt (h:SlG E t w lo v n x ce Ls):∀ b,b∈v.ownBlock.toList++catN n Ls→b<w.heap.size:=fun b hb=>by
 rcases List.mem_append.1 hb with h1 | h1
 ·exact (h.row.lt b (by simpa using h1)).2
 ·obtain ⟨i,hi,hbi⟩:=zaz.1 h1
  exact E.own_lt (h.each i hi) b hbi
theorem SlG.kept (h:SlG E t w lo v n x ce Ls) (hk:∀ b,b∈v.ownBlock.toList++catN n Ls→w'.heap[b]?=w.heap[b]?):SlG E t w' lo v n x ce Ls:=by
 refine ⟨⟨h.row.1,?_⟩,fun i hi=>E.own_kept (h.each i hi) (fun b hb=>hk b (List.mem_append_right _ (zaz.2 ⟨i,hi,hb⟩))),h.nd,h.low⟩
 rcases h.row.2 with hn | ⟨g,cap,cur,rfl,hbg,hgg,rest⟩
 ·exact .inl hn
 ·exact .inr ⟨g,cap,cur,rfl,hbg,(hk g (by simp [Value.ownBlock])).trans hgg,rest⟩
theorem SlG.below (h:SlG E t w lo v n x ce Ls) (hb:Below w.heap.size w w'):SlG E t w' lo v n x ce Ls:=h.kept (fun b hb'=>hb.block b (h.mem_lt b hb'))
theorem SlG.own (h:SlG E t w lo v n x ce Ls):OwnT (E.slice t) w lo w.heap.size (n,x) [v]:=by
 refine ⟨v.ownBlock.toList++catN n Ls,⟨v,ce,Ls,rfl,rfl,⟨h.row.1,?_⟩,h.each⟩,h.nd,fun b hb=>⟨?_,h.mem_lt b hb⟩⟩
 ·rcases h.row.2 with hn | ⟨g,cap,cur,rfl,hbg,rest⟩
  ·exact .inl hn
  ·exact .inr ⟨g,cap,cur,rfl,Nat.zero_le _,rest⟩
 ·rcases List.mem_append.1 hb with h1 | h1
  ·exact (h.row.lt b (by simpa using h1)).1
  ·exact h.low b h1
theorem SlG.grown (h:SlG E t w lo v n x ce Ls) {a:α} {cs:List Value} {K:List Nat} (ha:E.own w a cs K) (hnd:K.Nodup) (hK:∀ b,b∈K→lo≤b∧b∉v.ownBlock.toList++catN n Ls) {v':Value}
 (hr:w'.ownsRow lo t E.sz v' (n+1) (catN n ce++cs)) (hg:w.grownBy w' v.ownBlock) (h5:v'.ownBlock=v.ownBlock∨v'.ownBlock=some w.heap.size) :
 SlG E t w' lo v' (n+1) (upd x n a) (upd ce n cs) (upd Ls n K):=by
 have eL:catN (n+1) (upd Ls n K)=catN n Ls++K:=by
  rw [zbm,zaH,zdu (g:=Ls) (fun i hi=>zaN Ls K (by omega))]
 have eC:catN (n+1) (upd ce n cs)=catN n ce++cs:=by
  rw [zbm,zaH,zdu (g:=ce) (fun i hi=>zaN ce cs (by omega))]
 have nd1:=List.nodup_append.1 h.nd
 have hall:∀ b,b∈catN n Ls++K→b<w.heap.size∧some b≠v.ownBlock:=fun b hb=>by
  rcases List.mem_append.1 hb with h1 | h1
  ·exact ⟨h.mem_lt b (List.mem_append_right _ h1),fun hh=>nd1.2.2 b (by rw [← hh];simp) b h1 rfl⟩
  ·exact ⟨E.own_lt ha b h1,fun hh=>(hK b h1).2 (List.mem_append_left _ (by rw [← hh];simp))⟩
 refine ⟨by rw [eC];exact hr,fun i hi=>?_,?_,?_⟩
 ·by_cases c:i=n
  ·subst c
   rw [zaH,zaH,zaH]
   exact E.own_kept ha (fun b hb=>by
    have:=hall b (List.mem_append_right _ hb)
    exact hg.block b this.1 this.2)
  ·rw [zaN x a c,zaN ce cs c,zaN Ls K c]
   exact E.own_kept (h.each i (by omega)) (fun b hb=>by
    have:=hall b (List.mem_append_left _ (zaz.2 ⟨i,by omega,hb⟩))
    exact hg.block b this.1 this.2)
 ·rw [eL]
  refine List.nodup_append.2 ⟨?_,List.nodup_append.2 ⟨nd1.2.1,hnd,fun b hb c hc hh=>?_⟩,fun b hb c hc hh=>?_⟩
  ·cases hv:v'.ownBlock with
   | none=>simp
   | some g=>simp
  ·subst hh
   exact (hK b hc).2 (List.mem_append_right _ hb)
  ·subst hh
   have h3:=hall b hc
   have h4:v'.ownBlock=some b:=by simpa using hb
   rcases h5 with h5 | h5
   ·exact h3.2 (by rw [← h5,h4])
   ·rw [h5] at h4
    simp at h4
    omega
 ·rw [eL]
  intro b hb
  rcases List.mem_append.1 hb with h1 | h1
  ·exact h.low b h1
  ·exact (hK b h1).1
end
theorem add_o (b j:Nat):(⟨b,0,none⟩:Addr).add j=⟨b,j,none⟩:=by unfold Addr.add;split<;>simp_all
end Go.Proofs.YtlpbohnadenacaaGreat
namespace Go.Proofs.YtlpbohnadenacaaGreat
open Go.RowKit F256
def zc2 (k:Nat):Nat→Int:=fun i=>(k:Int)+(i:Int)
theorem zdw (j k:Nat):zc2 j k=(j:Int)+(k:Int):=rfl
theorem zgN (v:Value) (n:Nat) (f:Nat→Int) (hi:Nat) (w:World) (h:RdI w hi v n f) (hhi:hi≤w.heap.size) (hn:n≤1000000000) :
 Calls Tryz.prog 28 #[v] w fun e w'=>∃ v',e=.returned v'∧OwnI w' w.heap.size w'.heap.size v' n f∧Below w.heap.size w w':=by
 obtain ⟨ao,cap,rfl,hm,hc⟩:=h
 go_enter Tryz.func28,Tryz.ntmps28
 go_wp2_with (at_make;refine ziL _ rfl _ _ rfl _ _ n rfl rfl rfl rfl hn ?_;intro w1 hown1 hb1 hz1)
 go_loopw [4] (fun i wr=>∃ k:Nat,k≤n∧i=.int .i64 k∧OwnI wr w.heap.size w1.heap.size (.slice (some ⟨w.heap.size,0,none⟩) n n) n (fun i=>if i<k then f i else 0)∧Below w.heap.size w wr∧wr.heap.size=w1.heap.size) (fun i _=>n-(intOf i).toNat)
 case atStart=>exact ⟨0,Nat.zero_le _,rfl,hown1,hb1,rfl⟩
 case round=>
  obtain ⟨k,hk,rfl,hown,hb,hz⟩:=hrel
  by_cases hlt:k<n
  ·obtain ⟨b,off,rfl,hblt,hcell⟩:=hc (by omega)
   have hck:wr.cell? ⟨b,off+k,none⟩=some (.int .i64 (f k)):=(hb.cell (p:=⟨b,off+k,none⟩) (by show b<w.heap.size;omega)).trans (hcell k hlt)
   have hco:wr.cell? ⟨w.heap.size,k,none⟩=some (.int .i64 0):=by
    have:=hown.1.cellAt k (by omega);rw [this,zbl _ _ _ hlt,if_neg (Nat.lt_irrefl k)]
   have hfo:wr.frozen? ⟨w.heap.size,k,none⟩=false:=hown.1.frozenAt k
   have R:OwnI (wr.setCell ⟨w.heap.size,k,none⟩ (.int .i64 (f k))) w.heap.size w1.heap.size (.slice (some ⟨w.heap.size,0,none⟩) n n) n (fun i=>if i<k+1 then f i else 0):=
    hown.store k (f k) hlt (fun i _=>by by_cases e:i=k<;>simp [e]<;>by_cases e':i<k<;>simp [e']<;>omega)
   have R2:Below w.heap.size w (wr.setCell ⟨w.heap.size,k,none⟩ (.int .i64 (f k))):=hb.setCell (Nat.le_refl _) _;clear hown hb hc hcell;go_wp2
   go_roundw
   case rel=>exact ⟨k+1,by omega,by go_num,R,R2,by simpa using hz⟩
   case measure=>simp [intOf];omega
  ·have hkn:k=n:=by omega
   subst hkn;go_wp2;go_ret;exact ⟨_,rfl,(hown.congr (fun i hi=>by simp [hi])).mono (by omega),hb⟩
theorem zf6 (v1 v2:Value) (n:Nat) (f:Nat→Int) (h1 h2:Nat) (w:World) (r1:RdI w h1 v1 n f) (r2:RdI w h2 v2 n f) :
 Calls Tryz.prog 38 #[v1,v2] w fun e w'=>e=.returned (.bool true)∧Below w.heap.size w w':=by
 obtain ⟨ao,cap,rfl,hm,hc⟩:=r1;obtain ⟨ao2,cap2,rfl,_,hc2⟩:=r2;unfold maxLen at hm
 go_enter Tryz.func38,Tryz.ntmps38
 go_wp2
 go_loopw [5] (fun i wr=>∃ k:Nat,k≤n∧i=.int .i64 k∧∃ m,wr=w.drewN m) (fun i _=>n-(intOf i).toNat)
 case atStart=>exact ⟨0,Nat.zero_le _,rfl,0,rfl⟩
 case round=>
  obtain ⟨k,hk,rfl,m,rfl⟩:=hrel
  by_cases hlt:k<n
  ·obtain ⟨b,off,rfl,hblt,hcell⟩:=hc (by omega)
   obtain ⟨b2,off2,rfl,hblt2,hcell2⟩:=hc2 (by omega);have hck:w.cell? ⟨b,off+k,none⟩=some (.int .i64 (f k)):=hcell k hlt;have hck2:w.cell? ⟨b2,off2+k,none⟩=some (.int .i64 (f k)):=hcell2 k hlt;clear hc hc2 hcell hcell2;go_wp2
   go_quiet (fail)
   go_wp2
   go_roundw
   case rel=>exact ⟨k+1,by omega,by go_num,_,rfl⟩
   case measure=>simp [intOf];omega
  ·have hkn:k=n:=by omega
   subst hkn;go_wp2;go_ret;exact ⟨rfl,below_drewN (Below.refl _ _) _⟩
theorem zfq (v:Value) (n:Nat) (f:Nat→Int) (lo hi:Nat) (j:Nat) (hj:j≤1000000000) (hn:n≤1000000000) (w:World) (h:OwnI w lo hi v n f) :
 Calls Tryz.prog 42 #[v,.int .i64 j] w fun e w'=>e=.returned (.int .i64 ((j+n:Nat):Int))∧OwnI w' lo hi v n (zc2 j)∧Out lo hi w w':=by
 by_cases h0:n=0
 ·subst h0
  have hown:=h.congr (g:=zc2 j) (fun i hi=>by omega);obtain ⟨ao,cap,rfl⟩:=h.slice;clear h
  go_enter Tryz.func42,Tryz.ntmps42
  go_wp2
  go_loopw [1,5] (fun x i wr=>x=.int .i64 j∧i=.int .i64 0∧wr=w) (fun _ _ _=>0)
  case atStart=>exact ⟨rfl,rfl,rfl⟩
  case round=>
   obtain ⟨rfl,rfl,rfl⟩:=hrel;go_wp2;go_ret;exact ⟨zcs (by omega),hown,Out.refl _ _ _⟩
 ·obtain ⟨g,cap,rfl,hlo,hhi,hgs,hcap⟩:=h.form h0
  go_enter Tryz.func42,Tryz.ntmps42
  go_wp2
  go_loopw [1,5] (fun x i wr=>∃ k:Nat,k≤n∧i=.int .i64 k∧x=.int .i64 ((j+k:Nat):Int)∧OwnI wr lo hi (.slice (some ⟨g,0,none⟩) n cap) n (fun i=>if i<k then zc2 j i else f i)∧Out lo hi w wr) (fun _ i _=>n-(intOf i).toNat)
  case atStart=>exact ⟨0,Nat.zero_le _,rfl,rfl,h,Out.refl _ _ _⟩
  case round=>
   obtain ⟨k,hk,rfl,rfl,hown,hout⟩:=hrel
   by_cases hlt:k<n
   ·have hco:∃ u,wr.cell? ⟨g,k,none⟩=some u:=by
     have:=hown.1.cellAt k (by omega);exact ⟨_,by rw [this,zbl _ _ _ hlt]⟩
    obtain ⟨u,hco⟩:=hco;have hfo:wr.frozen? ⟨g,k,none⟩=false:=hown.1.frozenAt k
    have R:OwnI (wr.setCell ⟨g,k,none⟩ (.int .i64 (zc2 j k))) lo hi (.slice (some ⟨g,0,none⟩) n cap) n (fun i=>if i<k+1 then zc2 j i else f i):=
     hown.store k (zc2 j k) hlt (fun i _=>by by_cases e:i=k<;>simp [e]<;>by_cases e':i<k<;>simp [e']<;>omega)
    have R2:Out lo hi w (wr.setCell ⟨g,k,none⟩ (.int .i64 (zc2 j k))):=hout.trans (zcH wr lo hi g k _ hlo hhi);clear hown hout h;go_wp2
    go_roundw
    case rel=>exact ⟨k+1,by omega,by go_num,zbi (by omega),by rw [← zdw];exact R,by rw [← zdw];exact R2⟩
    case measure=>simp [intOf];omega
   ·have hkn:k=n:=by omega
    subst hkn;go_wp2;go_ret;exact ⟨rfl,hown.congr (fun i hi=>by simp [hi]),hout⟩
end Go.Proofs.YtlpbohnadenacaaGreat
