/- What the frames of all laws share: an integer that came in as a natural number, a slice of bytes that came in as a row of cells. -/
import Derived.Test.YtclclojenogpbaaGreatChecked
import Derived.WalkKit
import Derived.ProofKit
import Derived.OpenShut
import Derived.ChangeOld
import Derived.Below
import Derived.Test.YtclclojenogpbaaGreatProg
import Derived.WalkLawsBesides
import Derived.Deep.Slices
import Derived.BigQuiet
import Derived.Deep.QuietTactic
import Derived.Deep.Matrix
import Derived.ChangeSame
import Derived.ChangeMaps5
import Derived.Maps.AppendAt
import Derived.Laws.BytesArg
import Derived.Deep.RegionLaw
set_option linter.unusedVariables false
set_option linter.unusedSimpArgs false
set_option maxHeartbeats 16000000
namespace Go.Proofs.YtclclojenogpbaaGreat
open Go.ChangeShapes Go.WideShapes Go.ChangeAt Go.RowKit
theorem zmb:ownKnob Tryz.prog.godebug=none:=by kernel_rfl
theorem zkZ:laidOutB Tryz.prog=true:=by kernel_rfl
def IsRow (w:World) (a:Option Addr) (len cap:Nat) (zs:List Int):Prop:=
 (a=none∧len=0∧cap=0∧zs=[]) ∨
 ∃ x,a=some x∧len≤cap∧cap≤maxLen∧zs.length=cap∧(∀ i,i<zs.length→w.cell? (x.add i)=some (.int .u8 (zs.getD i 0)))∧∀ n∈zs,(Lit.int .u8 n).wf=true
theorem zi4 {t e:TypeId} {H:Type} {enc:TypeId×Value→H} {W:World} {a:Option Addr} {len cap:Nat} {d:DataW H} {ps:List MemPlace}
 (hu:Tryz.prog.underlying t=some (.slice e)) (he:Tryz.prog.underlying e=some (.int .u8)) (hc:Tryz.prog.cellsOf e=1)
 (h:DataW.Trod enc Tryz.prog W 0 (fun _=>true) true t (.slice a len cap) d ps):∃ zs,IsRow W a len cap zs:=by
 obtain ⟨fuel,hf⟩:=h
 rcases open_ints hu he hc hf with ⟨hcs,_⟩ | ⟨x,l,c,zs,hcs,_,hl,hm,hz,_,hcell,hwz⟩
 ·simp [Value.cells] at hcs
  obtain ⟨rfl,rfl,rfl⟩:=hcs;exact ⟨[],.inl ⟨rfl,rfl,rfl,rfl⟩⟩
 ·simp [Value.cells] at hcs
  obtain ⟨rfl,rfl,rfl⟩:=hcs;exact ⟨zs,.inr ⟨_,rfl,hl,hm,by simpa using hz,hcell,hwz⟩⟩
end Go.Proofs.YtclclojenogpbaaGreat
namespace Go.Proofs.YtclclojenogpbaaGreat.F256
def dblN (x:Nat):Nat:=if 255<2*x then (2*x) ^^^ 285 else 2*x
def tabN (a:Nat):Nat→Nat
 | 0=>a
 | k+1=>dblN (tabN a k)
def accN (a b:Nat):Nat→Nat
 | 0=>0
 | k+1=>if b/2 ^ k%2=1 then accN a b k ^^^ tabN a k else accN a b k
def mulN (a b:Nat):Nat:=accN a b 8
def powN (a:Nat):Nat→Nat
 | 0=>1
 | n+1=>mulN (powN a n) a
def allB (n:Nat) (p:Nat→Bool):Bool:=n.rec true fun k r=>p k&&r
theorem zcr {p:Nat→Bool}:∀ {n:Nat},allB n p=true→∀ i,i<n→p i=true
 | 0,_,i,h=>absurd h (Nat.not_lt_zero i)
 | n+1,h,i,hi=>by
  have h':(p n&&allB n p)=true:=h;rw [Bool.and_eq_true] at h'
  rcases Nat.lt_succ_iff_lt_or_eq.mp hi with hi | rfl
  ·exact zcr h'.2 i hi
  ·exact h'.1
theorem zfr {x y:Nat} (hx:x<256) (hy:y<256):x ^^^ y<256:=Nat.xor_lt_two_pow (n:=8) hx hy
theorem zou {x:Nat} (hx:x<256):dblN x<256:=by
 have h:allB 256 (fun x=>decide (dblN x<256))=true:=by decide +kernel
 simpa using zcr h x hx
theorem zcA {a:Nat} (ha:a<256):∀ k,tabN a k<256
 | 0=>ha
 | k+1=>zou (zcA ha k)
theorem zdH {a b:Nat} (ha:a<256):∀ k,accN a b k<256
 | 0=>by simp [accN]
 | k+1=>by
  simp only [accN]
  split
  ·exact zfr (zdH ha k) (zcA ha k)
  ·exact zdH ha k
theorem zbN {a b:Nat} (ha:a<256):mulN a b<256:=zdH ha 8
theorem zkq {x y:Nat} (hx:x<256) (hy:y<256):dblN (x ^^^ y)=dblN x ^^^ dblN y:=by
 have h:allB 256 (fun x=>allB 256 fun y=>dblN (x ^^^ y)==dblN x ^^^ dblN y)=true:=by decide +kernel
 simpa using zcr (zcr h x hx) y hy
theorem zkr {x y:Nat} (hx:x<256) (hy:y<256):∀ k,tabN (x ^^^ y) k=tabN x k ^^^ tabN y k
 | 0=>rfl
 | k+1=>by simp only [tabN,zkr hx hy k,zkq (zcA hx k) (zcA hy k)]
theorem xor4 (a b c d:Nat):(a ^^^ b) ^^^ (c ^^^ d)=(a ^^^ c) ^^^ (b ^^^ d):=by
 rw [Nat.xor_assoc,Nat.xor_assoc,← Nat.xor_assoc b c d,Nat.xor_comm b c,Nat.xor_assoc c b d]
theorem zks {x y b:Nat} (hx:x<256) (hy:y<256):∀ k,accN (x ^^^ y) b k=accN x b k ^^^ accN y b k
 | 0=>by simp [accN]
 | k+1=>by
  simp only [accN,zks hx hy k,zkr hx hy k]
  split
  ·exact xor4 _ _ _ _
  ·rfl
theorem zeE {x y b:Nat} (hx:x<256) (hy:y<256):mulN (x ^^^ y) b=mulN x b ^^^ mulN y b:=zks hx hy 8
theorem zha (a:Nat):∀ k,tabN (dblN a) k=dblN (tabN a k)
 | 0=>rfl
 | k+1=>by simp only [tabN,zha a k]
theorem zkt {a b:Nat} (ha:a<256):∀ k,accN (dblN a) b k=dblN (accN a b k)
 | 0=>rfl
 | k+1=>by
  simp only [accN,zkt ha k,zha a k]
  split
  ·rw [zkq (zdH ha k) (zcA ha k)]
  ·rfl
theorem zny {a b:Nat} (ha:a<256):mulN (dblN a) b=dblN (mulN a b):=zkt ha 8
theorem zco {b:Nat} (hb:b<256):mulN 1 b=b:=by
 have h:allB 256 (fun b=>mulN 1 b==b)=true:=by decide +kernel
 simpa using zcr h b hb
theorem zb0 {b:Nat} (hb:b<256):mulN 0 b=0:=by
 have h:allB 256 (fun b=>mulN 0 b==0)=true:=by decide +kernel
 simpa using zcr h b hb
theorem za9 (a:Nat):mulN a 0=0:=by simp [mulN,accN]
abbrev E (n:Nat):Nat:=tabN 1 n
theorem E_lt (n:Nat):E n<256:=zcA (by decide) n
theorem zfO (a i:Nat):∀ j,tabN (tabN a i) j=tabN a (i+j)
 | 0=>rfl
 | j+1=>by rw [← Nat.add_assoc];simp only [tabN,zfO a i j]
theorem zoh {b:Nat} (hb:b<256):∀ i,mulN (E i) b=tabN b i
 | 0=>zco hb
 | i+1=>by simp only [E,tabN];rw [zny (E_lt i),show mulN (tabN 1 i) b=tabN b i from zoh hb i]
theorem zdI (i j:Nat):mulN (E i) (E j)=E (i+j):=by rw [zoh (E_lt j),zfO,Nat.add_comm]
theorem E_255:E 255=1:=by decide +kernel
theorem zmc (n:Nat):E (n+255)=E n:=by
 have:tabN (tabN 1 255) n=tabN 1 (255+n):=zfO 1 255 n;rw [show tabN 1 255=1 from E_255,Nat.add_comm] at this;exact this.symm
theorem zov (n:Nat):E (n%255)=E n:=by
 have:∀ q r,E (r+255*q)=E r:=by
  intro q;induction q with
  | zero=>intro r;rfl
  | succ q ih=>intro r;rw [Nat.mul_succ,← Nat.add_assoc,zmc,ih]
 have h:=this (n/255) (n%255);rw [Nat.mod_add_div] at h;exact h.symm
def zku:Nat→Nat→List Nat
 | 0,_=>[]
 | n+1,x=>x::zku n (dblN x)
theorem zgS {y:Nat}:∀ {n:Nat} {x:Nat},y∈zku n x→∃ k,k<n∧tabN x k=y
 | 0,x,h=>by cases h
 | n+1,x,h=>by
  simp only [zku,List.mem_cons] at h
  rcases h with rfl | h
  ·exact ⟨0,Nat.succ_pos n,rfl⟩
  ·obtain ⟨k,hk,e⟩:=zgS h
   exact ⟨k+1,Nat.succ_lt_succ hk,by rw [← e,zha];rfl⟩
theorem zfP {x:Nat} (hx:x<256) (h0:x≠0):∃ k,k<255∧E k=x:=by
 have h:allB 256 (fun x=>x==0||(zku 255 1).contains x)=true:=by decide +kernel
 have:=zcr h x hx
 simp only [Bool.or_eq_true,beq_iff_eq,List.contains_iff_mem] at this
 exact zgS (this.resolve_left h0)
theorem zcS {a b:Nat} (ha:a<256) (hb:b<256):mulN a b=mulN b a:=by
 by_cases h0:a=0
 ·subst h0;rw [zb0 hb,za9]
 ·by_cases h1:b=0
  ·subst h1;rw [zb0 ha,za9]
  ·obtain ⟨i,_,rfl⟩:=zfP ha h0
   obtain ⟨j,_,rfl⟩:=zfP hb h1;rw [zdI,zdI,Nat.add_comm]
theorem zcL {a b c:Nat} (ha:a<256) (hb:b<256) (hc:c<256):mulN (mulN a b) c=mulN a (mulN b c):=by
 by_cases h0:a=0
 ·subst h0;rw [zb0 hb,zb0 hc,zb0 (zbN hb)]
 ·by_cases h1:b=0
  ·subst h1;rw [za9,zb0 hc,za9]
  ·by_cases h2:c=0
   ·subst h2;rw [za9,za9,za9]
   ·obtain ⟨i,_,rfl⟩:=zfP ha h0
    obtain ⟨j,_,rfl⟩:=zfP hb h1;obtain ⟨k,_,rfl⟩:=zfP hc h2;rw [zdI,zdI,zdI,zdI,Nat.add_assoc]
theorem zeF {a:Nat} (ha:a<256):mulN a 1=a:=by rw [zcS ha (by decide),zco ha]
theorem zgD {a x y:Nat} (ha:a<256) (hx:x<256) (hy:y<256):mulN a (x ^^^ y)=mulN a x ^^^ mulN a y:=by
 rw [zcS ha (zfr hx hy),zeE hx hy,zcS hx ha,zcS hy ha]
theorem zbt {a:Nat}:∀ n,powN a n<256
 | 0=>by simp [powN]
 | n+1=>zbN (zbt n)
theorem zkv (i:Nat):∀ n,powN (E i) n=E (i*n)
 | 0=>rfl
 | n+1=>by rw [powN,zkv i n,zdI,Nat.mul_succ]
theorem zmd {n:Nat} (h:0<n):powN 0 n=0:=by
 cases n with
 | zero=>cases h
 | succ n=>exact za9 _
theorem zhb {a:Nat} (ha:a<256) (m:Nat):∀ n,powN a (m+n)=mulN (powN a m) (powN a n)
 | 0=>by rw [powN,zeF (zbt m)];rfl
 | n+1=>by rw [← Nat.add_assoc,powN,zhb ha m n,powN,zcL (zbt m) (zbt n) ha]
theorem zi5 {a:Nat} (ha:a<256):∀ n,powN (mulN a a) n=powN a (2*n)
 | 0=>rfl
 | n+1=>by
  rw [powN,zi5 ha n,Nat.mul_succ,zhb ha (2*n) 2]
  congr 1
  show mulN a a=mulN (mulN 1 a) a
  rw [zco ha]
theorem znz {a:Nat} (ha:a<256) (h0:a≠0) (n:Nat):powN a (n%255)=powN a n:=by
 obtain ⟨i,_,rfl⟩:=zfP ha h0;rw [zkv,zkv,← zov (i*(n%255)),← zov (i*n),Nat.mul_mod,Nat.mod_mod,← Nat.mul_mod]
abbrev invN (a:Nat):Nat:=powN a 254
theorem zhc {a:Nat} (ha:a<256) (h0:a≠0):mulN (invN a) a=1:=by
 obtain ⟨i,_,rfl⟩:=zfP ha h0;rw [invN,zkv,zdI,show i*254+i=0+i*255 by omega,← zov]
 rw [Nat.zero_add,Nat.mul_mod_left];rfl
end Go.Proofs.YtclclojenogpbaaGreat.F256
namespace Go.Proofs.YtclclojenogpbaaGreat
open Go.RowKit F256
theorem zbo {k:IntKind} {x y:Int} (h:x=y):Value.int k x=Value.int k y:=by rw [h]
theorem zcF {k:IntKind} {x y:Int} (h:x=y):Ending.returned (Value.int k x)=Ending.returned (Value.int k y):=by rw [h]
theorem zeq (a b:Nat) (ha:a<65536) (hb:b<65536):bits .xor .i64 (a:Int) (b:Int)=((a ^^^ b:Nat):Int):=by
 have ha':a%2 ^ 64=a:=Nat.mod_eq_of_lt (by omega);have hb':b%2 ^ 64=b:=Nat.mod_eq_of_lt (by omega);have hx:a ^^^ b<2 ^ 16:=Nat.xor_lt_two_pow (by omega) (by omega)
 show IntKind.i64.wrap ((BitVec.ofInt 64 (a:Int) ^^^ BitVec.ofInt 64 (b:Int)).toNat:Int)=_
 rw [BitVec.toNat_xor,BitVec.ofInt_natCast,BitVec.ofInt_natCast,BitVec.toNat_ofNat,BitVec.toNat_ofNat,ha',hb',IntKind.wrap_i64];omega
theorem zme (b k:Nat) (hb:b<256):bits .and .u8 ((b:Int)/2 ^ k) 1=((b/2 ^ k%2:Nat):Int):=by
 have e:((b:Int)/2 ^ k)=((b/2 ^ k:Nat):Int):=by simp
 have hlt:b/2 ^ k<256:=Nat.lt_of_le_of_lt (Nat.div_le_self _ _) hb;rw [e];have:=u8_and_nat (b/2 ^ k) 1 hlt (by decide);rw [show ((1:Nat):Int)=1 from rfl] at this;rw [this];rw [show (1:Nat)=2 ^ 1-1 from rfl,Nat.and_two_pow_sub_one_eq_mod]
theorem zmf {b k:Nat} (hb:b<256) (h:(bits .and .u8 ((b:Int)/2 ^ k) 1==1)=true):b/2 ^ k%2=1:=by
 rw [zme b k hb,beq_iff_eq] at h;omega
theorem zo1 {b k:Nat} (hb:b<256) (h:(bits .and .u8 ((b:Int)/2 ^ k) 1==1)=false):¬ b/2 ^ k%2=1:=by
 rw [zme b k hb] at h;intro e;rw [e] at h;exact absurd h (by decide)
theorem o_yes {a b k:Nat} (ha:a<256) (hb:b<256) (h:(bits .and .u8 ((b:Int)/2 ^ k) 1==1)=true) :
 bits .xor .i64 (accN a b k:Int) (tabN a k:Int)=((accN a b (k+1):Nat):Int):=by
 have h1:=zdH (b:=b) ha k;have h2:=zcA ha k;rw [zeq _ _ (by omega) (by omega)]
 simp only [accN,if_pos (zmf hb h)]
theorem o_no {a b k:Nat} (hb:b<256) (h:(bits .and .u8 ((b:Int)/2 ^ k) 1==1)=false) :
 (accN a b k:Int)=((accN a b (k+1):Nat):Int):=by
 simp only [accN,if_neg (zo1 hb h)]
theorem zo2 {a k:Nat} (ha:a<256) (h:(255:Int)<2*(tabN a k:Int)):bits .xor .i64 (2*(tabN a k:Int)) 285=((tabN a (k+1):Nat):Int):=by
 have h2:=zcA ha k;have:=zeq (2*tabN a k) 285 (by omega) (by omega);rw [show ((2*tabN a k:Nat):Int)=2*(tabN a k:Int) by omega,show ((285:Nat):Int)=285 from rfl] at this;rw [this]
 simp only [tabN,dblN]
 rw [if_pos (by omega)]
theorem x_in {a k:Nat} (h:2*(tabN a k:Int)≤255):2*(tabN a k:Int)=((tabN a (k+1):Nat):Int):=by
 simp only [tabN,dblN]
 rw [if_neg (by omega)];omega
theorem ze5 {w w1 w2:World} (h:Below w.heap.size w w1) (k:Below w1.heap.size w1 w2):Below w.heap.size w w2:=h.trans (k.mono h.size)
theorem bnew {w w2:World} {o:Obj} (h:Below (w.alloc o).heap.size (w.alloc o) w2):Below w.heap.size w w2:=
 ((Below.refl _ _).alloc (Nat.le_refl _) o).trans (h.mono (by simp))
theorem bsize {w w2:World} {o:Obj} (h:Below (w.alloc o).heap.size (w.alloc o) w2):w.heap.size<w2.heap.size:=by
 have:=h.size
 simp at this
 omega
theorem bAl (w:World) (o:Obj):Below w.heap.size w (w.alloc o):=(Below.refl _ _).alloc (Nat.le_refl _) _
theorem hid {p:Prop} (h:p):Hid p:=h
def cellsOf (n:Nat) (f:Nat→Nat):List Value:=(List.range n).map fun i=>Value.int .u8 (f i)
theorem zac (n:Nat) (f:Nat→Nat):(cellsOf n f).length=n:=by simp [cellsOf]
theorem zag (n:Nat) (f:Nat→Nat) (i:Nat) (h:i<n):(cellsOf n f)[i]?=some (.int .u8 (f i)):=by simp [cellsOf,h]
theorem zk0 {n:Nat} {f g:Nat→Nat} (h:∀ i,i<n→f i=g i):cellsOf n f=cellsOf n g:=by
 apply List.map_congr_left
 intro i hi;rw [h i (List.mem_range.mp hi)]
theorem zi6 (n:Nat) (f g:Nat→Nat) (k:Nat) (x:Nat) (hk:k<n) (h:∀ i,i<n→g i=if i=k then x else f i):(cellsOf n f).set k (.int .u8 x)=cellsOf n g:=by
 apply List.ext_getElem?
 intro i
 by_cases hi:i<n
 ·rw [zag n g i hi,h i hi,List.getElem?_set]
  by_cases e:k=i
  ·subst e;simp [zac,hk]
  ·rw [if_neg e,if_neg (fun h=>e h.symm),zag n f i hi]
 ·rw [List.getElem?_eq_none (by rw [List.length_set,zac];omega),List.getElem?_eq_none (by rw [zac];omega)]
theorem zfs (n:Nat) (f:Nat→Nat):cellsOf n f++[.int .u8 (f n)]=cellsOf (n+1) f:=by
 simp [cellsOf,List.range_succ]
theorem zhY (n:Nat):(madeCells #[Value.int .u8 0] n).toList=cellsOf n fun _=>0:=by
 rw [toList_madeCells_one]
 apply List.ext_getElem?
 intro i
 by_cases hi:i<n
 ·rw [zag _ _ _ hi];simp [hi]
 ·rw [List.getElem?_eq_none (by simp;omega),List.getElem?_eq_none (by rw [zac];omega)]
def Own (w:World) (lo hi:Nat) (v:Value) (n:Nat) (f:Nat→Nat):Prop:=
 w.ownsRow lo 5 1 v n (cellsOf n f)∧∀ k,v.ownBlock=some k→k<hi
def Rd (w:World) (hi:Nat) (v:Value) (n:Nat) (f:Nat→Nat):Prop:=
 ∃ ao cap,v=.slice ao n cap∧n≤maxLen∧(n≠0→∃ b off,ao=some ⟨b,off,none⟩∧b<hi∧∀ i,i<n→w.cell? ⟨b,off+i,none⟩=some (.int .u8 (f i)))
structure Out (lo hi:Nat) (w w':World):Prop where
 os:w'.os=w.os
 tape:w'.tape=w.tape
 output:w'.output=w.output
 size:w'.heap.size=w.heap.size
 block:∀ k,(k<lo∨hi≤k)→w'.heap[k]?=w.heap[k]?
theorem Out.refl (lo hi:Nat) (w:World):Out lo hi w w:=⟨rfl,rfl,rfl,rfl,fun _ _=>rfl⟩
theorem Out.below {lo hi:Nat} {w w':World} (h:Out lo hi w w'):Below lo w w':=⟨h.os,h.tape,h.output,Nat.le_of_eq h.size.symm,fun k hk=>h.block k (.inl hk)⟩
theorem Own.below {w w':World} {lo hi B:Nat} {v:Value} {n:Nat} {f:Nat→Nat} (h:Own w lo hi v n f) (hb:Below B w w') (hB:hi≤B):Own w' lo hi v n f:=by
 refine ⟨⟨h.1.1,?_⟩,h.2⟩
 rcases h.1.2 with hn | ⟨g,cap,cur,rfl,hbg,hgg,rest⟩
 ·exact .inl hn
 ·have:=h.2 g rfl
  exact .inr ⟨g,cap,cur,rfl,hbg,(hb.block g (by omega)).trans hgg,rest⟩
theorem Own.out {w w':World} {lo hi lo' hi':Nat} {v:Value} {n:Nat} {f:Nat→Nat} (h:Own w lo hi v n f) (hb:Out lo' hi' w w') (hB:hi≤lo'∨hi'≤lo):Own w' lo hi v n f:=by
 refine ⟨⟨h.1.1,?_⟩,h.2⟩
 rcases h.1.2 with hn | ⟨g,cap,cur,rfl,hbg,hgg,rest⟩
 ·exact .inl hn
 ·have:=h.2 g rfl
  exact .inr ⟨g,cap,cur,rfl,hbg,(hb.block g (by omega)).trans hgg,rest⟩
theorem Own.mono {w:World} {lo hi hi':Nat} {v:Value} {n:Nat} {f:Nat→Nat} (h:Own w lo hi v n f) (hB:hi≤hi'):Own w lo hi' v n f:=
 ⟨h.1,fun k hk=>Nat.lt_of_lt_of_le (h.2 k hk) hB⟩
theorem Own.rd {w:World} {lo hi:Nat} {v:Value} {n:Nat} {f:Nat→Nat} (h:Own w lo hi v n f):Rd w hi v n f:=by
 rcases h.1.2 with ⟨rfl,rfl⟩ | ⟨g,cap,cur,rfl,hbg,hgg,hnc,hcm,rest⟩
 ·exact ⟨none,0,rfl,Nat.zero_le _,fun h=>absurd rfl h⟩
 ·refine ⟨_,_,rfl,Nat.le_trans hnc hcm,fun _=>⟨g,0,rfl,h.2 g rfl,fun i hi=>?_⟩⟩
  have:=h.1.cellAt i (by omega);rw [Nat.zero_add,this,zag n f i hi]
theorem Rd.below {w w':World} {hi B:Nat} {v:Value} {n:Nat} {f:Nat→Nat} (h:Rd w hi v n f) (hb:Below B w w') (hB:hi≤B):Rd w' hi v n f:=by
 obtain ⟨ao,cap,rfl,hn,hc⟩:=h;refine ⟨ao,cap,rfl,hn,fun h0=>?_⟩;obtain ⟨b,off,rfl,hlt,hcell⟩:=hc h0;exact ⟨b,off,rfl,hlt,fun i hi=>(hb.cell (p:=⟨b,off+i,none⟩) (by show b<B;omega)).trans (hcell i hi)⟩
theorem Rd.mono {w:World} {hi hi':Nat} {v:Value} {n:Nat} {f:Nat→Nat} (h:Rd w hi v n f) (hB:hi≤hi'):Rd w hi' v n f:=by
 obtain ⟨ao,cap,rfl,hn,hc⟩:=h;refine ⟨ao,cap,rfl,hn,fun h0=>?_⟩;obtain ⟨b,off,rfl,hlt,hcell⟩:=hc h0;exact ⟨b,off,rfl,by omega,hcell⟩
theorem Own.congr {w:World} {lo hi:Nat} {v:Value} {n:Nat} {f g:Nat→Nat} (h:Own w lo hi v n f) (e:∀ i,i<n→f i=g i):Own w lo hi v n g:=by
 refine ⟨?_,h.2⟩;rw [← zk0 e];exact h.1
theorem zbu (w:World) (lo hi:Nat) (f:Nat→Nat):Own w lo hi (.slice none 0 0) 0 f:=⟨World.ownsRow_nil _ _ _ _,fun _ h=>by cases h⟩
theorem Own.form {w:World} {lo hi:Nat} {v:Value} {n:Nat} {f:Nat→Nat} (h:Own w lo hi v n f) (h0:n≠0) :
 ∃ g cap,v=.slice (some ⟨g,0,none⟩) n cap∧lo≤g∧g<hi∧g<w.heap.size∧n≤cap:=by
 rcases h.1.2 with ⟨rfl,rfl⟩ | ⟨g,cap,cur,rfl,hbg,hgg,hnc,_⟩
 ·exact absurd rfl h0
 ·exact ⟨g,cap,rfl,hbg,h.2 g rfl,(Array.getElem?_eq_some_iff.1 hgg).1,hnc⟩
theorem Own.slice {w:World} {lo hi:Nat} {v:Value} {n:Nat} {f:Nat→Nat} (h:Own w lo hi v n f):∃ ao cap,v=.slice ao n cap:=by
 rcases h.1.2 with ⟨rfl,rfl⟩ | ⟨g,cap,cur,rfl,_⟩
 ·exact ⟨_,_,rfl⟩
 ·exact ⟨_,_,rfl⟩
theorem Own.le {w:World} {lo hi:Nat} {v:Value} {n:Nat} {f:Nat→Nat} (h:Own w lo hi v n f):n≤maxLen:=by
 rcases h.1.2 with ⟨rfl,rfl⟩ | ⟨g,cap,cur,rfl,_,_,hnc,hcm,_⟩
 ·exact Nat.zero_le _
 ·omega
theorem Own.store {w:World} {lo hi g cap n:Nat} {f g':Nat→Nat} (h:Own w lo hi (.slice (some ⟨g,0,none⟩) n cap) n f) (k x:Nat) (hk:k<n)
 (e:∀ i,i<n→g' i=if i=k then x else f i):Own (w.setCell ⟨g,k,none⟩ (.int .u8 x)) lo hi (.slice (some ⟨g,0,none⟩) n cap) n g':=by
 refine ⟨?_,h.2⟩;have:=(h.1.stored k (.int .u8 x)).1;rw [zi6 n f g' k x hk e] at this;exact this
theorem zbd (w:World) (lo hi g k:Nat) (u:Value) (h1:lo≤g) (h2:g<hi):Out lo hi w (w.setCell ⟨g,k,none⟩ u):=
 ⟨rfl,rfl,rfl,by simp,fun j hj=>heap_setCell_other w ⟨g,k,none⟩ j u (by show j≠g;omega)⟩
theorem Out.trans {lo hi:Nat} {a b c:World} (h:Out lo hi a b) (k:Out lo hi b c):Out lo hi a c:=
 ⟨k.os.trans h.os,k.tape.trans h.tape,k.output.trans h.output,k.size.trans h.size,fun i hi=>(k.block i hi).trans (h.block i hi)⟩
theorem zer:(Tryz.prog.info? 5).map (fun i=>(i.zero,i.size,i.bytes))=some (some (.int .u8 0),1,1):=by kernel_rfl
theorem zbh {w w':World} (h:w.grownBy w' none):Below w.heap.size w w':=⟨h.os,h.tape,h.output,h.size,fun k hk=>h.block k hk (by simp)⟩
theorem zbI (w:World) {ops:Array Oper} {rest:List Oper} {o:Oper} {a:Act} {Q:Exit→Act→World→Prop}
 (hg:o.guard=none) (l c:Operand) (hop:o.op=Op.makeSlice 30 l c) (L C:Int) (n:Nat) (hl:a.eval l=.int .i64 L) (hc:a.eval c=.int .i64 C) (hL:L=(n:Int)) (hC:C=(n:Int)) (hn:n≤140737488351232)
 (hK:∀ w',Own w' w.heap.size w'.heap.size (.slice (some ⟨w.heap.size,0,none⟩) n n) n (fun _=>0)→Below w.heap.size w w'→w.heap.size<w'.heap.size→wpList Tryz.prog ops Q rest (a.put o.dst (.slice (some ⟨w.heap.size,0,none⟩) n n)) w') :
 wpList Tryz.prog ops Q (o::rest) a w:=by
 obtain ⟨i0,hi0,hz0,hz1,hz2⟩:=info_parts zer;refine wpList_make_full w hg l c 30 hop w.heap.size 5 i0 (.int .u8 0) 1 Tryz.underlying30 hi0 hz0 hz1 .i64 .i64 L C n hl hc hL hC (by rw [hz2];omega) (by unfold maxLen;omega) (Nat.le_refl _) ?_;intro w' hown hgrow
 have hown':w'.ownsRow w.heap.size 5 1 (.slice (some ⟨w.heap.size,0,none⟩) n n) n (cellsOf n fun _=>0):=by
  rw [← zhY n]
  have e:(madeCells (Value.int IntKind.u8 0).cells (n*1)).toList=(madeCells #[Value.int .u8 0] n).toList:=by rw [Nat.mul_one];rfl
  rw [← e];exact hown
 have hlt:=(hown'.lt _ rfl).2;exact hK w' ⟨hown',fun k hk=>(hown'.lt k hk).2⟩ (zbh hgrow) hlt
theorem Own.alloc {w:World} {lo hi:Nat} {v:Value} {n:Nat} {f:Nat→Nat} (h:Own w lo hi v n f) (o:Obj):Own (w.alloc o) lo hi v n f:=⟨h.1.alloc o,h.2⟩
theorem Own.drew {w:World} {lo hi:Nat} {v:Value} {n:Nat} {f:Nat→Nat} (h:Own w lo hi v n f):Own w.drew lo hi v n f:=h
theorem zfQ (w:World) (ty:TypeId) (lo hi:Nat) (v:Value) (n:Nat) (f:Nat→Nat) (hown:Own w lo hi v n f) (b c:Nat) (hcell:w.cell? ⟨b,0,none⟩=some (.int .u8 (f n))) (hn:n+1≤140737488351232) (hlo:lo≤w.heap.size) :
 ∃ v' w',(Builtin.append_ #[30,30] ty #[v,.slice (some ⟨b,0,none⟩) 1 c]).run Tryz.prog w=.ok v' w'∧Own w' lo w'.heap.size v' (n+1) f∧Below lo w w':=by
 obtain ⟨i0,hi0,hz0,hz1,hz2⟩:=info_parts zer
 obtain ⟨v',w',hr,h2,h3,_⟩:=run_append_own (P:=Tryz.prog) w lo 30 ty 5 i0 (.int .u8 0) 1 1 Tryz.underlying30 hi0 hz0 hz1 hz2 rfl (by decide) v n (cellsOf n f) hown.1 ⟨b,0,none⟩ 1 c [.int .u8 (f n)] rfl
  (fun j u hj=>by
   match j,hj with
   | 0,hj=>simp at hj;subst hj;simpa [Addr.add] using hcell)
  (fun u hu=>by simp at hu;subst hu;rfl) (by unfold maxLen;omega) (by omega) hlo
 rw [zfs] at h2;exact ⟨v',w',hr,⟨h2,fun k hk=>(h2.lt k hk).2⟩,(Below.refl _ _).grown h3 hlo (fun k hk=>(hown.1.lt k hk).1)⟩
theorem zcY {ops:Array Oper} {o:Oper} {a:Act} {w:World} {K:Act→World→Prop} {Q:Exit→Act→World→Prop} {E:Prop}
 (hg:o.guard=none) (s x:Operand) (hop:o.op=Op.call { callee:=Callee.builtin Builtin.append,args:=#[s,x],argTypes:=#[30,30] })
 (lo hi:Nat) (v:Value) (n:Nat) (f:Nat→Nat) (hs:a.eval s=v) (hown:Own w lo hi v n f) (b c:Nat) (hx:a.eval x=.slice (some ⟨b,0,none⟩) 1 c) (hcell:w.cell? ⟨b,0,none⟩=some (.int .u8 (f n)))
 (hn:n+1≤140737488351232) (hlo:lo≤w.heap.size)
 (hK:∀ v' w',Own w' lo w'.heap.size v' (n+1) f→Below lo w w'→K (a.put o.dst v') w') :
 if Region.wanted o (yielded ops a.tmps)=true then Oper.wp Tryz.prog o a w K Q else E:=by
 have hw:Region.wanted o (yielded ops a.tmps)=true:=by simp [Region.wanted,hg]
 rw [if_pos hw];obtain ⟨v',w',hrun,r1,r2⟩:=zfQ w o.type lo hi v n f hown b c hcell hn hlo;unfold Oper.wp
 simp [execOp,hop,resolve,invoke,builtin,hs,hx,hrun,Result.andThen]
 exact hK v' w' r1 r2
theorem zgT {ops:Array Oper} {rest:List Oper} {o:Oper} {a:Act} {w:World} {Q:Exit→Act→World→Prop}
 (hg:o.guard=none) (s x:Operand) (hop:o.op=Op.call { callee:=Callee.builtin Builtin.append,args:=#[s,x],argTypes:=#[30,30] })
 (lo hi:Nat) (v:Value) (n:Nat) (f:Nat→Nat) (hs:a.eval s=v) (hown:Own w lo hi v n f) (b c:Nat) (hx:a.eval x=.slice (some ⟨b,0,none⟩) 1 c) (hcell:w.cell? ⟨b,0,none⟩=some (.int .u8 (f n)))
 (hn:n+1≤140737488351232) (hlo:lo≤w.heap.size)
 (hK:∀ v' w',Own w' lo w'.heap.size v' (n+1) f→Below lo w w'→wpList Tryz.prog ops Q rest (a.put o.dst v') w'):wpList Tryz.prog ops Q (o::rest) a w:=by
 refine wpList_plain hg fun K hK'=>?_;obtain ⟨v',w',hrun,r1,r2⟩:=zfQ w o.type lo hi v n f hown b c hcell hn hlo;unfold Oper.wp
 simp [execOp,hop,resolve,invoke,builtin,hs,hx,hrun,Result.andThen]
 exact hK' _ _ (hK v' w' r1 r2)
theorem zcZ (w:World) (g:Nat→Nat):Own (w.alloc (.cells #[] 5)) w.heap.size (w.alloc (.cells #[] 5)).heap.size (.slice (some ⟨w.heap.size,0,none⟩) 0 0) 0 g:=by
 have h:=World.ownsRow_lit (base:=w.heap.size) (e:=5) (size:=1) w #[] 0 (Nat.le_refl _) (Nat.zero_le _) rfl;exact ⟨h,fun k hk=>(h.lt k hk).2⟩
theorem Own.weaken {w:World} {lo hi lo' hi':Nat} {v:Value} {n:Nat} {f:Nat→Nat} (h:Own w lo hi v n f) (h1:lo'≤lo) (h2:hi≤hi'):Own w lo' hi' v n f:=by
 refine ⟨⟨h.1.1,?_⟩,fun k hk=>Nat.lt_of_lt_of_le (h.2 k hk) h2⟩
 rcases h.1.2 with hn | ⟨g,cap,cur,rfl,hbg,rest⟩
 ·exact .inl hn
 ·exact .inr ⟨g,cap,cur,rfl,by omega,rest⟩
theorem zbe {wr:World} {g:Nat} {x y:Value} {t:TypeId} (h:wr.heap[g]?=some (.cells #[x,y] t (0,0))) :
 wr.cell? ⟨g,0,none⟩=some x∧wr.cell? ⟨g,1,none⟩=some y∧wr.frozen? ⟨g,0,none⟩=false∧wr.frozen? ⟨g,1,none⟩=false:=
 ⟨by rw [cell_of_row wr g 0 _ t _ h];rfl,by rw [cell_of_row wr g 1 _ t _ h];rfl,frozen_of_row wr g 0 _ t h,frozen_of_row wr g 1 _ t h⟩
structure Chg (lo hi:Nat) (w w':World):Prop where
 os:w'.os=w.os
 tape:w'.tape=w.tape
 output:w'.output=w.output
 size:w.heap.size≤w'.heap.size
 block:∀ k,k<w.heap.size→(k<lo∨hi≤k)→w'.heap[k]?=w.heap[k]?
theorem Out.chg {lo hi:Nat} {w w':World} (h:Out lo hi w w'):Chg lo hi w w':=⟨h.os,h.tape,h.output,Nat.le_of_eq h.size.symm,fun k _ hk=>h.block k hk⟩
theorem Below.chg {w w':World} (h:Below w.heap.size w w') (lo hi:Nat):Chg lo hi w w':=⟨h.os,h.tape,h.output,h.size,fun k hk _=>h.block k hk⟩
theorem Chg.trans {lo hi:Nat} {a b c:World} (h:Chg lo hi a b) (k:Chg lo hi b c):Chg lo hi a c:=
 ⟨k.os.trans h.os,k.tape.trans h.tape,k.output.trans h.output,Nat.le_trans h.size k.size,fun i hi ho=>(k.block i (Nat.lt_of_lt_of_le hi h.size) ho).trans (h.block i hi ho)⟩
theorem Chg.below {lo hi B:Nat} {w w':World} (h:Chg lo hi w w') (h1:B≤lo) (h2:B≤w.heap.size):Below B w w':=⟨h.os,h.tape,h.output,h.size,fun k hk=>h.block k (by omega) (.inl (by omega))⟩
theorem Own.chg {w w':World} {lo hi lo' hi':Nat} {v:Value} {n:Nat} {f:Nat→Nat} (h:Own w lo hi v n f) (hb:Chg lo' hi' w w') (hB:hi≤lo'∨hi'≤lo):Own w' lo hi v n f:=by
 refine ⟨⟨h.1.1,?_⟩,h.2⟩
 rcases h.1.2 with hn | ⟨g,cap,cur,rfl,hbg,hgg,rest⟩
 ·exact .inl hn
 ·have:=h.2 g rfl
  exact .inr ⟨g,cap,cur,rfl,hbg,(hb.block g (Array.getElem?_eq_some_iff.1 hgg).1 (by omega)).trans hgg,rest⟩
def Box (w:World) (b:Nat) (cs:Array Value) (t:TypeId):Prop:=w.heap[b]?=some (.cells cs t (0,0))
theorem Box.lt {w:World} {b:Nat} {cs:Array Value} {t:TypeId} (h:Box w b cs t):b<w.heap.size:=(Array.getElem?_eq_some_iff.1 h).1
theorem Box.below {w w':World} {b B:Nat} {cs:Array Value} {t:TypeId} (h:Box w b cs t) (hb:Below B w w') (hB:b<B):Box w' b cs t:=(hb.block b hB).trans h
theorem Box.chg {w w':World} {b lo hi:Nat} {cs:Array Value} {t:TypeId} (h:Box w b cs t) (hb:Chg lo hi w w') (hB:b<lo∨hi≤b):Box w' b cs t:=(hb.block b h.lt hB).trans h
theorem Box.cell {w:World} {b:Nat} {cs:Array Value} {t:TypeId} (h:Box w b cs t) (j:Nat):w.cell? ⟨b,j,none⟩=cs[j]?:=cell_of_row w b j cs t _ h
theorem Box.frozen {w:World} {b:Nat} {cs:Array Value} {t:TypeId} (h:Box w b cs t) (j:Nat):w.frozen? ⟨b,j,none⟩=false:=frozen_of_row w b j cs t h
theorem zas (w:World) (cs:Array Value) (t:TypeId):Box (w.alloc (.cells cs t)) w.heap.size cs t:=heap_alloc_new w _
theorem zc6 {ops:Array Oper} {o:Oper} {a:Act} {w:World} {K:Act→World→Prop} {Q:Exit→Act→World→Prop} {E:Prop}
 (hg:o.guard=none) (n:Nat) (args:Array Operand) (ty:Array TypeId) (hop:o.op=Op.call { callee:=Callee.value (.func n),args:=args,argTypes:=ty }) (vals:Array Value) (hv:args.map a.eval=vals)
 {fn : Func} (hfn : Tryz.prog.funcs[n]? = some fn) (hnm : (fn.name == "runtime.NumGoroutine") = false) (hbd : fn.body.isSome = true)
 {R:Ending→World→Prop} (hc:Calls Tryz.prog n vals w R) (hK:∀ e w',R e w'→∃ v,e=.returned v∧K (a.put o.dst v) w') :
 if Region.wanted o (yielded ops a.tmps)=true then Oper.wp Tryz.prog o a w K Q else E:=by
 have hw:Region.wanted o (yielded ops a.tmps)=true:=by simp [Region.wanted,hg]
 have hn' : ¬ fn.name = "runtime.NumGoroutine" := by simpa using hnm
 have hb':¬ fn.body=none:=by intro h;rw [h] at hbd;cases hbd
 rw [if_pos hw];unfold Oper.wp
 simp [execOp,hop,resolve,invoke,Act.eval,Result.andThen,Deferred.ofValue,callFunc,Oper.upon,hv,hfn,hn',hb']
 refine hc.mono fun e w' h=>?_;obtain ⟨v,rfl,hk⟩:=hK e w' h;exact hk
theorem zc2 (w:World) (o:Obj) (b j:Nat) (h:b<w.heap.size):(w.alloc o).cell? ⟨b,j,none⟩=w.cell? ⟨b,j,none⟩:=World.cell?_of_block (Below.heap_alloc w o b h)
theorem zmg (w:World) {ops:Array Oper} {rest:List Oper} {o:Oper} {a:Act} {Q:Exit→Act→World→Prop}
 (hg:o.guard=none) (l c:Operand) (hop:o.op=Op.makeSlice 30 l c) (C:Int) (n:Nat) (hl:a.eval l=.int .i64 0) (hc:a.eval c=.int .i64 C) (hC:C=(n:Int)) (hn:n≤140737488351232)
 (hK:∀ w',(∀ f,Own w' w.heap.size w'.heap.size (.slice (some ⟨w.heap.size,0,none⟩) 0 n) 0 f)→Below w.heap.size w w'→w.heap.size<w'.heap.size→wpList Tryz.prog ops Q rest (a.put o.dst (.slice (some ⟨w.heap.size,0,none⟩) 0 n)) w') :
 wpList Tryz.prog ops Q (o::rest) a w:=by
 obtain ⟨i0,hi0,hz0,hz1,hz2⟩:=info_parts zer;refine wpList_make_own w hg l c 30 hop w.heap.size 5 i0 (.int .u8 0) 1 Tryz.underlying30 hi0 hz0 hz1 .i64 .i64 C n hl hc hC (by rw [hz2];omega) (by unfold maxLen;omega) (Nat.le_refl _) ?_;intro w' hown hgrow;have hlt:=(hown.lt _ rfl).2;exact hK w' (fun f=>⟨hown,fun k hk=>(hown.lt k hk).2⟩) (zbh hgrow) hlt
end Go.Proofs.YtclclojenogpbaaGreat
namespace Go.Proofs.YtclclojenogpbaaGreat
open Go.ChangeShapes Go.WideShapes Go.ChangeAt Go.RowKit F256
theorem zfK (b off j:Nat):(⟨b,off,none⟩:Addr).add j=⟨b,off+j,none⟩:=by unfold Addr.add;split<;>simp_all
theorem IsRow.rd {w:World} {a:Option Addr} {len cap:Nat} {zs:List Int} (h:IsRow w a len cap zs):∃ f:Nat→Nat,(∀ i,f i<256)∧Rd w w.heap.size (.slice a len cap) len f:=by
 rcases h with ⟨rfl,rfl,rfl,rfl⟩ | ⟨x,rfl,hl,hm,hz,hcell,hwz⟩
 ·exact ⟨fun _=>0,fun _=>Nat.zero_lt_succ _,none,0,rfl,Nat.zero_le _,fun h=>absurd rfl h⟩
 ·have hb:∀ i,0≤zs.getD i 0∧zs.getD i 0≤255:=fun i=>by
   by_cases h:i<zs.length
   ·have e:zs.getD i 0=zs[i]:=by simp [List.getD,h]
    rw [e];exact bounds_u8 (hwz _ (List.getElem_mem h))
   ·have e:zs.getD i 0=0:=by simp [List.getD,h]
    rw [e];omega
  refine ⟨fun i=>(zs.getD i 0).toNat,fun i=>by have:=hb i;show (zs.getD i 0).toNat<256;omega,some x,cap,rfl,by omega,fun h0=>?_⟩;have h00:=hcell 0 (by omega);have hspot:(x.add 0).spot=none:=World.cell?_spot h00;obtain ⟨b,off,spot⟩:=x
  have hspot':spot=none:=by simpa [Addr.add] using hspot
  subst hspot';refine ⟨b,off,rfl,World.block_lt_of_cell? w _ h00,fun i hi=>?_⟩;have hci:=hcell i (by omega)
  have e:(((zs.getD i 0).toNat:Nat):Int)=zs.getD i 0:=by have:=hb i;omega
  rw [e,← zfK];exact hci
end Go.Proofs.YtclclojenogpbaaGreat
namespace Go.Proofs.YtclclojenogpbaaGreat
open Go.RowKit F256
def za3 (n:Nat) (f:Nat→Int):List Value:=(List.range n).map fun i=>Value.int .i64 (f i)
theorem zax (n:Nat) (f:Nat→Int):(za3 n f).length=n:=by simp [za3]
theorem zbl (n:Nat) (f:Nat→Int) (i:Nat) (h:i<n):(za3 n f)[i]?=some (.int .i64 (f i)):=by simp [za3,h]
theorem zmh {n:Nat} {f g:Nat→Int} (h:∀ i,i<n→f i=g i):za3 n f=za3 n g:=by
 apply List.map_congr_left
 intro i hi;rw [h i (List.mem_range.mp hi)]
theorem zk1 (n:Nat) (f g:Nat→Int) (k:Nat) (x:Int) (hk:k<n) (h:∀ i,i<n→g i=if i=k then x else f i):(za3 n f).set k (.int .i64 x)=za3 n g:=by
 apply List.ext_getElem?
 intro i
 by_cases hi:i<n
 ·rw [zbl n g i hi,h i hi,List.getElem?_set]
  by_cases e:k=i
  ·subst e;simp [zax,hk]
  ·rw [if_neg e,if_neg (fun h=>e h.symm),zbl n f i hi]
 ·rw [List.getElem?_eq_none (by rw [List.length_set,zax];omega),List.getElem?_eq_none (by rw [zax];omega)]
theorem zi7 (n:Nat) (f:Nat→Int):za3 n f++[.int .i64 (f n)]=za3 (n+1) f:=by
 simp [za3,List.range_succ]
theorem zi8 (n:Nat):(madeCells #[Value.int .i64 0] n).toList=za3 n fun _=>0:=by
 rw [toList_madeCells_one]
 apply List.ext_getElem?
 intro i
 by_cases hi:i<n
 ·rw [zbl _ _ _ hi];simp [hi]
 ·rw [List.getElem?_eq_none (by simp;omega),List.getElem?_eq_none (by rw [zax];omega)]
def OwnI (w:World) (lo hi:Nat) (v:Value) (n:Nat) (f:Nat→Int):Prop:=
 w.ownsRow lo 2 1 v n (za3 n f)∧∀ k,v.ownBlock=some k→k<hi
def RdI (w:World) (hi:Nat) (v:Value) (n:Nat) (f:Nat→Int):Prop:=
 ∃ ao cap,v=.slice ao n cap∧n≤maxLen∧(n≠0→∃ b off,ao=some ⟨b,off,none⟩∧b<hi∧∀ i,i<n→w.cell? ⟨b,off+i,none⟩=some (.int .i64 (f i)))
theorem OwnI.mono {w:World} {lo hi hi':Nat} {v:Value} {n:Nat} {f:Nat→Int} (h:OwnI w lo hi v n f) (hB:hi≤hi'):OwnI w lo hi' v n f:=
 ⟨h.1,fun k hk=>Nat.lt_of_lt_of_le (h.2 k hk) hB⟩
theorem OwnI.rd {w:World} {lo hi:Nat} {v:Value} {n:Nat} {f:Nat→Int} (h:OwnI w lo hi v n f):RdI w hi v n f:=by
 rcases h.1.2 with ⟨rfl,rfl⟩ | ⟨g,cap,cur,rfl,hbg,hgg,hnc,hcm,rest⟩
 ·exact ⟨none,0,rfl,Nat.zero_le _,fun h=>absurd rfl h⟩
 ·refine ⟨_,_,rfl,Nat.le_trans hnc hcm,fun _=>⟨g,0,rfl,h.2 g rfl,fun i hi=>?_⟩⟩
  have:=h.1.cellAt i (by omega);rw [Nat.zero_add,this,zbl n f i hi]
theorem RdI.below {w w':World} {hi B:Nat} {v:Value} {n:Nat} {f:Nat→Int} (h:RdI w hi v n f) (hb:Below B w w') (hB:hi≤B):RdI w' hi v n f:=by
 obtain ⟨ao,cap,rfl,hn,hc⟩:=h;refine ⟨ao,cap,rfl,hn,fun h0=>?_⟩;obtain ⟨b,off,rfl,hlt,hcell⟩:=hc h0;exact ⟨b,off,rfl,hlt,fun i hi=>(hb.cell (p:=⟨b,off+i,none⟩) (by show b<B;omega)).trans (hcell i hi)⟩
theorem OwnI.congr {w:World} {lo hi:Nat} {v:Value} {n:Nat} {f g:Nat→Int} (h:OwnI w lo hi v n f) (e:∀ i,i<n→f i=g i):OwnI w lo hi v n g:=by
 refine ⟨?_,h.2⟩;rw [← zmh e];exact h.1
theorem OwnI.form {w:World} {lo hi:Nat} {v:Value} {n:Nat} {f:Nat→Int} (h:OwnI w lo hi v n f) (h0:n≠0) :
 ∃ g cap,v=.slice (some ⟨g,0,none⟩) n cap∧lo≤g∧g<hi∧g<w.heap.size∧n≤cap:=by
 rcases h.1.2 with ⟨rfl,rfl⟩ | ⟨g,cap,cur,rfl,hbg,hgg,hnc,_⟩
 ·exact absurd rfl h0
 ·exact ⟨g,cap,rfl,hbg,h.2 g rfl,(Array.getElem?_eq_some_iff.1 hgg).1,hnc⟩
theorem OwnI.slice {w:World} {lo hi:Nat} {v:Value} {n:Nat} {f:Nat→Int} (h:OwnI w lo hi v n f):∃ ao cap,v=.slice ao n cap:=by
 rcases h.1.2 with ⟨rfl,rfl⟩ | ⟨g,cap,cur,rfl,_⟩
 ·exact ⟨_,_,rfl⟩
 ·exact ⟨_,_,rfl⟩
theorem OwnI.store {w:World} {lo hi g cap n:Nat} {f g':Nat→Int} (h:OwnI w lo hi (.slice (some ⟨g,0,none⟩) n cap) n f) (k:Nat) (x:Int) (hk:k<n)
 (e:∀ i,i<n→g' i=if i=k then x else f i):OwnI (w.setCell ⟨g,k,none⟩ (.int .i64 x)) lo hi (.slice (some ⟨g,0,none⟩) n cap) n g':=by
 refine ⟨?_,h.2⟩;have:=(h.1.stored k (.int .i64 x)).1;rw [zk1 n f g' k x hk e] at this;exact this
theorem zhd:(Tryz.prog.info? 2).map (fun i=>(i.zero,i.size,i.bytes))=some (some (.int .i64 0),1,8):=by kernel_rfl
theorem zkw (w:World) {ops:Array Oper} {rest:List Oper} {o:Oper} {a:Act} {Q:Exit→Act→World→Prop}
 (hg:o.guard=none) (l c:Operand) (hop:o.op=Op.makeSlice 25 l c) (L C:Int) (n:Nat) (hl:a.eval l=.int .i64 L) (hc:a.eval c=.int .i64 C) (hL:L=(n:Int)) (hC:C=(n:Int)) (hn:n≤1000000000)
 (hK:∀ w',OwnI w' w.heap.size w'.heap.size (.slice (some ⟨w.heap.size,0,none⟩) n n) n (fun _=>0)→Below w.heap.size w w'→w.heap.size<w'.heap.size→wpList Tryz.prog ops Q rest (a.put o.dst (.slice (some ⟨w.heap.size,0,none⟩) n n)) w') :
 wpList Tryz.prog ops Q (o::rest) a w:=by
 obtain ⟨i0,hi0,hz0,hz1,hz2⟩:=info_parts zhd;refine wpList_make_full w hg l c 25 hop w.heap.size 2 i0 (.int .i64 0) 1 Tryz.underlying25 hi0 hz0 hz1 .i64 .i64 L C n hl hc hL hC (by rw [hz2];omega) (by unfold maxLen;omega) (Nat.le_refl _) ?_;intro w' hown hgrow
 have hown':w'.ownsRow w.heap.size 2 1 (.slice (some ⟨w.heap.size,0,none⟩) n n) n (za3 n fun _=>0):=by
  rw [← zi8 n]
  have e:(madeCells (Value.int IntKind.i64 0).cells (n*1)).toList=(madeCells #[Value.int .i64 0] n).toList:=by rw [Nat.mul_one];rfl
  rw [← e];exact hown
 have hlt:=(hown'.lt _ rfl).2;exact hK w' ⟨hown',fun k hk=>(hown'.lt k hk).2⟩ (zbh hgrow) hlt
theorem OwnI.alloc {w:World} {lo hi:Nat} {v:Value} {n:Nat} {f:Nat→Int} (h:OwnI w lo hi v n f) (o:Obj):OwnI (w.alloc o) lo hi v n f:=⟨h.1.alloc o,h.2⟩
theorem zmi (w:World) (g:Nat→Int):OwnI (w.alloc (.cells #[] 2)) w.heap.size (w.alloc (.cells #[] 2)).heap.size (.slice (some ⟨w.heap.size,0,none⟩) 0 0) 0 g:=by
 have h:=World.ownsRow_lit (base:=w.heap.size) (e:=2) (size:=1) w #[] 0 (Nat.le_refl _) (Nat.zero_le _) rfl;exact ⟨h,fun k hk=>(h.lt k hk).2⟩
theorem OwnI.weaken {w:World} {lo hi lo' hi':Nat} {v:Value} {n:Nat} {f:Nat→Int} (h:OwnI w lo hi v n f) (h1:lo'≤lo) (h2:hi≤hi'):OwnI w lo' hi' v n f:=by
 refine ⟨⟨h.1.1,?_⟩,fun k hk=>Nat.lt_of_lt_of_le (h.2 k hk) h2⟩
 rcases h.1.2 with hn | ⟨g,cap,cur,rfl,hbg,rest⟩
 ·exact .inl hn
 ·exact .inr ⟨g,cap,cur,rfl,by omega,rest⟩
end Go.Proofs.YtclclojenogpbaaGreat
namespace Go.Proofs.YtclclojenogpbaaGreat
open Go.ChangeShapes Go.WideShapes Go.ChangeAt Go.RowKit F256
def IsRowI (w:World) (a:Option Addr) (len cap:Nat) (zs:List Int):Prop:=
 (a=none∧len=0∧cap=0∧zs=[]) ∨
 ∃ x,a=some x∧len≤cap∧cap≤maxLen∧zs.length=cap∧(∀ i,i<zs.length→w.cell? (x.add i)=some (.int .i64 (zs.getD i 0)))∧∀ n∈zs,(Lit.int .i64 n).wf=true
theorem zhZ {t e:TypeId} {H:Type} {enc:TypeId×Value→H} {W:World} {a:Option Addr} {len cap:Nat} {d:DataW H} {ps:List MemPlace}
 (hu:Tryz.prog.underlying t=some (.slice e)) (he:Tryz.prog.underlying e=some (.int .i64)) (hc:Tryz.prog.cellsOf e=1)
 (h:DataW.Trod enc Tryz.prog W 0 (fun _=>true) true t (.slice a len cap) d ps):∃ zs,IsRowI W a len cap zs:=by
 obtain ⟨fuel,hf⟩:=h
 rcases open_ints hu he hc hf with ⟨hcs,_⟩ | ⟨x,l,c,zs,hcs,_,hl,hm,hz,_,hcell,hwz⟩
 ·simp [Value.cells] at hcs
  obtain ⟨rfl,rfl,rfl⟩:=hcs;exact ⟨[],.inl ⟨rfl,rfl,rfl,rfl⟩⟩
 ·simp [Value.cells] at hcs
  obtain ⟨rfl,rfl,rfl⟩:=hcs;exact ⟨zs,.inr ⟨_,rfl,hl,hm,by simpa using hz,hcell,hwz⟩⟩
theorem IsRowI.rd {w:World} {a:Option Addr} {len cap:Nat} {zs:List Int} (h:IsRowI w a len cap zs):∃ f:Nat→Int,(∀ i,-9223372036854775808≤f i∧f i≤9223372036854775807)∧RdI w w.heap.size (.slice a len cap) len f:=by
 rcases h with ⟨rfl,rfl,rfl,rfl⟩ | ⟨x,rfl,hl,hm,hz,hcell,hwz⟩
 ·exact ⟨fun _=>0,fun _=>(by show -9223372036854775808≤(0:Int)∧(0:Int)≤9223372036854775807;omega),none,0,rfl,Nat.zero_le _,fun h=>absurd rfl h⟩
 ·have hb:∀ i,-9223372036854775808≤zs.getD i 0∧zs.getD i 0≤9223372036854775807:=fun i=>by
   by_cases h:i<zs.length
   ·have e:zs.getD i 0=zs[i]:=by simp [List.getD,h]
    rw [e];exact bounds_i64 (hwz _ (List.getElem_mem h))
   ·have e:zs.getD i 0=0:=by simp [List.getD,h]
    rw [e];omega
  refine ⟨fun i=>zs.getD i 0,hb,some x,cap,rfl,by omega,fun h0=>?_⟩;have h00:=hcell 0 (by omega);have hspot:(x.add 0).spot=none:=World.cell?_spot h00;obtain ⟨b,off,spot⟩:=x
  have hspot':spot=none:=by simpa [Addr.add] using hspot
  subst hspot';refine ⟨b,off,rfl,World.block_lt_of_cell? w _ h00,fun i hi=>?_⟩;have hci:=hcell i (by omega);rw [← zfK];exact hci
end Go.Proofs.YtclclojenogpbaaGreat
namespace Go.Proofs.YtclclojenogpbaaGreat
open Go.RowKit
def catN {β:Type} (n:Nat) (f:Nat→List β):List β:=(List.range n).flatMap f
theorem zb1 {β:Type} (f:Nat→List β):catN 0 f=[]:=rfl
theorem zbq {β:Type} (n:Nat) (f:Nat→List β):catN (n+1) f=catN n f++f n:=by
 unfold catN;rw [List.range_succ,List.flatMap_append]
 simp
theorem zcI {β:Type} {n s:Nat} {f:Nat→List β} (h:∀ i,i<n→(f i).length=s):(catN n f).length=n*s:=by
 induction n with
 | zero=>simp [catN]
 | succ n ih=>rw [zbq,List.length_append,ih (fun i hi=>h i (by omega)),h n (by omega),Nat.succ_mul]
theorem zd4 {β:Type} {n:Nat} {f g:Nat→List β} (h:∀ i,i<n→f i=g i):catN n f=catN n g:=by
 induction n with
 | zero=>rfl
 | succ n ih=>rw [zbq,zbq,ih (fun i hi=>h i (by omega)),h n (by omega)]
theorem zcp {β:Type} {n s:Nat} {f:Nat→List β} (h:∀ i,i<n→(f i).length=s) {i j:Nat} (hi:i<n) (hj:j<s):(catN n f)[i*s+j]?=(f i)[j]?:=by
 induction n with
 | zero=>omega
 | succ n ih=>
  have hl:(catN n f).length=n*s:=zcI (fun i hi=>h i (by omega));rw [zbq]
  by_cases c:i<n
  ·have:i*s+j<n*s:=by
    have:=Nat.mul_le_mul_right s (show i+1≤n from c);rw [Nat.succ_mul] at this;omega
   rw [List.getElem?_append_left (by omega),ih (fun i hi=>h i (by omega)) c]
  ·obtain rfl:i=n:=by omega
   rw [List.getElem?_append_right (by omega),hl]
   congr 1
   omega
theorem zkx {β:Type} {n s:Nat} {f:Nat→List β} (h:∀ i,i<n→(f i).length=s) {i j:Nat} (hi:i<n) (hj:j<s) (u:β):(catN n f).set (i*s+j) u=catN n (fun k=>if k=i then (f i).set j u else f k):=by
 induction n with
 | zero=>omega
 | succ n ih=>
  have hl:(catN n f).length=n*s:=zcI (fun i hi=>h i (by omega));rw [zbq,zbq]
  by_cases c:i<n
  ·have:i*s+j<n*s:=by
    have:=Nat.mul_le_mul_right s (show i+1≤n from c);rw [Nat.succ_mul] at this;omega
   rw [List.set_append_left _ _ (by omega),ih (fun i hi=>h i (by omega)) c,if_neg (by omega)]
  ·obtain rfl:i=n:=by omega
   rw [List.set_append_right _ _ (by omega),hl,if_pos rfl]
   congr 1
   ·exact zd4 (fun k hk=>by rw [if_neg (by omega)])
   ·congr 1
    omega
theorem zbw {β:Type} {n:Nat} {f:Nat→List β} {b:β}:b∈catN n f↔∃ i,i<n∧b∈f i:=by
 unfold catN
 simp [List.mem_flatMap]
structure Lay (α:Type) where
 sz:Nat
 rd:World→Nat→α→List Value→Prop
 own:World→α→List Value→List Nat→Prop
 rd_len:∀ {w:World} {hi:Nat} {a:α} {cs:List Value},rd w hi a cs→cs.length=sz
 rd_below:∀ {w w':World} {hi B:Nat} {a:α} {cs:List Value},rd w hi a cs→Below B w w'→hi≤B→rd w' hi a cs
 rd_mono:∀ {w:World} {hi hi':Nat} {a:α} {cs:List Value},rd w hi a cs→hi≤hi'→rd w hi' a cs
 own_len:∀ {w:World} {a:α} {cs:List Value} {L:List Nat},own w a cs L→cs.length=sz
 own_kept:∀ {w w':World} {a:α} {cs:List Value} {L:List Nat},own w a cs L→(∀ b,b∈L→w'.heap[b]?=w.heap[b]?)→own w' a cs L
 own_lt:∀ {w:World} {a:α} {cs:List Value} {L:List Nat},own w a cs L→∀ b,b∈L→b<w.heap.size
 own_rd:∀ {w:World} {hi:Nat} {a:α} {cs:List Value} {L:List Nat},own w a cs L→(∀ b,b∈L→b<hi)→rd w hi a cs
 own_one:∀ {w:World} {a:α} {cs:List Value} {L:List Nat},own w a cs L→∀ u,u∈cs→u.oneCell'=true
def Lay.plain {α:Type} (enc:α→Value) (ok:α→Prop) (one:∀ a,(enc a).oneCell'=true):Lay α where
 sz:=1
 rd:=fun _ _ a cs=>cs=[enc a]∧ok a
 own:=fun _ a cs L=>cs=[enc a]∧ok a∧L=[]
 rd_len:=fun h=>by rw [h.1];rfl
 rd_below:=fun h _ _=>h
 rd_mono:=fun h _=>h
 own_len:=fun h=>by rw [h.1];rfl
 own_kept:=fun h _=>h
 own_lt:=fun h b hb=>by rw [h.2.2] at hb;cases hb
 own_rd:=fun h _=>⟨h.1,h.2.1⟩
 own_one:=fun {w a cs L} h u hu=>by rw [h.1] at hu;simp at hu;subst hu;exact one a
def layI:Lay Int:=Lay.plain (fun a=>.int .i64 a) (fun a=>-9223372036854775808≤a∧a≤9223372036854775807) (fun _=>rfl)
def layB:Lay Bool:=Lay.plain (fun a=>.bool a) (fun _=>True) (fun _=>rfl)
def layS:Lay ByteArray:=Lay.plain (fun a=>.string a) (fun a=>a.size≤maxLen) (fun _=>rfl)
def Lay.two {α β:Type} (A:Lay α) (B:Lay β):Lay (α×β) where
 sz:=A.sz+B.sz
 rd:=fun w hi p cs=>∃ c d,cs=c++d∧A.rd w hi p.1 c∧B.rd w hi p.2 d
 own:=fun w p cs L=>∃ c d K M,cs=c++d∧L=K++M∧A.own w p.1 c K∧B.own w p.2 d M
 rd_len:=fun h=>by obtain ⟨c,d,rfl,h1,h2⟩:=h;rw [List.length_append,A.rd_len h1,B.rd_len h2]
 rd_below:=fun h hb hB=>by obtain ⟨c,d,rfl,h1,h2⟩:=h;exact ⟨c,d,rfl,A.rd_below h1 hb hB,B.rd_below h2 hb hB⟩
 rd_mono:=fun h hb=>by obtain ⟨c,d,rfl,h1,h2⟩:=h;exact ⟨c,d,rfl,A.rd_mono h1 hb,B.rd_mono h2 hb⟩
 own_len:=fun h=>by obtain ⟨c,d,K,M,rfl,rfl,h1,h2⟩:=h;rw [List.length_append,A.own_len h1,B.own_len h2]
 own_kept:=fun h hk=>by
  obtain ⟨c,d,K,M,rfl,rfl,h1,h2⟩:=h;exact ⟨c,d,K,M,rfl,rfl,A.own_kept h1 (fun b hb=>hk b (List.mem_append_left _ hb)),B.own_kept h2 (fun b hb=>hk b (List.mem_append_right _ hb))⟩
 own_lt:=fun h b hb=>by
  obtain ⟨c,d,K,M,rfl,rfl,h1,h2⟩:=h
  rcases List.mem_append.1 hb with h | h
  ·exact A.own_lt h1 b h
  ·exact B.own_lt h2 b h
 own_rd:=fun h hk=>by
  obtain ⟨c,d,K,M,rfl,rfl,h1,h2⟩:=h;exact ⟨c,d,rfl,A.own_rd h1 (fun b hb=>hk b (List.mem_append_left _ hb)),B.own_rd h2 (fun b hb=>hk b (List.mem_append_right _ hb))⟩
 own_one:=fun h u hu=>by
  obtain ⟨c,d,K,M,rfl,rfl,h1,h2⟩:=h
  rcases List.mem_append.1 hu with h | h
  ·exact A.own_one h1 u h
  ·exact B.own_one h2 u h
def Lay.as {α β:Type} (A:Lay α) (to:β→α):Lay β where
 sz:=A.sz
 rd:=fun w hi b cs=>A.rd w hi (to b) cs
 own:=fun w b cs L=>A.own w (to b) cs L
 rd_len:=A.rd_len
 rd_below:=A.rd_below
 rd_mono:=A.rd_mono
 own_len:=A.own_len
 own_kept:=A.own_kept
 own_lt:=A.own_lt
 own_rd:=A.own_rd
 own_one:=A.own_one
def zad:Lay (Nat×(Nat→Nat)) where
 sz:=1
 rd:=fun w hi p cs=>∃ v,cs=[v]∧Rd w hi v p.1 p.2∧∀ i,p.2 i<256
 own:=fun w p cs L=>∃ v,cs=[v]∧L=v.ownBlock.toList∧Own w 0 w.heap.size v p.1 p.2∧∀ i,p.2 i<256
 rd_len:=fun h=>by obtain ⟨v,rfl,_⟩:=h;rfl
 rd_below:=fun h hb hB=>by obtain ⟨v,rfl,h1,h2⟩:=h;exact ⟨v,rfl,h1.below hb hB,h2⟩
 rd_mono:=fun h hb=>by obtain ⟨v,rfl,h1,h2⟩:=h;exact ⟨v,rfl,h1.mono hb,h2⟩
 own_len:=fun h=>by obtain ⟨v,rfl,_⟩:=h;rfl
 own_kept:=fun h hk=>by
  obtain ⟨v,rfl,rfl,h1,h2⟩:=h;have h3:=h1.1.lt;refine ⟨v,rfl,rfl,?_,h2⟩
  rcases h1.1.2 with hn | ⟨g,cap,cur,rfl,hbg,hgg,rest⟩
  ·exact ⟨⟨h1.1.1,.inl hn⟩,fun k hk'=>by rw [hn.1] at hk';cases hk'⟩
  ·have e:=hk g (by simp [Value.ownBlock])
   rw [hgg] at e
   exact ⟨⟨h1.1.1,.inr ⟨g,cap,cur,rfl,hbg,e,rest⟩⟩,fun k hk'=>by
    simp [Value.ownBlock] at hk'
    subst hk'
    exact (Array.getElem?_eq_some_iff.1 e).1⟩
 own_lt:=fun h b hb=>by
  obtain ⟨v,rfl,rfl,h1,h2⟩:=h;exact (h1.1.lt b (by simpa using hb)).2
 own_rd:=fun h hk=>by
  obtain ⟨v,rfl,rfl,h1,h2⟩:=h;refine ⟨v,rfl,?_,h2⟩;obtain ⟨ao,cap,rfl,hm,hc⟩:=h1.rd;refine ⟨ao,cap,rfl,hm,fun h0=>?_⟩;obtain ⟨b,off,rfl,hb,hcell⟩:=hc h0;exact ⟨b,off,rfl,hk b (by simp [Value.ownBlock]),hcell⟩
 own_one:=fun h u hu=>by
  obtain ⟨v,rfl,rfl,h1,h2⟩:=h;obtain ⟨ao,cap,rfl⟩:=h1.slice
  simp at hu
  subst hu;rfl
def Lay.slice {α:Type} (E:Lay α) (t:TypeId):Lay (Nat×(Nat→α)) where
 sz:=1
 rd:=fun w hi p cs=>∃ ao cap,cs=[.slice ao p.1 cap]∧p.1≤maxLen∧(p.1≠0→∃ b off,ao=some ⟨b,off,none⟩∧b<hi∧∀ i,i<p.1→∃ ce,E.rd w hi (p.2 i) ce∧∀ j,j<E.sz→w.cell? ⟨b,off+(i*E.sz+j),none⟩=ce[j]?)
 own:=fun w p cs L=>∃ (v:Value) (ce:Nat→List Value) (Ls:Nat→List Nat),cs=[v]∧L=v.ownBlock.toList++catN p.1 Ls∧w.ownsRow 0 t E.sz v p.1 (catN p.1 ce)∧∀ i,i<p.1→E.own w (p.2 i) (ce i) (Ls i)
 rd_len:=fun h=>by obtain ⟨ao,cap,rfl,_⟩:=h;rfl
 rd_below:=fun h hb hB=>by
  obtain ⟨ao,cap,rfl,hm,hc⟩:=h;refine ⟨ao,cap,rfl,hm,fun h0=>?_⟩;obtain ⟨b,off,rfl,hbh,hcell⟩:=hc h0;refine ⟨b,off,rfl,hbh,fun i hi=>?_⟩;obtain ⟨ce,h1,h2⟩:=hcell i hi;exact ⟨ce,E.rd_below h1 hb hB,fun j hj=>(hb.cell (p:=⟨b,off+(i*E.sz+j),none⟩) (by show b<_;omega)).trans (h2 j hj)⟩
 rd_mono:=fun h hb=>by
  obtain ⟨ao,cap,rfl,hm,hc⟩:=h;refine ⟨ao,cap,rfl,hm,fun h0=>?_⟩;obtain ⟨b,off,rfl,hbh,hcell⟩:=hc h0;refine ⟨b,off,rfl,by omega,fun i hi=>?_⟩;obtain ⟨ce,h1,h2⟩:=hcell i hi;exact ⟨ce,E.rd_mono h1 hb,h2⟩
 own_len:=fun h=>by obtain ⟨v,ce,Ls,rfl,_⟩:=h;rfl
 own_kept:=fun h hk=>by
  obtain ⟨v,ce,Ls,rfl,rfl,h1,h2⟩:=h;refine ⟨v,ce,Ls,rfl,rfl,⟨h1.1,?_⟩,fun i hi=>E.own_kept (h2 i hi) (fun b hb=>hk b (List.mem_append_right _ (zbw.2 ⟨i,hi,hb⟩)))⟩
  rcases h1.2 with hn | ⟨g,cap,cur,rfl,hbg,hgg,rest⟩
  ·exact .inl hn
  ·exact .inr ⟨g,cap,cur,rfl,hbg,(hk g (by simp [Value.ownBlock])).trans hgg,rest⟩
 own_lt:=fun h b hb=>by
  obtain ⟨v,ce,Ls,rfl,rfl,h1,h2⟩:=h
  rcases List.mem_append.1 hb with h | h
  ·exact (h1.lt b (by simpa using h)).2
  ·obtain ⟨i,hi,hbi⟩:=zbw.1 h
   exact E.own_lt (h2 i hi) b hbi
 own_rd:=fun {w} {hi0} {p} {cs} {L} h hk=>by
  obtain ⟨v,ce,Ls,rfl,rfl,h1,h2⟩:=h
  rcases h1.2 with ⟨rfl,h0⟩ | ⟨g,cap,cur,rfl,hbg,hgg,hnc,hcm,hcs,htake⟩
  ·exact ⟨none,0,by rw [h0],by omega,fun h=>absurd h0 h⟩
  ·refine ⟨_,_,rfl,by omega,fun h0=>⟨g,0,rfl,hk g (by simp [Value.ownBlock]),fun i hi=>?_⟩⟩
   refine ⟨ce i,E.own_rd (h2 i hi) (fun b hb=>hk b (List.mem_append_right _ (zbw.2 ⟨i,hi,hb⟩))),fun j hj=>?_⟩
   have hlt:i*E.sz+j<p.1*E.sz:=by
    have:=Nat.mul_le_mul_right E.sz (show i+1≤p.1 from hi);rw [Nat.succ_mul] at this;omega
   rw [Nat.zero_add,h1.cellAt _ hlt,zcp (fun i hi=>E.own_len (h2 i hi)) hi hj]
 own_one:=fun h u hu=>by
  obtain ⟨v,ce,Ls,rfl,rfl,h1,h2⟩:=h
  simp at hu
  subst hu
  rcases h1.2 with ⟨rfl,_⟩ | ⟨g,cap,cur,rfl,_⟩
  ·rfl
  ·rfl
def OwnT {α:Type} (A:Lay α) (w:World) (lo hi:Nat) (a:α) (cs:List Value):Prop:=∃ L,A.own w a cs L∧L.Nodup∧∀ b,b∈L→lo≤b∧b<hi
theorem OwnT.rd {α:Type} {A:Lay α} {w:World} {lo hi:Nat} {a:α} {cs:List Value} (h:OwnT A w lo hi a cs):A.rd w hi a cs:=by
 obtain ⟨L,h1,_,h3⟩:=h;exact A.own_rd h1 (fun b hb=>(h3 b hb).2)
theorem OwnT.chg {α:Type} {A:Lay α} {w w':World} {lo hi lo' hi':Nat} {a:α} {cs:List Value} (h:OwnT A w lo hi a cs) (hc:Chg lo' hi' w w') (hB:hi≤lo'∨hi'≤lo):OwnT A w' lo hi a cs:=by
 obtain ⟨L,h1,h2,h3⟩:=h;exact ⟨L,A.own_kept h1 (fun b hb'=>hc.block b (A.own_lt h1 b hb') (by have:=h3 b hb';omega)),h2,h3⟩
theorem OwnT.weaken {α:Type} {A:Lay α} {w:World} {lo hi lo' hi':Nat} {a:α} {cs:List Value} (h:OwnT A w lo hi a cs) (h1:lo'≤lo) (h2:hi≤hi'):OwnT A w lo' hi' a cs:=by
 obtain ⟨L,k1,k2,k3⟩:=h;exact ⟨L,k1,k2,fun b hb=>by have:=k3 b hb;omega⟩
def CapP (v:Value) (n:Nat):Prop:=∃ ao cap,v=.slice ao n cap∧n≤cap
def zau:Lay (Nat×(Nat→Int)) where
 sz:=1
 rd:=fun w hi p cs=>∃ v,cs=[v]∧(RdI w hi v p.1 p.2∧CapP v p.1)∧∀ i,-9223372036854775808≤p.2 i∧p.2 i≤9223372036854775807
 own:=fun w p cs L=>∃ v,cs=[v]∧L=v.ownBlock.toList∧OwnI w 0 w.heap.size v p.1 p.2∧∀ i,-9223372036854775808≤p.2 i∧p.2 i≤9223372036854775807
 rd_len:=fun h=>by obtain ⟨v,rfl,_⟩:=h;rfl
 rd_below:=fun h hb hB=>by obtain ⟨v,rfl,⟨h1,hcp⟩,h2⟩:=h;exact ⟨v,rfl,⟨h1.below hb hB,hcp⟩,h2⟩
 rd_mono:=fun h hb=>by
  obtain ⟨v,rfl,⟨⟨ao,cap,rfl,hm,hc⟩,hcp⟩,h2⟩:=h;refine ⟨_,rfl,⟨⟨ao,cap,rfl,hm,fun h0=>?_⟩,hcp⟩,h2⟩;obtain ⟨b,off,rfl,hbh,hcell⟩:=hc h0;exact ⟨b,off,rfl,by omega,hcell⟩
 own_len:=fun h=>by obtain ⟨v,rfl,_⟩:=h;rfl
 own_kept:=fun h hk=>by
  obtain ⟨v,rfl,rfl,h1,h2⟩:=h;refine ⟨v,rfl,rfl,?_,h2⟩
  rcases h1.1.2 with hn | ⟨g,cap,cur,rfl,hbg,hgg,rest⟩
  ·exact ⟨⟨h1.1.1,.inl hn⟩,fun k hk'=>by rw [hn.1] at hk';cases hk'⟩
  ·have e:=hk g (by simp [Value.ownBlock])
   rw [hgg] at e
   exact ⟨⟨h1.1.1,.inr ⟨g,cap,cur,rfl,hbg,e,rest⟩⟩,fun k hk'=>by
    simp [Value.ownBlock] at hk'
    subst hk'
    exact (Array.getElem?_eq_some_iff.1 e).1⟩
 own_lt:=fun h b hb=>by
  obtain ⟨v,rfl,rfl,h1,h2⟩:=h;exact (h1.1.lt b (by simpa using hb)).2
 own_rd:=fun {w hi p cs L} h hk=>by
  obtain ⟨v,rfl,rfl,h1,h2⟩:=h
  have hcp:CapP v p.1:=by
   rcases h1.1.2 with ⟨e,h0⟩ | ⟨g,cap,cur,e,hbg,hgg,hnc,_⟩
   ·exact ⟨none,0,by rw [e,h0],by omega⟩
   ·exact ⟨_,cap,e,hnc⟩
  refine ⟨v,rfl,⟨?_,hcp⟩,h2⟩;obtain ⟨ao,cap,rfl,hm,hc⟩:=h1.rd;refine ⟨ao,cap,rfl,hm,fun h0=>?_⟩;obtain ⟨b,off,rfl,hb,hcell⟩:=hc h0;exact ⟨b,off,rfl,hk b (by simp [Value.ownBlock]),hcell⟩
 own_one:=fun h u hu=>by
  obtain ⟨v,rfl,rfl,h1,h2⟩:=h;obtain ⟨ao,cap,rfl⟩:=h1.slice
  simp at hu
  subst hu;rfl
structure ChgL (K:List Nat) (w w':World):Prop where
 os:w'.os=w.os
 tape:w'.tape=w.tape
 output:w'.output=w.output
 size:w.heap.size≤w'.heap.size
 block:∀ b,b<w.heap.size→b∉K→w'.heap[b]?=w.heap[b]?
theorem ChgL.refl (K:List Nat) (w:World):ChgL K w w:=⟨rfl,rfl,rfl,Nat.le_refl _,fun _ _ _=>rfl⟩
theorem ChgL.trans {K:List Nat} {a b c:World} (h:ChgL K a b) (k:ChgL K b c):ChgL K a c:=
 ⟨k.os.trans h.os,k.tape.trans h.tape,k.output.trans h.output,Nat.le_trans h.size k.size,fun i hi hn=>(k.block i (Nat.lt_of_lt_of_le hi h.size) hn).trans (h.block i hi hn)⟩
theorem ChgL.mono {K K':List Nat} {w w':World} (h:ChgL K w w') (hs:∀ b,b∈K→b∈K'):ChgL K' w w':=
 ⟨h.os,h.tape,h.output,h.size,fun b hb hn=>h.block b hb (fun x=>hn (hs b x))⟩
theorem ChgL.store (K:List Nat) (w:World) (b j:Nat) (u:Value) (hb:b∈K):ChgL K w (w.setCell ⟨b,j,none⟩ u):=
 ⟨rfl,rfl,rfl,by simp,fun k hk hn=>heap_setCell_other w ⟨b,j,none⟩ k u (by show k≠b;intro h;subst h;exact hn hb)⟩
theorem ChgL.of_below {K:List Nat} {w w':World} (h:Below w.heap.size w w'):ChgL K w w':=⟨h.os,h.tape,h.output,h.size,fun b hb _=>h.block b hb⟩
theorem ChgL.of_out {K:List Nat} {g:Nat} {w w':World} (h:Out g (g+1) w w') (hg:g∈K):ChgL K w w':=
 ⟨h.os,h.tape,h.output,Nat.le_of_eq h.size.symm,fun b _ hn=>h.block b (by
  by_cases c:b=g
  ·subst c;exact absurd hg hn
  ·omega)⟩
theorem ChgL.chg {K:List Nat} {lo hi:Nat} {w w':World} (h:ChgL K w w') (hK:∀ b,b∈K→lo≤b∧b<hi):Chg lo hi w w':=
 ⟨h.os,h.tape,h.output,h.size,fun b hb hn=>h.block b hb (fun x=>by have:=hK b x;omega)⟩
theorem Lay.own_chgL {α:Type} (A:Lay α) {w w':World} {a:α} {cs:List Value} {K L:List Nat} (h:A.own w a cs L) (hc:ChgL K w w') (hd:∀ b,b∈L→b∉K):A.own w' a cs L:=
 A.own_kept h (fun b hb=>hc.block b (A.own_lt h b hb) (hd b hb))
def upd {β:Type} (f:Nat→β) (i:Nat) (a:β):Nat→β:=fun k=>if k=i then a else f k
theorem zbf {β:Type} (f:Nat→β) (i:Nat) (a:β):upd f i a i=a:=by simp [upd]
theorem zbx {β:Type} (f:Nat→β) {i k:Nat} (a:β) (h:k≠i):upd f i a k=f k:=by simp [upd,h]
structure SlO {α:Type} (E:Lay α) (t:TypeId) (w:World) (g cap n:Nat) (x:Nat→α) (ce:Nat→List Value) (Ls:Nat→List Nat):Prop where
 row:w.ownsRow 0 t E.sz (.slice (some ⟨g,0,none⟩) n cap) n (catN n ce)
 each:∀ i,i<n→E.own w (x i) (ce i) (Ls i)
section
variable {α:Type} {E:Lay α} {t:TypeId} {w w':World} {g cap n:Nat} {x:Nat→α} {ce:Nat→List Value} {Ls:Nat→List Nat}
theorem zcM {p:Nat×(Nat→α)} {cs:List Value} {L:List Nat} (h:(E.slice t).own w p cs L) (h0:p.1≠0):∃ g cap ce Ls,cs=[.slice (some ⟨g,0,none⟩) p.1 cap]∧L=g::catN p.1 Ls∧SlO E t w g cap p.1 p.2 ce Ls:=by
 obtain ⟨v,ce,Ls,rfl,rfl,h1,h2⟩:=h;have h1':=h1
 rcases h1.2 with ⟨rfl,h⟩ | ⟨g,cap,cur,rfl,_⟩
 ·exact absurd h h0
 ·exact ⟨g,cap,ce,Ls,rfl,by simp [Value.ownBlock],h1',h2⟩
theorem SlO.own (h:SlO E t w g cap n x ce Ls):(E.slice t).own w (n,x) [.slice (some ⟨g,0,none⟩) n cap] (g::catN n Ls):=
 ⟨_,ce,Ls,rfl,by simp [Value.ownBlock],h.row,h.each⟩
theorem SlO.lens (h:SlO E t w g cap n x ce Ls):∀ i,i<n→(ce i).length=E.sz:=fun i hi=>E.own_len (h.each i hi)
theorem zmj {i n s j:Nat} (hi:i<n) (hj:j<s):i*s+j<n*s:=by
 have:=Nat.mul_le_mul_right s (show i+1≤n from hi);rw [Nat.succ_mul] at this;omega
theorem SlO.cell (h:SlO E t w g cap n x ce Ls) {i j:Nat} (hi:i<n) (hj:j<E.sz):w.cell? ⟨g,i*E.sz+j,none⟩=(ce i)[j]?:=by
 rw [h.row.cellAt _ (zmj hi hj),zcp h.lens hi hj]
theorem SlO.frozen (h:SlO E t w g cap n x ce Ls) (j:Nat):w.frozen? ⟨g,j,none⟩=false:=h.row.frozenAt j
theorem SlO.lt (h:SlO E t w g cap n x ce Ls):g<w.heap.size:=(h.row.lt g rfl).2
theorem SlO.store (h:SlO E t w g cap n x ce Ls) (nd:(g::catN n Ls).Nodup) {i j:Nat} (hi:i<n) (hj:j<E.sz) (u:Value) {a':α} (ha:E.own w a' ((ce i).set j u) (Ls i)) :
 SlO E t (w.setCell ⟨g,i*E.sz+j,none⟩ u) g cap n (upd x i a') (upd ce i ((ce i).set j u)) Ls:=by
 have hg:∀ k,k<n→∀ b,b∈Ls k→b≠g:=fun k hk b hb hh=>by
  subst hh;exact (List.nodup_cons.1 nd).1 (zbw.2 ⟨k,hk,hb⟩)
 refine ⟨?_,fun k hk=>?_⟩
 ·have:=(h.row.stored (i*E.sz+j) u).1
  rw [zkx h.lens hi hj] at this;exact this
 ·by_cases c:k=i
  ·subst c
   rw [zbf,zbf];exact E.own_kept ha (fun b hb=>heap_setCell_other w _ b u (hg k hk b hb))
  ·rw [zbx x a' c,zbx ce _ c]
   exact E.own_kept (h.each k hk) (fun b hb=>heap_setCell_other w _ b u (hg k hk b hb))
theorem zmk {n:Nat} {Ls:Nat→List Nat} (nd:(catN n Ls).Nodup) {i k:Nat} (hi:i<n) (hk:k<n) (hne:k≠i) {b:Nat} (hb:b∈Ls k):b∉Ls i:=by
 induction n with
 | zero=>omega
 | succ n ih=>
  rw [zbq] at nd;obtain ⟨n1,n2,n3⟩:=List.nodup_append.1 nd
  by_cases ci:i=n
  ·subst ci
   intro hbi;exact n3 b (zbw.2 ⟨k,by omega,hb⟩) b hbi rfl
  ·by_cases ck:k=n
   ·subst ck
    intro hbi;exact n3 b (zbw.2 ⟨i,by omega,hbi⟩) b hb rfl
   ·exact ih n1 (by omega) (by omega)
theorem SlO.into (h:SlO E t w g cap n x ce Ls) (nd:(g::catN n Ls).Nodup) {i:Nat} (hi:i<n) (hc:ChgL (Ls i) w w') {a':α} (ha:E.own w' a' (ce i) (Ls i)) :
 SlO E t w' g cap n (upd x i a') ce Ls:=by
 refine ⟨?_,fun k hk=>?_⟩
 ·refine ⟨h.row.1,?_⟩
  rcases h.row.2 with ⟨hn,_⟩ | ⟨g',cap',cur,he,hbg,hgg,rest⟩
  ·cases hn
  ·cases he
   refine .inr ⟨g,cap,cur,rfl,hbg,(hc.block g h.lt (fun hb=>(List.nodup_cons.1 nd).1 (zbw.2 ⟨i,hi,hb⟩))).trans hgg,rest⟩
 ·by_cases c:k=i
  ·subst c
   rw [zbf];exact ha
  ·rw [zbx x a' c]
   exact E.own_chgL (h.each k hk) hc (fun b hb=>zmk (List.nodup_cons.1 nd).2 hi hk c hb)
theorem SlO.kept (h:SlO E t w g cap n x ce Ls) (hk:∀ b,b∈g::catN n Ls→w'.heap[b]?=w.heap[b]?):SlO E t w' g cap n x ce Ls:=by
 refine ⟨⟨h.row.1,?_⟩,fun i hi=>E.own_kept (h.each i hi) (fun b hb=>hk b (List.mem_cons_of_mem _ (zbw.2 ⟨i,hi,hb⟩)))⟩
 rcases h.row.2 with ⟨hn,_⟩ | ⟨g',cap',cur,he,hbg,hgg,rest⟩
 ·cases hn
 ·cases he
  exact .inr ⟨g,cap,cur,rfl,hbg,(hk g (List.mem_cons_self ..)).trans hgg,rest⟩
end
end Go.Proofs.YtclclojenogpbaaGreat
namespace Go.Proofs.YtclclojenogpbaaGreat
open Go.ChangeShapes Go.WideShapes Go.ChangeAt Go.RowKit Go.Deep
structure Opens {α:Type} (A:Lay α) (t:TypeId):Prop where
 size:Tryz.prog.cellsOf t=A.sz
 inh:∃ a:α,True
 opens:∀ {H:Type} {enc:TypeId×Value→H} {W:World} {fuel:Nat} {cs:List Value} {x:DataW H×List MemPlace},DataW.trod enc Tryz.prog W 0 (fun _=>true) true fuel t cs=some x→∃ a,A.rd W W.heap.size a cs
theorem zcs {t:TypeId} (hu:Tryz.prog.underlying t=some (.int .i64)) (hc:Tryz.prog.cellsOf t=1):Opens layI t:=
 ⟨hc,⟨0,trivial⟩,fun h=>by
  obtain ⟨n,rfl,_,hw⟩:=DataW.trod_int hu h
  exact ⟨n,rfl,bounds_i64 hw⟩⟩
theorem zml {t:TypeId} (hu:Tryz.prog.underlying t=some .bool) (hc:Tryz.prog.cellsOf t=1):Opens layB t:=
 ⟨hc,⟨false,trivial⟩,fun h=>by
  obtain ⟨b,rfl,_⟩:=DataW.trod_bool hu h
  exact ⟨b,rfl,trivial⟩⟩
theorem zo3 {t:TypeId} (hu:Tryz.prog.underlying t=some .string) (hc:Tryz.prog.cellsOf t=1):Opens layS t:=
 ⟨hc,⟨ByteArray.empty,trivial⟩,fun h=>by
  obtain ⟨s,rfl,_,hm⟩:=DataW.trod_string hu h
  exact ⟨s,rfl,hm⟩⟩
theorem zcT {α:Type} {E:Lay α} {t e u:TypeId} (hs:0<E.sz) (hu:Tryz.prog.underlying t=some (.slice e)) (hc:Tryz.prog.cellsOf t=1) (hE:Opens E e):Opens (E.slice u) t:=by
 obtain ⟨a0,_⟩:=hE.inh;refine ⟨hc,⟨(0,fun _=>a0),trivial⟩,fun {H enc W fuel cs x} h=>?_⟩
 rcases open_slice hu h with ⟨rfl,_⟩ | ⟨a,len,cap,m,n,D,Pl,rfl,_,hl,hm,hmm,_,hel⟩
 ·exact ⟨(0,fun _=>a0),none,0,rfl,Nat.zero_le _,fun h0=>absurd rfl h0⟩
 ·have hlm:len≤m:=by rw [hmm];simp;exact hl
  have each:∀ i,∃ y:α,i<len→∃ ce,E.rd W W.heap.size y ce∧W.cells? 0 (a.add (i*E.sz)) E.sz=some ce:=fun i=>by
   by_cases hi:i<len
   ·obtain ⟨ce,h1,h2⟩:=hel i (by omega)
    obtain ⟨y,hy⟩:=hE.opens h2;rw [hE.size] at h1;exact ⟨y,fun _=>⟨ce,hy,h1⟩⟩
   ·exact ⟨a0,fun h=>absurd h hi⟩
  refine ⟨(len,fun i=>(each i).choose),some a,cap,rfl,by show len≤maxLen;omega,fun h0=>?_⟩;have h0':0<len:=Nat.pos_of_ne_zero h0;obtain ⟨ce0,_,hc0⟩:=(each 0).choose_spec h0';obtain ⟨_,hl0,hcell0⟩:=World.cells?_some hc0;have h00:=hcell0 0 hs;rw [List.getElem?_eq_getElem (by omega)] at h00;have hspot:=World.cell?_spot h00;have hblk:=World.block_lt_of_cell? W _ h00;obtain ⟨b,off,spot⟩:=a
  have hspot':spot=none:=by simpa [Addr.add] using hspot
  subst hspot';refine ⟨b,off,rfl,by simpa [Addr.add] using hblk,fun i hi=>?_⟩;obtain ⟨ce,h1,h2⟩:=(each i).choose_spec hi;obtain ⟨_,_,hcell⟩:=World.cells?_some h2;refine ⟨ce,h1,fun j hj=>?_⟩;have:=hcell j hj;rw [zfK,zfK,Nat.add_assoc] at this;exact this
theorem ze6 {t e:TypeId} (hu:Tryz.prog.underlying t=some (.slice e)) (he:Tryz.prog.underlying e=some (.int .u8)) (hc:Tryz.prog.cellsOf t=1) (hc1:Tryz.prog.cellsOf e=1):Opens zad t:=
 ⟨hc,⟨(0,fun _=>0),trivial⟩,fun {H enc W fuel cs x} h=>by
  have hsl:∃ a len cap,cs=[.slice a len cap]:=by
   rcases open_slice hu h with ⟨rfl,_⟩ | ⟨a,len,cap,_,_,_,_,rfl,_⟩
   ·exact ⟨_,_,_,rfl⟩
   ·exact ⟨_,_,_,rfl⟩
  obtain ⟨a,len,cap,rfl⟩:=hsl;obtain ⟨d,ps⟩:=x;obtain ⟨zs,hz⟩:=zi4 (t:=t) (a:=a) (len:=len) (cap:=cap) hu he hc1 ⟨fuel,h⟩;obtain ⟨f,kf,hr⟩:=hz.rd
  exact ⟨(len,f),_,rfl,hr,kf⟩⟩
theorem zh0 {t e:TypeId} (hu:Tryz.prog.underlying t=some (.slice e)) (he:Tryz.prog.underlying e=some (.int .i64)) (hc:Tryz.prog.cellsOf t=1) (hc1:Tryz.prog.cellsOf e=1):Opens zau t:=
 ⟨hc,⟨(0,fun _=>0),trivial⟩,fun {H enc W fuel cs x} h=>by
  have hsl:∃ a len cap,cs=[.slice a len cap]∧len≤cap:=by
   rcases open_slice hu h with ⟨rfl,_⟩ | ⟨a,len,cap,_,_,_,_,rfl,_,hl,_⟩
   ·exact ⟨_,_,_,rfl,Nat.le_refl _⟩
   ·exact ⟨_,_,_,rfl,hl⟩
  obtain ⟨a,len,cap,rfl,hl⟩:=hsl;obtain ⟨d,ps⟩:=x;obtain ⟨zs,hz⟩:=zhZ (t:=t) (a:=a) (len:=len) (cap:=cap) hu he hc1 ⟨fuel,h⟩;obtain ⟨f,kf,hr⟩:=hz.rd
  exact ⟨(len,f),_,rfl,⟨hr,_,_,rfl,hl⟩,kf⟩⟩
theorem zeG {α β:Type} {A:Lay α} {t:TypeId} {to:β→α} (back:α→β) (hb:∀ a,to (back a)=a) (h:Opens A t):Opens (A.as to) t:=
 ⟨h.size,by obtain ⟨a,_⟩:=h.inh;exact ⟨back a,trivial⟩,fun h1=>by
  obtain ⟨a,ha⟩:=h.opens h1
  exact ⟨back a,by show A.rd _ _ (to (back a)) _;rw [hb];exact ha⟩⟩
structure OpensFrom {α:Type} (A:Lay α) (fs:Array Field) (i o tot:Nat):Prop where
 fits:o+A.sz=tot
 inh:∃ a:α,True
 opens:∀ {H:Type} {enc:TypeId×Value→H} {W:World} {n:Nat} {cs:List Value} {xs:List (DataW H×List MemPlace)},cs.length=tot→xs.length=fs.size→
  (∀ (k:Nat) (f:Field),fs[k]?=some f→DataW.trod enc Tryz.prog W 0 (fun _=>true) true n f.type ((cs.drop f.offset).take (Tryz.prog.cellsOf f.type))=xs[k]?)→∃ a,A.rd W W.heap.size a (cs.drop o)
theorem zcN {α:Type} {A:Lay α} {fs:Array Field} {i o tot:Nat} {t:TypeId} (hf:∃ f,fs[i]?=some f∧f.type=t∧f.offset=o) (h:Opens A t) (ht:o+A.sz=tot):OpensFrom A fs i o tot:=
 ⟨ht,h.inh,fun {H enc W n cs xs} hl hx hget=>by
  obtain ⟨f,h1,h2,h3⟩:=hf;have hg:=hget i f h1
  have hi:i<xs.length:=by rw [hx];exact (Array.getElem?_eq_some_iff.1 h1).1
  rw [List.getElem?_eq_getElem hi,h2,h3,h.size] at hg;obtain ⟨a,ha⟩:=h.opens hg;rw [List.take_of_length_le (by rw [List.length_drop];omega)] at ha
  exact ⟨a,ha⟩⟩
theorem zaA {α β:Type} {A:Lay α} {B:Lay β} {fs:Array Field} {i o tot:Nat} {t:TypeId} (hf:∃ f,fs[i]?=some f∧f.type=t∧f.offset=o) (h:Opens A t) (hB:OpensFrom B fs (i+1) (o+A.sz) tot):OpensFrom (A.two B) fs i o tot:=
 ⟨by show o+(A.sz+B.sz)=tot;have:=hB.fits;omega,by obtain ⟨a,_⟩:=h.inh;obtain ⟨b,_⟩:=hB.inh;exact ⟨(a,b),trivial⟩,fun {H enc W n cs xs} hl hx hget=>by
  obtain ⟨f,h1,h2,h3⟩:=hf;have hg:=hget i f h1
  have hi:i<xs.length:=by rw [hx];exact (Array.getElem?_eq_some_iff.1 h1).1
  rw [List.getElem?_eq_getElem hi,h2,h3,h.size] at hg;obtain ⟨a,ha⟩:=h.opens hg;obtain ⟨b,hb⟩:=hB.opens hl hx hget;refine ⟨(a,b),_,_,?_,ha,hb⟩
  rw [← List.drop_drop,List.take_append_drop]⟩
theorem zbU {α:Type} {A:Lay α} {t:TypeId} {fs:Array Field} (hu:Tryz.prog.underlying t=some (.struct fs)) (hc:Tryz.prog.cellsOf t=A.sz) (h:OpensFrom A fs 0 0 A.sz):Opens A t:=
 ⟨hc,h.inh,fun {H enc W fuel cs x} h1=>by
  obtain ⟨xs,n,_,_,hl,hlen,hget⟩:=DataW.trod_struct hu h1;obtain ⟨a,ha⟩:=h.opens (by rw [hl,hc]) hlen hget
  exact ⟨a,by simpa using ha⟩⟩
end Go.Proofs.YtclclojenogpbaaGreat
namespace Go.Proofs.YtclclojenogpbaaGreat
open Go.RowKit
def stN (w:World) (g:Nat):Nat→List Value→World
 | _,[]=>w
 | off,c::cs=>stN (w.setCell ⟨g,off,none⟩ c) g (off+1) cs
def setL {β:Type} (xs:List β):Nat→List β→List β
 | _,[]=>xs
 | off,c::cs=>setL (xs.set off c) (off+1) cs
theorem zd5 (g b:Nat) (hb:b≠g):∀ (cs:List Value) (w:World) (off:Nat),(stN w g off cs).heap[b]?=w.heap[b]?
 | [],w,off=>rfl
 | c::cs,w,off=>(zd5 g b hb cs _ _).trans (heap_setCell_other w ⟨g,off,none⟩ b c hb)
theorem zeH (g:Nat):∀ (cs:List Value) (w:World) (off:Nat),(stN w g off cs).heap.size=w.heap.size
 | [],w,off=>rfl
 | c::cs,w,off=>(zeH g cs _ _).trans (by simp)
theorem zfL (g:Nat):∀ (cs:List Value) (w:World) (off:Nat),(stN w g off cs).os=w.os∧(stN w g off cs).tape=w.tape∧(stN w g off cs).output=w.output
 | [],w,off=>⟨rfl,rfl,rfl⟩
 | c::cs,w,off=>zfL g cs _ _
theorem zbP {B g:Nat} {w:World} (h:B≤g) (cs:List Value) (off:Nat):Below B w (stN w g off cs):=
 ⟨(zfL g cs w off).1,(zfL g cs w off).2.1,(zfL g cs w off).2.2,Nat.le_of_eq (zeH g cs w off).symm,fun k hk=>zd5 g k (by omega) cs w off⟩
theorem zmm {base cap n s g:Nat} {t:TypeId}:∀ (cs:List Value) (w:World) (off:Nat) (xs:List Value),w.ownsRow base t s (.slice (some ⟨g,0,none⟩) n cap) n xs→(stN w g off cs).ownsRow base t s (.slice (some ⟨g,0,none⟩) n cap) n (setL xs off cs)
 | [],w,off,xs,h=>h
 | c::cs,w,off,xs,h=>zmm cs _ _ _ (h.stored off c).1
theorem zky {β:Type}:∀ (cs:List β) (xs:List β) (off i:Nat),off+cs.length≤xs.length→(setL xs off cs)[i]?=if off≤i∧i<off+cs.length then cs[i-off]? else xs[i]?
 | [],xs,off,i,h=>by simp [setL];omega
 | c::cs,xs,off,i,h=>by
  simp only [List.length_cons] at h
  rw [setL,zky cs (xs.set off c) (off+1) i (by simp;omega),List.length_cons]
  by_cases c1:off+1≤i∧i<off+1+cs.length
  ·rw [if_pos c1,if_pos (by omega),show i-off=(i-(off+1))+1 by omega,List.getElem?_cons_succ]
  ·rw [if_neg c1]
   by_cases c2:i=off
   ·subst c2
    rw [if_pos (by omega),List.getElem?_set_self (by omega),Nat.sub_self];rfl
   ·rw [if_neg (by omega),List.getElem?_set_ne (fun h=>c2 h.symm)]
theorem zmn {n s:Nat} {ce:Nat→List Value} (h:∀ i,i<n→(ce i).length=s) {k:Nat} (hk:k<n) {cs:List Value} (hcs:cs.length=s):setL (catN n ce) (k*s) cs=catN n (upd ce k cs):=by
 have hl:=zcI h
 have hu:∀ i,i<n→(upd ce k cs i).length=s:=fun i hi=>by
  by_cases c:i=k
  ·subst c;rw [zbf];exact hcs
  ·rw [zbx ce cs c];exact h i hi
 have hl2:=zcI hu
 have hks:k*s+s≤n*s:=by
  have:=Nat.mul_le_mul_right s (show k+1≤n from hk);rw [Nat.succ_mul] at this;exact this
 apply List.ext_getElem?
 intro i;rw [zky cs _ _ i (by omega)]
 by_cases hi:i<n*s
 ·have hs:0<s:=by
   rcases Nat.eq_zero_or_pos s with h0 | h0
   ·rw [h0] at hi;omega
   ·exact h0
  have e:i/s*s+i%s=i:=by rw [Nat.mul_comm];exact Nat.div_add_mod i s
  have hq:i/s<n:=(Nat.div_lt_iff_lt_mul hs).2 hi;have hr:=Nat.mod_lt i hs;have g1:=zcp h hq hr;have g2:=zcp hu hq hr;rw [e] at g1 g2;rw [g1,g2]
  by_cases c:i/s=k
  ·have h1:k*s≤i:=by rw [← c];omega
   have h2:i<k*s+s:=by rw [← c];omega
   rw [if_pos ⟨h1,by omega⟩,c,zbf]
   congr 1
   rw [← c];omega
  ·rw [zbx ce cs c,if_neg]
   rintro ⟨h1,h2⟩
   apply c
   have h3:k≤i/s:=(Nat.le_div_iff_mul_le hs).2 h1;have h4:i/s<k+1:=(Nat.div_lt_iff_lt_mul hs).2 (by rw [Nat.succ_mul];omega);omega
 ·rw [if_neg (by omega),List.getElem?_eq_none (by omega),List.getElem?_eq_none (by omega)]
structure SlP {α:Type} (E:Lay α) (t:TypeId) (w:World) (lo g cap n k:Nat) (x:Nat→α) (ce:Nat→List Value) (Ls:Nat→List Nat):Prop where
 row:w.ownsRow lo t E.sz (.slice (some ⟨g,0,none⟩) n cap) n (catN n ce)
 lens:∀ i,i<n→(ce i).length=E.sz
 each:∀ i,i<k→E.own w (x i) (ce i) (Ls i)
 nd:(g::catN k Ls).Nodup
 low:∀ b,b∈catN k Ls→lo≤b
section
variable {α:Type} {E:Lay α} {t:TypeId} {w w':World} {lo g cap n k:Nat} {x:Nat→α} {ce:Nat→List Value} {Ls:Nat→List Nat}
theorem SlP.cell (h:SlP E t w lo g cap n k x ce Ls) {i j:Nat} (hi:i<n) (hj:j<E.sz):w.cell? ⟨g,i*E.sz+j,none⟩=(ce i)[j]?:=by
 rw [h.row.cellAt _ (zmj hi hj),zcp h.lens hi hj]
theorem SlP.frozen (h:SlP E t w lo g cap n k x ce Ls) (j:Nat):w.frozen? ⟨g,j,none⟩=false:=h.row.frozenAt j
theorem SlP.lt (h:SlP E t w lo g cap n k x ce Ls):g<w.heap.size:=(h.row.lt g rfl).2
theorem SlP.mem_lt (h:SlP E t w lo g cap n k x ce Ls):∀ b,b∈catN k Ls→b<w.heap.size:=fun b hb=>by
 obtain ⟨i,hi,hbi⟩:=zbw.1 hb;exact E.own_lt (h.each i hi) b hbi
theorem SlP.below (h:SlP E t w lo g cap n k x ce Ls) (hb:Below w.heap.size w w'):SlP E t w' lo g cap n k x ce Ls:=by
 refine ⟨⟨h.row.1,?_⟩,h.lens,fun i hi=>E.own_kept (h.each i hi) (fun b hb'=>hb.block b (E.own_lt (h.each i hi) b hb')),h.nd,h.low⟩
 rcases h.row.2 with ⟨hn,_⟩ | ⟨g',cap',cur,he,hbg,hgg,rest⟩
 ·cases hn
 ·cases he
  exact .inr ⟨g,cap,cur,rfl,hbg,(hb.block g h.lt).trans hgg,rest⟩
theorem SlP.lay {w1:World} (h1:SlP E t w1 lo g cap n k x ce Ls) (hb:Below w1.heap.size w1 w) (hk:k<n) {a:α} {cs:List Value} {K:List Nat} (ha:E.own w a cs K) (hnd:K.Nodup) (hK:∀ b,b∈K→w1.heap.size≤b) (hlo:lo≤w1.heap.size) :
 SlP E t (stN w g (k*E.sz) cs) lo g cap n (k+1) (upd x k a) (upd ce k cs) (upd Ls k K):=by
 have h:=h1.below hb;have hcs:=E.own_len ha
 have eL:catN (k+1) (upd Ls k K)=catN k Ls++K:=by
  rw [zbq,zbf,zd4 (g:=Ls) (fun i hi=>zbx Ls K (by omega))]
 have hg1:=h1.lt
 have hgne:∀ b,b∈catN (k+1) (upd Ls k K)→b≠g:=fun b hb' hh=>by
  subst hh;rw [eL] at hb'
  rcases List.mem_append.1 hb' with h3 | h3
  ·exact (List.nodup_cons.1 h.nd).1 h3
  ·have:=hK b h3;omega
 have own':∀ i,i<k+1→E.own w (upd x k a i) (upd ce k cs i) (upd Ls k K i):=fun i hi=>by
  by_cases c:i=k
  ·subst c;rw [zbf,zbf,zbf];exact ha
  ·rw [zbx x a c,zbx ce cs c,zbx Ls K c];exact h.each i (by omega)
 refine ⟨?_,fun i hi=>?_,fun i hi=>?_,?_,?_⟩
 ·have:=zmm cs w (k*E.sz) _ h.row
  rw [zmn h.lens hk hcs] at this;exact this
 ·by_cases c:i=k
  ·subst c;rw [zbf];exact hcs
  ·rw [zbx ce cs c];exact h.lens i hi
 ·exact E.own_kept (own' i hi) (fun b hb'=>zd5 g b (hgne b (zbw.2 ⟨i,hi,hb'⟩)) cs w _)
 ·rw [eL]
  refine List.nodup_cons.2 ⟨fun hb'=>hgne g (by rw [eL];exact hb') rfl,List.nodup_append.2 ⟨(List.nodup_cons.1 h.nd).2,hnd,fun b hb1 c hc1 hh=>?_⟩⟩;subst hh;have k1:=h1.mem_lt b hb1;have k2:=hK b hc1;omega
 ·rw [eL]
  intro b hb'
  rcases List.mem_append.1 hb' with h3 | h3
  ·exact h.low b h3
  ·have:=hK b h3;omega
theorem SlP.done (h:SlP E t w lo g cap n n x ce Ls) (hg:lo≤g):OwnT (E.slice t) w lo w.heap.size (n,x) [.slice (some ⟨g,0,none⟩) n cap]:=by
 refine ⟨g::catN n Ls,⟨_,ce,Ls,rfl,by simp [Value.ownBlock],⟨h.row.1,?_⟩,h.each⟩,h.nd,fun b hb=>?_⟩
 ·rcases h.row.2 with ⟨hn,_⟩ | ⟨g',cap',cur,he,hbg,rest⟩
  ·cases hn
  ·exact .inr ⟨g',cap',cur,he,Nat.zero_le _,rest⟩
 ·rcases List.mem_cons.1 hb with rfl | hb
  ·exact ⟨hg,h.lt⟩
  ·exact ⟨h.low b hb,h.mem_lt b hb⟩
end
def zhe (n:Nat):Lay (Nat→Int) where
 sz:=n
 rd:=fun _ _ s cs=>cs=(List.range n).map (fun i=>Value.int .i64 (s i))∧∀ i,-9223372036854775808≤s i∧s i≤9223372036854775807
 own:=fun _ s cs L=>cs=(List.range n).map (fun i=>Value.int .i64 (s i))∧(∀ i,-9223372036854775808≤s i∧s i≤9223372036854775807)∧L=[]
 rd_len:=fun h=>by rw [h.1];simp
 rd_below:=fun h _ _=>h
 rd_mono:=fun h _=>h
 own_len:=fun h=>by rw [h.1];simp
 own_kept:=fun h _=>h
 own_lt:=fun h b hb=>by rw [h.2.2] at hb;cases hb
 own_rd:=fun h _=>⟨h.1,h.2.1⟩
 own_one:=fun h u hu=>by
  rw [h.1] at hu;obtain ⟨i,_,rfl⟩:=List.mem_map.1 hu;rfl
structure BlockD where
 stamp:Int
 bytes:Nat×(Nat→Nat)
structure DriveD where
 wiped:Bool
 blocks:Nat×(Nat→BlockD)
structure RecD where
 kind:Int
 seq:Int
 name:ByteArray
 length:Int
 group:Int
 row:Int
 rows:Nat×(Nat→Int)
 data:Nat×(Nat→Nat)
 delta:Nat×(Nat→Nat)
structure TapeD where
 wiped:Bool
 recs:Nat×(Nat→RecD)
structure WorldD where
 shape:Nat→Int
 groups:Nat×(Nat→Nat×(Nat→DriveD))
 on:Nat×(Nat→Int)
 tapes:Nat×(Nat→TapeD)
 writes:Int
 stop:Int
 down:Bool
def zav:Lay BlockD:=(layI.two zad).as fun d=>(d.stamp,d.bytes)
def zae:Lay DriveD:=(layB.two (zav.slice 126)).as fun d=>(d.wiped,d.blocks)
def zab:Lay RecD:=(layI.two (layI.two (layS.two (layI.two (layI.two (layI.two (zau.two (zad.two zad)))))))).as fun d=>(d.kind,d.seq,d.name,d.length,d.group,d.row,d.rows,d.data,d.delta)
def zao:Lay TapeD:=(layB.two (zab.slice 72)).as fun d=>(d.wiped,d.recs)
def zaf:Lay WorldD:=((zhe 9).two (((zae.slice 124).slice 109).two (zau.two ((zao.slice 112).two (layI.two (layI.two layB)))))).as fun d=>(d.shape,d.groups,d.on,d.tapes,d.writes,d.stop,d.down)
@[reducible] def rwW (d:WorldD) (a:Option Addr) (k:Nat) (b:Option Addr) (l:Nat) (c:Option Addr) (m:Nat):List Value:=[.int .i64 (d.shape 0),.int .i64 (d.shape 1),.int .i64 (d.shape 2),.int .i64 (d.shape 3),.int .i64 (d.shape 4),.int .i64 (d.shape 5),.int .i64 (d.shape 6),.int .i64 (d.shape 7),.int .i64 (d.shape 8),.slice a d.groups.1 k,.slice b d.on.1 l,.slice c d.tapes.1 m,.int .i64 d.writes,.int .i64 d.stop,.bool d.down]
@[reducible] def rwR (r:RecD) (a:Option Addr) (k:Nat) (b:Option Addr) (l:Nat) (c:Option Addr) (m:Nat):List Value:=[.int .i64 r.kind,.int .i64 r.seq,.string r.name,.int .i64 r.length,.int .i64 r.group,.int .i64 r.row,.slice a r.rows.1 k,.slice b r.data.1 l,.slice c r.delta.1 m]
@[reducible] def rwS (s:Nat→Int):List Value:=[.int .i64 (s 0),.int .i64 (s 1),.int .i64 (s 2),.int .i64 (s 3),.int .i64 (s 4),.int .i64 (s 5),.int .i64 (s 6),.int .i64 (s 7),.int .i64 (s 8)]
@[reducible] def rwZ:List Value:=[.int .i64 0,.int .i64 0,.int .i64 0,.int .i64 0,.int .i64 0,.int .i64 0,.int .i64 0,.int .i64 0,.int .i64 0,.int .i64 0,.slice none 0 0,.slice none 0 0,.slice none 0 0,.int .i64 0,.int .i64 0,.bool false]
@[reducible] def rwY:List Value:=[.int .i64 0,.int .i64 0,.int .i64 0,.int .i64 0,.int .i64 0,.int .i64 0,.int .i64 0,.int .i64 0,.int .i64 0,.slice none 0 0,.slice none 0 0,.slice none 0 0,.int .i64 0,.int .i64 0,.bool false]
@[reducible] def rwV (a b c d e f g h i:Int) (p:Option Addr) (l k:Nat) (q:Option Addr) (m n:Nat) (r:Option Addr) (s t:Nat) (u v:Int) (z:Bool):List Value:=[.int .i64 a,.int .i64 b,.int .i64 c,.int .i64 d,.int .i64 e,.int .i64 f,.int .i64 g,.int .i64 h,.int .i64 i,.slice p l k,.slice q m n,.slice r s t,.int .i64 u,.int .i64 v,.bool z]
end Go.Proofs.YtclclojenogpbaaGreat
namespace Go.Proofs.YtclclojenogpbaaGreat
open Go.RowKit F256
theorem zi9 (v:Value) (n:Nat) (f:Nat→Nat) (hi:Nat) (w:World) (h:Rd w hi v n f) (hhi:hi≤w.heap.size) (hn:n≤140737488351232) :
 Calls Tryz.prog 21 #[v] w fun e w'=>∃ v',e=.returned v'∧Own w' w.heap.size w'.heap.size v' n f∧Below w.heap.size w w':=by
 obtain ⟨ao,cap,rfl,hm,hc⟩:=h
 go_enter Tryz.func21,Tryz.ntmps21
 go_wp2_with (at_make;refine zbI _ rfl _ _ rfl _ _ n rfl rfl rfl rfl hn ?_;intro w1 hown1 hb1 hz1)
 go_loopw [4] (fun i wr=>∃ k:Nat,k≤n∧i=.int .i64 k∧Own wr w.heap.size w1.heap.size (.slice (some ⟨w.heap.size,0,none⟩) n n) n (fun i=>if i<k then f i else 0)∧Below w.heap.size w wr∧wr.heap.size=w1.heap.size) (fun i _=>n-(intOf i).toNat)
 case atStart=>exact ⟨0,Nat.zero_le _,rfl,hown1,hb1,rfl⟩
 case round=>
  obtain ⟨k,hk,rfl,hown,hb,hz⟩:=hrel
  by_cases hlt:k<n
  ·obtain ⟨b,off,rfl,hblt,hcell⟩:=hc (by omega)
   have hck:wr.cell? ⟨b,off+k,none⟩=some (.int .u8 (f k)):=(hb.cell (p:=⟨b,off+k,none⟩) (by show b<w.heap.size;omega)).trans (hcell k hlt)
   have hco:wr.cell? ⟨w.heap.size,k,none⟩=some (.int .u8 (0:Nat)):=by
    have:=hown.1.cellAt k (by omega);rw [this,zag _ _ _ hlt,if_neg (Nat.lt_irrefl k)]
   have hfo:wr.frozen? ⟨w.heap.size,k,none⟩=false:=hown.1.frozenAt k
   have R:Own (wr.setCell ⟨w.heap.size,k,none⟩ (.int .u8 (f k))) w.heap.size w1.heap.size (.slice (some ⟨w.heap.size,0,none⟩) n n) n (fun i=>if i<k+1 then f i else 0):=
    hown.store k (f k) hlt (fun i _=>by by_cases e:i=k<;>simp [e]<;>by_cases e':i<k<;>simp [e']<;>omega)
   have R2:Below w.heap.size w (wr.setCell ⟨w.heap.size,k,none⟩ (.int .u8 (f k))):=hb.setCell (Nat.le_refl _) _;clear hown hb hc hcell;go_wp2
   go_roundw
   case rel=>exact ⟨k+1,by omega,by go_num,R,R2,by simpa using hz⟩
   case measure=>simp [intOf];omega
  ·have hkn:k=n:=by omega
   subst hkn;go_wp2;go_ret;exact ⟨_,rfl,(hown.congr (fun i hi=>by simp [hi])).mono (by omega),hb⟩
theorem zh1 (v1 v2:Value) (n:Nat) (f:Nat→Nat) (h1 h2:Nat) (w:World) (r1:Rd w h1 v1 n f) (r2:Rd w h2 v2 n f) :
 Calls Tryz.prog 23 #[v1,v2] w fun e w'=>e=.returned (.bool true)∧Below w.heap.size w w':=by
 obtain ⟨ao,cap,rfl,hm,hc⟩:=r1;obtain ⟨ao2,cap2,rfl,_,hc2⟩:=r2;unfold maxLen at hm
 go_enter Tryz.func23,Tryz.ntmps23
 go_wp2
 go_loopw [5] (fun i wr=>∃ k:Nat,k≤n∧i=.int .i64 k∧∃ m,wr=w.drewN m) (fun i _=>n-(intOf i).toNat)
 case atStart=>exact ⟨0,Nat.zero_le _,rfl,0,rfl⟩
 case round=>
  obtain ⟨k,hk,rfl,m,rfl⟩:=hrel
  by_cases hlt:k<n
  ·obtain ⟨b,off,rfl,hblt,hcell⟩:=hc (by omega)
   obtain ⟨b2,off2,rfl,hblt2,hcell2⟩:=hc2 (by omega);have hck:w.cell? ⟨b,off+k,none⟩=some (.int .u8 (f k)):=hcell k hlt;have hck2:w.cell? ⟨b2,off2+k,none⟩=some (.int .u8 (f k)):=hcell2 k hlt;clear hc hc2 hcell hcell2;go_wp2
   go_quiet (fail)
   go_wp2
   go_roundw
   case rel=>exact ⟨k+1,by omega,by go_num,_,rfl⟩
   case measure=>simp [intOf];omega
  ·have hkn:k=n:=by omega
   subst hkn;go_wp2;go_ret;exact ⟨rfl,below_drewN (Below.refl _ _) _⟩
def zfB (k:Nat):Nat→Nat:=fun i=>(k+i)%256
theorem zfR (j k:Nat):((zfB j k:Nat):Int)=((j:Int)+(k:Int))%256:=by unfold zfB;omega
theorem zeI (v:Value) (n:Nat) (f:Nat→Nat) (lo hi:Nat) (j:Nat) (hj:j≤1000000000) (hn:n≤1000000000) (w:World) (h:Own w lo hi v n f) :
 Calls Tryz.prog 24 #[v,.int .i64 j] w fun e w'=>e=.returned (.int .i64 ((j+n:Nat):Int))∧Own w' lo hi v n (zfB j)∧Out lo hi w w':=by
 by_cases h0:n=0
 ·subst h0
  have hown:=h.congr (g:=zfB j) (fun i hi=>by omega);obtain ⟨ao,cap,rfl⟩:=h.slice;clear h
  go_enter Tryz.func24,Tryz.ntmps24
  go_wp2
  go_loopw [1,5] (fun x i wr=>x=.int .i64 j∧i=.int .i64 0∧wr=w) (fun _ _ _=>0)
  case atStart=>exact ⟨rfl,rfl,rfl⟩
  case round=>
   obtain ⟨rfl,rfl,rfl⟩:=hrel;go_wp2;go_ret;exact ⟨zcF (by omega),hown,Out.refl _ _ _⟩
 ·obtain ⟨g,cap,rfl,hlo,hhi,hgs,hcap⟩:=h.form h0
  go_enter Tryz.func24,Tryz.ntmps24
  go_wp2
  go_loopw [1,5] (fun x i wr=>∃ k:Nat,k≤n∧i=.int .i64 k∧x=.int .i64 ((j+k:Nat):Int)∧Own wr lo hi (.slice (some ⟨g,0,none⟩) n cap) n (fun i=>if i<k then zfB j i else f i)∧Out lo hi w wr) (fun _ i _=>n-(intOf i).toNat)
  case atStart=>exact ⟨0,Nat.zero_le _,rfl,rfl,h,Out.refl _ _ _⟩
  case round=>
   obtain ⟨k,hk,rfl,rfl,hown,hout⟩:=hrel
   by_cases hlt:k<n
   ·have hco:∃ u,wr.cell? ⟨g,k,none⟩=some u:=by
     have:=hown.1.cellAt k (by omega);exact ⟨_,by rw [this,zag _ _ _ hlt]⟩
    obtain ⟨u,hco⟩:=hco;have hfo:wr.frozen? ⟨g,k,none⟩=false:=hown.1.frozenAt k
    have R:Own (wr.setCell ⟨g,k,none⟩ (.int .u8 (zfB j k))) lo hi (.slice (some ⟨g,0,none⟩) n cap) n (fun i=>if i<k+1 then zfB j i else f i):=
     hown.store k (zfB j k) hlt (fun i _=>by by_cases e:i=k<;>simp [e]<;>by_cases e':i<k<;>simp [e']<;>omega)
    have R2:Out lo hi w (wr.setCell ⟨g,k,none⟩ (.int .u8 (zfB j k))):=hout.trans (zbd wr lo hi g k _ hlo hhi);clear hown hout h;go_wp2
    go_roundw
    case rel=>exact ⟨k+1,by omega,by go_num,zbo (by omega),by rw [← zfR];exact R,by rw [← zfR];exact R2⟩
    case measure=>simp [intOf];omega
   ·have hkn:k=n:=by omega
    subst hkn;go_wp2;go_ret;exact ⟨rfl,hown.congr (fun i hi=>by simp [hi]),hout⟩
theorem zhf (v:Value) (n:Nat) (hi:Nat) (j:Nat) (hj:j≤1000000000) (hn:n≤1000000000) (w:World) (h:Rd w hi v n (zfB j)) :
 Calls Tryz.prog 46 #[v,.int .i64 j] w fun e w'=>e=.returned (.int .i64 ((j+n:Nat):Int))∧w'=w:=by
 obtain ⟨ao,cap,rfl,hm,hc⟩:=h
 go_enter Tryz.func46,Tryz.ntmps46
 go_wp2
 go_loop [1,5] (fun x i=>∃ k:Nat,k≤n∧i=.int .i64 k∧x=.int .i64 ((j+k:Nat):Int)) (fun _ i=>n-(intOf i).toNat)
 case atStart=>exact ⟨0,Nat.zero_le _,rfl,rfl⟩
 case round=>
  obtain ⟨k,hk,rfl,rfl⟩:=hrel
  by_cases hlt:k<n
  ·obtain ⟨b,off,rfl,hblt,hcell⟩:=hc (by omega)
   have hck:w.cell? ⟨b,off+k,none⟩=some (.int .u8 (((j:Int)+(k:Int))%256)):=by rw [← zfR];exact hcell k hlt
   clear hc hcell;go_wp2
   go_round
   case rel=>exact ⟨k+1,by omega,by go_num,zbo (by omega)⟩
   case measure=>simp [intOf];omega
  ·have hkn:k=n:=by omega
   subst hkn;go_wp2;go_ret;exact ⟨rfl,rfl⟩
def zaW (c:Int) (v:Value):Value:=.agg #[.int .i64 c,v]
def zaK (n:Nat) (e:Nat→Value):List Value:=(List.range n).map e
theorem zb2 (n:Nat) (e:Nat→Value):(zaK n e).length=n:=by simp [zaK]
theorem zbJ (n:Nat) (e:Nat→Value) (i:Nat) (h:i<n):(zaK n e)[i]?=some (e i):=by simp [zaK,h]
theorem zc7 {n:Nat} {e g:Nat→Value} (h:∀ i,i<n→e i=g i):zaK n e=zaK n g:=by
 apply List.map_congr_left
 intro i hi;rw [h i (List.mem_range.mp hi)]
theorem zcg (n:Nat) (e g:Nat→Value) (k:Nat) (x:Value) (hk:k<n) (h:∀ i,i<n→g i=if i=k then x else e i):(zaK n e).set k x=zaK n g:=by
 apply List.ext_getElem?
 intro i
 by_cases hi:i<n
 ·rw [zbJ n g i hi,h i hi,List.getElem?_set]
  by_cases c:k=i
  ·subst c;simp [zb2,hk]
  ·rw [if_neg c,if_neg (fun h=>c h.symm),zbJ n e i hi]
 ·rw [List.getElem?_eq_none (by rw [List.length_set,zb2];omega),List.getElem?_eq_none (by rw [zb2];omega)]
theorem zes (n:Nat) (e:Nat→Value):zaK n e++[e n]=zaK (n+1) e:=by
 simp [zaK,List.range_succ]
abbrev nilS:Value:=.slice none 0 0
theorem zja (n:Nat):(madeCells #[nilS] n).toList=zaK n fun _=>nilS:=by
 rw [toList_madeCells_one]
 apply List.ext_getElem?
 intro i
 by_cases hi:i<n
 ·rw [zbJ _ _ _ hi];simp [hi]
 ·rw [List.getElem?_eq_none (by simp;omega),List.getElem?_eq_none (by rw [zb2];omega)]
def RdM (w:World) (hi:Nat) (v:Value) (R:Nat) (n:Nat→Nat) (f:Nat→Nat→Nat):Prop:=
 ∃ (ao:Option Addr) (cap:Nat) (e:Nat→Value),v=.slice ao R cap∧R≤maxLen∧(R≠0→∃ b off,ao=some ⟨b,off,none⟩∧b<hi∧∀ i,i<R→w.cell? ⟨b,off+i,none⟩=some (e i))∧
  ∀ i,i<R→Rd w hi (e i) (n i) (f i)
def zo4 (g R:Nat) (e:Nat→Value):Prop:=(∀ i,i<R→(e i).ownBlock≠some g)∧∀ i j,i<R→j<R→i≠j→∀ k,(e i).ownBlock=some k→(e j).ownBlock≠some k
structure OwnE (w:World) (lo hi:Nat) (v:Value) (R:Nat) (n:Nat→Nat) (f:Nat→Nat→Nat) (g cap:Nat) (e:Nat→Value):Prop where
 val:v=.slice (some ⟨g,0,none⟩) R cap
 low:lo≤g
 high:g<hi
 row:w.ownsRow lo 30 1 v R (zaK R e)
 each:∀ i,i<R→Own w lo hi (e i) (n i) (f i)
 apart:zo4 g R e
def OwnM (w:World) (lo hi:Nat) (v:Value) (R:Nat) (n:Nat→Nat) (f:Nat→Nat→Nat):Prop:=∃ g cap e,OwnE w lo hi v R n f g cap e
theorem RdM.below {w w':World} {hi B:Nat} {v:Value} {R:Nat} {n:Nat→Nat} {f:Nat→Nat→Nat} (h:RdM w hi v R n f) (hb:Below B w w') (hB:hi≤B):RdM w' hi v R n f:=by
 obtain ⟨ao,cap,e,rfl,hm,hc,he⟩:=h;refine ⟨ao,cap,e,rfl,hm,fun h0=>?_,fun i hi=>(he i hi).below hb hB⟩;obtain ⟨b,off,rfl,hlt,hcell⟩:=hc h0;exact ⟨b,off,rfl,hlt,fun i hi=>(hb.cell (p:=⟨b,off+i,none⟩) (by show b<B;omega)).trans (hcell i hi)⟩
theorem zb3 {w w':World} {lo:Nat} {t:TypeId} {v:Value} {R:Nat} {xs:List Value} (h:w.ownsRow lo t 1 v R xs) (hk:∀ g,v.ownBlock=some g→w'.heap[g]?=w.heap[g]?):w'.ownsRow lo t 1 v R xs:=by
 refine ⟨h.1,?_⟩
 rcases h.2 with hn | ⟨g,cap,cur,rfl,hbg,hgg,rest⟩
 ·exact .inl hn
 ·exact .inr ⟨g,cap,cur,rfl,hbg,(hk g rfl).trans hgg,rest⟩
theorem Own.kept {w w':World} {lo hi:Nat} {v:Value} {n:Nat} {f:Nat→Nat} (h:Own w lo hi v n f) (hk:∀ g,v.ownBlock=some g→w'.heap[g]?=w.heap[g]?):Own w' lo hi v n f:=⟨zb3 h.1 hk,h.2⟩
theorem OwnE.below {w w':World} {lo hi B:Nat} {v:Value} {R:Nat} {n:Nat→Nat} {f:Nat→Nat→Nat} {g cap:Nat} {e:Nat→Value} (h:OwnE w lo hi v R n f g cap e) (hb:Below B w w') (hB:hi≤B):OwnE w' lo hi v R n f g cap e:=by
 refine ⟨h.val,h.low,h.high,zb3 h.row fun k hk=>hb.block k ?_,fun i hi=>(h.each i hi).below hb hB,h.apart⟩;rw [h.val] at hk
 simp [Value.ownBlock] at hk
 have:=h.high;omega
theorem OwnE.cell {w:World} {lo hi:Nat} {v:Value} {R:Nat} {n:Nat→Nat} {f:Nat→Nat→Nat} {g cap:Nat} {e:Nat→Value} (h:OwnE w lo hi v R n f g cap e) (i:Nat) (hi:i<R):w.cell? ⟨g,i,none⟩=some (e i):=by
 have hr:=h.row;rw [h.val] at hr;rw [hr.cellAt i (by omega),zbJ R e i hi]
theorem OwnE.rd {w:World} {lo hi:Nat} {v:Value} {R:Nat} {n:Nat→Nat} {f:Nat→Nat→Nat} {g cap:Nat} {e:Nat→Value} (h:OwnE w lo hi v R n f g cap e):RdM w hi v R n f:=by
 have hle:R≤maxLen:=by
  rcases h.row.2 with ⟨h1,h2⟩ | ⟨g',cap',cur,h1,_,_,hnc,hcm,_⟩
  ·rw [h2];exact Nat.zero_le _
  ·omega
 exact ⟨_,cap,e,h.val,hle,fun _=>⟨g,0,rfl,h.high,fun i hi=>by rw [Nat.zero_add];exact h.cell i hi⟩,fun i hi=>(h.each i hi).rd⟩
def tlo (v:Value) (lo:Nat):Nat:=match v.ownBlock with | some k=>k | none=>lo
def thi (v:Value) (lo:Nat):Nat:=match v.ownBlock with | some k=>k+1 | none=>lo
theorem Own.tight {w:World} {lo hi:Nat} {v:Value} {n:Nat} {f:Nat→Nat} (h:Own w lo hi v n f):Own w (tlo v lo) (thi v lo) v n f:=by
 rcases h.1.2 with ⟨rfl,rfl⟩ | ⟨g,cap,cur,rfl,hbg,rest⟩
 ·exact zbu _ _ _ _
 ·exact ⟨⟨h.1.1,.inr ⟨g,cap,cur,rfl,Nat.le_refl _,rest⟩⟩,fun k hk=>by simp [Value.ownBlock] at hk;subst hk;simp [thi,Value.ownBlock]⟩
theorem Own.untight {w:World} {lo hi:Nat} {v:Value} {n:Nat} {f:Nat→Nat} {n':Nat} {f':Nat→Nat} {w':World} (h:Own w lo hi v n f) (h':Own w' (tlo v lo) (thi v lo) v n' f'):Own w' lo hi v n' f':=by
 refine ⟨⟨h'.1.1,?_⟩,h.2⟩
 rcases h'.1.2 with hn | ⟨g,cap,cur,rfl,hbg,rest⟩
 ·exact .inl hn
 ·refine .inr ⟨g,cap,cur,rfl,?_,rest⟩
  exact (h.1.lt g rfl).1
theorem zmo {w:World} {lo hi:Nat} {v:Value} {n:Nat} {f:Nat→Nat} (h:Own w lo hi v n f) (hlh:lo≤hi):lo≤tlo v lo∧thi v lo≤hi:=by
 cases hv:v.ownBlock with
 | none=>simp [tlo,thi,hv,hlh]
 | some k=>
  have h1:=(h.1.lt k hv).1;have h2:=h.2 k hv
  simp [tlo,thi,hv]
  omega
theorem zft {v:Value} {lo k:Nat} (h:∀ g,v.ownBlock=some g→k≠g):k<tlo v lo∨thi v lo≤k:=by
 cases hv:v.ownBlock with
 | none=>simp [tlo,thi,hv];omega
 | some g=>
  have:=h g hv
  simp [tlo,thi,hv]
  omega
theorem Chg.widen {lo hi lo' hi':Nat} {w w':World} (h:Chg lo hi w w') (h1:lo'≤lo) (h2:hi≤hi'):Chg lo' hi' w w':=⟨h.os,h.tape,h.output,h.size,fun k hk ho=>h.block k hk (by omega)⟩
def sumN (n:Nat→Nat):Nat→Nat
 | 0=>0
 | k+1=>sumN n k+n k
theorem zct (n:Nat→Nat):∀ {a b:Nat},a≤b→sumN n a≤sumN n b
 | a,0,h=>by
  have:a=0:=by omega
  subst this;exact Nat.le_refl _
 | a,b+1,h=>by
  by_cases e:a=b+1
  ·subst e;exact Nat.le_refl _
  ·have:=zct n (show a≤b by omega)
   simp only [sumN]
   omega
theorem zjb:(Tryz.prog.info? 30).map (fun i=>(i.zero,i.size,i.bytes))=some (some nilS,1,24):=by kernel_rfl
theorem Chg.refl' (lo hi:Nat) (w:World):Chg lo hi w w:=⟨rfl,rfl,rfl,Nat.le_refl _,fun _ _ _=>rfl⟩
end Go.Proofs.YtclclojenogpbaaGreat
namespace Go.Proofs.YtclclojenogpbaaGreat
open Go.ChangeShapes Go.WideShapes Go.ChangeAt Go.RowKit Go.Deep F256
end Go.Proofs.YtclclojenogpbaaGreat
namespace Go.Proofs.YtclclojenogpbaaGreat
def zah (s:Nat→Int):Value:=.agg #[.int .i64 (s 0),.int .i64 (s 1),.int .i64 (s 2),.int .i64 (s 3),.int .i64 (s 4),.int .i64 (s 5),.int .i64 (s 6),.int .i64 (s 7),.int .i64 (s 8)]
end Go.Proofs.YtclclojenogpbaaGreat
namespace Go.Proofs.YtclclojenogpbaaGreat
open Go.ChangeShapes Go.WideShapes Go.ChangeAt Go.RowKit
end Go.Proofs.YtclclojenogpbaaGreat
namespace Go.Proofs.YtclclojenogpbaaGreat
open Go.ChangeShapes Go.WideShapes Go.ChangeAt Go.RowKit Go.Deep
theorem znA:Opens zab 203:=
 zeG (A:=layI.two (layI.two (layS.two (layI.two (layI.two (layI.two (zau.two (zad.two zad)))))))) (fun p=>⟨p.1,p.2.1,p.2.2.1,p.2.2.2.1,p.2.2.2.2.1,p.2.2.2.2.2.1,p.2.2.2.2.2.2.1,p.2.2.2.2.2.2.2.1,p.2.2.2.2.2.2.2.2⟩) (fun _=>rfl)
  (zbU Tryz.underlying203 (show _=9 by kernel_rfl)
   (zaA ⟨_,rfl,rfl,rfl⟩ (zcs Tryz.underlying2 (by kernel_rfl))
   (zaA ⟨_,rfl,rfl,rfl⟩ (zcs Tryz.underlying2 (by kernel_rfl))
   (zaA ⟨_,rfl,rfl,rfl⟩ (zo3 Tryz.underlying9 (by kernel_rfl))
   (zaA ⟨_,rfl,rfl,rfl⟩ (zcs Tryz.underlying2 (by kernel_rfl))
   (zaA ⟨_,rfl,rfl,rfl⟩ (zcs Tryz.underlying2 (by kernel_rfl))
   (zaA ⟨_,rfl,rfl,rfl⟩ (zcs Tryz.underlying2 (by kernel_rfl))
   (zaA ⟨_,rfl,rfl,rfl⟩ (zh0 Tryz.underlying25 Tryz.underlying2 (by kernel_rfl) (by kernel_rfl))
   (zaA ⟨_,rfl,rfl,rfl⟩ (ze6 Tryz.underlying30 Tryz.underlying5 (by kernel_rfl) (by kernel_rfl))
   (zcN ⟨_,rfl,rfl,rfl⟩ (ze6 Tryz.underlying30 Tryz.underlying5 (by kernel_rfl) (by kernel_rfl)) rfl))))))))))
set_option maxRecDepth 20000 in
theorem zgE {α:Type} {A:Lay α} {fs:Array Field} {H:Type} {enc:TypeId×Value→H} {W:World} {r:Reach} {b0:Nat} {v:Value} {d:DataW H} {ps:List MemPlace} {t:TypeId}
 (hO:Opens A t) (hu:Tryz.prog.underlying t=some (.struct fs)) (hval:Value.okWide Tryz.prog W r b0 t v) (h:DataW.Trod enc Tryz.prog W 0 (fun _=>true) true t v d ps) :
 ∃ cs a,v=.agg cs.toArray∧A.rd W W.heap.size a cs:=by
 obtain ⟨cs,rfl,hsz⟩:=okWide_struct hu hval;obtain ⟨fuel,hfu⟩:=h;have hfu':DataW.trod enc Tryz.prog W 0 (fun _=>true) true fuel t cs.toList=some (d,ps):=hfu;obtain ⟨a,ha⟩:=hO.opens hfu';exact ⟨cs.toList,a,by simp,ha⟩
theorem zmp {α β:Type} {A:Lay α} {B:Lay β} {t:TypeId} (h:Opens A t) (hs:A.sz=B.sz) (hi:∃ b:β,True) (f:∀ W hi a cs,A.rd W hi a cs→∃ b,B.rd W hi b cs):Opens B t:=
 ⟨h.size.trans hs,hi,fun h1=>by
  obtain ⟨a,ha⟩:=h.opens h1
  exact f _ _ _ _ ha⟩
def nine (a0 a1 a2 a3 a4 a5 a6 a7 a8:Int):Nat→Int
 | 0=>a0 | 1=>a1 | 2=>a2 | 3=>a3 | 4=>a4 | 5=>a5 | 6=>a6 | 7=>a7 | 8=>a8 | _=>0
theorem zjc:Opens (zhe 9) 23:=by
 refine zmp (A:=layI.two (layI.two (layI.two (layI.two (layI.two (layI.two (layI.two (layI.two layI)))))))) ?_ rfl ⟨fun _=>0,trivial⟩ ?_
 ·exact zbU Tryz.underlying23 (show _=9 by kernel_rfl)
   (zaA ⟨_,rfl,rfl,rfl⟩ (zcs Tryz.underlying2 (by kernel_rfl))
   (zaA ⟨_,rfl,rfl,rfl⟩ (zcs Tryz.underlying2 (by kernel_rfl))
   (zaA ⟨_,rfl,rfl,rfl⟩ (zcs Tryz.underlying2 (by kernel_rfl))
   (zaA ⟨_,rfl,rfl,rfl⟩ (zcs Tryz.underlying2 (by kernel_rfl))
   (zaA ⟨_,rfl,rfl,rfl⟩ (zcs Tryz.underlying2 (by kernel_rfl))
   (zaA ⟨_,rfl,rfl,rfl⟩ (zcs Tryz.underlying2 (by kernel_rfl))
   (zaA ⟨_,rfl,rfl,rfl⟩ (zcs Tryz.underlying2 (by kernel_rfl))
   (zaA ⟨_,rfl,rfl,rfl⟩ (zcs Tryz.underlying2 (by kernel_rfl))
   (zcN ⟨_,rfl,rfl,rfl⟩ (zcs Tryz.underlying2 (by kernel_rfl)) rfl)))))))))
 ·intro W hi a cs h
  obtain ⟨a0,a1,a2,a3,a4,a5,a6,a7,a8⟩:=a;obtain ⟨_,_,rfl,⟨rfl,k0⟩,_,_,rfl,⟨rfl,k1⟩,_,_,rfl,⟨rfl,k2⟩,_,_,rfl,⟨rfl,k3⟩,_,_,rfl,⟨rfl,k4⟩,_,_,rfl,⟨rfl,k5⟩,_,_,rfl,⟨rfl,k6⟩,_,_,rfl,⟨rfl,k7⟩,⟨rfl,k8⟩⟩:=h;refine ⟨nine a0 a1 a2 a3 a4 a5 a6 a7 a8,rfl,fun i=>?_⟩
  match i with
  | 0=>exact k0
  | 1=>exact k1
  | 2=>exact k2
  | 3=>exact k3
  | 4=>exact k4
  | 5=>exact k5
  | 6=>exact k6
  | 7=>exact k7
  | 8=>exact k8
  | n+9=>exact ⟨show (-9223372036854775808:Int)≤0 by decide,show (0:Int)≤9223372036854775807 by decide⟩
theorem zk2:Opens zav 244:=
 zeG (A:=layI.two zad) (fun p=>⟨p.1,p.2⟩) (fun _=>rfl)
  (zbU Tryz.underlying244 (show _=2 by kernel_rfl)
   (zaA ⟨_,rfl,rfl,rfl⟩ (zcs Tryz.underlying2 (by kernel_rfl))
   (zcN ⟨_,rfl,rfl,rfl⟩ (ze6 Tryz.underlying30 Tryz.underlying5 (by kernel_rfl) (by kernel_rfl)) rfl)))
theorem zk3:Opens zae 158:=
 zeG (A:=layB.two (zav.slice 126)) (fun p=>⟨p.1,p.2⟩) (fun _=>rfl)
  (zbU Tryz.underlying158 (show _=2 by kernel_rfl)
   (zaA ⟨_,rfl,rfl,rfl⟩ (zml Tryz.underlying4 (by kernel_rfl))
   (zcN ⟨_,rfl,rfl,rfl⟩ (zcT (by decide) Tryz.underlying156 (by kernel_rfl) zk2) rfl)))
theorem zmq:Opens zao 100:=
 zeG (A:=layB.two (zab.slice 72)) (fun p=>⟨p.1,p.2⟩) (fun _=>rfl)
  (zbU Tryz.underlying100 (show _=2 by kernel_rfl)
   (zaA ⟨_,rfl,rfl,rfl⟩ (zml Tryz.underlying4 (by kernel_rfl))
   (zcN ⟨_,rfl,rfl,rfl⟩ (zcT (by decide) Tryz.underlying98 (by kernel_rfl) znA) rfl)))
theorem zk4:Opens zaf 28:=
 zeG (A:=(zhe 9).two (((zae.slice 124).slice 109).two (zau.two ((zao.slice 112).two (layI.two (layI.two layB)))))) (fun p=>⟨p.1,p.2.1,p.2.2.1,p.2.2.2.1,p.2.2.2.2.1,p.2.2.2.2.2.1,p.2.2.2.2.2.2⟩) (fun _=>rfl)
  (zbU Tryz.underlying28 (show _=15 by kernel_rfl)
   (zaA ⟨_,rfl,rfl,rfl⟩ zjc
   (zaA ⟨_,rfl,rfl,rfl⟩ (zcT (by decide) Tryz.underlying24 (by kernel_rfl) (zcT (by decide) Tryz.underlying96 (by kernel_rfl) zk3))
   (zaA ⟨_,rfl,rfl,rfl⟩ (zh0 Tryz.underlying25 Tryz.underlying2 (by kernel_rfl) (by kernel_rfl))
   (zaA ⟨_,rfl,rfl,rfl⟩ (zcT (by decide) Tryz.underlying26 (by kernel_rfl) zmq)
   (zaA ⟨_,rfl,rfl,rfl⟩ (zcs Tryz.underlying2 (by kernel_rfl))
   (zaA ⟨_,rfl,rfl,rfl⟩ (zcs Tryz.underlying2 (by kernel_rfl))
   (zcN ⟨_,rfl,rfl,rfl⟩ (zml Tryz.underlying4 (by kernel_rfl)) rfl))))))))
end Go.Proofs.YtclclojenogpbaaGreat
namespace Go.Proofs.YtclclojenogpbaaGreat
open Go.RowKit
theorem zh2 (zs:List Value) (hz:0<zs.length) (n:Nat):(madeCells zs.toArray (n*zs.length)).toList=catN n (fun _=>zs):=by
 have hl:∀ i,i<n→((fun _=>zs:Nat→List Value) i).length=zs.length:=fun _ _=>rfl
 apply List.ext_getElem?
 intro i
 by_cases hi:i<n*zs.length
 ·have e:i/zs.length*zs.length+i%zs.length=i:=by rw [Nat.mul_comm];exact Nat.div_add_mod i zs.length
  have hq:i/zs.length<n:=(Nat.div_lt_iff_lt_mul hz).2 hi;have hr:=Nat.mod_lt i hz;have g1:=zcp hl hq hr;rw [e] at g1;rw [g1]
  simp only [madeCells,Array.toList_map,Array.toList_range,List.getElem?_map,List.getElem?_range hi,Option.map_some]
  simp [hr]
 ·rw [List.getElem?_eq_none (by simp [size_madeCells];omega),List.getElem?_eq_none (by rw [zcI hl];omega)]
theorem zd6 {α:Type} (E:Lay α) (zs:List Value) (T e:TypeId) (by_:Nat) (hs:0<E.sz) (hzs:zs.length=E.sz) (hu:Tryz.prog.underlying T=some (.slice e)) (hi:(Tryz.prog.info? e).map (fun i=>(i.zero.map (·.cells),i.size,i.bytes))=some (some zs.toArray,E.sz,by_))
 (x:Nat→α) (Ls:Nat→List Nat) (w:World) {ops:Array Oper} {rest:List Oper} {o:Oper} {a:Act} {Q:Exit→Act→World→Prop}
 (hg:o.guard=none) (l c:Operand) (hop:o.op=Op.makeSlice T l c) (L C:Int) (n:Nat) (hl:a.eval l=.int .i64 L) (hc:a.eval c=.int .i64 C) (hL:L=(n:Int)) (hC:C=(n:Int)) (hn:by_*n≤281474976710656) (hm:n≤maxLen)
 (hK:∀ w',SlP E e w' w.heap.size w.heap.size n n 0 x (fun _=>zs) Ls→Below w.heap.size w w'→wpList Tryz.prog ops Q rest (a.put o.dst (.slice (some ⟨w.heap.size,0,none⟩) n n)) w') :
 wpList Tryz.prog ops Q (o::rest) a w:=by
 obtain ⟨i0,hi0⟩:∃ i0,Tryz.prog.info? e=some i0:=by
  cases h:Tryz.prog.info? e with
  | none=>rw [h] at hi;cases hi
  | some i0=>exact ⟨i0,rfl⟩
 rw [hi0] at hi
 simp only [Option.map_some,Option.some.injEq,Prod.mk.injEq] at hi
 obtain ⟨h1,h2,h3⟩:=hi
 obtain ⟨z,hz,hzc⟩:∃ z,i0.zero=some z∧z.cells=zs.toArray:=by
  cases h:i0.zero with
  | none=>rw [h] at h1;cases h1
  | some z=>rw [h] at h1;exact ⟨z,rfl,by simpa using h1⟩
 refine wpList_make_full w hg l c T hop w.heap.size e i0 z E.sz hu hi0 hz h2 .i64 .i64 L C n hl hc hL hC (by rw [h3];exact hn) hm (Nat.le_refl _) ?_;intro w' hown hgrow;rw [hzc,← hzs,zh2 zs (by omega)] at hown;rw [hzs] at hown;exact hK w' ⟨hown,fun _ _=>hzs,fun i hi=>by omega,by simp [zb1],fun b hb=>by rw [zb1] at hb;cases hb⟩ (zbh hgrow)
structure SlG {α:Type} (E:Lay α) (t:TypeId) (w:World) (lo:Nat) (v:Value) (n:Nat) (x:Nat→α) (ce:Nat→List Value) (Ls:Nat→List Nat):Prop where
 row:w.ownsRow lo t E.sz v n (catN n ce)
 each:∀ i,i<n→E.own w (x i) (ce i) (Ls i)
 nd:(v.ownBlock.toList++catN n Ls).Nodup
 low:∀ b,b∈catN n Ls→lo≤b
section
variable {α:Type} {E:Lay α} {t:TypeId} {w w':World} {lo n:Nat} {v:Value} {x:Nat→α} {ce:Nat→List Value} {Ls:Nat→List Nat}
end
end Go.Proofs.YtclclojenogpbaaGreat
namespace Go.Proofs.YtclclojenogpbaaGreat
open Go.RowKit F256
def zdA (k:Nat):Nat→Int:=fun i=>(k:Int)+(i:Int)
theorem ze7 (j k:Nat):zdA j k=(j:Int)+(k:Int):=rfl
theorem zh3 (v:Value) (n:Nat) (f:Nat→Int) (hi:Nat) (w:World) (h:RdI w hi v n f) (hhi:hi≤w.heap.size) (hn:n≤1000000000) :
 Calls Tryz.prog 33 #[v] w fun e w'=>∃ v',e=.returned v'∧OwnI w' w.heap.size w'.heap.size v' n f∧Below w.heap.size w w':=by
 obtain ⟨ao,cap,rfl,hm,hc⟩:=h
 go_enter Tryz.func33,Tryz.ntmps33
 go_wp2_with (at_make;refine zkw _ rfl _ _ rfl _ _ n rfl rfl rfl rfl hn ?_;intro w1 hown1 hb1 hz1)
 go_loopw [4] (fun i wr=>∃ k:Nat,k≤n∧i=.int .i64 k∧OwnI wr w.heap.size w1.heap.size (.slice (some ⟨w.heap.size,0,none⟩) n n) n (fun i=>if i<k then f i else 0)∧Below w.heap.size w wr∧wr.heap.size=w1.heap.size) (fun i _=>n-(intOf i).toNat)
 case atStart=>exact ⟨0,Nat.zero_le _,rfl,hown1,hb1,rfl⟩
 case round=>
  obtain ⟨k,hk,rfl,hown,hb,hz⟩:=hrel
  by_cases hlt:k<n
  ·obtain ⟨b,off,rfl,hblt,hcell⟩:=hc (by omega)
   have hck:wr.cell? ⟨b,off+k,none⟩=some (.int .i64 (f k)):=(hb.cell (p:=⟨b,off+k,none⟩) (by show b<w.heap.size;omega)).trans (hcell k hlt)
   have hco:wr.cell? ⟨w.heap.size,k,none⟩=some (.int .i64 0):=by
    have:=hown.1.cellAt k (by omega);rw [this,zbl _ _ _ hlt,if_neg (Nat.lt_irrefl k)]
   have hfo:wr.frozen? ⟨w.heap.size,k,none⟩=false:=hown.1.frozenAt k
   have R:OwnI (wr.setCell ⟨w.heap.size,k,none⟩ (.int .i64 (f k))) w.heap.size w1.heap.size (.slice (some ⟨w.heap.size,0,none⟩) n n) n (fun i=>if i<k+1 then f i else 0):=
    hown.store k (f k) hlt (fun i _=>by by_cases e:i=k<;>simp [e]<;>by_cases e':i<k<;>simp [e']<;>omega)
   have R2:Below w.heap.size w (wr.setCell ⟨w.heap.size,k,none⟩ (.int .i64 (f k))):=hb.setCell (Nat.le_refl _) _;clear hown hb hc hcell;go_wp2
   go_roundw
   case rel=>exact ⟨k+1,by omega,by go_num,R,R2,by simpa using hz⟩
   case measure=>simp [intOf];omega
  ·have hkn:k=n:=by omega
   subst hkn;go_wp2;go_ret;exact ⟨_,rfl,(hown.congr (fun i hi=>by simp [hi])).mono (by omega),hb⟩
theorem zhg (v1 v2:Value) (n:Nat) (f:Nat→Int) (h1 h2:Nat) (w:World) (r1:RdI w h1 v1 n f) (r2:RdI w h2 v2 n f) :
 Calls Tryz.prog 41 #[v1,v2] w fun e w'=>e=.returned (.bool true)∧Below w.heap.size w w':=by
 obtain ⟨ao,cap,rfl,hm,hc⟩:=r1;obtain ⟨ao2,cap2,rfl,_,hc2⟩:=r2;unfold maxLen at hm
 go_enter Tryz.func41,Tryz.ntmps41
 go_wp2
 go_loopw [5] (fun i wr=>∃ k:Nat,k≤n∧i=.int .i64 k∧∃ m,wr=w.drewN m) (fun i _=>n-(intOf i).toNat)
 case atStart=>exact ⟨0,Nat.zero_le _,rfl,0,rfl⟩
 case round=>
  obtain ⟨k,hk,rfl,m,rfl⟩:=hrel
  by_cases hlt:k<n
  ·obtain ⟨b,off,rfl,hblt,hcell⟩:=hc (by omega)
   obtain ⟨b2,off2,rfl,hblt2,hcell2⟩:=hc2 (by omega);have hck:w.cell? ⟨b,off+k,none⟩=some (.int .i64 (f k)):=hcell k hlt;have hck2:w.cell? ⟨b2,off2+k,none⟩=some (.int .i64 (f k)):=hcell2 k hlt;clear hc hc2 hcell hcell2;go_wp2
   go_quiet (fail)
   go_wp2
   go_roundw
   case rel=>exact ⟨k+1,by omega,by go_num,_,rfl⟩
   case measure=>simp [intOf];omega
  ·have hkn:k=n:=by omega
   subst hkn;go_wp2;go_ret;exact ⟨rfl,below_drewN (Below.refl _ _) _⟩
theorem zgF (v:Value) (n:Nat) (f:Nat→Int) (lo hi:Nat) (j:Nat) (hj:j≤1000000000) (hn:n≤1000000000) (w:World) (h:OwnI w lo hi v n f) :
 Calls Tryz.prog 44 #[v,.int .i64 j] w fun e w'=>e=.returned (.int .i64 ((j+n:Nat):Int))∧OwnI w' lo hi v n (zdA j)∧Out lo hi w w':=by
 by_cases h0:n=0
 ·subst h0
  have hown:=h.congr (g:=zdA j) (fun i hi=>by omega);obtain ⟨ao,cap,rfl⟩:=h.slice;clear h
  go_enter Tryz.func44,Tryz.ntmps44
  go_wp2
  go_loopw [1,5] (fun x i wr=>x=.int .i64 j∧i=.int .i64 0∧wr=w) (fun _ _ _=>0)
  case atStart=>exact ⟨rfl,rfl,rfl⟩
  case round=>
   obtain ⟨rfl,rfl,rfl⟩:=hrel;go_wp2;go_ret;exact ⟨zcF (by omega),hown,Out.refl _ _ _⟩
 ·obtain ⟨g,cap,rfl,hlo,hhi,hgs,hcap⟩:=h.form h0
  go_enter Tryz.func44,Tryz.ntmps44
  go_wp2
  go_loopw [1,5] (fun x i wr=>∃ k:Nat,k≤n∧i=.int .i64 k∧x=.int .i64 ((j+k:Nat):Int)∧OwnI wr lo hi (.slice (some ⟨g,0,none⟩) n cap) n (fun i=>if i<k then zdA j i else f i)∧Out lo hi w wr) (fun _ i _=>n-(intOf i).toNat)
  case atStart=>exact ⟨0,Nat.zero_le _,rfl,rfl,h,Out.refl _ _ _⟩
  case round=>
   obtain ⟨k,hk,rfl,rfl,hown,hout⟩:=hrel
   by_cases hlt:k<n
   ·have hco:∃ u,wr.cell? ⟨g,k,none⟩=some u:=by
     have:=hown.1.cellAt k (by omega);exact ⟨_,by rw [this,zbl _ _ _ hlt]⟩
    obtain ⟨u,hco⟩:=hco;have hfo:wr.frozen? ⟨g,k,none⟩=false:=hown.1.frozenAt k
    have R:OwnI (wr.setCell ⟨g,k,none⟩ (.int .i64 (zdA j k))) lo hi (.slice (some ⟨g,0,none⟩) n cap) n (fun i=>if i<k+1 then zdA j i else f i):=
     hown.store k (zdA j k) hlt (fun i _=>by by_cases e:i=k<;>simp [e]<;>by_cases e':i<k<;>simp [e']<;>omega)
    have R2:Out lo hi w (wr.setCell ⟨g,k,none⟩ (.int .i64 (zdA j k))):=hout.trans (zbd wr lo hi g k _ hlo hhi);clear hown hout h;go_wp2
    go_roundw
    case rel=>exact ⟨k+1,by omega,by go_num,zbo (by omega),by rw [← ze7];exact R,by rw [← ze7];exact R2⟩
    case measure=>simp [intOf];omega
   ·have hkn:k=n:=by omega
    subst hkn;go_wp2;go_ret;exact ⟨rfl,hown.congr (fun i hi=>by simp [hi]),hout⟩
def ToS {α:Type} (A:Lay α) (sz:α→Nat) (fn:Nat):Prop:=∀ (v:Value) (d:α) (hi:Nat) (w:World),A.rd w hi d [v]→hi≤w.heap.size→sz d≤1048576→
 Calls Tryz.prog fn #[v] w fun e w'=>∃ v',e=.returned v'∧OwnT A w' w.heap.size w'.heap.size d [v']∧Below w.heap.size w w'
def ToV {α:Type} (A:Lay α) (sz:α→Nat) (fn:Nat):Prop:=∀ (cs:List Value) (d:α) (hi:Nat) (w:World),A.rd w hi d cs→hi≤w.heap.size→sz d≤1048576→
 Calls Tryz.prog fn #[.agg cs.toArray] w fun e w'=>∃ cs',e=.returned (.agg cs'.toArray)∧OwnT A w' w.heap.size w'.heap.size d cs'∧Below w.heap.size w w'
def EqS {α:Type} (A:Lay α) (fn:Nat):Prop:=∀ (v1 v2:Value) (d:α) (h1 h2:Nat) (w:World),A.rd w h1 d [v1]→A.rd w h2 d [v2]→h1≤w.heap.size→h2≤w.heap.size→
 Calls Tryz.prog fn #[v1,v2] w fun e w'=>e=.returned (.bool true)∧Below w.heap.size w w'
def EqV {α:Type} (A:Lay α) (fn:Nat):Prop:=∀ (c1 c2:List Value) (d:α) (h1 h2:Nat) (w:World),A.rd w h1 d c1→A.rd w h2 d c2→h1≤w.heap.size→h2≤w.heap.size→
 Calls Tryz.prog fn #[.agg c1.toArray,.agg c2.toArray] w fun e w'=>e=.returned (.bool true)∧Below w.heap.size w w'
def MkS {α:Type} (A:Lay α) (c:α→Nat) (mk:Nat→α→α) (fn:Nat):Prop:=∀ (v:Value) (d:α) (L:List Nat) (j:Nat) (w:World),A.own w d [v] L→L.Nodup→j+c d≤100000000→
 Calls Tryz.prog fn #[v,.int .i64 j] w fun e w'=>e=.returned (.int .i64 ((j+c d:Nat):Int))∧A.own w' (mk j d) [v] L∧ChgL L w w'
def MkV {α:Type} (A:Lay α) (c:α→Nat) (mk:Nat→α→α) (fn:Nat):Prop:=∀ (cs:List Value) (d:α) (L:List Nat) (j:Nat) (w:World),A.own w d cs L→L.Nodup→j+c d≤100000000→
 Calls Tryz.prog fn #[.agg cs.toArray,.int .i64 j] w fun e w'=>e=.returned (.int .i64 ((j+c d:Nat):Int))∧A.own w' (mk j d) cs L∧ChgL L w w'
def HdS {α:Type} (A:Lay α) (c:α→Nat) (mk:Nat→α→α) (fn:Nat):Prop:=∀ (v:Value) (d:α) (hi:Nat) (j:Nat) (w:World),A.rd w hi (mk j d) [v]→hi≤w.heap.size→j+c d≤100000000→
 Calls Tryz.prog fn #[v,.int .i64 j] w fun e w'=>e=.returned (.int .i64 ((j+c d:Nat):Int))∧Below w.heap.size w w'
def HdV {α:Type} (A:Lay α) (c:α→Nat) (mk:Nat→α→α) (fn:Nat):Prop:=∀ (cs:List Value) (d:α) (hi:Nat) (j:Nat) (w:World),A.rd w hi (mk j d) cs→hi≤w.heap.size→j+c d≤100000000→
 Calls Tryz.prog fn #[.agg cs.toArray,.int .i64 j] w fun e w'=>e=.returned (.int .i64 ((j+c d:Nat):Int))∧Below w.heap.size w w'
def SzP (n L:Nat) (x:Int):Prop:=x=-1∨(n≤L∧x=(L:Int)-(n:Int))
def SzS {α:Type} (A:Lay α) (sz:α→Nat) (fn:Nat):Prop:=∀ (v:Value) (d:α) (hi L:Nat) (w:World),A.rd w hi d [v]→hi≤w.heap.size→L≤1048576→
 Calls Tryz.prog fn #[v,.int .i64 L] w fun e w'=>∃ x,e=.returned (.int .i64 x)∧SzP (sz d) L x∧Below w.heap.size w w'
def SzV {α:Type} (A:Lay α) (sz:α→Nat) (fn:Nat):Prop:=∀ (cs:List Value) (d:α) (hi L:Nat) (w:World),A.rd w hi d cs→hi≤w.heap.size→L≤1048576→
 Calls Tryz.prog fn #[.agg cs.toArray,.int .i64 L] w fun e w'=>∃ x,e=.returned (.int .i64 x)∧SzP (sz d) L x∧Below w.heap.size w w'
def szSl {α:Type} (s:α→Nat) (p:Nat×(Nat→α)):Nat:=p.1+sumN (fun i=>s (p.2 i)) p.1
def cSl {α:Type} (c:α→Nat) (p:Nat×(Nat→α)):Nat:=sumN (fun i=>c (p.2 i)) p.1
def mkSl {α:Type} (c:α→Nat) (mk:Nat→α→α) (j:Nat) (p:Nat×(Nat→α)):Nat×(Nat→α):=(p.1,fun i=>mk (j+sumN (fun i=>c (p.2 i)) i) (p.2 i))
def lenD {α:Type} (p:Nat×(Nat→α)):Nat:=p.1
def zbS (j:Nat) (p:Nat×(Nat→Nat)):Nat×(Nat→Nat):=(p.1,zfB j)
def zdB (j:Nat) (p:Nat×(Nat→Int)):Nat×(Nat→Int):=(p.1,fun i=>if i<p.1 then zdA j i else 0)
theorem zaT (f:Nat→Nat) (k:Nat):sumN f (k+1)=sumN f k+f k:=rfl
theorem zow (f:Nat→Nat) {i n:Nat} (h:i<n):f i≤sumN f n:=by
 have:=zct f (show i+1≤n from h);rw [zaT] at this;omega
theorem zgU {α:Type} {s:α→Nat} {p:Nat×(Nat→α)} {B:Nat} (h:szSl s p≤B):p.1≤B:=by unfold szSl at h;omega
theorem zdf {α:Type} {s:α→Nat} {p:Nat×(Nat→α)} {B:Nat} (h:szSl s p≤B) {i:Nat} (hi:i<p.1):s (p.2 i)≤B:=by
 unfold szSl at h;have:=zow (fun i=>s (p.2 i)) hi;omega
theorem ze8:ToS zad lenD 21:=fun v d hi w h hhi hn=>by
 obtain ⟨v',e1,h1,h2⟩:=h
 cases e1
 refine (zi9 v d.1 d.2 hi w h1 hhi (by unfold lenD at hn;omega)).mono ?_;rintro e w' ⟨v',rfl,o,b⟩;refine ⟨v',rfl,⟨v'.ownBlock.toList,⟨v',rfl,rfl,o.weaken (Nat.zero_le _) (Nat.le_refl _),h2⟩,by cases v'.ownBlock<;>simp,fun b hb=>o.1.lt b (by simpa using hb)⟩,b⟩
theorem zd7:EqS zad 23:=fun v1 v2 d h1 h2 w r1 r2 _ _=>by
 obtain ⟨_,e1,k1,_⟩:=r1;obtain ⟨_,e2,k2,_⟩:=r2
 cases e1
 cases e2
 exact zh1 v1 v2 d.1 d.2 h1 h2 w k1 k2
theorem zh4:ToS zau lenD 33:=fun v d hi w h hhi hn=>by
 obtain ⟨v',e1,h1,h2⟩:=h
 cases e1
 refine (zh3 v d.1 d.2 hi w h1.1 hhi (by unfold lenD at hn;omega)).mono ?_;rintro e w' ⟨v',rfl,o,b⟩;refine ⟨v',rfl,⟨v'.ownBlock.toList,⟨v',rfl,rfl,o.weaken (Nat.zero_le _) (Nat.le_refl _),h2⟩,by cases v'.ownBlock<;>simp,fun b hb=>o.1.lt b (by simpa using hb)⟩,b⟩
theorem zh5:EqS zau 41:=fun v1 v2 d h1 h2 w r1 r2 _ _=>by
 obtain ⟨_,e1,k1,_⟩:=r1;obtain ⟨_,e2,k2,_⟩:=r2
 cases e1
 cases e2
 exact zhg v1 v2 d.1 d.2 h1 h2 w k1.1 k2.1
def zdC (v:Value):Nat:=v.ownBlock.getD 0
theorem zo5 {w:World} {lo hi:Nat} {v:Value} {n:Nat} {f:Nat→Nat} (h:Own w lo hi v n f):Own w (zdC v) (zdC v+1) v n f:=by
 refine ⟨⟨h.1.1,?_⟩,fun k hk=>by simp [zdC,hk]⟩
 rcases h.1.2 with hn | ⟨g,cap,cur,rfl,hbg,rest⟩
 ·exact .inl hn
 ·exact .inr ⟨g,cap,cur,rfl,by simp [zdC,Value.ownBlock],rest⟩
theorem zox {w:World} {lo hi:Nat} {v:Value} {n:Nat} {f:Nat→Int} (h:OwnI w lo hi v n f):OwnI w (zdC v) (zdC v+1) v n f:=by
 refine ⟨⟨h.1.1,?_⟩,fun k hk=>by simp [zdC,hk]⟩
 rcases h.1.2 with hn | ⟨g,cap,cur,rfl,hbg,rest⟩
 ·exact .inl hn
 ·exact .inr ⟨g,cap,cur,rfl,by simp [zdC,Value.ownBlock],rest⟩
theorem ChgL.of_none {K:List Nat} {w w':World} (h:Out 0 0 w w'):ChgL K w w':=⟨h.os,h.tape,h.output,Nat.le_of_eq h.size.symm,fun b _ _=>h.block b (.inr (Nat.zero_le _))⟩
theorem zkz (j i:Nat):zfB j i<256:=Nat.mod_lt _ (by decide)
theorem zk5 {w:World} {v:Value} {n:Nat} {f:Nat→Nat} {hi:Nat} (h:Own w 0 hi v n f) (hb:v.ownBlock=none):Own w 0 0 v n f:=⟨h.1,fun k hk=>by rw [hb] at hk;cases hk⟩
theorem zc0:MkS zad lenD zbS 24:=fun v d L j w h nd hj=>by
 obtain ⟨v',e1,rfl,o,k⟩:=h
 cases e1
 unfold lenD at hj
 cases hb:v.ownBlock with
 | none=>
  refine (zeI v d.1 d.2 0 0 j (by omega) (by omega) w (zk5 o hb)).mono ?_;rintro e w' ⟨rfl,o',out⟩;exact ⟨rfl,⟨v,rfl,by rw [hb],o'.weaken (Nat.le_refl _) (Nat.zero_le _),fun i=>zkz j i⟩,ChgL.of_none out⟩
 | some g=>
  have e:zdC v=g:=by simp [zdC,hb]
  have hg:=(o.1.lt g hb).2;have o2:=zo5 o;rw [e] at o2;refine (zeI v d.1 d.2 g (g+1) j (by omega) (by omega) w o2).mono ?_;rintro e w' ⟨rfl,o',out⟩;exact ⟨rfl,⟨v,rfl,by rw [hb],o'.weaken (Nat.zero_le _) (by rw [out.size];exact hg),fun i=>zkz j i⟩,ChgL.of_out out (by simp)⟩
theorem zh6:HdS zad lenD zbS 46:=fun v d hi j w h hhi hj=>by
 obtain ⟨v',e1,o,k⟩:=h
 cases e1
 unfold lenD at hj;refine (zhf v d.1 hi j (by omega) (by omega) w o).mono ?_;rintro e w' ⟨rfl,rfl⟩;exact ⟨rfl,Below.refl _ _⟩
theorem zjd {w:World} {v:Value} {n:Nat} {f:Nat→Int} {hi:Nat} (h:OwnI w 0 hi v n f) (hb:v.ownBlock=none):OwnI w 0 0 v n f:=⟨h.1,fun k hk=>by rw [hb] at hk;cases hk⟩
theorem zeJ (v:Value) (n:Nat) (f:Nat→Int) (lo hi:Nat) (j:Nat) (hj:j≤1000000000) (hn:n≤1000000000) (w:World) (h:OwnI w lo hi v n f) :
 Calls Tryz.prog 44 #[v,.int .i64 j] w fun e w'=>e=.returned (.int .i64 ((j+n:Nat):Int))∧OwnI w' lo hi v n (fun i=>if i<n then zdA j i else 0)∧Out lo hi w w':=by
 refine (zgF v n f lo hi j hj hn w h).mono ?_;rintro e w' ⟨rfl,o',out⟩;exact ⟨rfl,o'.congr (fun i hi=>by rw [if_pos hi]),out⟩
theorem zh7 {j n:Nat} (h:j+n≤100000000) (i:Nat):-9223372036854775808≤(if i<n then zdA j i else 0)∧(if i<n then zdA j i else 0)≤9223372036854775807:=by
 by_cases c:i<n
 ·rw [if_pos c,ze7];omega
 ·rw [if_neg c];omega
theorem zfS:MkS zau lenD zdB 44:=fun v d L j w h nd hj=>by
 obtain ⟨v',e1,rfl,o,k⟩:=h
 cases e1
 unfold lenD at hj
 cases hb:v.ownBlock with
 | none=>
  refine (zeJ v d.1 d.2 0 0 j (by omega) (by omega) w (zjd o hb)).mono ?_;rintro e w' ⟨rfl,o',out⟩;exact ⟨rfl,⟨v,rfl,by rw [hb],o'.weaken (Nat.le_refl _) (Nat.zero_le _),zh7 hj⟩,ChgL.of_none out⟩
 | some g=>
  have e:zdC v=g:=by simp [zdC,hb]
  have hg:=(o.1.lt g hb).2;have o2:=zox o;rw [e] at o2;refine (zeJ v d.1 d.2 g (g+1) j (by omega) (by omega) w o2).mono ?_;rintro e w' ⟨rfl,o',out⟩;exact ⟨rfl,⟨v,rfl,by rw [hb],o'.weaken (Nat.zero_le _) (by rw [out.size];exact hg),zh7 hj⟩,ChgL.of_out out (by simp)⟩
theorem ze9:SzS zad lenD 197:=fun v d hi L w h hhi hL=>by
 obtain ⟨v',e1,o,k⟩:=h
 cases e1
 unfold lenD;obtain ⟨n,f⟩:=d;obtain ⟨ao,cap,rfl,hm,hc⟩:=o
 simp only at hm hc ⊢
 unfold maxLen at hm;clear hc k hhi
 by_cases c:n≤L
 ·have c':¬ (L:Int)-(n:Int)<0:=by omega
  go_enter Tryz.func197,Tryz.ntmps197
  go_wp2;go_ret;exact ⟨_,rfl,.inr ⟨c,rfl⟩,Below.refl _ _⟩
 ·have c':(L:Int)-(n:Int)<0:=by omega
  go_enter Tryz.func197,Tryz.ntmps197
  go_wp2;go_ret;exact ⟨_,rfl,.inl rfl,Below.refl _ _⟩
theorem zh8:SzS zau lenD 26:=fun v d hi L w h hhi hL=>by
 obtain ⟨v',e1,o,k⟩:=h
 cases e1
 unfold lenD;obtain ⟨n,f⟩:=d;obtain ⟨ao,cap,rfl,hm,hc⟩:=o.1
 simp only at hm hc ⊢
 unfold maxLen at hm;clear hc k hhi
 by_cases c:n≤L
 ·have c':¬ (L:Int)-(n:Int)<0:=by omega
  go_enter Tryz.func26,Tryz.ntmps26
  go_wp2;go_ret;exact ⟨_,rfl,.inr ⟨c,rfl⟩,Below.refl _ _⟩
 ·have c':(L:Int)-(n:Int)<0:=by omega
  go_enter Tryz.func26,Tryz.ntmps26
  go_wp2;go_ret;exact ⟨_,rfl,.inl rfl,Below.refl _ _⟩
theorem zcO {w:World} {hi:Nat} {p:Nat×(Nat→Nat)} {c:List Value} (h:zad.rd w hi p c):∃ ao cap,c=[.slice ao p.1 cap]:=by
 obtain ⟨v,rfl,⟨ao,cap,rfl,_⟩,_⟩:=h;exact ⟨ao,cap,rfl⟩
theorem zeK {w:World} {hi:Nat} {p:Nat×(Nat→Int)} {c:List Value} (h:zau.rd w hi p c):∃ ao cap,c=[.slice ao p.1 cap]:=by
 obtain ⟨v,rfl,⟨⟨ao,cap,rfl,_⟩,_⟩,_⟩:=h;exact ⟨ao,cap,rfl⟩
theorem zbO {α:Type} {E:Lay α} {t:TypeId} {w:World} {hi:Nat} {p:Nat×(Nat→α)} {c:List Value} (h:(E.slice t).rd w hi p c):∃ ao cap,c=[.slice ao p.1 cap]:=by
 obtain ⟨ao,cap,rfl,_⟩:=h;exact ⟨ao,cap,rfl⟩
theorem zdg {w:World} {p:Nat×(Nat→Nat)} {c:List Value} {L:List Nat} (h:zad.own w p c L):∃ ao cap,c=[.slice ao p.1 cap]:=zcO (zad.own_rd (hi:=w.heap.size) h (zad.own_lt h))
theorem zgV {w:World} {p:Nat×(Nat→Int)} {c:List Value} {L:List Nat} (h:zau.own w p c L):∃ ao cap,c=[.slice ao p.1 cap]:=zeK (zau.own_rd (hi:=w.heap.size) h (zau.own_lt h))
theorem zb4 {α:Type} {E:Lay α} {t:TypeId} {w:World} {p:Nat×(Nat→α)} {c:List Value} {L:List Nat} (h:(E.slice t).own w p c L):∃ ao cap,c=[.slice ao p.1 cap]:=zbO ((E.slice t).own_rd (hi:=w.heap.size) h ((E.slice t).own_lt h))
theorem zch {w:World} {lo hi:Nat} {p:Nat×(Nat→Nat)} {c:List Value} (h:OwnT zad w lo hi p c):∃ ao cap,c=[.slice ao p.1 cap]:=zcO h.rd
theorem zfa {w:World} {lo hi:Nat} {p:Nat×(Nat→Int)} {c:List Value} (h:OwnT zau w lo hi p c):∃ ao cap,c=[.slice ao p.1 cap]:=zeK h.rd
theorem zeL {α:Type} {E:Lay α} {t:TypeId} {w:World} {lo hi:Nat} {p:Nat×(Nat→α)} {c:List Value} (h:OwnT (E.slice t) w lo hi p c):∃ ao cap,c=[.slice ao p.1 cap]:=zbO h.rd
theorem zby {v:Value} {u:Value} (h:[v]=[u]):v=u:=by simpa using h
theorem OwnT.two {α β:Type} {A:Lay α} {B:Lay β} {w:World} {l1 e1 l2 e2:Nat} {a:α} {b:β} {c d:List Value} (h1:OwnT A w l1 e1 a c) (h2:OwnT B w l2 e2 b d) (h:e1≤l2) (h3:l1≤l2) (h4:e1≤e2):OwnT (A.two B) w l1 e2 (a,b) (c++d):=by
 obtain ⟨K,a1,a2,a3⟩:=h1;obtain ⟨M,b1,b2,b3⟩:=h2;refine ⟨K++M,⟨c,d,K,M,rfl,rfl,a1,b1⟩,List.nodup_append.2 ⟨a2,b2,fun x hx y hy hh=>?_⟩,fun x hx=>?_⟩
 ·subst hh
  have:=a3 x hx;have:=b3 x hy;omega
 ·rcases List.mem_append.1 hx with h | h
  ·have:=a3 x h;omega
  ·have:=b3 x h;omega
theorem OwnT.pre {α β:Type} {A:Lay α} {B:Lay β} {w:World} {l e:Nat} {a:α} {b:β} {c d:List Value} (h1:A.own w a c []) (h2:OwnT B w l e b d):OwnT (A.two B) w l e (a,b) (c++d):=by
 obtain ⟨M,b1,b2,b3⟩:=h2;exact ⟨M,⟨c,d,[],M,rfl,rfl,h1,b1⟩,b2,b3⟩
theorem OwnT.nil {α:Type} {A:Lay α} {w:World} {a:α} {c:List Value} (h:A.own w a c []) (l e:Nat):OwnT A w l e a c:=⟨[],h,List.nodup_nil,fun b hb=>by cases hb⟩
theorem OwnT.set {α:Type} {A:Lay α} {w:World} {lo hi b j:Nat} {u:Value} {a:α} {cs:List Value} (h:OwnT A w lo hi a cs) (hb:b<lo):OwnT A (w.setCell ⟨b,j,none⟩ u) lo hi a cs:=
 h.chg (zbd w b (b+1) b j u (Nat.le_refl _) (Nat.lt_succ_self _)).chg (.inr hb)
theorem OwnT.call {α:Type} {A:Lay α} {w w':World} {lo hi:Nat} {a:α} {cs:List Value} (h:OwnT A w lo hi a cs) (hb:Below w.heap.size w w'):OwnT A w' lo hi a cs:=by
 obtain ⟨L,h1,h2,h3⟩:=h;exact ⟨L,A.own_kept h1 (fun b hb'=>hb.block b (A.own_lt h1 b hb')),h2,h3⟩
theorem OwnT.conv {α β:Type} {A:Lay α} {to:β→α} {w:World} {lo hi:Nat} {b:β} {cs:List Value} (h:OwnT A w lo hi (to b) cs):OwnT (A.as to) w lo hi b cs:=h
theorem OwnT.stN {α:Type} {A:Lay α} {w:World} {lo hi:Nat} {a:α} {cs:List Value} (h:OwnT A w lo hi a cs) (b off:Nat) (l:List Value) (hb:b<lo):OwnT A (stN w b off l) lo hi a cs:=by
 obtain ⟨L,h1,h2,h3⟩:=h;exact ⟨L,A.own_kept h1 (fun k hk=>zd5 b k (by have:=h3 k hk;omega) l w off),h2,h3⟩
theorem OwnT.fin {α:Type} {A:Lay α} {w:World} {s:Nat} {a:α} {cs:List Value} (h:OwnT A w (s+1+1+1) w.heap.size a cs) (o1 o2:Nat) (l1 l2:List Value) (w':World) (e:w'=Go.Proofs.YtclclojenogpbaaGreat.stN (Go.Proofs.YtclclojenogpbaaGreat.stN w (s+1+1) o1 l1) (s+1) o2 l2):OwnT A w' s w'.heap.size a cs:=by
 subst e;exact ((h.stN (s+1+1) o1 l1 (by omega)).stN (s+1) o2 l2 (by omega)).weaken (by omega) (by rw [zeH,zeH];exact Nat.le_refl _)
theorem zdJ {w0 w:World} {s:Nat} (h:Below s w0 w) (o1 o2:Nat) (l1 l2:List Value) (w':World) (e:w'=Go.Proofs.YtclclojenogpbaaGreat.stN (Go.Proofs.YtclclojenogpbaaGreat.stN w (s+1+1) o1 l1) (s+1) o2 l2):Below s w0 w':=by
 subst e;exact (h.trans (zbP (by omega) _ _)).trans (zbP (by omega) _ _)
theorem zeM {B b j:Nat} {a w:World} {u:Value} (h:Below B a w) (hb:B≤b):Below B a (w.setCell ⟨b,j,none⟩ u):=h.setCell hb _
theorem Box.setc {w:World} {b:Nat} {cs:Array Value} {t:TypeId} (h:Box w b cs t) (j:Nat) (u:Value):Box (w.setCell ⟨b,j,none⟩ u) b (cs.setIfInBounds j u) t:=by
 unfold Box at h ⊢;have hlt:=(Array.getElem?_eq_some_iff.1 h).1;have he:=(Array.getElem?_eq_some_iff.1 h).2
 simp [World.setCell,hlt,Array.getElem_modify,he]
theorem Box.seto {w:World} {b b':Nat} {cs:Array Value} {t:TypeId} (h:Box w b cs t) (j:Nat) (u:Value) (hne:b≠b'):Box (w.setCell ⟨b',j,none⟩ u) b cs t:=(heap_setCell_other w ⟨b',j,none⟩ b u hne).trans h
theorem Box.stL:∀ (l:List Value) {w:World} {b:Nat} {cs:Array Value} {t:TypeId} (off:Nat),Box w b cs t→Box (Go.Proofs.YtclclojenogpbaaGreat.stN w b off l) b (setL cs.toList off l).toArray t
 | [],w,b,cs,t,off,h=>by simpa [Go.Proofs.YtclclojenogpbaaGreat.stN,setL] using h
 | c::l,w,b,cs,t,off,h=>by
  have h1:=Box.stL l (off+1) (h.setc off c);rw [Array.toList_setIfInBounds] at h1;exact h1
theorem Box.call {w w':World} {b:Nat} {cs:Array Value} {t:TypeId} (h:Box w b cs t) (hb:Below w.heap.size w w'):Box w' b cs t:=h.below hb h.lt
structure One (w wc:World) (c1:Array Value) (t1:TypeId):Prop where
 b1:Box wc w.heap.size c1 t1
 bel:Below w.heap.size w wc
theorem zaD (w:World) (c1:Array Value) (t1:TypeId):One w (w.alloc (.cells c1 t1)) c1 t1:=⟨zas _ _ _,(Below.refl _ _).alloc (Nat.le_refl _) _⟩
theorem One.call {w wc w':World} {c1:Array Value} {t1:TypeId} (h:One w wc c1 t1) (hb:Below wc.heap.size wc w'):One w w' c1 t1:=⟨h.b1.call hb,h.bel.trans (hb.mono h.bel.size)⟩
structure Two (w wc:World) (c1 c2:Array Value) (t1 t2:TypeId):Prop where
 b1:Box wc w.heap.size c1 t1
 b2:Box wc (w.heap.size+1) c2 t2
 bel:Below w.heap.size w wc
theorem zaJ (w:World) (c1 c2:Array Value) (t1 t2:TypeId):Two w ((w.alloc (.cells c1 t1)).alloc (.cells c2 t2)) c1 c2 t1 t2:=by
 have h:=zas (w.alloc (.cells c1 t1)) c2 t2
 have e:(w.alloc (.cells c1 t1)).heap.size=w.heap.size+1:=by simp
 rw [e] at h;exact ⟨((zas w c1 t1).below (B:=w.heap.size+1) ((Below.refl _ _).alloc (by simp) _) (by omega)),h,((Below.refl _ _).alloc (Nat.le_refl _) _).alloc (by simp) _⟩
theorem Two.call {w wc w':World} {c1 c2:Array Value} {t1 t2:TypeId} (h:Two w wc c1 c2 t1 t2) (hb:Below wc.heap.size wc w'):Two w w' c1 c2 t1 t2:=⟨h.b1.call hb,h.b2.call hb,h.bel.trans (hb.mono h.bel.size)⟩
structure Three (w wc:World) (c1 c2 c3:Array Value) (t1 t2 t3:TypeId):Prop where
 b1:Box wc w.heap.size c1 t1
 b2:Box wc (w.heap.size+1) c2 t2
 b3:Box wc (w.heap.size+1+1) c3 t3
 bel:Below w.heap.size w wc
theorem zc8 (w:World) (c1 c2 c3:Array Value) (t1 t2 t3:TypeId):Three w (((w.alloc (.cells c1 t1)).alloc (.cells c2 t2)).alloc (.cells c3 t3)) c1 c2 c3 t1 t2 t3:=by
 have e1:(w.alloc (.cells c1 t1)).heap.size=w.heap.size+1:=by simp
 have e2:((w.alloc (.cells c1 t1)).alloc (.cells c2 t2)).heap.size=w.heap.size+1+1:=by simp
 have k1:=zas w c1 t1;have k2:=zas (w.alloc (.cells c1 t1)) c2 t2;have k3:=zas ((w.alloc (.cells c1 t1)).alloc (.cells c2 t2)) c3 t3;rw [e1] at k2;rw [e2] at k3;have a2:Below (w.heap.size+1) (w.alloc (.cells c1 t1)) ((w.alloc (.cells c1 t1)).alloc (.cells c2 t2)):=(Below.refl _ _).alloc (by simp) _;have a3:Below (w.heap.size+1+1) ((w.alloc (.cells c1 t1)).alloc (.cells c2 t2)) (((w.alloc (.cells c1 t1)).alloc (.cells c2 t2)).alloc (.cells c3 t3)):=(Below.refl _ _).alloc (by simp) _;exact ⟨(k1.below a2 (by omega)).below a3 (by omega),k2.below a3 (by omega),k3,(((Below.refl _ _).alloc (Nat.le_refl _) _).alloc (by simp) _).alloc (by simp<;>omega) _⟩
section
variable {w wc w':World} {c1 c2 c3:Array Value} {t1 t2 t3:TypeId}
theorem Three.call (h:Three w wc c1 c2 c3 t1 t2 t3) (hb:Below wc.heap.size wc w'):Three w w' c1 c2 c3 t1 t2 t3:=⟨h.b1.call hb,h.b2.call hb,h.b3.call hb,h.bel.trans (hb.mono h.bel.size)⟩
theorem Three.set3 (h:Three w wc c1 c2 c3 t1 t2 t3) (j:Nat) (u:Value):Three w (wc.setCell ⟨w.heap.size+1+1,j,none⟩ u) c1 c2 (c3.setIfInBounds j u) t1 t2 t3:=
 ⟨h.b1.seto _ _ (by omega),h.b2.seto _ _ (by omega),h.b3.setc j u,h.bel.setCell (by show w.heap.size≤w.heap.size+1+1;omega) _⟩
theorem Three.st3 (h:Three w wc c1 c2 c3 t1 t2 t3) (off:Nat) (l:List Value) {c3':List Value} (e:setL c3.toList off l=c3'):Three w (Go.Proofs.YtclclojenogpbaaGreat.stN wc (w.heap.size+1+1) off l) c1 c2 c3'.toArray t1 t2 t3:=by
 subst e;refine ⟨?_,?_,h.b3.stL l off,h.bel.trans (zbP (by omega) _ _)⟩
 ·exact (zd5 _ _ (by omega) l wc off).trans h.b1
 ·exact (zd5 _ _ (by omega) l wc off).trans h.b2
theorem Three.lt (h:Three w wc c1 c2 c3 t1 t2 t3):w.heap.size+1+1+1≤wc.heap.size:=h.b3.lt
end
def SlK {α:Type} (E:Lay α) (t:TypeId) (w:World) (g cap n:Nat) (x:Nat→α) (ce:Nat→List Value) (Ls:Nat→List Nat) (k:Nat) (a:α) (cs:List Value):Prop:=SlO E t w g cap n (upd x k a) (upd ce k cs) Ls
theorem zhh {β:Type} (f:Nat→β) (i:Nat):upd f i (f i)=f:=by
 funext k
 by_cases c:k=i
 ·subst c;rw [zbf]
 ·rw [zbx f _ c]
theorem zje {β:Type} (f:Nat→β) (i:Nat) (a b:β):upd (upd f i a) i b=upd f i b:=by
 funext k
 by_cases c:k=i
 ·subst c;rw [zbf,zbf]
 ·rw [zbx _ _ c,zbx _ _ c,zbx _ _ c]
section
variable {α:Type} {E:Lay α} {t:TypeId} {w w':World} {g cap n:Nat} {x:Nat→α} {ce:Nat→List Value} {Ls:Nat→List Nat} {k:Nat} {a a':α} {cs:List Value}
theorem SlO.at_ (h:SlO E t w g cap n x ce Ls) (k:Nat):SlK E t w g cap n x ce Ls k (x k) (ce k):=by
 unfold SlK;rw [zhh,zhh];exact h
theorem SlK.cell (h:SlK E t w g cap n x ce Ls k a cs) (hk:k<n) {j:Nat} (hj:j<E.sz):w.cell? ⟨g,k*E.sz+j,none⟩=cs[j]?:=by
 have:=SlO.cell h hk hj;rw [zbf] at this;exact this
theorem SlK.frozen (h:SlK E t w g cap n x ce Ls k a cs) (j:Nat):w.frozen? ⟨g,j,none⟩=false:=SlO.frozen h j
theorem SlK.own (h:SlK E t w g cap n x ce Ls k a cs) (hk:k<n):E.own w a cs (Ls k):=by
 have:=SlO.each h k hk;rw [zbf,zbf] at this;exact this
theorem SlK.store (h:SlK E t w g cap n x ce Ls k a cs) (nd:(g::catN n Ls).Nodup) (hk:k<n) {j:Nat} (hj:j<E.sz) (u:Value) (ha:E.own w a' (cs.set j u) (Ls k)) :
 SlK E t (w.setCell ⟨g,k*E.sz+j,none⟩ u) g cap n x ce Ls k a' (cs.set j u):=by
 have:=SlO.store (a':=a') h nd hk hj u (by rw [zbf];exact ha);rw [zbf,zje,zje] at this;exact this
theorem SlK.into (h:SlK E t w g cap n x ce Ls k a cs) (nd:(g::catN n Ls).Nodup) (hk:k<n) (hc:ChgL (Ls k) w w') (ha:E.own w' a' cs (Ls k)):SlK E t w' g cap n x ce Ls k a' cs:=by
 have:=SlO.into (a':=a') h nd hk hc (by rw [zbf];exact ha);rw [zje] at this;exact this
theorem SlO.sub (k:Nat) (hk:k<n):∀ b,b∈Ls k→b∈g::catN n Ls:=fun b hb=>List.mem_cons_of_mem _ (zbw.2 ⟨k,hk,hb⟩)
theorem zeN (nd:(g::catN n Ls).Nodup) (k:Nat) (hk:k<n):(Ls k).Nodup:=by
 have h:=(List.nodup_cons.1 nd).2;clear nd
 induction n with
 | zero=>omega
 | succ n ih=>
  rw [zbq] at h;obtain ⟨h1,h2,_⟩:=List.nodup_append.1 h
  by_cases c:k=n
  ·subst c;exact h2
  ·exact ih (by omega) h1
theorem zcU {p q:Nat×(Nat→α)} {L:List Nat} (h:(E.slice t).own w p cs L) (e:p.1=q.1) (hx:∀ i,i<p.1→p.2 i=q.2 i):(E.slice t).own w q cs L:=by
 obtain ⟨v,ce,Ls,h1,h2,h3,h4⟩:=h;exact ⟨v,ce,Ls,h1,by rw [← e];exact h2,by rw [← e];exact h3,fun i hi=>by rw [← hx i (by omega)];exact h4 i (by omega)⟩
theorem SlO.congr {y:Nat→α} (h:SlO E t w g cap n x ce Ls) (hx:∀ i,i<n→x i=y i):SlO E t w g cap n y ce Ls:=⟨h.row,fun i hi=>by rw [← hx i hi];exact h.each i hi⟩
end
def mkTo {α:Type} (c:α→Nat) (mk:Nat→α→α) (j:Nat) (x:Nat→α) (k:Nat):Nat→α:=fun i=>if i<k then mk (j+sumN (fun i=>c (x i)) i) (x i) else x i
theorem zfT {α:Type} (c:α→Nat) (mk:Nat→α→α) (j:Nat) (x:Nat→α) (k:Nat):mkTo c mk j x k k=x k:=by simp [mkTo]
theorem zdK {α:Type} (c:α→Nat) (mk:Nat→α→α) (j:Nat) (x:Nat→α) (k:Nat):upd (mkTo c mk j x k) k (mk (j+sumN (fun i=>c (x i)) k) (x k))=mkTo c mk j x (k+1):=by
 funext i
 by_cases h:i=k
 ·subst h;rw [zbf];simp [mkTo]
 ·rw [zbx _ _ h]
  unfold mkTo
  by_cases h2:i<k
  ·rw [if_pos h2,if_pos (by omega)]
  ·rw [if_neg h2,if_neg (by omega)]
theorem zdL {α:Type} (c:α→Nat) (mk:Nat→α→α) (j:Nat) (x:Nat→α):mkTo c mk j x 0=x:=by
 funext i
 simp [mkTo]
theorem zdM {α:Type} (c:α→Nat) (mk:Nat→α→α) (j:Nat) (x:Nat→α) (n i:Nat) (h:i<n):mkTo c mk j x n i=(mkSl c mk j (n,x)).2 i:=by simp [mkTo,mkSl,h]
theorem SlP.some {α:Type} {E:Lay α} {t:TypeId} {w w':World} {lo g cap n k:Nat} {x:Nat→α} {ce:Nat→List Value} {Ls:Nat→List Nat} (h:SlP E t w lo g cap n k x ce Ls) (hb:Below w.heap.size w w') {i j:Nat} (hi:i<n) (hj:j<E.sz):∃ u,w'.cell? ⟨g,i*E.sz+j,none⟩=some u:=by
 have h':=h.below hb;rw [h'.cell hi hj];exact ⟨_,List.getElem?_eq_getElem (by rw [h'.lens i hi];exact hj)⟩
theorem SlP.next {α:Type} {E:Lay α} {t:TypeId} {w1 w:World} {lo g cap n k:Nat} {x:Nat→α} {ce:Nat→List Value} {Ls:Nat→List Nat} (h1:SlP E t w1 lo g cap n k x ce Ls) (hb:Below w1.heap.size w1 w) (hk:k<n) {cs:List Value} (ha:OwnT E w w1.heap.size w.heap.size (x k) cs) (hlo:lo≤w1.heap.size) :
 ∃ ce' Ls',SlP E t (stN w g (k*E.sz) cs) lo g cap n (k+1) x ce' Ls':=by
 obtain ⟨K,a1,a2,a3⟩:=ha;have:=h1.lay hb hk a1 a2 (fun b hb=>(a3 b hb).1) hlo;rw [zhh] at this;exact ⟨_,_,this⟩
theorem zaG {α:Type} {E:Lay α} {t:TypeId} {w wr:World} {hi n:Nat} {x:Nat→α} {b off:Nat} (hel:∀ i,i<n→∃ ce,E.rd w hi (x i) ce∧∀ j,j<E.sz→w.cell? ⟨b,off+(i*E.sz+j),none⟩=ce[j]?) (hb:Below w.heap.size w wr) (hhi:hi≤w.heap.size) (hbh:b<hi) {k:Nat} (hk:k<n) :
 ∃ ce,E.rd wr hi (x k) ce∧∀ j,j<E.sz→wr.cell? ⟨b,off+(k*E.sz+j),none⟩=ce[j]?:=by
 obtain ⟨ce,h1,h2⟩:=hel k hk;exact ⟨ce,E.rd_below h1 hb hhi,fun j hj=>(hb.cell (p:=⟨b,off+(k*E.sz+j),none⟩) (by show b<w.heap.size;omega)).trans (h2 j hj)⟩
theorem zan {α:Type} {A:Lay α} {w:World} {a:α} {cs:List Value} {K:List Nat} {g j:Nat} {u:Value} (h:A.own w a cs K) (hg:g∉K):A.own (w.setCell ⟨g,j,none⟩ u) a cs K:=
 A.own_kept h (fun b hb=>heap_setCell_other w _ b u (fun hh=>hg (by have e:b=g:=hh;rw [← e];exact hb)))
theorem zkA {g n k:Nat} {Ls:Nat→List Nat} (nd:(g::catN n Ls).Nodup) (hk:k<n):g∉Ls k:=fun h=>(List.nodup_cons.1 nd).1 (zbw.2 ⟨k,hk,h⟩)
theorem ChgL.st {K:List Nat} {w0 w:World} (h:ChgL K w0 w) (b j:Nat) (u:Value) (hb:b∈K):ChgL K w0 (w.setCell ⟨b,j,none⟩ u):=h.trans (ChgL.store K w b j u hb)
theorem ChgL.sub {K M:List Nat} {w0 w w':World} (h:ChgL K w0 w) (h2:ChgL M w w') (hs:∀ b,b∈M→b∈K):ChgL K w0 w':=h.trans (h2.mono hs)
theorem SlO.mem_lt {α:Type} {E:Lay α} {t:TypeId} {w:World} {g cap n:Nat} {x:Nat→α} {ce:Nat→List Value} {Ls:Nat→List Nat} (h:SlO E t w g cap n x ce Ls):∀ b,b∈g::catN n Ls→b<w.heap.size:=fun b hb=>by
 rcases List.mem_cons.1 hb with rfl | hb
 ·exact h.lt
 ·obtain ⟨i,hi,hbi⟩:=zbw.1 hb
  exact E.own_lt (h.each i hi) b hbi
def digT:Nat→Nat→ByteArray→ByteArray
 | 0,_,out=>out
 | f+1,k,out=>if k=0 then out else digT f (k/10) (strOfNums [48+(k:Int)%10]++out)
def zbC (k:Nat):ByteArray:=ByteArray.mk #[109]++digT 20 k ByteArray.empty
theorem zmr (f:Nat) (out:ByteArray):digT f 0 out=out:=by
 cases f<;>simp [digT]
theorem zfU (x:Int):(strOfNums [x]).size=1:=rfl
theorem zh9:∀ (f k:Nat) (out:ByteArray),(digT f k out).size≤f+out.size
 | 0,k,out=>by simp [digT]
 | f+1,k,out=>by
  rw [digT]
  split
  ·omega
  ·have:=zh9 f (k/10) (strOfNums [48+(k:Int)%10]++out)
   rw [ByteArray.size_append,zfU] at this;omega
theorem zdh (k:Nat):(zbC k).size≤maxLen:=by
 have:=zh9 20 k ByteArray.empty;have e0:ByteArray.empty.size=0:=rfl
 have e:(zbC k).size=1+(digT 20 k ByteArray.empty).size:=by unfold zbC;rw [ByteArray.size_append];rfl
 rw [e];unfold maxLen;omega
theorem zia (k0:Nat) (h0:0<k0) (h1:k0≤1000000000) (w:World) :
 Calls Tryz.prog 124 #[.int .i64 k0] w fun e w'=>e=.returned (.string (zbC k0))∧Below w.heap.size w w':=by
 go_enter Tryz.func124,Tryz.ntmps124
 go_wp2
 go_loopw [0,3] (fun y s wr=>∃ (k f:Nat) (out:ByteArray),y=.int .i64 k∧s=.string out∧k<10 ^ f∧k≤1000000000∧f≤20∧out.size≤20-f∧digT f k out=digT 20 k0 ByteArray.empty∧Below w.heap.size w wr) (fun y _ _=>(intOf y).toNat)
 case atStart=>exact ⟨k0,20,ByteArray.empty,rfl,rfl,by omega,by omega,by omega,by simp,rfl,Below.refl _ _⟩
 case round=>
  obtain ⟨k,f,out,rfl,rfl,hk,hkb,hf,hsz,hd,hb⟩:=hrel;have HD:=hid hd;clear hd;have HP:=hid hk;clear hk
  by_cases hk0:k=0
  ·subst hk0
   go_wp2;go_ret;have e:=HD.out;rw [zmr] at e;exact ⟨by unfold zbC;rw [← e];rfl,hb⟩
  ·obtain ⟨f',hf'⟩:∃ f',f=f'+1:=by
    cases f with
    | zero=>exact absurd HP.out (by simp;omega)
    | succ f'=>exact ⟨f',rfl⟩
   have HF:=hid hf';clear hf'
   have h48:(48+(k:Int)%10)%256=48+(k:Int)%10:=by omega
   have HC:∀ ct,(convert 30 9 (.slice (some ⟨wr.heap.size,0,none⟩) 1 ct)).run Tryz.prog (wr.alloc (.cells #[.int .u8 (48+(k:Int)%10)] 5))=.ok (.string (strOfNums [48+(k:Int)%10])) (wr.alloc (.cells #[.int .u8 (48+(k:Int)%10)] 5)):=fun ct=>
    run_convert_bytes_arg _ _ _ Tryz.underlying30 Tryz.underlying5 wr.heap.size 0 1 ct [48+(k:Int)%10] rfl (fun i hi=>by
     obtain rfl:i=0:=by omega
     exact (zas wr #[.int .u8 (48+(k:Int)%10)] 5).cell 0) _ Tryz.underlying9
   have hadd:¬ (strOfNums [48+(k:Int)%10]).size+out.size > 9223372036854775807:=by rw [zfU];omega
   go_wp2
   go_roundw
   case rel=>
    have e:=HD.out;have p:=HP.out;have q:=HF.out;subst q;rw [digT,if_neg hk0] at e;rw [Nat.pow_succ] at p;exact ⟨k/10,f',_,zbo (by omega),rfl,by omega,by omega,by omega,by rw [ByteArray.size_append,zfU];omega,e,hb.alloc hb.size _⟩
   case measure=>simp [intOf];omega
theorem zbK {w:World} {hi:Nat} {d:BlockD} {cs:List Value} (h:zav.rd w hi d cs):∃ ao1 cap1,cs=[.int .i64 d.stamp,.slice ao1 d.bytes.1 cap1]∧zad.rd w hi d.bytes [.slice ao1 d.bytes.1 cap1]∧(-9223372036854775808≤d.stamp∧d.stamp≤9223372036854775807):=by
 obtain ⟨c0,r0,rfl,h0,h1⟩:=h;obtain ⟨rfl,k0⟩:=h0;obtain ⟨ao1,cap1,rfl⟩:=zcO h1;exact ⟨ao1,cap1,rfl,h1,k0⟩
theorem zib {w:World} {d:BlockD} {cs:List Value} {L:List Nat} (h:zav.own w d cs L):∃ ao1 cap1 K1,cs=[.int .i64 d.stamp,.slice ao1 d.bytes.1 cap1]∧L=K1∧zad.own w d.bytes [.slice ao1 d.bytes.1 cap1] K1∧(-9223372036854775808≤d.stamp∧d.stamp≤9223372036854775807):=by
 obtain ⟨c0,r0,L0,M0,rfl,rfl,h0,h1⟩:=h;obtain ⟨rfl,k0,rfl⟩:=h0;obtain ⟨ao1,cap1,rfl⟩:=zdg h1;exact ⟨ao1,cap1,_,rfl,rfl,h1,k0⟩
theorem zic {w:World} {d:BlockD} {cs:List Value} {L:List Nat} (h:zav.own w d cs L):∃ ao1 cap1,cs=[.int .i64 d.stamp,.slice ao1 d.bytes.1 cap1]:=by
 obtain ⟨ao1,cap1,K1,rfl,-⟩:=zib h;exact ⟨ao1,cap1,rfl⟩
theorem zjf {w:World} {lo hi:Nat} {d:BlockD} {cs:List Value} (h:OwnT zav w lo hi d cs):∃ ao1 cap1,cs=[.int .i64 d.stamp,.slice ao1 d.bytes.1 cap1]:=by
 obtain ⟨L,h1,-⟩:=h;exact zic h1
theorem zkB {w:World} (d:BlockD) {ao1:Option Addr} {cap1:Nat} {K1:List Nat} (h1:zad.own w d.bytes [.slice ao1 d.bytes.1 cap1] K1) (k0:(-9223372036854775808≤d.stamp∧d.stamp≤9223372036854775807)):zav.own w d [.int .i64 d.stamp,.slice ao1 d.bytes.1 cap1] (K1):=⟨_,_,[],K1,rfl,rfl,⟨rfl,k0,rfl⟩,h1⟩
def za4 (d:BlockD):Nat:=lenD d.bytes
def za1 (d:BlockD):Nat:=1+lenD d.bytes
def zbR (j:Nat) (d:BlockD):BlockD:=⟨((j:Nat):Int),zbS (j+1) d.bytes⟩
theorem zbz {w:World} {hi:Nat} {d:DriveD} {cs:List Value} (h:zae.rd w hi d cs):∃ ao1 cap1,cs=[.bool d.wiped,.slice ao1 d.blocks.1 cap1]∧(zav.slice 126).rd w hi d.blocks [.slice ao1 d.blocks.1 cap1]:=by
 obtain ⟨c0,r0,rfl,h0,h1⟩:=h;obtain ⟨rfl,k0⟩:=h0;obtain ⟨ao1,cap1,rfl⟩:=zbO h1;exact ⟨ao1,cap1,rfl,h1⟩
theorem zid {w:World} {d:DriveD} {cs:List Value} {L:List Nat} (h:zae.own w d cs L):∃ ao1 cap1 K1,cs=[.bool d.wiped,.slice ao1 d.blocks.1 cap1]∧L=K1∧(zav.slice 126).own w d.blocks [.slice ao1 d.blocks.1 cap1] K1:=by
 obtain ⟨c0,r0,L0,M0,rfl,rfl,h0,h1⟩:=h;obtain ⟨rfl,k0,rfl⟩:=h0;obtain ⟨ao1,cap1,rfl⟩:=zb4 h1;exact ⟨ao1,cap1,_,rfl,rfl,h1⟩
theorem zie {w:World} {d:DriveD} {cs:List Value} {L:List Nat} (h:zae.own w d cs L):∃ ao1 cap1,cs=[.bool d.wiped,.slice ao1 d.blocks.1 cap1]:=by
 obtain ⟨ao1,cap1,K1,rfl,-⟩:=zid h;exact ⟨ao1,cap1,rfl⟩
theorem zjg {w:World} {lo hi:Nat} {d:DriveD} {cs:List Value} (h:OwnT zae w lo hi d cs):∃ ao1 cap1,cs=[.bool d.wiped,.slice ao1 d.blocks.1 cap1]:=by
 obtain ⟨L,h1,-⟩:=h;exact zie h1
theorem zkC {w:World} (d:DriveD) {ao1:Option Addr} {cap1:Nat} {K1:List Nat} (h1:(zav.slice 126).own w d.blocks [.slice ao1 d.blocks.1 cap1] K1):zae.own w d [.bool d.wiped,.slice ao1 d.blocks.1 cap1] (K1):=⟨_,_,[],K1,rfl,rfl,⟨rfl,trivial,rfl⟩,h1⟩
def zaC (d:DriveD):Nat:=(szSl za4) d.blocks
def zar (d:DriveD):Nat:=1+(cSl za1) d.blocks
def za5 (j:Nat) (d:DriveD):DriveD:=⟨decide ((j)%3=0),(mkSl za1 zbR) (j+1) d.blocks⟩
theorem zaP {w:World} {hi:Nat} {d:RecD} {cs:List Value} (h:zab.rd w hi d cs):∃ ao6 cap6 ao7 cap7 ao8 cap8,cs=[.int .i64 d.kind,.int .i64 d.seq,.string d.name,.int .i64 d.length,.int .i64 d.group,.int .i64 d.row,.slice ao6 d.rows.1 cap6,.slice ao7 d.data.1 cap7,.slice ao8 d.delta.1 cap8]∧zau.rd w hi d.rows [.slice ao6 d.rows.1 cap6]∧zad.rd w hi d.data [.slice ao7 d.data.1 cap7]∧zad.rd w hi d.delta [.slice ao8 d.delta.1 cap8]∧(-9223372036854775808≤d.kind∧d.kind≤9223372036854775807)∧(-9223372036854775808≤d.seq∧d.seq≤9223372036854775807)∧d.name.size≤maxLen∧(-9223372036854775808≤d.length∧d.length≤9223372036854775807)∧(-9223372036854775808≤d.group∧d.group≤9223372036854775807)∧(-9223372036854775808≤d.row∧d.row≤9223372036854775807):=by
 obtain ⟨c0,r0,rfl,h0,c1,r1,rfl,h1,c2,r2,rfl,h2,c3,r3,rfl,h3,c4,r4,rfl,h4,c5,r5,rfl,h5,c6,r6,rfl,h6,c7,r7,rfl,h7,h8⟩:=h;obtain ⟨rfl,k0⟩:=h0;obtain ⟨rfl,k1⟩:=h1;obtain ⟨rfl,k2⟩:=h2;obtain ⟨rfl,k3⟩:=h3;obtain ⟨rfl,k4⟩:=h4;obtain ⟨rfl,k5⟩:=h5;obtain ⟨ao6,cap6,rfl⟩:=zeK h6;obtain ⟨ao7,cap7,rfl⟩:=zcO h7;obtain ⟨ao8,cap8,rfl⟩:=zcO h8;exact ⟨ao6,cap6,ao7,cap7,ao8,cap8,rfl,h6,h7,h8,k0,k1,k2,k3,k4,k5⟩
theorem zjh {w:World} {d:RecD} {cs:List Value} {L:List Nat} (h:zab.own w d cs L):∃ ao6 cap6 ao7 cap7 ao8 cap8 K6 K7 K8,cs=[.int .i64 d.kind,.int .i64 d.seq,.string d.name,.int .i64 d.length,.int .i64 d.group,.int .i64 d.row,.slice ao6 d.rows.1 cap6,.slice ao7 d.data.1 cap7,.slice ao8 d.delta.1 cap8]∧L=K6++(K7++K8)∧zau.own w d.rows [.slice ao6 d.rows.1 cap6] K6∧zad.own w d.data [.slice ao7 d.data.1 cap7] K7∧zad.own w d.delta [.slice ao8 d.delta.1 cap8] K8∧(-9223372036854775808≤d.kind∧d.kind≤9223372036854775807)∧(-9223372036854775808≤d.seq∧d.seq≤9223372036854775807)∧d.name.size≤maxLen∧(-9223372036854775808≤d.length∧d.length≤9223372036854775807)∧(-9223372036854775808≤d.group∧d.group≤9223372036854775807)∧(-9223372036854775808≤d.row∧d.row≤9223372036854775807):=by
 obtain ⟨c0,r0,L0,M0,rfl,rfl,h0,c1,r1,L1,M1,rfl,rfl,h1,c2,r2,L2,M2,rfl,rfl,h2,c3,r3,L3,M3,rfl,rfl,h3,c4,r4,L4,M4,rfl,rfl,h4,c5,r5,L5,M5,rfl,rfl,h5,c6,r6,L6,M6,rfl,rfl,h6,c7,r7,L7,M7,rfl,rfl,h7,h8⟩:=h;obtain ⟨rfl,k0,rfl⟩:=h0;obtain ⟨rfl,k1,rfl⟩:=h1;obtain ⟨rfl,k2,rfl⟩:=h2;obtain ⟨rfl,k3,rfl⟩:=h3;obtain ⟨rfl,k4,rfl⟩:=h4;obtain ⟨rfl,k5,rfl⟩:=h5;obtain ⟨ao6,cap6,rfl⟩:=zgV h6;obtain ⟨ao7,cap7,rfl⟩:=zdg h7;obtain ⟨ao8,cap8,rfl⟩:=zdg h8;exact ⟨ao6,cap6,ao7,cap7,ao8,cap8,L6,L7,_,rfl,rfl,h6,h7,h8,k0,k1,k2,k3,k4,k5⟩
theorem zk6 {w:World} {d:RecD} {cs:List Value} {L:List Nat} (h:zab.own w d cs L):∃ ao6 cap6 ao7 cap7 ao8 cap8,cs=[.int .i64 d.kind,.int .i64 d.seq,.string d.name,.int .i64 d.length,.int .i64 d.group,.int .i64 d.row,.slice ao6 d.rows.1 cap6,.slice ao7 d.data.1 cap7,.slice ao8 d.delta.1 cap8]:=by
 obtain ⟨ao6,cap6,ao7,cap7,ao8,cap8,K6,K7,K8,rfl,-⟩:=zjh h;exact ⟨ao6,cap6,ao7,cap7,ao8,cap8,rfl⟩
theorem zif {w:World} {lo hi:Nat} {d:RecD} {cs:List Value} (h:OwnT zab w lo hi d cs):∃ ao6 cap6 ao7 cap7 ao8 cap8,cs=[.int .i64 d.kind,.int .i64 d.seq,.string d.name,.int .i64 d.length,.int .i64 d.group,.int .i64 d.row,.slice ao6 d.rows.1 cap6,.slice ao7 d.data.1 cap7,.slice ao8 d.delta.1 cap8]:=by
 obtain ⟨L,h1,-⟩:=h;exact zk6 h1
theorem zeO {w:World} (d:RecD) {ao6 ao7 ao8:Option Addr} {cap6 cap7 cap8:Nat} {K6 K7 K8:List Nat} (h6:zau.own w d.rows [.slice ao6 d.rows.1 cap6] K6) (h7:zad.own w d.data [.slice ao7 d.data.1 cap7] K7) (h8:zad.own w d.delta [.slice ao8 d.delta.1 cap8] K8) (k0:(-9223372036854775808≤d.kind∧d.kind≤9223372036854775807)) (k1:(-9223372036854775808≤d.seq∧d.seq≤9223372036854775807)) (k2:d.name.size≤maxLen) (k3:(-9223372036854775808≤d.length∧d.length≤9223372036854775807)) (k4:(-9223372036854775808≤d.group∧d.group≤9223372036854775807)) (k5:(-9223372036854775808≤d.row∧d.row≤9223372036854775807)):zab.own w d [.int .i64 d.kind,.int .i64 d.seq,.string d.name,.int .i64 d.length,.int .i64 d.group,.int .i64 d.row,.slice ao6 d.rows.1 cap6,.slice ao7 d.data.1 cap7,.slice ao8 d.delta.1 cap8] (K6++(K7++K8)):=⟨_,_,[],(K6++(K7++K8)),rfl,rfl,⟨rfl,k0,rfl⟩,⟨_,_,[],(K6++(K7++K8)),rfl,rfl,⟨rfl,k1,rfl⟩,⟨_,_,[],(K6++(K7++K8)),rfl,rfl,⟨rfl,k2,rfl⟩,⟨_,_,[],(K6++(K7++K8)),rfl,rfl,⟨rfl,k3,rfl⟩,⟨_,_,[],(K6++(K7++K8)),rfl,rfl,⟨rfl,k4,rfl⟩,⟨_,_,[],(K6++(K7++K8)),rfl,rfl,⟨rfl,k5,rfl⟩,⟨_,_,K6,(K7++K8),rfl,rfl,h6,⟨_,_,K7,K8,rfl,rfl,h7,h8⟩⟩⟩⟩⟩⟩⟩⟩
def zaQ (d:RecD):Nat:=d.name.size+lenD d.rows+lenD d.data+lenD d.delta
def zbD (d:RecD):Nat:=6+lenD d.rows+lenD d.data+lenD d.delta
def zbV (j:Nat) (d:RecD):RecD:=⟨((j:Nat):Int),((j+1:Nat):Int),zbC (j+2),((j+3:Nat):Int),((j+4:Nat):Int),((j+5:Nat):Int),zdB (j+6) d.rows,zbS (j+6+lenD d.rows) d.data,zbS (j+6+lenD d.rows+lenD d.data) d.delta⟩
theorem zbE {w:World} {hi:Nat} {d:TapeD} {cs:List Value} (h:zao.rd w hi d cs):∃ ao1 cap1,cs=[.bool d.wiped,.slice ao1 d.recs.1 cap1]∧(zab.slice 72).rd w hi d.recs [.slice ao1 d.recs.1 cap1]:=by
 obtain ⟨c0,r0,rfl,h0,h1⟩:=h;obtain ⟨rfl,k0⟩:=h0;obtain ⟨ao1,cap1,rfl⟩:=zbO h1;exact ⟨ao1,cap1,rfl,h1⟩
theorem zkD {w:World} {d:TapeD} {cs:List Value} {L:List Nat} (h:zao.own w d cs L):∃ ao1 cap1 K1,cs=[.bool d.wiped,.slice ao1 d.recs.1 cap1]∧L=K1∧(zab.slice 72).own w d.recs [.slice ao1 d.recs.1 cap1] K1:=by
 obtain ⟨c0,r0,L0,M0,rfl,rfl,h0,h1⟩:=h;obtain ⟨rfl,k0,rfl⟩:=h0;obtain ⟨ao1,cap1,rfl⟩:=zb4 h1;exact ⟨ao1,cap1,_,rfl,rfl,h1⟩
theorem zji {w:World} {d:TapeD} {cs:List Value} {L:List Nat} (h:zao.own w d cs L):∃ ao1 cap1,cs=[.bool d.wiped,.slice ao1 d.recs.1 cap1]:=by
 obtain ⟨ao1,cap1,K1,rfl,-⟩:=zkD h;exact ⟨ao1,cap1,rfl⟩
theorem zk7 {w:World} {lo hi:Nat} {d:TapeD} {cs:List Value} (h:OwnT zao w lo hi d cs):∃ ao1 cap1,cs=[.bool d.wiped,.slice ao1 d.recs.1 cap1]:=by
 obtain ⟨L,h1,-⟩:=h;exact zji h1
theorem zms {w:World} (d:TapeD) {ao1:Option Addr} {cap1:Nat} {K1:List Nat} (h1:(zab.slice 72).own w d.recs [.slice ao1 d.recs.1 cap1] K1):zao.own w d [.bool d.wiped,.slice ao1 d.recs.1 cap1] (K1):=⟨_,_,[],K1,rfl,rfl,⟨rfl,trivial,rfl⟩,h1⟩
def za2 (d:TapeD):Nat:=(szSl zaQ) d.recs
def zbA (d:TapeD):Nat:=1+(cSl zbD) d.recs
def zc3 (j:Nat) (d:TapeD):TapeD:=⟨decide ((j)%3=0),(mkSl zbD zbV) (j+1) d.recs⟩
theorem zaE {w:World} {hi:Nat} {d:WorldD} {cs:List Value} (h:zaf.rd w hi d cs):∃ ao1 cap1 ao2 cap2 ao3 cap3,cs=[.int .i64 (d.shape 0),.int .i64 (d.shape 1),.int .i64 (d.shape 2),.int .i64 (d.shape 3),.int .i64 (d.shape 4),.int .i64 (d.shape 5),.int .i64 (d.shape 6),.int .i64 (d.shape 7),.int .i64 (d.shape 8),.slice ao1 d.groups.1 cap1,.slice ao2 d.on.1 cap2,.slice ao3 d.tapes.1 cap3,.int .i64 d.writes,.int .i64 d.stop,.bool d.down]∧((zae.slice 124).slice 109).rd w hi d.groups [.slice ao1 d.groups.1 cap1]∧zau.rd w hi d.on [.slice ao2 d.on.1 cap2]∧(zao.slice 112).rd w hi d.tapes [.slice ao3 d.tapes.1 cap3]∧(∀ i,-9223372036854775808≤d.shape i∧d.shape i≤9223372036854775807)∧(-9223372036854775808≤d.writes∧d.writes≤9223372036854775807)∧(-9223372036854775808≤d.stop∧d.stop≤9223372036854775807):=by
 obtain ⟨c0,r0,rfl,h0,c1,r1,rfl,h1,c2,r2,rfl,h2,c3,r3,rfl,h3,c4,r4,rfl,h4,c5,r5,rfl,h5,h6⟩:=h;obtain ⟨rfl,k0⟩:=h0;obtain ⟨ao1,cap1,rfl⟩:=zbO h1;obtain ⟨ao2,cap2,rfl⟩:=zeK h2;obtain ⟨ao3,cap3,rfl⟩:=zbO h3;obtain ⟨rfl,k4⟩:=h4;obtain ⟨rfl,k5⟩:=h5;obtain ⟨rfl,k6⟩:=h6;exact ⟨ao1,cap1,ao2,cap2,ao3,cap3,rfl,h1,h2,h3,k0,k4,k5⟩
theorem zmt {w:World} {d:WorldD} {cs:List Value} {L:List Nat} (h:zaf.own w d cs L):∃ ao1 cap1 ao2 cap2 ao3 cap3 K1 K2 K3,cs=[.int .i64 (d.shape 0),.int .i64 (d.shape 1),.int .i64 (d.shape 2),.int .i64 (d.shape 3),.int .i64 (d.shape 4),.int .i64 (d.shape 5),.int .i64 (d.shape 6),.int .i64 (d.shape 7),.int .i64 (d.shape 8),.slice ao1 d.groups.1 cap1,.slice ao2 d.on.1 cap2,.slice ao3 d.tapes.1 cap3,.int .i64 d.writes,.int .i64 d.stop,.bool d.down]∧L=K1++(K2++(K3++[]))∧((zae.slice 124).slice 109).own w d.groups [.slice ao1 d.groups.1 cap1] K1∧zau.own w d.on [.slice ao2 d.on.1 cap2] K2∧(zao.slice 112).own w d.tapes [.slice ao3 d.tapes.1 cap3] K3∧(∀ i,-9223372036854775808≤d.shape i∧d.shape i≤9223372036854775807)∧(-9223372036854775808≤d.writes∧d.writes≤9223372036854775807)∧(-9223372036854775808≤d.stop∧d.stop≤9223372036854775807):=by
 obtain ⟨c0,r0,L0,M0,rfl,rfl,h0,c1,r1,L1,M1,rfl,rfl,h1,c2,r2,L2,M2,rfl,rfl,h2,c3,r3,L3,M3,rfl,rfl,h3,c4,r4,L4,M4,rfl,rfl,h4,c5,r5,L5,M5,rfl,rfl,h5,h6⟩:=h;obtain ⟨rfl,k0,rfl⟩:=h0;obtain ⟨ao1,cap1,rfl⟩:=zb4 h1;obtain ⟨ao2,cap2,rfl⟩:=zgV h2;obtain ⟨ao3,cap3,rfl⟩:=zb4 h3;obtain ⟨rfl,k4,rfl⟩:=h4;obtain ⟨rfl,k5,rfl⟩:=h5;obtain ⟨rfl,k6,rfl⟩:=h6;exact ⟨ao1,cap1,ao2,cap2,ao3,cap3,L1,L2,L3,rfl,rfl,h1,h2,h3,k0,k4,k5⟩
theorem znB {w:World} (d:WorldD) {ao1 ao2 ao3:Option Addr} {cap1 cap2 cap3:Nat} {K1 K2 K3:List Nat} (h1:((zae.slice 124).slice 109).own w d.groups [.slice ao1 d.groups.1 cap1] K1) (h2:zau.own w d.on [.slice ao2 d.on.1 cap2] K2) (h3:(zao.slice 112).own w d.tapes [.slice ao3 d.tapes.1 cap3] K3) (k0:(∀ i,-9223372036854775808≤d.shape i∧d.shape i≤9223372036854775807)) (k4:(-9223372036854775808≤d.writes∧d.writes≤9223372036854775807)) (k5:(-9223372036854775808≤d.stop∧d.stop≤9223372036854775807)):zaf.own w d [.int .i64 (d.shape 0),.int .i64 (d.shape 1),.int .i64 (d.shape 2),.int .i64 (d.shape 3),.int .i64 (d.shape 4),.int .i64 (d.shape 5),.int .i64 (d.shape 6),.int .i64 (d.shape 7),.int .i64 (d.shape 8),.slice ao1 d.groups.1 cap1,.slice ao2 d.on.1 cap2,.slice ao3 d.tapes.1 cap3,.int .i64 d.writes,.int .i64 d.stop,.bool d.down] (K1++(K2++(K3++[]))):=⟨_,_,[],(K1++(K2++(K3++[]))),rfl,rfl,⟨rfl,k0,rfl⟩,⟨_,_,K1,(K2++(K3++[])),rfl,rfl,h1,⟨_,_,K2,(K3++[]),rfl,rfl,h2,⟨_,_,K3,[],rfl,rfl,h3,⟨_,_,[],[],rfl,rfl,⟨rfl,k4,rfl⟩,⟨_,_,[],[],rfl,rfl,⟨rfl,k5,rfl⟩,⟨rfl,trivial,rfl⟩⟩⟩⟩⟩⟩⟩
def za6 (d:WorldD):Nat:=(szSl (szSl zaC)) d.groups+lenD d.on+(szSl za2) d.tapes
def zd8 (d:WorldD):Nat:=(cSl (cSl zar)) d.groups+lenD d.on+(cSl zbA) d.tapes
def zig (j:Nat) (d:WorldD):WorldD:=⟨d.shape,(mkSl (cSl zar) (mkSl zar za5)) (j) d.groups,zdB (j+(cSl (cSl zar)) d.groups) d.on,(mkSl zbA zc3) (j+(cSl (cSl zar)) d.groups+lenD d.on) d.tapes,d.writes,d.stop,d.down⟩
structure WorldResultD where
 code:Int
 world:WorldD
structure BlockResultD where
 code:Int
 block:BlockD
theorem zhi (w:World) {ops:Array Oper} {rest:List Oper} {o:Oper} {a:Act} {Q:Exit→Act→World→Prop}
 (hg:o.guard=none) (l c:Operand) (hop:o.op=Op.makeSlice 105 l c) (L C:Int) (n:Nat) (hl:a.eval l=.int .i64 L) (hc:a.eval c=.int .i64 C) (hL:L=(n:Int)) (hC:C=(n:Int)) (hn:n≤1000000000)
 (hK:∀ w',w'.ownsRow w.heap.size 30 1 (.slice (some ⟨w.heap.size,0,none⟩) n n) n (zaK n fun _=>nilS)→Below w.heap.size w w'→w.heap.size<w'.heap.size→wpList Tryz.prog ops Q rest (a.put o.dst (.slice (some ⟨w.heap.size,0,none⟩) n n)) w') :
 wpList Tryz.prog ops Q (o::rest) a w:=by
 obtain ⟨i0,hi0,hz0,hz1,hz2⟩:=info_parts zjb;refine wpList_make_full w hg l c 105 hop w.heap.size 30 i0 nilS 1 Tryz.underlying105 hi0 hz0 hz1 .i64 .i64 L C n hl hc hL hC (by rw [hz2];omega) (by unfold maxLen;omega) (Nat.le_refl _) ?_;intro w' hown hgrow
 have hown':w'.ownsRow w.heap.size 30 1 (.slice (some ⟨w.heap.size,0,none⟩) n n) n (zaK n fun _=>nilS):=by
  rw [← zja n]
  have e:(madeCells nilS.cells (n*1)).toList=(madeCells #[nilS] n).toList:=by rw [Nat.mul_one];rfl
  rw [← e];exact hown
 exact hK w' hown' (zbh hgrow) (hown'.lt _ rfl).2
structure Cpy (w wr:World) (R k:Nat) (n:Nat→Nat) (f:Nat→Nat→Nat) (e:Nat→Value):Prop where
 row:wr.ownsRow w.heap.size 30 1 (.slice (some ⟨w.heap.size,0,none⟩) R R) R (zaK R fun i=>if i<k then e i else nilS)
 each:∀ i,i<k→Own wr (w.heap.size+1) wr.heap.size (e i) (n i) (f i)
 apart:zo4 w.heap.size k e
 bel:Below w.heap.size w wr
 lt:w.heap.size<wr.heap.size
theorem Cpy.next {w wr w2:World} {R k:Nat} {n:Nat→Nat} {f:Nat→Nat→Nat} {e:Nat→Value} {ao:Option Addr} {cap:Nat} (h:Cpy w wr R k n f e) (hk:k<R) (hb:Below wr.heap.size wr w2) (ho:Own w2 wr.heap.size w2.heap.size (.slice ao (n k) cap) (n k) (f k)) :
 Cpy w (w2.setCell ⟨w.heap.size,k,none⟩ (.slice ao (n k) cap)) R (k+1) n f (fun i=>if i=k then .slice ao (n k) cap else e i):=by
 have l:=h.lt
 have hr2:w2.ownsRow w.heap.size 30 1 (.slice (some ⟨w.heap.size,0,none⟩) R R) R (zaK R fun i=>if i<k then e i else nilS):=
  zb3 h.row fun g hg=>hb.block g (by simp [Value.ownBlock] at hg;omega)
 have hst:=(hr2.stored k (.slice ao (n k) cap)).1
 rw [zcg R _ (fun i=>if i<k+1 then (if i=k then .slice ao (n k) cap else e i) else nilS) k _ hk (fun i hi=>by
  by_cases c:i=k
  ·subst c;simp
  ·by_cases c':i<k
   ·have c2:i<k+1:=by omega
    simp [c,c',c2]
   ·have c2:¬ i<k+1:=by omega
    simp [c,c',c2])] at hst
 have oth:∀ g,w.heap.size+1≤g→(w2.setCell ⟨w.heap.size,k,none⟩ (.slice ao (n k) cap)).heap[g]?=w2.heap[g]?:=fun g hg=>heap_setCell_other w2 ⟨w.heap.size,k,none⟩ g _ (by show g≠w.heap.size;omega)
 have hsz:(w2.setCell ⟨w.heap.size,k,none⟩ (.slice ao (n k) cap)).heap.size=w2.heap.size:=by simp
 have hs2:=hb.size;refine ⟨hst,fun i hi=>?_,⟨fun i hi=>?_,fun i j hi hj hij b hbi=>?_⟩,(h.bel.trans (hb.mono (by omega))).setCell (Nat.le_refl _) _,by rw [hsz];omega⟩
 ·by_cases c:i=k
  ·subst c
   simp only [if_pos]
   exact (ho.kept fun g hg=>oth g (by have:=(ho.1.lt g hg).1;omega)).weaken (by omega) (Nat.le_of_eq hsz.symm)
  ·simp only [if_neg c]
   have h1:=(h.each i (by omega)).below hb (Nat.le_refl _);exact (h1.kept fun g hg=>oth g (h1.1.lt g hg).1).weaken (Nat.le_refl _) (by rw [hsz];exact hs2)
 ·by_cases c:i=k
  ·subst c
   simp only [if_pos]
   intro hh;have:=(ho.1.lt _ hh).1;omega
  ·simp only [if_neg c]
   exact h.apart.1 i (by omega)
 ·by_cases c:i=k
  ·subst c
   simp only [if_pos] at hbi
   have c2:¬ j=i:=fun x=>hij x.symm
   simp only [if_neg c2]
   intro hh;have h1:=(ho.1.lt _ hbi).1;have h2:=(h.each j (by omega)).2 _ hh;omega
  ·simp only [if_neg c] at hbi
   by_cases c2:j=k
   ·subst c2
    simp only [if_pos]
    intro hh;have h1:=(ho.1.lt _ hh).1;have h2:=(h.each i (by omega)).2 _ hbi;omega
   ·simp only [if_neg c2]
    exact h.apart.2 i j (by omega) (by omega) hij b hbi
theorem Cpy.done {w wr:World} {R:Nat} {n:Nat→Nat} {f:Nat→Nat→Nat} {e:Nat→Value} (h:Cpy w wr R R n f e):OwnM wr w.heap.size wr.heap.size (.slice (some ⟨w.heap.size,0,none⟩) R R) R n f:=by
 have hr:=h.row;rw [zc7 (g:=e) (fun i hi=>by simp [hi])] at hr;exact ⟨w.heap.size,R,e,rfl,Nat.le_refl _,h.lt,hr,fun i hi=>(h.each i hi).weaken (by omega) (Nat.le_refl _),h.apart⟩
end Go.Proofs.YtclclojenogpbaaGreat
