/- What the frames of all laws share: an integer that came in as a natural number, a slice of bytes that came in as a row of cells. -/
import Derived.Test.YtclclojenogpbaaGreatChecked
import Derived.WalkKit
import Derived.ProofKit
import Derived.OpenShut
import Derived.ChangeOld
import Derived.Below
import Derived.Test.YtclclojenogpbaaGreatProg
import Derived.WalkLawsBesides
import Derived.Deep.Slices
import Derived.BigQuiet
import Derived.Deep.QuietTactic
import Derived.Deep.Matrix
import Derived.ChangeSame
import Derived.ChangeMaps5
import Derived.Maps.AppendAt
import Derived.Laws.BytesArg
import Derived.Deep.RegionLaw
set_option linter.unusedVariables false
set_option linter.unusedSimpArgs false
set_option maxHeartbeats 16000000
namespace Go.Proofs.YtclclojenogpbaaGreat
open Go.ChangeShapes Go.WideShapes Go.ChangeAt Go.RowKit
theorem frame_own : ownKnob Tryz.prog.godebug = none := by kernel_rfl
theorem frame_laid : laidOutB Tryz.prog = true := by kernel_rfl
/-- A slice of bytes that came in: nil; or a row of 'cap' cells, the numbers 'zs', of which the first 'len' are its elements. -/
def IsRow (w : World) (a : Option Addr) (len cap : Nat) (zs : List Int) : Prop :=
  (a = none ∧ len = 0 ∧ cap = 0 ∧ zs = []) ∨
  ∃ x, a = some x ∧ len ≤ cap ∧ cap ≤ maxLen ∧ zs.length = cap ∧ (∀ i, i < zs.length → w.cell? (x.add i) = some (.int .u8 (zs.getD i 0))) ∧ ∀ n ∈ zs, (Lit.int .u8 n).wf = true
theorem row_of_trod {t e : TypeId} {H : Type} {enc : TypeId × Value → H} {W : World} {a : Option Addr} {len cap : Nat} {d : DataW H} {ps : List MemPlace}
    (hu : Tryz.prog.underlying t = some (.slice e)) (he : Tryz.prog.underlying e = some (.int .u8)) (hc : Tryz.prog.cellsOf e = 1)
    (h : DataW.Trod enc Tryz.prog W 0 (fun _ => true) true t (.slice a len cap) d ps) : ∃ zs, IsRow W a len cap zs := by
  obtain ⟨fuel, hf⟩ := h
  rcases open_ints hu he hc hf with ⟨hcs, _⟩ | ⟨x, l, c, zs, hcs, _, hl, hm, hz, _, hcell, hwz⟩
  · simp [Value.cells] at hcs
    obtain ⟨rfl, rfl, rfl⟩ := hcs
    exact ⟨[], .inl ⟨rfl, rfl, rfl, rfl⟩⟩
  · simp [Value.cells] at hcs
    obtain ⟨rfl, rfl, rfl⟩ := hcs
    exact ⟨zs, .inr ⟨_, rfl, hl, hm, by simpa using hz, hcell, hwz⟩⟩
end Go.Proofs.YtclclojenogpbaaGreat
namespace Go.Proofs.YtclclojenogpbaaGreat.F256
def dblN (x:Nat):Nat:=if 255<2*x then (2*x) ^^^ 285 else 2*x
def tabN (a:Nat):Nat→Nat
 | 0=>a
 | k+1=>dblN (tabN a k)
def accN (a b:Nat):Nat→Nat
 | 0=>0
 | k+1=>if b/2 ^ k%2=1 then accN a b k ^^^ tabN a k else accN a b k
def mulN (a b:Nat):Nat:=accN a b 8
def powN (a:Nat):Nat→Nat
 | 0=>1
 | n+1=>mulN (powN a n) a
def allB (n:Nat) (p:Nat→Bool):Bool:=n.rec true fun k r=>p k&&r
theorem allB_spec {p:Nat→Bool}:∀ {n:Nat},allB n p=true→∀ i,i<n→p i=true
 | 0,_,i,h=>absurd h (Nat.not_lt_zero i)
 | n+1,h,i,hi=>by
  have h':(p n&&allB n p)=true:=h;rw [Bool.and_eq_true] at h'
  rcases Nat.lt_succ_iff_lt_or_eq.mp hi with hi | rfl
  ·exact allB_spec h'.2 i hi
  ·exact h'.1
theorem xor_lt {x y:Nat} (hx:x<256) (hy:y<256):x ^^^ y<256:=Nat.xor_lt_two_pow (n:=8) hx hy
theorem dblN_lt {x:Nat} (hx:x<256):dblN x<256:=by
 have h:allB 256 (fun x=>decide (dblN x<256))=true:=by decide +kernel
 simpa using allB_spec h x hx
theorem tabN_lt {a:Nat} (ha:a<256):∀ k,tabN a k<256
 | 0=>ha
 | k+1=>dblN_lt (tabN_lt ha k)
theorem accN_lt {a b:Nat} (ha:a<256):∀ k,accN a b k<256
 | 0=>by simp [accN]
 | k+1=>by
  simp only [accN]
  split
  ·exact xor_lt (accN_lt ha k) (tabN_lt ha k)
  ·exact accN_lt ha k
theorem mulN_lt {a b:Nat} (ha:a<256):mulN a b<256:=accN_lt ha 8
theorem dblN_xor {x y:Nat} (hx:x<256) (hy:y<256):dblN (x ^^^ y)=dblN x ^^^ dblN y:=by
 have h:allB 256 (fun x=>allB 256 fun y=>dblN (x ^^^ y)==dblN x ^^^ dblN y)=true:=by decide +kernel
 simpa using allB_spec (allB_spec h x hx) y hy
theorem tabN_xor {x y:Nat} (hx:x<256) (hy:y<256):∀ k,tabN (x ^^^ y) k=tabN x k ^^^ tabN y k
 | 0=>rfl
 | k+1=>by simp only [tabN,tabN_xor hx hy k,dblN_xor (tabN_lt hx k) (tabN_lt hy k)]
theorem xor4 (a b c d:Nat):(a ^^^ b) ^^^ (c ^^^ d)=(a ^^^ c) ^^^ (b ^^^ d):=by
 rw [Nat.xor_assoc,Nat.xor_assoc,← Nat.xor_assoc b c d,Nat.xor_comm b c,Nat.xor_assoc c b d]
theorem accN_xor {x y b:Nat} (hx:x<256) (hy:y<256):∀ k,accN (x ^^^ y) b k=accN x b k ^^^ accN y b k
 | 0=>by simp [accN]
 | k+1=>by
  simp only [accN,accN_xor hx hy k,tabN_xor hx hy k]
  split
  ·exact xor4 _ _ _ _
  ·rfl
theorem mulN_xor_left {x y b:Nat} (hx:x<256) (hy:y<256):mulN (x ^^^ y) b=mulN x b ^^^ mulN y b:=accN_xor hx hy 8
theorem tabN_dbl (a:Nat):∀ k,tabN (dblN a) k=dblN (tabN a k)
 | 0=>rfl
 | k+1=>by simp only [tabN,tabN_dbl a k]
theorem accN_dbl {a b:Nat} (ha:a<256):∀ k,accN (dblN a) b k=dblN (accN a b k)
 | 0=>rfl
 | k+1=>by
  simp only [accN,accN_dbl ha k,tabN_dbl a k]
  split
  ·rw [dblN_xor (accN_lt ha k) (tabN_lt ha k)]
  ·rfl
theorem mulN_dbl {a b:Nat} (ha:a<256):mulN (dblN a) b=dblN (mulN a b):=accN_dbl ha 8
theorem one_mulN {b:Nat} (hb:b<256):mulN 1 b=b:=by
 have h:allB 256 (fun b=>mulN 1 b==b)=true:=by decide +kernel
 simpa using allB_spec h b hb
theorem zero_mulN {b:Nat} (hb:b<256):mulN 0 b=0:=by
 have h:allB 256 (fun b=>mulN 0 b==0)=true:=by decide +kernel
 simpa using allB_spec h b hb
theorem mulN_zero (a:Nat):mulN a 0=0:=by simp [mulN,accN]
abbrev E (n:Nat):Nat:=tabN 1 n
theorem E_lt (n:Nat):E n<256:=tabN_lt (by decide) n
theorem tabN_tabN (a i:Nat):∀ j,tabN (tabN a i) j=tabN a (i+j)
 | 0=>rfl
 | j+1=>by rw [← Nat.add_assoc];simp only [tabN,tabN_tabN a i j]
theorem E_mulN {b:Nat} (hb:b<256):∀ i,mulN (E i) b=tabN b i
 | 0=>one_mulN hb
 | i+1=>by simp only [E,tabN];rw [mulN_dbl (E_lt i),show mulN (tabN 1 i) b=tabN b i from E_mulN hb i]
theorem E_mul_E (i j:Nat):mulN (E i) (E j)=E (i+j):=by rw [E_mulN (E_lt j),tabN_tabN,Nat.add_comm]
theorem E_255:E 255=1:=by decide +kernel
theorem E_add_255 (n:Nat):E (n+255)=E n:=by
 have:tabN (tabN 1 255) n=tabN 1 (255+n):=tabN_tabN 1 255 n;rw [show tabN 1 255=1 from E_255,Nat.add_comm] at this;exact this.symm
theorem E_mod (n:Nat):E (n%255)=E n:=by
 have:∀ q r,E (r+255*q)=E r:=by
  intro q;induction q with
  | zero=>intro r;rfl
  | succ q ih=>intro r;rw [Nat.mul_succ,← Nat.add_assoc,E_add_255,ih]
 have h:=this (n/255) (n%255);rw [Nat.mod_add_div] at h;exact h.symm
def powers:Nat→Nat→List Nat
 | 0,_=>[]
 | n+1,x=>x::powers n (dblN x)
theorem mem_powers {y:Nat}:∀ {n:Nat} {x:Nat},y∈powers n x→∃ k,k<n∧tabN x k=y
 | 0,x,h=>by cases h
 | n+1,x,h=>by
  simp only [powers,List.mem_cons] at h
  rcases h with rfl | h
  ·exact ⟨0,Nat.succ_pos n,rfl⟩
  ·obtain ⟨k,hk,e⟩:=mem_powers h
   exact ⟨k+1,Nat.succ_lt_succ hk,by rw [← e,tabN_dbl];rfl⟩
theorem log_ex {x:Nat} (hx:x<256) (h0:x≠0):∃ k,k<255∧E k=x:=by
 have h:allB 256 (fun x=>x==0||(powers 255 1).contains x)=true:=by decide +kernel
 have:=allB_spec h x hx
 simp only [Bool.or_eq_true,beq_iff_eq,List.contains_iff_mem] at this
 exact mem_powers (this.resolve_left h0)
theorem mulN_comm {a b:Nat} (ha:a<256) (hb:b<256):mulN a b=mulN b a:=by
 by_cases h0:a=0
 ·subst h0;rw [zero_mulN hb,mulN_zero]
 ·by_cases h1:b=0
  ·subst h1;rw [zero_mulN ha,mulN_zero]
  ·obtain ⟨i,_,rfl⟩:=log_ex ha h0
   obtain ⟨j,_,rfl⟩:=log_ex hb h1;rw [E_mul_E,E_mul_E,Nat.add_comm]
theorem mulN_assoc {a b c:Nat} (ha:a<256) (hb:b<256) (hc:c<256):mulN (mulN a b) c=mulN a (mulN b c):=by
 by_cases h0:a=0
 ·subst h0;rw [zero_mulN hb,zero_mulN hc,zero_mulN (mulN_lt hb)]
 ·by_cases h1:b=0
  ·subst h1;rw [mulN_zero,zero_mulN hc,mulN_zero]
  ·by_cases h2:c=0
   ·subst h2;rw [mulN_zero,mulN_zero,mulN_zero]
   ·obtain ⟨i,_,rfl⟩:=log_ex ha h0
    obtain ⟨j,_,rfl⟩:=log_ex hb h1;obtain ⟨k,_,rfl⟩:=log_ex hc h2;rw [E_mul_E,E_mul_E,E_mul_E,E_mul_E,Nat.add_assoc]
theorem mulN_one {a:Nat} (ha:a<256):mulN a 1=a:=by rw [mulN_comm ha (by decide),one_mulN ha]
theorem mulN_xor_right {a x y:Nat} (ha:a<256) (hx:x<256) (hy:y<256):mulN a (x ^^^ y)=mulN a x ^^^ mulN a y:=by
 rw [mulN_comm ha (xor_lt hx hy),mulN_xor_left hx hy,mulN_comm hx ha,mulN_comm hy ha]
theorem powN_lt {a:Nat}:∀ n,powN a n<256
 | 0=>by simp [powN]
 | n+1=>mulN_lt (powN_lt n)
theorem powN_E (i:Nat):∀ n,powN (E i) n=E (i*n)
 | 0=>rfl
 | n+1=>by rw [powN,powN_E i n,E_mul_E,Nat.mul_succ]
theorem zero_powN {n:Nat} (h:0<n):powN 0 n=0:=by
 cases n with
 | zero=>cases h
 | succ n=>exact mulN_zero _
theorem powN_add {a:Nat} (ha:a<256) (m:Nat):∀ n,powN a (m+n)=mulN (powN a m) (powN a n)
 | 0=>by rw [powN,mulN_one (powN_lt m)];rfl
 | n+1=>by rw [← Nat.add_assoc,powN,powN_add ha m n,powN,mulN_assoc (powN_lt m) (powN_lt n) ha]
theorem powN_sq {a:Nat} (ha:a<256):∀ n,powN (mulN a a) n=powN a (2*n)
 | 0=>rfl
 | n+1=>by
  rw [powN,powN_sq ha n,Nat.mul_succ,powN_add ha (2*n) 2]
  congr 1
  show mulN a a=mulN (mulN 1 a) a
  rw [one_mulN ha]
theorem powN_mod {a:Nat} (ha:a<256) (h0:a≠0) (n:Nat):powN a (n%255)=powN a n:=by
 obtain ⟨i,_,rfl⟩:=log_ex ha h0;rw [powN_E,powN_E,← E_mod (i*(n%255)),← E_mod (i*n),Nat.mul_mod,Nat.mod_mod,← Nat.mul_mod]
abbrev invN (a:Nat):Nat:=powN a 254
theorem invN_mul {a:Nat} (ha:a<256) (h0:a≠0):mulN (invN a) a=1:=by
 obtain ⟨i,_,rfl⟩:=log_ex ha h0;rw [invN,powN_E,E_mul_E,show i*254+i=0+i*255 by omega,← E_mod]
 rw [Nat.zero_add,Nat.mul_mod_left];rfl
end Go.Proofs.YtclclojenogpbaaGreat.F256
namespace Go.Proofs.YtclclojenogpbaaGreat
open Go.RowKit F256
theorem val_eq {k:IntKind} {x y:Int} (h:x=y):Value.int k x=Value.int k y:=by rw [h]
theorem ret_eq {k:IntKind} {x y:Int} (h:x=y):Ending.returned (Value.int k x)=Ending.returned (Value.int k y):=by rw [h]
theorem i64_xor_nat (a b:Nat) (ha:a<65536) (hb:b<65536):bits .xor .i64 (a:Int) (b:Int)=((a ^^^ b:Nat):Int):=by
 have ha':a%2 ^ 64=a:=Nat.mod_eq_of_lt (by omega);have hb':b%2 ^ 64=b:=Nat.mod_eq_of_lt (by omega);have hx:a ^^^ b<2 ^ 16:=Nat.xor_lt_two_pow (by omega) (by omega)
 show IntKind.i64.wrap ((BitVec.ofInt 64 (a:Int) ^^^ BitVec.ofInt 64 (b:Int)).toNat:Int)=_
 rw [BitVec.toNat_xor,BitVec.ofInt_natCast,BitVec.ofInt_natCast,BitVec.toNat_ofNat,BitVec.toNat_ofNat,ha',hb',IntKind.wrap_i64];omega
theorem bit_val (b k:Nat) (hb:b<256):bits .and .u8 ((b:Int)/2 ^ k) 1=((b/2 ^ k%2:Nat):Int):=by
 have e:((b:Int)/2 ^ k)=((b/2 ^ k:Nat):Int):=by simp
 have hlt:b/2 ^ k<256:=Nat.lt_of_le_of_lt (Nat.div_le_self _ _) hb;rw [e];have:=u8_and_nat (b/2 ^ k) 1 hlt (by decide);rw [show ((1:Nat):Int)=1 from rfl] at this;rw [this];rw [show (1:Nat)=2 ^ 1-1 from rfl,Nat.and_two_pow_sub_one_eq_mod]
theorem bit_yes {b k:Nat} (hb:b<256) (h:(bits .and .u8 ((b:Int)/2 ^ k) 1==1)=true):b/2 ^ k%2=1:=by
 rw [bit_val b k hb,beq_iff_eq] at h;omega
theorem bit_no {b k:Nat} (hb:b<256) (h:(bits .and .u8 ((b:Int)/2 ^ k) 1==1)=false):¬ b/2 ^ k%2=1:=by
 rw [bit_val b k hb] at h;intro e;rw [e] at h;exact absurd h (by decide)
theorem o_yes {a b k:Nat} (ha:a<256) (hb:b<256) (h:(bits .and .u8 ((b:Int)/2 ^ k) 1==1)=true) :
 bits .xor .i64 (accN a b k:Int) (tabN a k:Int)=((accN a b (k+1):Nat):Int):=by
 have h1:=accN_lt (b:=b) ha k;have h2:=tabN_lt ha k;rw [i64_xor_nat _ _ (by omega) (by omega)]
 simp only [accN,if_pos (bit_yes hb h)]
theorem o_no {a b k:Nat} (hb:b<256) (h:(bits .and .u8 ((b:Int)/2 ^ k) 1==1)=false) :
 (accN a b k:Int)=((accN a b (k+1):Nat):Int):=by
 simp only [accN,if_neg (bit_no hb h)]
theorem x_over {a k:Nat} (ha:a<256) (h:(255:Int)<2*(tabN a k:Int)):bits .xor .i64 (2*(tabN a k:Int)) 285=((tabN a (k+1):Nat):Int):=by
 have h2:=tabN_lt ha k;have:=i64_xor_nat (2*tabN a k) 285 (by omega) (by omega);rw [show ((2*tabN a k:Nat):Int)=2*(tabN a k:Int) by omega,show ((285:Nat):Int)=285 from rfl] at this;rw [this]
 simp only [tabN,dblN]
 rw [if_pos (by omega)]
theorem x_in {a k:Nat} (h:2*(tabN a k:Int)≤255):2*(tabN a k:Int)=((tabN a (k+1):Nat):Int):=by
 simp only [tabN,dblN]
 rw [if_neg (by omega)];omega
theorem bthen {w w1 w2:World} (h:Below w.heap.size w w1) (k:Below w1.heap.size w1 w2):Below w.heap.size w w2:=h.trans (k.mono h.size)
theorem bnew {w w2:World} {o:Obj} (h:Below (w.alloc o).heap.size (w.alloc o) w2):Below w.heap.size w w2:=
 ((Below.refl _ _).alloc (Nat.le_refl _) o).trans (h.mono (by simp))
theorem bsize {w w2:World} {o:Obj} (h:Below (w.alloc o).heap.size (w.alloc o) w2):w.heap.size<w2.heap.size:=by
 have:=h.size
 simp at this
 omega
theorem hid {p:Prop} (h:p):Hid p:=h
def cellsOf (n:Nat) (f:Nat→Nat):List Value:=(List.range n).map fun i=>Value.int .u8 (f i)
theorem cellsOf_length (n:Nat) (f:Nat→Nat):(cellsOf n f).length=n:=by simp [cellsOf]
theorem cellsOf_get (n:Nat) (f:Nat→Nat) (i:Nat) (h:i<n):(cellsOf n f)[i]?=some (.int .u8 (f i)):=by simp [cellsOf,h]
theorem cellsOf_eq {n:Nat} {f g:Nat→Nat} (h:∀ i,i<n→f i=g i):cellsOf n f=cellsOf n g:=by
 apply List.map_congr_left
 intro i hi;rw [h i (List.mem_range.mp hi)]
theorem cellsOf_set (n:Nat) (f g:Nat→Nat) (k:Nat) (x:Nat) (hk:k<n) (h:∀ i,i<n→g i=if i=k then x else f i):(cellsOf n f).set k (.int .u8 x)=cellsOf n g:=by
 apply List.ext_getElem?
 intro i
 by_cases hi:i<n
 ·rw [cellsOf_get n g i hi,h i hi,List.getElem?_set]
  by_cases e:k=i
  ·subst e;simp [cellsOf_length,hk]
  ·rw [if_neg e,if_neg (fun h=>e h.symm),cellsOf_get n f i hi]
 ·rw [List.getElem?_eq_none (by rw [List.length_set,cellsOf_length];omega),List.getElem?_eq_none (by rw [cellsOf_length];omega)]
theorem cellsOf_snoc (n:Nat) (f:Nat→Nat):cellsOf n f++[.int .u8 (f n)]=cellsOf (n+1) f:=by
 simp [cellsOf,List.range_succ]
theorem cellsOf_made (n:Nat):(madeCells #[Value.int .u8 0] n).toList=cellsOf n fun _=>0:=by
 rw [toList_madeCells_one]
 apply List.ext_getElem?
 intro i
 by_cases hi:i<n
 ·rw [cellsOf_get _ _ _ hi];simp [hi]
 ·rw [List.getElem?_eq_none (by simp;omega),List.getElem?_eq_none (by rw [cellsOf_length];omega)]
def Own (w:World) (lo hi:Nat) (v:Value) (n:Nat) (f:Nat→Nat):Prop:=
 w.ownsRow lo 5 1 v n (cellsOf n f)∧∀ k,v.ownBlock=some k→k<hi
def Rd (w:World) (hi:Nat) (v:Value) (n:Nat) (f:Nat→Nat):Prop:=
 ∃ ao cap,v=.slice ao n cap∧n≤maxLen∧(n≠0→∃ b off,ao=some ⟨b,off,none⟩∧b<hi∧∀ i,i<n→w.cell? ⟨b,off+i,none⟩=some (.int .u8 (f i)))
structure Out (lo hi:Nat) (w w':World):Prop where
 os:w'.os=w.os
 tape:w'.tape=w.tape
 output:w'.output=w.output
 size:w'.heap.size=w.heap.size
 block:∀ k,(k<lo∨hi≤k)→w'.heap[k]?=w.heap[k]?
theorem Out.refl (lo hi:Nat) (w:World):Out lo hi w w:=⟨rfl,rfl,rfl,rfl,fun _ _=>rfl⟩
theorem Out.below {lo hi:Nat} {w w':World} (h:Out lo hi w w'):Below lo w w':=⟨h.os,h.tape,h.output,Nat.le_of_eq h.size.symm,fun k hk=>h.block k (.inl hk)⟩
theorem Own.below {w w':World} {lo hi B:Nat} {v:Value} {n:Nat} {f:Nat→Nat} (h:Own w lo hi v n f) (hb:Below B w w') (hB:hi≤B):Own w' lo hi v n f:=by
 refine ⟨⟨h.1.1,?_⟩,h.2⟩
 rcases h.1.2 with hn | ⟨g,cap,cur,rfl,hbg,hgg,rest⟩
 ·exact .inl hn
 ·have:=h.2 g rfl
  exact .inr ⟨g,cap,cur,rfl,hbg,(hb.block g (by omega)).trans hgg,rest⟩
theorem Own.out {w w':World} {lo hi lo' hi':Nat} {v:Value} {n:Nat} {f:Nat→Nat} (h:Own w lo hi v n f) (hb:Out lo' hi' w w') (hB:hi≤lo'∨hi'≤lo):Own w' lo hi v n f:=by
 refine ⟨⟨h.1.1,?_⟩,h.2⟩
 rcases h.1.2 with hn | ⟨g,cap,cur,rfl,hbg,hgg,rest⟩
 ·exact .inl hn
 ·have:=h.2 g rfl
  exact .inr ⟨g,cap,cur,rfl,hbg,(hb.block g (by omega)).trans hgg,rest⟩
theorem Own.mono {w:World} {lo hi hi':Nat} {v:Value} {n:Nat} {f:Nat→Nat} (h:Own w lo hi v n f) (hB:hi≤hi'):Own w lo hi' v n f:=
 ⟨h.1,fun k hk=>Nat.lt_of_lt_of_le (h.2 k hk) hB⟩
theorem Own.rd {w:World} {lo hi:Nat} {v:Value} {n:Nat} {f:Nat→Nat} (h:Own w lo hi v n f):Rd w hi v n f:=by
 rcases h.1.2 with ⟨rfl,rfl⟩ | ⟨g,cap,cur,rfl,hbg,hgg,hnc,hcm,rest⟩
 ·exact ⟨none,0,rfl,Nat.zero_le _,fun h=>absurd rfl h⟩
 ·refine ⟨_,_,rfl,Nat.le_trans hnc hcm,fun _=>⟨g,0,rfl,h.2 g rfl,fun i hi=>?_⟩⟩
  have:=h.1.cellAt i (by omega);rw [Nat.zero_add,this,cellsOf_get n f i hi]
theorem Rd.below {w w':World} {hi B:Nat} {v:Value} {n:Nat} {f:Nat→Nat} (h:Rd w hi v n f) (hb:Below B w w') (hB:hi≤B):Rd w' hi v n f:=by
 obtain ⟨ao,cap,rfl,hn,hc⟩:=h;refine ⟨ao,cap,rfl,hn,fun h0=>?_⟩;obtain ⟨b,off,rfl,hlt,hcell⟩:=hc h0;exact ⟨b,off,rfl,hlt,fun i hi=>(hb.cell (p:=⟨b,off+i,none⟩) (by show b<B;omega)).trans (hcell i hi)⟩
theorem Rd.mono {w:World} {hi hi':Nat} {v:Value} {n:Nat} {f:Nat→Nat} (h:Rd w hi v n f) (hB:hi≤hi'):Rd w hi' v n f:=by
 obtain ⟨ao,cap,rfl,hn,hc⟩:=h;refine ⟨ao,cap,rfl,hn,fun h0=>?_⟩;obtain ⟨b,off,rfl,hlt,hcell⟩:=hc h0;exact ⟨b,off,rfl,by omega,hcell⟩
theorem Own.congr {w:World} {lo hi:Nat} {v:Value} {n:Nat} {f g:Nat→Nat} (h:Own w lo hi v n f) (e:∀ i,i<n→f i=g i):Own w lo hi v n g:=by
 refine ⟨?_,h.2⟩;rw [← cellsOf_eq e];exact h.1
theorem own_nil (w:World) (lo hi:Nat) (f:Nat→Nat):Own w lo hi (.slice none 0 0) 0 f:=⟨World.ownsRow_nil _ _ _ _,fun _ h=>by cases h⟩
theorem Own.form {w:World} {lo hi:Nat} {v:Value} {n:Nat} {f:Nat→Nat} (h:Own w lo hi v n f) (h0:n≠0) :
 ∃ g cap,v=.slice (some ⟨g,0,none⟩) n cap∧lo≤g∧g<hi∧g<w.heap.size∧n≤cap:=by
 rcases h.1.2 with ⟨rfl,rfl⟩ | ⟨g,cap,cur,rfl,hbg,hgg,hnc,_⟩
 ·exact absurd rfl h0
 ·exact ⟨g,cap,rfl,hbg,h.2 g rfl,(Array.getElem?_eq_some_iff.1 hgg).1,hnc⟩
theorem Own.slice {w:World} {lo hi:Nat} {v:Value} {n:Nat} {f:Nat→Nat} (h:Own w lo hi v n f):∃ ao cap,v=.slice ao n cap:=by
 rcases h.1.2 with ⟨rfl,rfl⟩ | ⟨g,cap,cur,rfl,_⟩
 ·exact ⟨_,_,rfl⟩
 ·exact ⟨_,_,rfl⟩
theorem Own.le {w:World} {lo hi:Nat} {v:Value} {n:Nat} {f:Nat→Nat} (h:Own w lo hi v n f):n≤maxLen:=by
 rcases h.1.2 with ⟨rfl,rfl⟩ | ⟨g,cap,cur,rfl,_,_,hnc,hcm,_⟩
 ·exact Nat.zero_le _
 ·omega
theorem Own.store {w:World} {lo hi g cap n:Nat} {f g':Nat→Nat} (h:Own w lo hi (.slice (some ⟨g,0,none⟩) n cap) n f) (k x:Nat) (hk:k<n)
 (e:∀ i,i<n→g' i=if i=k then x else f i):Own (w.setCell ⟨g,k,none⟩ (.int .u8 x)) lo hi (.slice (some ⟨g,0,none⟩) n cap) n g':=by
 refine ⟨?_,h.2⟩;have:=(h.1.stored k (.int .u8 x)).1;rw [cellsOf_set n f g' k x hk e] at this;exact this
theorem out_store (w:World) (lo hi g k:Nat) (u:Value) (h1:lo≤g) (h2:g<hi):Out lo hi w (w.setCell ⟨g,k,none⟩ u):=
 ⟨rfl,rfl,rfl,by simp,fun j hj=>heap_setCell_other w ⟨g,k,none⟩ j u (by show j≠g;omega)⟩
theorem Out.trans {lo hi:Nat} {a b c:World} (h:Out lo hi a b) (k:Out lo hi b c):Out lo hi a c:=
 ⟨k.os.trans h.os,k.tape.trans h.tape,k.output.trans h.output,k.size.trans h.size,fun i hi=>(k.block i hi).trans (h.block i hi)⟩
theorem info_u8:(Tryz.prog.info? 5).map (fun i=>(i.zero,i.size,i.bytes))=some (some (.int .u8 0),1,1):=by kernel_rfl
theorem below_of_grown {w w':World} (h:w.grownBy w' none):Below w.heap.size w w':=⟨h.os,h.tape,h.output,h.size,fun k hk=>h.block k hk (by simp)⟩
theorem wp_makeB (w:World) {ops:Array Oper} {rest:List Oper} {o:Oper} {a:Act} {Q:Exit→Act→World→Prop}
 (hg:o.guard=none) (l c:Operand) (hop:o.op=Op.makeSlice 30 l c) (L C:Int) (n:Nat) (hl:a.eval l=.int .i64 L) (hc:a.eval c=.int .i64 C) (hL:L=(n:Int)) (hC:C=(n:Int)) (hn:n≤140737488351232)
 (hK:∀ w',Own w' w.heap.size w'.heap.size (.slice (some ⟨w.heap.size,0,none⟩) n n) n (fun _=>0)→Below w.heap.size w w'→w.heap.size<w'.heap.size→wpList Tryz.prog ops Q rest (a.put o.dst (.slice (some ⟨w.heap.size,0,none⟩) n n)) w') :
 wpList Tryz.prog ops Q (o::rest) a w:=by
 obtain ⟨i0,hi0,hz0,hz1,hz2⟩:=info_parts info_u8;refine wpList_make_full w hg l c 30 hop w.heap.size 5 i0 (.int .u8 0) 1 Tryz.underlying30 hi0 hz0 hz1 .i64 .i64 L C n hl hc hL hC (by rw [hz2];omega) (by unfold maxLen;omega) (Nat.le_refl _) ?_;intro w' hown hgrow
 have hown':w'.ownsRow w.heap.size 5 1 (.slice (some ⟨w.heap.size,0,none⟩) n n) n (cellsOf n fun _=>0):=by
  rw [← cellsOf_made n]
  have e:(madeCells (Value.int IntKind.u8 0).cells (n*1)).toList=(madeCells #[Value.int .u8 0] n).toList:=by rw [Nat.mul_one];rfl
  rw [← e];exact hown
 have hlt:=(hown'.lt _ rfl).2;exact hK w' ⟨hown',fun k hk=>(hown'.lt k hk).2⟩ (below_of_grown hgrow) hlt
theorem Own.alloc {w:World} {lo hi:Nat} {v:Value} {n:Nat} {f:Nat→Nat} (h:Own w lo hi v n f) (o:Obj):Own (w.alloc o) lo hi v n f:=⟨h.1.alloc o,h.2⟩
theorem Own.drew {w:World} {lo hi:Nat} {v:Value} {n:Nat} {f:Nat→Nat} (h:Own w lo hi v n f):Own w.drew lo hi v n f:=h
theorem run_appendB (w:World) (ty:TypeId) (lo hi:Nat) (v:Value) (n:Nat) (f:Nat→Nat) (hown:Own w lo hi v n f) (b c:Nat) (hcell:w.cell? ⟨b,0,none⟩=some (.int .u8 (f n))) (hn:n+1≤140737488351232) (hlo:lo≤w.heap.size) :
 ∃ v' w',(Builtin.append_ #[30,30] ty #[v,.slice (some ⟨b,0,none⟩) 1 c]).run Tryz.prog w=.ok v' w'∧Own w' lo w'.heap.size v' (n+1) f∧Below lo w w':=by
 obtain ⟨i0,hi0,hz0,hz1,hz2⟩:=info_parts info_u8
 obtain ⟨v',w',hr,h2,h3,_⟩:=run_append_own (P:=Tryz.prog) w lo 30 ty 5 i0 (.int .u8 0) 1 1 Tryz.underlying30 hi0 hz0 hz1 hz2 rfl (by decide) v n (cellsOf n f) hown.1 ⟨b,0,none⟩ 1 c [.int .u8 (f n)] rfl
  (fun j u hj=>by
   match j,hj with
   | 0,hj=>simp at hj;subst hj;simpa [Addr.add] using hcell)
  (fun u hu=>by simp at hu;subst hu;rfl) (by unfold maxLen;omega) (by omega) hlo
 rw [cellsOf_snoc] at h2;exact ⟨v',w',hr,⟨h2,fun k hk=>(h2.lt k hk).2⟩,(Below.refl _ _).grown h3 hlo (fun k hk=>(hown.1.lt k hk).1)⟩
theorem step_appendB {ops:Array Oper} {o:Oper} {a:Act} {w:World} {K:Act→World→Prop} {Q:Exit→Act→World→Prop} {E:Prop}
 (hg:o.guard=none) (s x:Operand) (hop:o.op=Op.call { callee:=Callee.builtin Builtin.append,args:=#[s,x],argTypes:=#[30,30] })
 (lo hi:Nat) (v:Value) (n:Nat) (f:Nat→Nat) (hs:a.eval s=v) (hown:Own w lo hi v n f) (b c:Nat) (hx:a.eval x=.slice (some ⟨b,0,none⟩) 1 c) (hcell:w.cell? ⟨b,0,none⟩=some (.int .u8 (f n)))
 (hn:n+1≤140737488351232) (hlo:lo≤w.heap.size)
 (hK:∀ v' w',Own w' lo w'.heap.size v' (n+1) f→Below lo w w'→K (a.put o.dst v') w') :
 if Region.wanted o (yielded ops a.tmps)=true then Oper.wp Tryz.prog o a w K Q else E:=by
 have hw:Region.wanted o (yielded ops a.tmps)=true:=by simp [Region.wanted,hg]
 rw [if_pos hw];obtain ⟨v',w',hrun,r1,r2⟩:=run_appendB w o.type lo hi v n f hown b c hcell hn hlo;unfold Oper.wp
 simp [execOp,hop,resolve,invoke,builtin,hs,hx,hrun,Result.andThen]
 exact hK v' w' r1 r2
theorem wp_appendB {ops:Array Oper} {rest:List Oper} {o:Oper} {a:Act} {w:World} {Q:Exit→Act→World→Prop}
 (hg:o.guard=none) (s x:Operand) (hop:o.op=Op.call { callee:=Callee.builtin Builtin.append,args:=#[s,x],argTypes:=#[30,30] })
 (lo hi:Nat) (v:Value) (n:Nat) (f:Nat→Nat) (hs:a.eval s=v) (hown:Own w lo hi v n f) (b c:Nat) (hx:a.eval x=.slice (some ⟨b,0,none⟩) 1 c) (hcell:w.cell? ⟨b,0,none⟩=some (.int .u8 (f n)))
 (hn:n+1≤140737488351232) (hlo:lo≤w.heap.size)
 (hK:∀ v' w',Own w' lo w'.heap.size v' (n+1) f→Below lo w w'→wpList Tryz.prog ops Q rest (a.put o.dst v') w'):wpList Tryz.prog ops Q (o::rest) a w:=by
 refine wpList_plain hg fun K hK'=>?_;obtain ⟨v',w',hrun,r1,r2⟩:=run_appendB w o.type lo hi v n f hown b c hcell hn hlo;unfold Oper.wp
 simp [execOp,hop,resolve,invoke,builtin,hs,hx,hrun,Result.andThen]
 exact hK' _ _ (hK v' w' r1 r2)
theorem own_lit0 (w:World) (g:Nat→Nat):Own (w.alloc (.cells #[] 5)) w.heap.size (w.alloc (.cells #[] 5)).heap.size (.slice (some ⟨w.heap.size,0,none⟩) 0 0) 0 g:=by
 have h:=World.ownsRow_lit (base:=w.heap.size) (e:=5) (size:=1) w #[] 0 (Nat.le_refl _) (Nat.zero_le _) rfl;exact ⟨h,fun k hk=>(h.lt k hk).2⟩
theorem Own.weaken {w:World} {lo hi lo' hi':Nat} {v:Value} {n:Nat} {f:Nat→Nat} (h:Own w lo hi v n f) (h1:lo'≤lo) (h2:hi≤hi'):Own w lo' hi' v n f:=by
 refine ⟨⟨h.1.1,?_⟩,fun k hk=>Nat.lt_of_lt_of_le (h.2 k hk) h2⟩
 rcases h.1.2 with hn | ⟨g,cap,cur,rfl,hbg,rest⟩
 ·exact .inl hn
 ·exact .inr ⟨g,cap,cur,rfl,by omega,rest⟩
theorem res_cells {wr:World} {g:Nat} {x y:Value} {t:TypeId} (h:wr.heap[g]?=some (.cells #[x,y] t (0,0))) :
 wr.cell? ⟨g,0,none⟩=some x∧wr.cell? ⟨g,1,none⟩=some y∧wr.frozen? ⟨g,0,none⟩=false∧wr.frozen? ⟨g,1,none⟩=false:=
 ⟨by rw [cell_of_row wr g 0 _ t _ h];rfl,by rw [cell_of_row wr g 1 _ t _ h];rfl,frozen_of_row wr g 0 _ t h,frozen_of_row wr g 1 _ t h⟩
structure Chg (lo hi:Nat) (w w':World):Prop where
 os:w'.os=w.os
 tape:w'.tape=w.tape
 output:w'.output=w.output
 size:w.heap.size≤w'.heap.size
 block:∀ k,k<w.heap.size→(k<lo∨hi≤k)→w'.heap[k]?=w.heap[k]?
theorem Out.chg {lo hi:Nat} {w w':World} (h:Out lo hi w w'):Chg lo hi w w':=⟨h.os,h.tape,h.output,Nat.le_of_eq h.size.symm,fun k _ hk=>h.block k hk⟩
theorem Below.chg {w w':World} (h:Below w.heap.size w w') (lo hi:Nat):Chg lo hi w w':=⟨h.os,h.tape,h.output,h.size,fun k hk _=>h.block k hk⟩
theorem Chg.trans {lo hi:Nat} {a b c:World} (h:Chg lo hi a b) (k:Chg lo hi b c):Chg lo hi a c:=
 ⟨k.os.trans h.os,k.tape.trans h.tape,k.output.trans h.output,Nat.le_trans h.size k.size,fun i hi ho=>(k.block i (Nat.lt_of_lt_of_le hi h.size) ho).trans (h.block i hi ho)⟩
theorem Chg.below {lo hi B:Nat} {w w':World} (h:Chg lo hi w w') (h1:B≤lo) (h2:B≤w.heap.size):Below B w w':=⟨h.os,h.tape,h.output,h.size,fun k hk=>h.block k (by omega) (.inl (by omega))⟩
theorem Own.chg {w w':World} {lo hi lo' hi':Nat} {v:Value} {n:Nat} {f:Nat→Nat} (h:Own w lo hi v n f) (hb:Chg lo' hi' w w') (hB:hi≤lo'∨hi'≤lo):Own w' lo hi v n f:=by
 refine ⟨⟨h.1.1,?_⟩,h.2⟩
 rcases h.1.2 with hn | ⟨g,cap,cur,rfl,hbg,hgg,rest⟩
 ·exact .inl hn
 ·have:=h.2 g rfl
  exact .inr ⟨g,cap,cur,rfl,hbg,(hb.block g (Array.getElem?_eq_some_iff.1 hgg).1 (by omega)).trans hgg,rest⟩
def Box (w:World) (b:Nat) (cs:Array Value) (t:TypeId):Prop:=w.heap[b]?=some (.cells cs t (0,0))
theorem Box.lt {w:World} {b:Nat} {cs:Array Value} {t:TypeId} (h:Box w b cs t):b<w.heap.size:=(Array.getElem?_eq_some_iff.1 h).1
theorem Box.below {w w':World} {b B:Nat} {cs:Array Value} {t:TypeId} (h:Box w b cs t) (hb:Below B w w') (hB:b<B):Box w' b cs t:=(hb.block b hB).trans h
theorem Box.chg {w w':World} {b lo hi:Nat} {cs:Array Value} {t:TypeId} (h:Box w b cs t) (hb:Chg lo hi w w') (hB:b<lo∨hi≤b):Box w' b cs t:=(hb.block b h.lt hB).trans h
theorem Box.cell {w:World} {b:Nat} {cs:Array Value} {t:TypeId} (h:Box w b cs t) (j:Nat):w.cell? ⟨b,j,none⟩=cs[j]?:=cell_of_row w b j cs t _ h
theorem Box.frozen {w:World} {b:Nat} {cs:Array Value} {t:TypeId} (h:Box w b cs t) (j:Nat):w.frozen? ⟨b,j,none⟩=false:=frozen_of_row w b j cs t h
theorem box_new (w:World) (cs:Array Value) (t:TypeId):Box (w.alloc (.cells cs t)) w.heap.size cs t:=heap_alloc_new w _
theorem step_call {ops:Array Oper} {o:Oper} {a:Act} {w:World} {K:Act→World→Prop} {Q:Exit→Act→World→Prop} {E:Prop}
 (hg:o.guard=none) (n:Nat) (args:Array Operand) (ty:Array TypeId) (hop:o.op=Op.call { callee:=Callee.value (.func n),args:=args,argTypes:=ty }) (vals:Array Value) (hv:args.map a.eval=vals)
 {fn : Func} (hfn : Tryz.prog.funcs[n]? = some fn) (hnm : (fn.name == "runtime.NumGoroutine") = false) (hbd : fn.body.isSome = true)
 {R:Ending→World→Prop} (hc:Calls Tryz.prog n vals w R) (hK:∀ e w',R e w'→∃ v,e=.returned v∧K (a.put o.dst v) w') :
 if Region.wanted o (yielded ops a.tmps)=true then Oper.wp Tryz.prog o a w K Q else E:=by
 have hw:Region.wanted o (yielded ops a.tmps)=true:=by simp [Region.wanted,hg]
 have hn' : ¬ fn.name = "runtime.NumGoroutine" := by simpa using hnm
 have hb':¬ fn.body=none:=by intro h;rw [h] at hbd;cases hbd
 rw [if_pos hw];unfold Oper.wp
 simp [execOp,hop,resolve,invoke,Act.eval,Result.andThen,Deferred.ofValue,callFunc,Oper.upon,hv,hfn,hn',hb']
 refine hc.mono fun e w' h=>?_;obtain ⟨v,rfl,hk⟩:=hK e w' h;exact hk
theorem cell_alloc_old (w:World) (o:Obj) (b j:Nat) (h:b<w.heap.size):(w.alloc o).cell? ⟨b,j,none⟩=w.cell? ⟨b,j,none⟩:=World.cell?_of_block (Below.heap_alloc w o b h)
theorem wp_makeB0 (w:World) {ops:Array Oper} {rest:List Oper} {o:Oper} {a:Act} {Q:Exit→Act→World→Prop}
 (hg:o.guard=none) (l c:Operand) (hop:o.op=Op.makeSlice 30 l c) (C:Int) (n:Nat) (hl:a.eval l=.int .i64 0) (hc:a.eval c=.int .i64 C) (hC:C=(n:Int)) (hn:n≤140737488351232)
 (hK:∀ w',(∀ f,Own w' w.heap.size w'.heap.size (.slice (some ⟨w.heap.size,0,none⟩) 0 n) 0 f)→Below w.heap.size w w'→w.heap.size<w'.heap.size→wpList Tryz.prog ops Q rest (a.put o.dst (.slice (some ⟨w.heap.size,0,none⟩) 0 n)) w') :
 wpList Tryz.prog ops Q (o::rest) a w:=by
 obtain ⟨i0,hi0,hz0,hz1,hz2⟩:=info_parts info_u8;refine wpList_make_own w hg l c 30 hop w.heap.size 5 i0 (.int .u8 0) 1 Tryz.underlying30 hi0 hz0 hz1 .i64 .i64 C n hl hc hC (by rw [hz2];omega) (by unfold maxLen;omega) (Nat.le_refl _) ?_;intro w' hown hgrow;have hlt:=(hown.lt _ rfl).2;exact hK w' (fun f=>⟨hown,fun k hk=>(hown.lt k hk).2⟩) (below_of_grown hgrow) hlt
end Go.Proofs.YtclclojenogpbaaGreat
namespace Go.Proofs.YtclclojenogpbaaGreat
open Go.ChangeShapes Go.WideShapes Go.ChangeAt Go.RowKit F256
theorem add_none (b off j:Nat):(⟨b,off,none⟩:Addr).add j=⟨b,off+j,none⟩:=by unfold Addr.add;split<;>simp_all
theorem IsRow.rd {w:World} {a:Option Addr} {len cap:Nat} {zs:List Int} (h:IsRow w a len cap zs):∃ f:Nat→Nat,(∀ i,f i<256)∧Rd w w.heap.size (.slice a len cap) len f:=by
 rcases h with ⟨rfl,rfl,rfl,rfl⟩ | ⟨x,rfl,hl,hm,hz,hcell,hwz⟩
 ·exact ⟨fun _=>0,fun _=>Nat.zero_lt_succ _,none,0,rfl,Nat.zero_le _,fun h=>absurd rfl h⟩
 ·have hb:∀ i,0≤zs.getD i 0∧zs.getD i 0≤255:=fun i=>by
   by_cases h:i<zs.length
   ·have e:zs.getD i 0=zs[i]:=by simp [List.getD,h]
    rw [e];exact bounds_u8 (hwz _ (List.getElem_mem h))
   ·have e:zs.getD i 0=0:=by simp [List.getD,h]
    rw [e];omega
  refine ⟨fun i=>(zs.getD i 0).toNat,fun i=>by have:=hb i;show (zs.getD i 0).toNat<256;omega,some x,cap,rfl,by omega,fun h0=>?_⟩;have h00:=hcell 0 (by omega);have hspot:(x.add 0).spot=none:=World.cell?_spot h00;obtain ⟨b,off,spot⟩:=x
  have hspot':spot=none:=by simpa [Addr.add] using hspot
  subst hspot';refine ⟨b,off,rfl,World.block_lt_of_cell? w _ h00,fun i hi=>?_⟩;have hci:=hcell i (by omega)
  have e:(((zs.getD i 0).toNat:Nat):Int)=zs.getD i 0:=by have:=hb i;omega
  rw [e,← add_none];exact hci
end Go.Proofs.YtclclojenogpbaaGreat
namespace Go.Proofs.YtclclojenogpbaaGreat
open Go.RowKit F256
def intsOf (n:Nat) (f:Nat→Int):List Value:=(List.range n).map fun i=>Value.int .i64 (f i)
theorem intsOf_length (n:Nat) (f:Nat→Int):(intsOf n f).length=n:=by simp [intsOf]
theorem intsOf_get (n:Nat) (f:Nat→Int) (i:Nat) (h:i<n):(intsOf n f)[i]?=some (.int .i64 (f i)):=by simp [intsOf,h]
theorem intsOf_eq {n:Nat} {f g:Nat→Int} (h:∀ i,i<n→f i=g i):intsOf n f=intsOf n g:=by
 apply List.map_congr_left
 intro i hi;rw [h i (List.mem_range.mp hi)]
theorem intsOf_set (n:Nat) (f g:Nat→Int) (k:Nat) (x:Int) (hk:k<n) (h:∀ i,i<n→g i=if i=k then x else f i):(intsOf n f).set k (.int .i64 x)=intsOf n g:=by
 apply List.ext_getElem?
 intro i
 by_cases hi:i<n
 ·rw [intsOf_get n g i hi,h i hi,List.getElem?_set]
  by_cases e:k=i
  ·subst e;simp [intsOf_length,hk]
  ·rw [if_neg e,if_neg (fun h=>e h.symm),intsOf_get n f i hi]
 ·rw [List.getElem?_eq_none (by rw [List.length_set,intsOf_length];omega),List.getElem?_eq_none (by rw [intsOf_length];omega)]
theorem intsOf_snoc (n:Nat) (f:Nat→Int):intsOf n f++[.int .i64 (f n)]=intsOf (n+1) f:=by
 simp [intsOf,List.range_succ]
theorem intsOf_made (n:Nat):(madeCells #[Value.int .i64 0] n).toList=intsOf n fun _=>0:=by
 rw [toList_madeCells_one]
 apply List.ext_getElem?
 intro i
 by_cases hi:i<n
 ·rw [intsOf_get _ _ _ hi];simp [hi]
 ·rw [List.getElem?_eq_none (by simp;omega),List.getElem?_eq_none (by rw [intsOf_length];omega)]
def OwnI (w:World) (lo hi:Nat) (v:Value) (n:Nat) (f:Nat→Int):Prop:=
 w.ownsRow lo 2 1 v n (intsOf n f)∧∀ k,v.ownBlock=some k→k<hi
def RdI (w:World) (hi:Nat) (v:Value) (n:Nat) (f:Nat→Int):Prop:=
 ∃ ao cap,v=.slice ao n cap∧n≤maxLen∧(n≠0→∃ b off,ao=some ⟨b,off,none⟩∧b<hi∧∀ i,i<n→w.cell? ⟨b,off+i,none⟩=some (.int .i64 (f i)))
theorem OwnI.mono {w:World} {lo hi hi':Nat} {v:Value} {n:Nat} {f:Nat→Int} (h:OwnI w lo hi v n f) (hB:hi≤hi'):OwnI w lo hi' v n f:=
 ⟨h.1,fun k hk=>Nat.lt_of_lt_of_le (h.2 k hk) hB⟩
theorem OwnI.rd {w:World} {lo hi:Nat} {v:Value} {n:Nat} {f:Nat→Int} (h:OwnI w lo hi v n f):RdI w hi v n f:=by
 rcases h.1.2 with ⟨rfl,rfl⟩ | ⟨g,cap,cur,rfl,hbg,hgg,hnc,hcm,rest⟩
 ·exact ⟨none,0,rfl,Nat.zero_le _,fun h=>absurd rfl h⟩
 ·refine ⟨_,_,rfl,Nat.le_trans hnc hcm,fun _=>⟨g,0,rfl,h.2 g rfl,fun i hi=>?_⟩⟩
  have:=h.1.cellAt i (by omega);rw [Nat.zero_add,this,intsOf_get n f i hi]
theorem RdI.below {w w':World} {hi B:Nat} {v:Value} {n:Nat} {f:Nat→Int} (h:RdI w hi v n f) (hb:Below B w w') (hB:hi≤B):RdI w' hi v n f:=by
 obtain ⟨ao,cap,rfl,hn,hc⟩:=h;refine ⟨ao,cap,rfl,hn,fun h0=>?_⟩;obtain ⟨b,off,rfl,hlt,hcell⟩:=hc h0;exact ⟨b,off,rfl,hlt,fun i hi=>(hb.cell (p:=⟨b,off+i,none⟩) (by show b<B;omega)).trans (hcell i hi)⟩
theorem OwnI.congr {w:World} {lo hi:Nat} {v:Value} {n:Nat} {f g:Nat→Int} (h:OwnI w lo hi v n f) (e:∀ i,i<n→f i=g i):OwnI w lo hi v n g:=by
 refine ⟨?_,h.2⟩;rw [← intsOf_eq e];exact h.1
theorem OwnI.form {w:World} {lo hi:Nat} {v:Value} {n:Nat} {f:Nat→Int} (h:OwnI w lo hi v n f) (h0:n≠0) :
 ∃ g cap,v=.slice (some ⟨g,0,none⟩) n cap∧lo≤g∧g<hi∧g<w.heap.size∧n≤cap:=by
 rcases h.1.2 with ⟨rfl,rfl⟩ | ⟨g,cap,cur,rfl,hbg,hgg,hnc,_⟩
 ·exact absurd rfl h0
 ·exact ⟨g,cap,rfl,hbg,h.2 g rfl,(Array.getElem?_eq_some_iff.1 hgg).1,hnc⟩
theorem OwnI.slice {w:World} {lo hi:Nat} {v:Value} {n:Nat} {f:Nat→Int} (h:OwnI w lo hi v n f):∃ ao cap,v=.slice ao n cap:=by
 rcases h.1.2 with ⟨rfl,rfl⟩ | ⟨g,cap,cur,rfl,_⟩
 ·exact ⟨_,_,rfl⟩
 ·exact ⟨_,_,rfl⟩
theorem OwnI.store {w:World} {lo hi g cap n:Nat} {f g':Nat→Int} (h:OwnI w lo hi (.slice (some ⟨g,0,none⟩) n cap) n f) (k:Nat) (x:Int) (hk:k<n)
 (e:∀ i,i<n→g' i=if i=k then x else f i):OwnI (w.setCell ⟨g,k,none⟩ (.int .i64 x)) lo hi (.slice (some ⟨g,0,none⟩) n cap) n g':=by
 refine ⟨?_,h.2⟩;have:=(h.1.stored k (.int .i64 x)).1;rw [intsOf_set n f g' k x hk e] at this;exact this
theorem info_i64:(Tryz.prog.info? 2).map (fun i=>(i.zero,i.size,i.bytes))=some (some (.int .i64 0),1,8):=by kernel_rfl
theorem wp_makeI (w:World) {ops:Array Oper} {rest:List Oper} {o:Oper} {a:Act} {Q:Exit→Act→World→Prop}
 (hg:o.guard=none) (l c:Operand) (hop:o.op=Op.makeSlice 25 l c) (L C:Int) (n:Nat) (hl:a.eval l=.int .i64 L) (hc:a.eval c=.int .i64 C) (hL:L=(n:Int)) (hC:C=(n:Int)) (hn:n≤1000000000)
 (hK:∀ w',OwnI w' w.heap.size w'.heap.size (.slice (some ⟨w.heap.size,0,none⟩) n n) n (fun _=>0)→Below w.heap.size w w'→w.heap.size<w'.heap.size→wpList Tryz.prog ops Q rest (a.put o.dst (.slice (some ⟨w.heap.size,0,none⟩) n n)) w') :
 wpList Tryz.prog ops Q (o::rest) a w:=by
 obtain ⟨i0,hi0,hz0,hz1,hz2⟩:=info_parts info_i64;refine wpList_make_full w hg l c 25 hop w.heap.size 2 i0 (.int .i64 0) 1 Tryz.underlying25 hi0 hz0 hz1 .i64 .i64 L C n hl hc hL hC (by rw [hz2];omega) (by unfold maxLen;omega) (Nat.le_refl _) ?_;intro w' hown hgrow
 have hown':w'.ownsRow w.heap.size 2 1 (.slice (some ⟨w.heap.size,0,none⟩) n n) n (intsOf n fun _=>0):=by
  rw [← intsOf_made n]
  have e:(madeCells (Value.int IntKind.i64 0).cells (n*1)).toList=(madeCells #[Value.int .i64 0] n).toList:=by rw [Nat.mul_one];rfl
  rw [← e];exact hown
 have hlt:=(hown'.lt _ rfl).2;exact hK w' ⟨hown',fun k hk=>(hown'.lt k hk).2⟩ (below_of_grown hgrow) hlt
theorem OwnI.alloc {w:World} {lo hi:Nat} {v:Value} {n:Nat} {f:Nat→Int} (h:OwnI w lo hi v n f) (o:Obj):OwnI (w.alloc o) lo hi v n f:=⟨h.1.alloc o,h.2⟩
theorem ownI_lit0 (w:World) (g:Nat→Int):OwnI (w.alloc (.cells #[] 2)) w.heap.size (w.alloc (.cells #[] 2)).heap.size (.slice (some ⟨w.heap.size,0,none⟩) 0 0) 0 g:=by
 have h:=World.ownsRow_lit (base:=w.heap.size) (e:=2) (size:=1) w #[] 0 (Nat.le_refl _) (Nat.zero_le _) rfl;exact ⟨h,fun k hk=>(h.lt k hk).2⟩
theorem OwnI.weaken {w:World} {lo hi lo' hi':Nat} {v:Value} {n:Nat} {f:Nat→Int} (h:OwnI w lo hi v n f) (h1:lo'≤lo) (h2:hi≤hi'):OwnI w lo' hi' v n f:=by
 refine ⟨⟨h.1.1,?_⟩,fun k hk=>Nat.lt_of_lt_of_le (h.2 k hk) h2⟩
 rcases h.1.2 with hn | ⟨g,cap,cur,rfl,hbg,rest⟩
 ·exact .inl hn
 ·exact .inr ⟨g,cap,cur,rfl,by omega,rest⟩
end Go.Proofs.YtclclojenogpbaaGreat
namespace Go.Proofs.YtclclojenogpbaaGreat
open Go.ChangeShapes Go.WideShapes Go.ChangeAt Go.RowKit F256
def IsRowI (w:World) (a:Option Addr) (len cap:Nat) (zs:List Int):Prop:=
 (a=none∧len=0∧cap=0∧zs=[]) ∨
 ∃ x,a=some x∧len≤cap∧cap≤maxLen∧zs.length=cap∧(∀ i,i<zs.length→w.cell? (x.add i)=some (.int .i64 (zs.getD i 0)))∧∀ n∈zs,(Lit.int .i64 n).wf=true
theorem rowI_of_trod {t e:TypeId} {H:Type} {enc:TypeId×Value→H} {W:World} {a:Option Addr} {len cap:Nat} {d:DataW H} {ps:List MemPlace}
 (hu:Tryz.prog.underlying t=some (.slice e)) (he:Tryz.prog.underlying e=some (.int .i64)) (hc:Tryz.prog.cellsOf e=1)
 (h:DataW.Trod enc Tryz.prog W 0 (fun _=>true) true t (.slice a len cap) d ps):∃ zs,IsRowI W a len cap zs:=by
 obtain ⟨fuel,hf⟩:=h
 rcases open_ints hu he hc hf with ⟨hcs,_⟩ | ⟨x,l,c,zs,hcs,_,hl,hm,hz,_,hcell,hwz⟩
 ·simp [Value.cells] at hcs
  obtain ⟨rfl,rfl,rfl⟩:=hcs;exact ⟨[],.inl ⟨rfl,rfl,rfl,rfl⟩⟩
 ·simp [Value.cells] at hcs
  obtain ⟨rfl,rfl,rfl⟩:=hcs;exact ⟨zs,.inr ⟨_,rfl,hl,hm,by simpa using hz,hcell,hwz⟩⟩
theorem IsRowI.rd {w:World} {a:Option Addr} {len cap:Nat} {zs:List Int} (h:IsRowI w a len cap zs):∃ f:Nat→Int,(∀ i,-9223372036854775808≤f i∧f i≤9223372036854775807)∧RdI w w.heap.size (.slice a len cap) len f:=by
 rcases h with ⟨rfl,rfl,rfl,rfl⟩ | ⟨x,rfl,hl,hm,hz,hcell,hwz⟩
 ·exact ⟨fun _=>0,fun _=>(by show -9223372036854775808≤(0:Int)∧(0:Int)≤9223372036854775807;omega),none,0,rfl,Nat.zero_le _,fun h=>absurd rfl h⟩
 ·have hb:∀ i,-9223372036854775808≤zs.getD i 0∧zs.getD i 0≤9223372036854775807:=fun i=>by
   by_cases h:i<zs.length
   ·have e:zs.getD i 0=zs[i]:=by simp [List.getD,h]
    rw [e];exact bounds_i64 (hwz _ (List.getElem_mem h))
   ·have e:zs.getD i 0=0:=by simp [List.getD,h]
    rw [e];omega
  refine ⟨fun i=>zs.getD i 0,hb,some x,cap,rfl,by omega,fun h0=>?_⟩;have h00:=hcell 0 (by omega);have hspot:(x.add 0).spot=none:=World.cell?_spot h00;obtain ⟨b,off,spot⟩:=x
  have hspot':spot=none:=by simpa [Addr.add] using hspot
  subst hspot';refine ⟨b,off,rfl,World.block_lt_of_cell? w _ h00,fun i hi=>?_⟩;have hci:=hcell i (by omega);rw [← add_none];exact hci
end Go.Proofs.YtclclojenogpbaaGreat
namespace Go.Proofs.YtclclojenogpbaaGreat
open Go.RowKit
def catN {β:Type} (n:Nat) (f:Nat→List β):List β:=(List.range n).flatMap f
theorem catN_zero {β:Type} (f:Nat→List β):catN 0 f=[]:=rfl
theorem catN_succ {β:Type} (n:Nat) (f:Nat→List β):catN (n+1) f=catN n f++f n:=by
 unfold catN;rw [List.range_succ,List.flatMap_append]
 simp
theorem catN_len {β:Type} {n s:Nat} {f:Nat→List β} (h:∀ i,i<n→(f i).length=s):(catN n f).length=n*s:=by
 induction n with
 | zero=>simp [catN]
 | succ n ih=>rw [catN_succ,List.length_append,ih (fun i hi=>h i (by omega)),h n (by omega),Nat.succ_mul]
theorem catN_congr {β:Type} {n:Nat} {f g:Nat→List β} (h:∀ i,i<n→f i=g i):catN n f=catN n g:=by
 induction n with
 | zero=>rfl
 | succ n ih=>rw [catN_succ,catN_succ,ih (fun i hi=>h i (by omega)),h n (by omega)]
theorem catN_get {β:Type} {n s:Nat} {f:Nat→List β} (h:∀ i,i<n→(f i).length=s) {i j:Nat} (hi:i<n) (hj:j<s):(catN n f)[i*s+j]?=(f i)[j]?:=by
 induction n with
 | zero=>omega
 | succ n ih=>
  have hl:(catN n f).length=n*s:=catN_len (fun i hi=>h i (by omega));rw [catN_succ]
  by_cases c:i<n
  ·have:i*s+j<n*s:=by
    have:=Nat.mul_le_mul_right s (show i+1≤n from c);rw [Nat.succ_mul] at this;omega
   rw [List.getElem?_append_left (by omega),ih (fun i hi=>h i (by omega)) c]
  ·obtain rfl:i=n:=by omega
   rw [List.getElem?_append_right (by omega),hl]
   congr 1
   omega
theorem catN_set {β:Type} {n s:Nat} {f:Nat→List β} (h:∀ i,i<n→(f i).length=s) {i j:Nat} (hi:i<n) (hj:j<s) (u:β):(catN n f).set (i*s+j) u=catN n (fun k=>if k=i then (f i).set j u else f k):=by
 induction n with
 | zero=>omega
 | succ n ih=>
  have hl:(catN n f).length=n*s:=catN_len (fun i hi=>h i (by omega));rw [catN_succ,catN_succ]
  by_cases c:i<n
  ·have:i*s+j<n*s:=by
    have:=Nat.mul_le_mul_right s (show i+1≤n from c);rw [Nat.succ_mul] at this;omega
   rw [List.set_append_left _ _ (by omega),ih (fun i hi=>h i (by omega)) c,if_neg (by omega)]
  ·obtain rfl:i=n:=by omega
   rw [List.set_append_right _ _ (by omega),hl,if_pos rfl]
   congr 1
   ·exact catN_congr (fun k hk=>by rw [if_neg (by omega)])
   ·congr 1
    omega
theorem mem_catN {β:Type} {n:Nat} {f:Nat→List β} {b:β}:b∈catN n f↔∃ i,i<n∧b∈f i:=by
 unfold catN
 simp [List.mem_flatMap]
structure Lay (α:Type) where
 sz:Nat
 rd:World→Nat→α→List Value→Prop
 own:World→α→List Value→List Nat→Prop
 rd_len:∀ {w:World} {hi:Nat} {a:α} {cs:List Value},rd w hi a cs→cs.length=sz
 rd_below:∀ {w w':World} {hi B:Nat} {a:α} {cs:List Value},rd w hi a cs→Below B w w'→hi≤B→rd w' hi a cs
 rd_mono:∀ {w:World} {hi hi':Nat} {a:α} {cs:List Value},rd w hi a cs→hi≤hi'→rd w hi' a cs
 own_len:∀ {w:World} {a:α} {cs:List Value} {L:List Nat},own w a cs L→cs.length=sz
 own_kept:∀ {w w':World} {a:α} {cs:List Value} {L:List Nat},own w a cs L→(∀ b,b∈L→w'.heap[b]?=w.heap[b]?)→own w' a cs L
 own_lt:∀ {w:World} {a:α} {cs:List Value} {L:List Nat},own w a cs L→∀ b,b∈L→b<w.heap.size
 own_rd:∀ {w:World} {hi:Nat} {a:α} {cs:List Value} {L:List Nat},own w a cs L→(∀ b,b∈L→b<hi)→rd w hi a cs
 own_one:∀ {w:World} {a:α} {cs:List Value} {L:List Nat},own w a cs L→∀ u,u∈cs→u.oneCell'=true
def Lay.plain {α:Type} (enc:α→Value) (ok:α→Prop) (one:∀ a,(enc a).oneCell'=true):Lay α where
 sz:=1
 rd:=fun _ _ a cs=>cs=[enc a]∧ok a
 own:=fun _ a cs L=>cs=[enc a]∧ok a∧L=[]
 rd_len:=fun h=>by rw [h.1];rfl
 rd_below:=fun h _ _=>h
 rd_mono:=fun h _=>h
 own_len:=fun h=>by rw [h.1];rfl
 own_kept:=fun h _=>h
 own_lt:=fun h b hb=>by rw [h.2.2] at hb;cases hb
 own_rd:=fun h _=>⟨h.1,h.2.1⟩
 own_one:=fun {w a cs L} h u hu=>by rw [h.1] at hu;simp at hu;subst hu;exact one a
def layI:Lay Int:=Lay.plain (fun a=>.int .i64 a) (fun a=>-9223372036854775808≤a∧a≤9223372036854775807) (fun _=>rfl)
def layB:Lay Bool:=Lay.plain (fun a=>.bool a) (fun _=>True) (fun _=>rfl)
def layS:Lay ByteArray:=Lay.plain (fun a=>.string a) (fun a=>a.size≤maxLen) (fun _=>rfl)
def Lay.two {α β:Type} (A:Lay α) (B:Lay β):Lay (α×β) where
 sz:=A.sz+B.sz
 rd:=fun w hi p cs=>∃ c d,cs=c++d∧A.rd w hi p.1 c∧B.rd w hi p.2 d
 own:=fun w p cs L=>∃ c d K M,cs=c++d∧L=K++M∧A.own w p.1 c K∧B.own w p.2 d M
 rd_len:=fun h=>by obtain ⟨c,d,rfl,h1,h2⟩:=h;rw [List.length_append,A.rd_len h1,B.rd_len h2]
 rd_below:=fun h hb hB=>by obtain ⟨c,d,rfl,h1,h2⟩:=h;exact ⟨c,d,rfl,A.rd_below h1 hb hB,B.rd_below h2 hb hB⟩
 rd_mono:=fun h hb=>by obtain ⟨c,d,rfl,h1,h2⟩:=h;exact ⟨c,d,rfl,A.rd_mono h1 hb,B.rd_mono h2 hb⟩
 own_len:=fun h=>by obtain ⟨c,d,K,M,rfl,rfl,h1,h2⟩:=h;rw [List.length_append,A.own_len h1,B.own_len h2]
 own_kept:=fun h hk=>by
  obtain ⟨c,d,K,M,rfl,rfl,h1,h2⟩:=h;exact ⟨c,d,K,M,rfl,rfl,A.own_kept h1 (fun b hb=>hk b (List.mem_append_left _ hb)),B.own_kept h2 (fun b hb=>hk b (List.mem_append_right _ hb))⟩
 own_lt:=fun h b hb=>by
  obtain ⟨c,d,K,M,rfl,rfl,h1,h2⟩:=h
  rcases List.mem_append.1 hb with h | h
  ·exact A.own_lt h1 b h
  ·exact B.own_lt h2 b h
 own_rd:=fun h hk=>by
  obtain ⟨c,d,K,M,rfl,rfl,h1,h2⟩:=h;exact ⟨c,d,rfl,A.own_rd h1 (fun b hb=>hk b (List.mem_append_left _ hb)),B.own_rd h2 (fun b hb=>hk b (List.mem_append_right _ hb))⟩
 own_one:=fun h u hu=>by
  obtain ⟨c,d,K,M,rfl,rfl,h1,h2⟩:=h
  rcases List.mem_append.1 hu with h | h
  ·exact A.own_one h1 u h
  ·exact B.own_one h2 u h
def Lay.as {α β:Type} (A:Lay α) (to:β→α):Lay β where
 sz:=A.sz
 rd:=fun w hi b cs=>A.rd w hi (to b) cs
 own:=fun w b cs L=>A.own w (to b) cs L
 rd_len:=A.rd_len
 rd_below:=A.rd_below
 rd_mono:=A.rd_mono
 own_len:=A.own_len
 own_kept:=A.own_kept
 own_lt:=A.own_lt
 own_rd:=A.own_rd
 own_one:=A.own_one
def layBytes:Lay (Nat×(Nat→Nat)) where
 sz:=1
 rd:=fun w hi p cs=>∃ v,cs=[v]∧Rd w hi v p.1 p.2∧∀ i,p.2 i<256
 own:=fun w p cs L=>∃ v,cs=[v]∧L=v.ownBlock.toList∧Own w 0 w.heap.size v p.1 p.2∧∀ i,p.2 i<256
 rd_len:=fun h=>by obtain ⟨v,rfl,_⟩:=h;rfl
 rd_below:=fun h hb hB=>by obtain ⟨v,rfl,h1,h2⟩:=h;exact ⟨v,rfl,h1.below hb hB,h2⟩
 rd_mono:=fun h hb=>by obtain ⟨v,rfl,h1,h2⟩:=h;exact ⟨v,rfl,h1.mono hb,h2⟩
 own_len:=fun h=>by obtain ⟨v,rfl,_⟩:=h;rfl
 own_kept:=fun h hk=>by
  obtain ⟨v,rfl,rfl,h1,h2⟩:=h;have h3:=h1.1.lt;refine ⟨v,rfl,rfl,?_,h2⟩
  rcases h1.1.2 with hn | ⟨g,cap,cur,rfl,hbg,hgg,rest⟩
  ·exact ⟨⟨h1.1.1,.inl hn⟩,fun k hk'=>by rw [hn.1] at hk';cases hk'⟩
  ·have e:=hk g (by simp [Value.ownBlock])
   rw [hgg] at e
   exact ⟨⟨h1.1.1,.inr ⟨g,cap,cur,rfl,hbg,e,rest⟩⟩,fun k hk'=>by
    simp [Value.ownBlock] at hk'
    subst hk'
    exact (Array.getElem?_eq_some_iff.1 e).1⟩
 own_lt:=fun h b hb=>by
  obtain ⟨v,rfl,rfl,h1,h2⟩:=h;exact (h1.1.lt b (by simpa using hb)).2
 own_rd:=fun h hk=>by
  obtain ⟨v,rfl,rfl,h1,h2⟩:=h;refine ⟨v,rfl,?_,h2⟩;obtain ⟨ao,cap,rfl,hm,hc⟩:=h1.rd;refine ⟨ao,cap,rfl,hm,fun h0=>?_⟩;obtain ⟨b,off,rfl,hb,hcell⟩:=hc h0;exact ⟨b,off,rfl,hk b (by simp [Value.ownBlock]),hcell⟩
 own_one:=fun h u hu=>by
  obtain ⟨v,rfl,rfl,h1,h2⟩:=h;obtain ⟨ao,cap,rfl⟩:=h1.slice
  simp at hu
  subst hu;rfl
def Lay.slice {α:Type} (E:Lay α) (t:TypeId):Lay (Nat×(Nat→α)) where
 sz:=1
 rd:=fun w hi p cs=>∃ ao cap,cs=[.slice ao p.1 cap]∧p.1≤maxLen∧(p.1≠0→∃ b off,ao=some ⟨b,off,none⟩∧b<hi∧∀ i,i<p.1→∃ ce,E.rd w hi (p.2 i) ce∧∀ j,j<E.sz→w.cell? ⟨b,off+(i*E.sz+j),none⟩=ce[j]?)
 own:=fun w p cs L=>∃ (v:Value) (ce:Nat→List Value) (Ls:Nat→List Nat),cs=[v]∧L=v.ownBlock.toList++catN p.1 Ls∧w.ownsRow 0 t E.sz v p.1 (catN p.1 ce)∧∀ i,i<p.1→E.own w (p.2 i) (ce i) (Ls i)
 rd_len:=fun h=>by obtain ⟨ao,cap,rfl,_⟩:=h;rfl
 rd_below:=fun h hb hB=>by
  obtain ⟨ao,cap,rfl,hm,hc⟩:=h;refine ⟨ao,cap,rfl,hm,fun h0=>?_⟩;obtain ⟨b,off,rfl,hbh,hcell⟩:=hc h0;refine ⟨b,off,rfl,hbh,fun i hi=>?_⟩;obtain ⟨ce,h1,h2⟩:=hcell i hi;exact ⟨ce,E.rd_below h1 hb hB,fun j hj=>(hb.cell (p:=⟨b,off+(i*E.sz+j),none⟩) (by show b<_;omega)).trans (h2 j hj)⟩
 rd_mono:=fun h hb=>by
  obtain ⟨ao,cap,rfl,hm,hc⟩:=h;refine ⟨ao,cap,rfl,hm,fun h0=>?_⟩;obtain ⟨b,off,rfl,hbh,hcell⟩:=hc h0;refine ⟨b,off,rfl,by omega,fun i hi=>?_⟩;obtain ⟨ce,h1,h2⟩:=hcell i hi;exact ⟨ce,E.rd_mono h1 hb,h2⟩
 own_len:=fun h=>by obtain ⟨v,ce,Ls,rfl,_⟩:=h;rfl
 own_kept:=fun h hk=>by
  obtain ⟨v,ce,Ls,rfl,rfl,h1,h2⟩:=h;refine ⟨v,ce,Ls,rfl,rfl,⟨h1.1,?_⟩,fun i hi=>E.own_kept (h2 i hi) (fun b hb=>hk b (List.mem_append_right _ (mem_catN.2 ⟨i,hi,hb⟩)))⟩
  rcases h1.2 with hn | ⟨g,cap,cur,rfl,hbg,hgg,rest⟩
  ·exact .inl hn
  ·exact .inr ⟨g,cap,cur,rfl,hbg,(hk g (by simp [Value.ownBlock])).trans hgg,rest⟩
 own_lt:=fun h b hb=>by
  obtain ⟨v,ce,Ls,rfl,rfl,h1,h2⟩:=h
  rcases List.mem_append.1 hb with h | h
  ·exact (h1.lt b (by simpa using h)).2
  ·obtain ⟨i,hi,hbi⟩:=mem_catN.1 h
   exact E.own_lt (h2 i hi) b hbi
 own_rd:=fun {w} {hi0} {p} {cs} {L} h hk=>by
  obtain ⟨v,ce,Ls,rfl,rfl,h1,h2⟩:=h
  rcases h1.2 with ⟨rfl,h0⟩ | ⟨g,cap,cur,rfl,hbg,hgg,hnc,hcm,hcs,htake⟩
  ·exact ⟨none,0,by rw [h0],by omega,fun h=>absurd h0 h⟩
  ·refine ⟨_,_,rfl,by omega,fun h0=>⟨g,0,rfl,hk g (by simp [Value.ownBlock]),fun i hi=>?_⟩⟩
   refine ⟨ce i,E.own_rd (h2 i hi) (fun b hb=>hk b (List.mem_append_right _ (mem_catN.2 ⟨i,hi,hb⟩))),fun j hj=>?_⟩
   have hlt:i*E.sz+j<p.1*E.sz:=by
    have:=Nat.mul_le_mul_right E.sz (show i+1≤p.1 from hi);rw [Nat.succ_mul] at this;omega
   rw [Nat.zero_add,h1.cellAt _ hlt,catN_get (fun i hi=>E.own_len (h2 i hi)) hi hj]
 own_one:=fun h u hu=>by
  obtain ⟨v,ce,Ls,rfl,rfl,h1,h2⟩:=h
  simp at hu
  subst hu
  rcases h1.2 with ⟨rfl,_⟩ | ⟨g,cap,cur,rfl,_⟩
  ·rfl
  ·rfl
def OwnT {α:Type} (A:Lay α) (w:World) (lo hi:Nat) (a:α) (cs:List Value):Prop:=∃ L,A.own w a cs L∧L.Nodup∧∀ b,b∈L→lo≤b∧b<hi
theorem OwnT.rd {α:Type} {A:Lay α} {w:World} {lo hi:Nat} {a:α} {cs:List Value} (h:OwnT A w lo hi a cs):A.rd w hi a cs:=by
 obtain ⟨L,h1,_,h3⟩:=h;exact A.own_rd h1 (fun b hb=>(h3 b hb).2)
theorem OwnT.chg {α:Type} {A:Lay α} {w w':World} {lo hi lo' hi':Nat} {a:α} {cs:List Value} (h:OwnT A w lo hi a cs) (hc:Chg lo' hi' w w') (hB:hi≤lo'∨hi'≤lo):OwnT A w' lo hi a cs:=by
 obtain ⟨L,h1,h2,h3⟩:=h;exact ⟨L,A.own_kept h1 (fun b hb'=>hc.block b (A.own_lt h1 b hb') (by have:=h3 b hb';omega)),h2,h3⟩
theorem OwnT.weaken {α:Type} {A:Lay α} {w:World} {lo hi lo' hi':Nat} {a:α} {cs:List Value} (h:OwnT A w lo hi a cs) (h1:lo'≤lo) (h2:hi≤hi'):OwnT A w lo' hi' a cs:=by
 obtain ⟨L,k1,k2,k3⟩:=h;exact ⟨L,k1,k2,fun b hb=>by have:=k3 b hb;omega⟩
def CapP (v:Value) (n:Nat):Prop:=∃ ao cap,v=.slice ao n cap∧n≤cap
def layInts:Lay (Nat×(Nat→Int)) where
 sz:=1
 rd:=fun w hi p cs=>∃ v,cs=[v]∧(RdI w hi v p.1 p.2∧CapP v p.1)∧∀ i,-9223372036854775808≤p.2 i∧p.2 i≤9223372036854775807
 own:=fun w p cs L=>∃ v,cs=[v]∧L=v.ownBlock.toList∧OwnI w 0 w.heap.size v p.1 p.2∧∀ i,-9223372036854775808≤p.2 i∧p.2 i≤9223372036854775807
 rd_len:=fun h=>by obtain ⟨v,rfl,_⟩:=h;rfl
 rd_below:=fun h hb hB=>by obtain ⟨v,rfl,⟨h1,hcp⟩,h2⟩:=h;exact ⟨v,rfl,⟨h1.below hb hB,hcp⟩,h2⟩
 rd_mono:=fun h hb=>by
  obtain ⟨v,rfl,⟨⟨ao,cap,rfl,hm,hc⟩,hcp⟩,h2⟩:=h;refine ⟨_,rfl,⟨⟨ao,cap,rfl,hm,fun h0=>?_⟩,hcp⟩,h2⟩;obtain ⟨b,off,rfl,hbh,hcell⟩:=hc h0;exact ⟨b,off,rfl,by omega,hcell⟩
 own_len:=fun h=>by obtain ⟨v,rfl,_⟩:=h;rfl
 own_kept:=fun h hk=>by
  obtain ⟨v,rfl,rfl,h1,h2⟩:=h;refine ⟨v,rfl,rfl,?_,h2⟩
  rcases h1.1.2 with hn | ⟨g,cap,cur,rfl,hbg,hgg,rest⟩
  ·exact ⟨⟨h1.1.1,.inl hn⟩,fun k hk'=>by rw [hn.1] at hk';cases hk'⟩
  ·have e:=hk g (by simp [Value.ownBlock])
   rw [hgg] at e
   exact ⟨⟨h1.1.1,.inr ⟨g,cap,cur,rfl,hbg,e,rest⟩⟩,fun k hk'=>by
    simp [Value.ownBlock] at hk'
    subst hk'
    exact (Array.getElem?_eq_some_iff.1 e).1⟩
 own_lt:=fun h b hb=>by
  obtain ⟨v,rfl,rfl,h1,h2⟩:=h;exact (h1.1.lt b (by simpa using hb)).2
 own_rd:=fun {w hi p cs L} h hk=>by
  obtain ⟨v,rfl,rfl,h1,h2⟩:=h
  have hcp:CapP v p.1:=by
   rcases h1.1.2 with ⟨e,h0⟩ | ⟨g,cap,cur,e,hbg,hgg,hnc,_⟩
   ·exact ⟨none,0,by rw [e,h0],by omega⟩
   ·exact ⟨_,cap,e,hnc⟩
  refine ⟨v,rfl,⟨?_,hcp⟩,h2⟩;obtain ⟨ao,cap,rfl,hm,hc⟩:=h1.rd;refine ⟨ao,cap,rfl,hm,fun h0=>?_⟩;obtain ⟨b,off,rfl,hb,hcell⟩:=hc h0;exact ⟨b,off,rfl,hk b (by simp [Value.ownBlock]),hcell⟩
 own_one:=fun h u hu=>by
  obtain ⟨v,rfl,rfl,h1,h2⟩:=h;obtain ⟨ao,cap,rfl⟩:=h1.slice
  simp at hu
  subst hu;rfl
structure ChgL (K:List Nat) (w w':World):Prop where
 os:w'.os=w.os
 tape:w'.tape=w.tape
 output:w'.output=w.output
 size:w.heap.size≤w'.heap.size
 block:∀ b,b<w.heap.size→b∉K→w'.heap[b]?=w.heap[b]?
theorem ChgL.refl (K:List Nat) (w:World):ChgL K w w:=⟨rfl,rfl,rfl,Nat.le_refl _,fun _ _ _=>rfl⟩
theorem ChgL.trans {K:List Nat} {a b c:World} (h:ChgL K a b) (k:ChgL K b c):ChgL K a c:=
 ⟨k.os.trans h.os,k.tape.trans h.tape,k.output.trans h.output,Nat.le_trans h.size k.size,fun i hi hn=>(k.block i (Nat.lt_of_lt_of_le hi h.size) hn).trans (h.block i hi hn)⟩
theorem ChgL.mono {K K':List Nat} {w w':World} (h:ChgL K w w') (hs:∀ b,b∈K→b∈K'):ChgL K' w w':=
 ⟨h.os,h.tape,h.output,h.size,fun b hb hn=>h.block b hb (fun x=>hn (hs b x))⟩
theorem ChgL.store (K:List Nat) (w:World) (b j:Nat) (u:Value) (hb:b∈K):ChgL K w (w.setCell ⟨b,j,none⟩ u):=
 ⟨rfl,rfl,rfl,by simp,fun k hk hn=>heap_setCell_other w ⟨b,j,none⟩ k u (by show k≠b;intro h;subst h;exact hn hb)⟩
theorem ChgL.of_below {K:List Nat} {w w':World} (h:Below w.heap.size w w'):ChgL K w w':=⟨h.os,h.tape,h.output,h.size,fun b hb _=>h.block b hb⟩
theorem ChgL.of_out {K:List Nat} {g:Nat} {w w':World} (h:Out g (g+1) w w') (hg:g∈K):ChgL K w w':=
 ⟨h.os,h.tape,h.output,Nat.le_of_eq h.size.symm,fun b _ hn=>h.block b (by
  by_cases c:b=g
  ·subst c;exact absurd hg hn
  ·omega)⟩
theorem ChgL.chg {K:List Nat} {lo hi:Nat} {w w':World} (h:ChgL K w w') (hK:∀ b,b∈K→lo≤b∧b<hi):Chg lo hi w w':=
 ⟨h.os,h.tape,h.output,h.size,fun b hb hn=>h.block b hb (fun x=>by have:=hK b x;omega)⟩
theorem Lay.own_chgL {α:Type} (A:Lay α) {w w':World} {a:α} {cs:List Value} {K L:List Nat} (h:A.own w a cs L) (hc:ChgL K w w') (hd:∀ b,b∈L→b∉K):A.own w' a cs L:=
 A.own_kept h (fun b hb=>hc.block b (A.own_lt h b hb) (hd b hb))
def upd {β:Type} (f:Nat→β) (i:Nat) (a:β):Nat→β:=fun k=>if k=i then a else f k
theorem upd_at {β:Type} (f:Nat→β) (i:Nat) (a:β):upd f i a i=a:=by simp [upd]
theorem upd_ne {β:Type} (f:Nat→β) {i k:Nat} (a:β) (h:k≠i):upd f i a k=f k:=by simp [upd,h]
structure SlO {α:Type} (E:Lay α) (t:TypeId) (w:World) (g cap n:Nat) (x:Nat→α) (ce:Nat→List Value) (Ls:Nat→List Nat):Prop where
 row:w.ownsRow 0 t E.sz (.slice (some ⟨g,0,none⟩) n cap) n (catN n ce)
 each:∀ i,i<n→E.own w (x i) (ce i) (Ls i)
section
variable {α:Type} {E:Lay α} {t:TypeId} {w w':World} {g cap n:Nat} {x:Nat→α} {ce:Nat→List Value} {Ls:Nat→List Nat}
theorem slice_form {p:Nat×(Nat→α)} {cs:List Value} {L:List Nat} (h:(E.slice t).own w p cs L) (h0:p.1≠0):∃ g cap ce Ls,cs=[.slice (some ⟨g,0,none⟩) p.1 cap]∧L=g::catN p.1 Ls∧SlO E t w g cap p.1 p.2 ce Ls:=by
 obtain ⟨v,ce,Ls,rfl,rfl,h1,h2⟩:=h;have h1':=h1
 rcases h1.2 with ⟨rfl,h⟩ | ⟨g,cap,cur,rfl,_⟩
 ·exact absurd h h0
 ·exact ⟨g,cap,ce,Ls,rfl,by simp [Value.ownBlock],h1',h2⟩
theorem SlO.own (h:SlO E t w g cap n x ce Ls):(E.slice t).own w (n,x) [.slice (some ⟨g,0,none⟩) n cap] (g::catN n Ls):=
 ⟨_,ce,Ls,rfl,by simp [Value.ownBlock],h.row,h.each⟩
theorem SlO.lens (h:SlO E t w g cap n x ce Ls):∀ i,i<n→(ce i).length=E.sz:=fun i hi=>E.own_len (h.each i hi)
theorem mul_lt {i n s j:Nat} (hi:i<n) (hj:j<s):i*s+j<n*s:=by
 have:=Nat.mul_le_mul_right s (show i+1≤n from hi);rw [Nat.succ_mul] at this;omega
theorem SlO.cell (h:SlO E t w g cap n x ce Ls) {i j:Nat} (hi:i<n) (hj:j<E.sz):w.cell? ⟨g,i*E.sz+j,none⟩=(ce i)[j]?:=by
 rw [h.row.cellAt _ (mul_lt hi hj),catN_get h.lens hi hj]
theorem SlO.frozen (h:SlO E t w g cap n x ce Ls) (j:Nat):w.frozen? ⟨g,j,none⟩=false:=h.row.frozenAt j
theorem SlO.lt (h:SlO E t w g cap n x ce Ls):g<w.heap.size:=(h.row.lt g rfl).2
theorem SlO.store (h:SlO E t w g cap n x ce Ls) (nd:(g::catN n Ls).Nodup) {i j:Nat} (hi:i<n) (hj:j<E.sz) (u:Value) {a':α} (ha:E.own w a' ((ce i).set j u) (Ls i)) :
 SlO E t (w.setCell ⟨g,i*E.sz+j,none⟩ u) g cap n (upd x i a') (upd ce i ((ce i).set j u)) Ls:=by
 have hg:∀ k,k<n→∀ b,b∈Ls k→b≠g:=fun k hk b hb hh=>by
  subst hh;exact (List.nodup_cons.1 nd).1 (mem_catN.2 ⟨k,hk,hb⟩)
 refine ⟨?_,fun k hk=>?_⟩
 ·have:=(h.row.stored (i*E.sz+j) u).1
  rw [catN_set h.lens hi hj] at this;exact this
 ·by_cases c:k=i
  ·subst c
   rw [upd_at,upd_at];exact E.own_kept ha (fun b hb=>heap_setCell_other w _ b u (hg k hk b hb))
  ·rw [upd_ne x a' c,upd_ne ce _ c]
   exact E.own_kept (h.each k hk) (fun b hb=>heap_setCell_other w _ b u (hg k hk b hb))
theorem cat_apart {n:Nat} {Ls:Nat→List Nat} (nd:(catN n Ls).Nodup) {i k:Nat} (hi:i<n) (hk:k<n) (hne:k≠i) {b:Nat} (hb:b∈Ls k):b∉Ls i:=by
 induction n with
 | zero=>omega
 | succ n ih=>
  rw [catN_succ] at nd;obtain ⟨n1,n2,n3⟩:=List.nodup_append.1 nd
  by_cases ci:i=n
  ·subst ci
   intro hbi;exact n3 b (mem_catN.2 ⟨k,by omega,hb⟩) b hbi rfl
  ·by_cases ck:k=n
   ·subst ck
    intro hbi;exact n3 b (mem_catN.2 ⟨i,by omega,hbi⟩) b hb rfl
   ·exact ih n1 (by omega) (by omega)
theorem SlO.into (h:SlO E t w g cap n x ce Ls) (nd:(g::catN n Ls).Nodup) {i:Nat} (hi:i<n) (hc:ChgL (Ls i) w w') {a':α} (ha:E.own w' a' (ce i) (Ls i)) :
 SlO E t w' g cap n (upd x i a') ce Ls:=by
 refine ⟨?_,fun k hk=>?_⟩
 ·refine ⟨h.row.1,?_⟩
  rcases h.row.2 with ⟨hn,_⟩ | ⟨g',cap',cur,he,hbg,hgg,rest⟩
  ·cases hn
  ·cases he
   refine .inr ⟨g,cap,cur,rfl,hbg,(hc.block g h.lt (fun hb=>(List.nodup_cons.1 nd).1 (mem_catN.2 ⟨i,hi,hb⟩))).trans hgg,rest⟩
 ·by_cases c:k=i
  ·subst c
   rw [upd_at];exact ha
  ·rw [upd_ne x a' c]
   exact E.own_chgL (h.each k hk) hc (fun b hb=>cat_apart (List.nodup_cons.1 nd).2 hi hk c hb)
theorem SlO.kept (h:SlO E t w g cap n x ce Ls) (hk:∀ b,b∈g::catN n Ls→w'.heap[b]?=w.heap[b]?):SlO E t w' g cap n x ce Ls:=by
 refine ⟨⟨h.row.1,?_⟩,fun i hi=>E.own_kept (h.each i hi) (fun b hb=>hk b (List.mem_cons_of_mem _ (mem_catN.2 ⟨i,hi,hb⟩)))⟩
 rcases h.row.2 with ⟨hn,_⟩ | ⟨g',cap',cur,he,hbg,hgg,rest⟩
 ·cases hn
 ·cases he
  exact .inr ⟨g,cap,cur,rfl,hbg,(hk g (List.mem_cons_self ..)).trans hgg,rest⟩
end
end Go.Proofs.YtclclojenogpbaaGreat
namespace Go.Proofs.YtclclojenogpbaaGreat
open Go.ChangeShapes Go.WideShapes Go.ChangeAt Go.RowKit Go.Deep
structure Opens {α:Type} (A:Lay α) (t:TypeId):Prop where
 size:Tryz.prog.cellsOf t=A.sz
 inh:∃ a:α,True
 opens:∀ {H:Type} {enc:TypeId×Value→H} {W:World} {fuel:Nat} {cs:List Value} {x:DataW H×List MemPlace},DataW.trod enc Tryz.prog W 0 (fun _=>true) true fuel t cs=some x→∃ a,A.rd W W.heap.size a cs
theorem opensI {t:TypeId} (hu:Tryz.prog.underlying t=some (.int .i64)) (hc:Tryz.prog.cellsOf t=1):Opens layI t:=
 ⟨hc,⟨0,trivial⟩,fun h=>by
  obtain ⟨n,rfl,_,hw⟩:=DataW.trod_int hu h
  exact ⟨n,rfl,bounds_i64 hw⟩⟩
theorem opensB {t:TypeId} (hu:Tryz.prog.underlying t=some .bool) (hc:Tryz.prog.cellsOf t=1):Opens layB t:=
 ⟨hc,⟨false,trivial⟩,fun h=>by
  obtain ⟨b,rfl,_⟩:=DataW.trod_bool hu h
  exact ⟨b,rfl,trivial⟩⟩
theorem opensS {t:TypeId} (hu:Tryz.prog.underlying t=some .string) (hc:Tryz.prog.cellsOf t=1):Opens layS t:=
 ⟨hc,⟨ByteArray.empty,trivial⟩,fun h=>by
  obtain ⟨s,rfl,_,hm⟩:=DataW.trod_string hu h
  exact ⟨s,rfl,hm⟩⟩
theorem opens_slice {α:Type} {E:Lay α} {t e u:TypeId} (hs:0<E.sz) (hu:Tryz.prog.underlying t=some (.slice e)) (hc:Tryz.prog.cellsOf t=1) (hE:Opens E e):Opens (E.slice u) t:=by
 obtain ⟨a0,_⟩:=hE.inh;refine ⟨hc,⟨(0,fun _=>a0),trivial⟩,fun {H enc W fuel cs x} h=>?_⟩
 rcases open_slice hu h with ⟨rfl,_⟩ | ⟨a,len,cap,m,n,D,Pl,rfl,_,hl,hm,hmm,_,hel⟩
 ·exact ⟨(0,fun _=>a0),none,0,rfl,Nat.zero_le _,fun h0=>absurd rfl h0⟩
 ·have hlm:len≤m:=by rw [hmm];simp;exact hl
  have each:∀ i,∃ y:α,i<len→∃ ce,E.rd W W.heap.size y ce∧W.cells? 0 (a.add (i*E.sz)) E.sz=some ce:=fun i=>by
   by_cases hi:i<len
   ·obtain ⟨ce,h1,h2⟩:=hel i (by omega)
    obtain ⟨y,hy⟩:=hE.opens h2;rw [hE.size] at h1;exact ⟨y,fun _=>⟨ce,hy,h1⟩⟩
   ·exact ⟨a0,fun h=>absurd h hi⟩
  refine ⟨(len,fun i=>(each i).choose),some a,cap,rfl,by show len≤maxLen;omega,fun h0=>?_⟩;have h0':0<len:=Nat.pos_of_ne_zero h0;obtain ⟨ce0,_,hc0⟩:=(each 0).choose_spec h0';obtain ⟨_,hl0,hcell0⟩:=World.cells?_some hc0;have h00:=hcell0 0 hs;rw [List.getElem?_eq_getElem (by omega)] at h00;have hspot:=World.cell?_spot h00;have hblk:=World.block_lt_of_cell? W _ h00;obtain ⟨b,off,spot⟩:=a
  have hspot':spot=none:=by simpa [Addr.add] using hspot
  subst hspot';refine ⟨b,off,rfl,by simpa [Addr.add] using hblk,fun i hi=>?_⟩;obtain ⟨ce,h1,h2⟩:=(each i).choose_spec hi;obtain ⟨_,_,hcell⟩:=World.cells?_some h2;refine ⟨ce,h1,fun j hj=>?_⟩;have:=hcell j hj;rw [add_none,add_none,Nat.add_assoc] at this;exact this
theorem opensBytes {t e:TypeId} (hu:Tryz.prog.underlying t=some (.slice e)) (he:Tryz.prog.underlying e=some (.int .u8)) (hc:Tryz.prog.cellsOf t=1) (hc1:Tryz.prog.cellsOf e=1):Opens layBytes t:=
 ⟨hc,⟨(0,fun _=>0),trivial⟩,fun {H enc W fuel cs x} h=>by
  have hsl:∃ a len cap,cs=[.slice a len cap]:=by
   rcases open_slice hu h with ⟨rfl,_⟩ | ⟨a,len,cap,_,_,_,_,rfl,_⟩
   ·exact ⟨_,_,_,rfl⟩
   ·exact ⟨_,_,_,rfl⟩
  obtain ⟨a,len,cap,rfl⟩:=hsl;obtain ⟨d,ps⟩:=x;obtain ⟨zs,hz⟩:=row_of_trod (t:=t) (a:=a) (len:=len) (cap:=cap) hu he hc1 ⟨fuel,h⟩;obtain ⟨f,kf,hr⟩:=hz.rd
  exact ⟨(len,f),_,rfl,hr,kf⟩⟩
theorem opensInts {t e:TypeId} (hu:Tryz.prog.underlying t=some (.slice e)) (he:Tryz.prog.underlying e=some (.int .i64)) (hc:Tryz.prog.cellsOf t=1) (hc1:Tryz.prog.cellsOf e=1):Opens layInts t:=
 ⟨hc,⟨(0,fun _=>0),trivial⟩,fun {H enc W fuel cs x} h=>by
  have hsl:∃ a len cap,cs=[.slice a len cap]∧len≤cap:=by
   rcases open_slice hu h with ⟨rfl,_⟩ | ⟨a,len,cap,_,_,_,_,rfl,_,hl,_⟩
   ·exact ⟨_,_,_,rfl,Nat.le_refl _⟩
   ·exact ⟨_,_,_,rfl,hl⟩
  obtain ⟨a,len,cap,rfl,hl⟩:=hsl;obtain ⟨d,ps⟩:=x;obtain ⟨zs,hz⟩:=rowI_of_trod (t:=t) (a:=a) (len:=len) (cap:=cap) hu he hc1 ⟨fuel,h⟩;obtain ⟨f,kf,hr⟩:=hz.rd
  exact ⟨(len,f),_,rfl,⟨hr,_,_,rfl,hl⟩,kf⟩⟩
theorem opens_as {α β:Type} {A:Lay α} {t:TypeId} {to:β→α} (back:α→β) (hb:∀ a,to (back a)=a) (h:Opens A t):Opens (A.as to) t:=
 ⟨h.size,by obtain ⟨a,_⟩:=h.inh;exact ⟨back a,trivial⟩,fun h1=>by
  obtain ⟨a,ha⟩:=h.opens h1
  exact ⟨back a,by show A.rd _ _ (to (back a)) _;rw [hb];exact ha⟩⟩
structure OpensFrom {α:Type} (A:Lay α) (fs:Array Field) (i o tot:Nat):Prop where
 fits:o+A.sz=tot
 inh:∃ a:α,True
 opens:∀ {H:Type} {enc:TypeId×Value→H} {W:World} {n:Nat} {cs:List Value} {xs:List (DataW H×List MemPlace)},cs.length=tot→xs.length=fs.size→
  (∀ (k:Nat) (f:Field),fs[k]?=some f→DataW.trod enc Tryz.prog W 0 (fun _=>true) true n f.type ((cs.drop f.offset).take (Tryz.prog.cellsOf f.type))=xs[k]?)→∃ a,A.rd W W.heap.size a (cs.drop o)
theorem opens_last {α:Type} {A:Lay α} {fs:Array Field} {i o tot:Nat} {t:TypeId} (hf:∃ f,fs[i]?=some f∧f.type=t∧f.offset=o) (h:Opens A t) (ht:o+A.sz=tot):OpensFrom A fs i o tot:=
 ⟨ht,h.inh,fun {H enc W n cs xs} hl hx hget=>by
  obtain ⟨f,h1,h2,h3⟩:=hf;have hg:=hget i f h1
  have hi:i<xs.length:=by rw [hx];exact (Array.getElem?_eq_some_iff.1 h1).1
  rw [List.getElem?_eq_getElem hi,h2,h3,h.size] at hg;obtain ⟨a,ha⟩:=h.opens hg;rw [List.take_of_length_le (by rw [List.length_drop];omega)] at ha
  exact ⟨a,ha⟩⟩
theorem opens_more {α β:Type} {A:Lay α} {B:Lay β} {fs:Array Field} {i o tot:Nat} {t:TypeId} (hf:∃ f,fs[i]?=some f∧f.type=t∧f.offset=o) (h:Opens A t) (hB:OpensFrom B fs (i+1) (o+A.sz) tot):OpensFrom (A.two B) fs i o tot:=
 ⟨by show o+(A.sz+B.sz)=tot;have:=hB.fits;omega,by obtain ⟨a,_⟩:=h.inh;obtain ⟨b,_⟩:=hB.inh;exact ⟨(a,b),trivial⟩,fun {H enc W n cs xs} hl hx hget=>by
  obtain ⟨f,h1,h2,h3⟩:=hf;have hg:=hget i f h1
  have hi:i<xs.length:=by rw [hx];exact (Array.getElem?_eq_some_iff.1 h1).1
  rw [List.getElem?_eq_getElem hi,h2,h3,h.size] at hg;obtain ⟨a,ha⟩:=h.opens hg;obtain ⟨b,hb⟩:=hB.opens hl hx hget;refine ⟨(a,b),_,_,?_,ha,hb⟩
  rw [← List.drop_drop,List.take_append_drop]⟩
theorem opens_struct {α:Type} {A:Lay α} {t:TypeId} {fs:Array Field} (hu:Tryz.prog.underlying t=some (.struct fs)) (hc:Tryz.prog.cellsOf t=A.sz) (h:OpensFrom A fs 0 0 A.sz):Opens A t:=
 ⟨hc,h.inh,fun {H enc W fuel cs x} h1=>by
  obtain ⟨xs,n,_,_,hl,hlen,hget⟩:=DataW.trod_struct hu h1;obtain ⟨a,ha⟩:=h.opens (by rw [hl,hc]) hlen hget
  exact ⟨a,by simpa using ha⟩⟩
end Go.Proofs.YtclclojenogpbaaGreat
namespace Go.Proofs.YtclclojenogpbaaGreat
open Go.RowKit
def stN (w:World) (g:Nat):Nat→List Value→World
 | _,[]=>w
 | off,c::cs=>stN (w.setCell ⟨g,off,none⟩ c) g (off+1) cs
def setL {β:Type} (xs:List β):Nat→List β→List β
 | _,[]=>xs
 | off,c::cs=>setL (xs.set off c) (off+1) cs
theorem stN_heap (g b:Nat) (hb:b≠g):∀ (cs:List Value) (w:World) (off:Nat),(stN w g off cs).heap[b]?=w.heap[b]?
 | [],w,off=>rfl
 | c::cs,w,off=>(stN_heap g b hb cs _ _).trans (heap_setCell_other w ⟨g,off,none⟩ b c hb)
theorem stN_size (g:Nat):∀ (cs:List Value) (w:World) (off:Nat),(stN w g off cs).heap.size=w.heap.size
 | [],w,off=>rfl
 | c::cs,w,off=>(stN_size g cs _ _).trans (by simp)
theorem stN_rest (g:Nat):∀ (cs:List Value) (w:World) (off:Nat),(stN w g off cs).os=w.os∧(stN w g off cs).tape=w.tape∧(stN w g off cs).output=w.output
 | [],w,off=>⟨rfl,rfl,rfl⟩
 | c::cs,w,off=>stN_rest g cs _ _
theorem stN_below {B g:Nat} {w:World} (h:B≤g) (cs:List Value) (off:Nat):Below B w (stN w g off cs):=
 ⟨(stN_rest g cs w off).1,(stN_rest g cs w off).2.1,(stN_rest g cs w off).2.2,Nat.le_of_eq (stN_size g cs w off).symm,fun k hk=>stN_heap g k (by omega) cs w off⟩
theorem row_stN {base cap n s g:Nat} {t:TypeId}:∀ (cs:List Value) (w:World) (off:Nat) (xs:List Value),w.ownsRow base t s (.slice (some ⟨g,0,none⟩) n cap) n xs→(stN w g off cs).ownsRow base t s (.slice (some ⟨g,0,none⟩) n cap) n (setL xs off cs)
 | [],w,off,xs,h=>h
 | c::cs,w,off,xs,h=>row_stN cs _ _ _ (h.stored off c).1
theorem setL_get {β:Type}:∀ (cs:List β) (xs:List β) (off i:Nat),off+cs.length≤xs.length→(setL xs off cs)[i]?=if off≤i∧i<off+cs.length then cs[i-off]? else xs[i]?
 | [],xs,off,i,h=>by simp [setL];omega
 | c::cs,xs,off,i,h=>by
  simp only [List.length_cons] at h
  rw [setL,setL_get cs (xs.set off c) (off+1) i (by simp;omega),List.length_cons]
  by_cases c1:off+1≤i∧i<off+1+cs.length
  ·rw [if_pos c1,if_pos (by omega),show i-off=(i-(off+1))+1 by omega,List.getElem?_cons_succ]
  ·rw [if_neg c1]
   by_cases c2:i=off
   ·subst c2
    rw [if_pos (by omega),List.getElem?_set_self (by omega),Nat.sub_self];rfl
   ·rw [if_neg (by omega),List.getElem?_set_ne (fun h=>c2 h.symm)]
theorem catN_setL {n s:Nat} {ce:Nat→List Value} (h:∀ i,i<n→(ce i).length=s) {k:Nat} (hk:k<n) {cs:List Value} (hcs:cs.length=s):setL (catN n ce) (k*s) cs=catN n (upd ce k cs):=by
 have hl:=catN_len h
 have hu:∀ i,i<n→(upd ce k cs i).length=s:=fun i hi=>by
  by_cases c:i=k
  ·subst c;rw [upd_at];exact hcs
  ·rw [upd_ne ce cs c];exact h i hi
 have hl2:=catN_len hu
 have hks:k*s+s≤n*s:=by
  have:=Nat.mul_le_mul_right s (show k+1≤n from hk);rw [Nat.succ_mul] at this;exact this
 apply List.ext_getElem?
 intro i;rw [setL_get cs _ _ i (by omega)]
 by_cases hi:i<n*s
 ·have hs:0<s:=by
   rcases Nat.eq_zero_or_pos s with h0 | h0
   ·rw [h0] at hi;omega
   ·exact h0
  have e:i/s*s+i%s=i:=by rw [Nat.mul_comm];exact Nat.div_add_mod i s
  have hq:i/s<n:=(Nat.div_lt_iff_lt_mul hs).2 hi;have hr:=Nat.mod_lt i hs;have g1:=catN_get h hq hr;have g2:=catN_get hu hq hr;rw [e] at g1 g2;rw [g1,g2]
  by_cases c:i/s=k
  ·have h1:k*s≤i:=by rw [← c];omega
   have h2:i<k*s+s:=by rw [← c];omega
   rw [if_pos ⟨h1,by omega⟩,c,upd_at]
   congr 1
   rw [← c];omega
  ·rw [upd_ne ce cs c,if_neg]
   rintro ⟨h1,h2⟩
   apply c
   have h3:k≤i/s:=(Nat.le_div_iff_mul_le hs).2 h1;have h4:i/s<k+1:=(Nat.div_lt_iff_lt_mul hs).2 (by rw [Nat.succ_mul];omega);omega
 ·rw [if_neg (by omega),List.getElem?_eq_none (by omega),List.getElem?_eq_none (by omega)]
structure SlP {α:Type} (E:Lay α) (t:TypeId) (w:World) (lo g cap n k:Nat) (x:Nat→α) (ce:Nat→List Value) (Ls:Nat→List Nat):Prop where
 row:w.ownsRow lo t E.sz (.slice (some ⟨g,0,none⟩) n cap) n (catN n ce)
 lens:∀ i,i<n→(ce i).length=E.sz
 each:∀ i,i<k→E.own w (x i) (ce i) (Ls i)
 nd:(g::catN k Ls).Nodup
 low:∀ b,b∈catN k Ls→lo≤b
section
variable {α:Type} {E:Lay α} {t:TypeId} {w w':World} {lo g cap n k:Nat} {x:Nat→α} {ce:Nat→List Value} {Ls:Nat→List Nat}
theorem SlP.cell (h:SlP E t w lo g cap n k x ce Ls) {i j:Nat} (hi:i<n) (hj:j<E.sz):w.cell? ⟨g,i*E.sz+j,none⟩=(ce i)[j]?:=by
 rw [h.row.cellAt _ (mul_lt hi hj),catN_get h.lens hi hj]
theorem SlP.frozen (h:SlP E t w lo g cap n k x ce Ls) (j:Nat):w.frozen? ⟨g,j,none⟩=false:=h.row.frozenAt j
theorem SlP.lt (h:SlP E t w lo g cap n k x ce Ls):g<w.heap.size:=(h.row.lt g rfl).2
theorem SlP.mem_lt (h:SlP E t w lo g cap n k x ce Ls):∀ b,b∈catN k Ls→b<w.heap.size:=fun b hb=>by
 obtain ⟨i,hi,hbi⟩:=mem_catN.1 hb;exact E.own_lt (h.each i hi) b hbi
theorem SlP.below (h:SlP E t w lo g cap n k x ce Ls) (hb:Below w.heap.size w w'):SlP E t w' lo g cap n k x ce Ls:=by
 refine ⟨⟨h.row.1,?_⟩,h.lens,fun i hi=>E.own_kept (h.each i hi) (fun b hb'=>hb.block b (E.own_lt (h.each i hi) b hb')),h.nd,h.low⟩
 rcases h.row.2 with ⟨hn,_⟩ | ⟨g',cap',cur,he,hbg,hgg,rest⟩
 ·cases hn
 ·cases he
  exact .inr ⟨g,cap,cur,rfl,hbg,(hb.block g h.lt).trans hgg,rest⟩
theorem SlP.lay {w1:World} (h1:SlP E t w1 lo g cap n k x ce Ls) (hb:Below w1.heap.size w1 w) (hk:k<n) {a:α} {cs:List Value} {K:List Nat} (ha:E.own w a cs K) (hnd:K.Nodup) (hK:∀ b,b∈K→w1.heap.size≤b) (hlo:lo≤w1.heap.size) :
 SlP E t (stN w g (k*E.sz) cs) lo g cap n (k+1) (upd x k a) (upd ce k cs) (upd Ls k K):=by
 have h:=h1.below hb;have hcs:=E.own_len ha
 have eL:catN (k+1) (upd Ls k K)=catN k Ls++K:=by
  rw [catN_succ,upd_at,catN_congr (g:=Ls) (fun i hi=>upd_ne Ls K (by omega))]
 have hg1:=h1.lt
 have hgne:∀ b,b∈catN (k+1) (upd Ls k K)→b≠g:=fun b hb' hh=>by
  subst hh;rw [eL] at hb'
  rcases List.mem_append.1 hb' with h3 | h3
  ·exact (List.nodup_cons.1 h.nd).1 h3
  ·have:=hK b h3;omega
 have own':∀ i,i<k+1→E.own w (upd x k a i) (upd ce k cs i) (upd Ls k K i):=fun i hi=>by
  by_cases c:i=k
  ·subst c;rw [upd_at,upd_at,upd_at];exact ha
  ·rw [upd_ne x a c,upd_ne ce cs c,upd_ne Ls K c];exact h.each i (by omega)
 refine ⟨?_,fun i hi=>?_,fun i hi=>?_,?_,?_⟩
 ·have:=row_stN cs w (k*E.sz) _ h.row
  rw [catN_setL h.lens hk hcs] at this;exact this
 ·by_cases c:i=k
  ·subst c;rw [upd_at];exact hcs
  ·rw [upd_ne ce cs c];exact h.lens i hi
 ·exact E.own_kept (own' i hi) (fun b hb'=>stN_heap g b (hgne b (mem_catN.2 ⟨i,hi,hb'⟩)) cs w _)
 ·rw [eL]
  refine List.nodup_cons.2 ⟨fun hb'=>hgne g (by rw [eL];exact hb') rfl,List.nodup_append.2 ⟨(List.nodup_cons.1 h.nd).2,hnd,fun b hb1 c hc1 hh=>?_⟩⟩;subst hh;have k1:=h1.mem_lt b hb1;have k2:=hK b hc1;omega
 ·rw [eL]
  intro b hb'
  rcases List.mem_append.1 hb' with h3 | h3
  ·exact h.low b h3
  ·have:=hK b h3;omega
theorem SlP.done (h:SlP E t w lo g cap n n x ce Ls) (hg:lo≤g):OwnT (E.slice t) w lo w.heap.size (n,x) [.slice (some ⟨g,0,none⟩) n cap]:=by
 refine ⟨g::catN n Ls,⟨_,ce,Ls,rfl,by simp [Value.ownBlock],⟨h.row.1,?_⟩,h.each⟩,h.nd,fun b hb=>?_⟩
 ·rcases h.row.2 with ⟨hn,_⟩ | ⟨g',cap',cur,he,hbg,rest⟩
  ·cases hn
  ·exact .inr ⟨g',cap',cur,he,Nat.zero_le _,rest⟩
 ·rcases List.mem_cons.1 hb with rfl | hb
  ·exact ⟨hg,h.lt⟩
  ·exact ⟨h.low b hb,h.mem_lt b hb⟩
end
def layNums (n:Nat):Lay (Nat→Int) where
 sz:=n
 rd:=fun _ _ s cs=>cs=(List.range n).map (fun i=>Value.int .i64 (s i))∧∀ i,-9223372036854775808≤s i∧s i≤9223372036854775807
 own:=fun _ s cs L=>cs=(List.range n).map (fun i=>Value.int .i64 (s i))∧(∀ i,-9223372036854775808≤s i∧s i≤9223372036854775807)∧L=[]
 rd_len:=fun h=>by rw [h.1];simp
 rd_below:=fun h _ _=>h
 rd_mono:=fun h _=>h
 own_len:=fun h=>by rw [h.1];simp
 own_kept:=fun h _=>h
 own_lt:=fun h b hb=>by rw [h.2.2] at hb;cases hb
 own_rd:=fun h _=>⟨h.1,h.2.1⟩
 own_one:=fun h u hu=>by
  rw [h.1] at hu;obtain ⟨i,_,rfl⟩:=List.mem_map.1 hu;rfl
structure BlockD where
 stamp:Int
 bytes:Nat×(Nat→Nat)
structure DriveD where
 wiped:Bool
 blocks:Nat×(Nat→BlockD)
structure RecD where
 kind:Int
 seq:Int
 name:ByteArray
 length:Int
 group:Int
 row:Int
 rows:Nat×(Nat→Int)
 data:Nat×(Nat→Nat)
 delta:Nat×(Nat→Nat)
structure TapeD where
 wiped:Bool
 recs:Nat×(Nat→RecD)
structure WorldD where
 shape:Nat→Int
 groups:Nat×(Nat→Nat×(Nat→DriveD))
 on:Nat×(Nat→Int)
 tapes:Nat×(Nat→TapeD)
 writes:Int
 stop:Int
 down:Bool
def layBlock:Lay BlockD:=(layI.two layBytes).as fun d=>(d.stamp,d.bytes)
def layDrive:Lay DriveD:=(layB.two (layBlock.slice 126)).as fun d=>(d.wiped,d.blocks)
def layRec:Lay RecD:=(layI.two (layI.two (layS.two (layI.two (layI.two (layI.two (layInts.two (layBytes.two layBytes)))))))).as fun d=>(d.kind,d.seq,d.name,d.length,d.group,d.row,d.rows,d.data,d.delta)
def layTape:Lay TapeD:=(layB.two (layRec.slice 72)).as fun d=>(d.wiped,d.recs)
def layWorld:Lay WorldD:=((layNums 9).two (((layDrive.slice 124).slice 109).two (layInts.two ((layTape.slice 112).two (layI.two (layI.two layB)))))).as fun d=>(d.shape,d.groups,d.on,d.tapes,d.writes,d.stop,d.down)
end Go.Proofs.YtclclojenogpbaaGreat
namespace Go.Proofs.YtclclojenogpbaaGreat
open Go.RowKit F256
theorem toByteS_any (v:Value) (n:Nat) (f:Nat→Nat) (hi:Nat) (w:World) (h:Rd w hi v n f) (hhi:hi≤w.heap.size) (hn:n≤140737488351232) :
 Calls Tryz.prog 21 #[v] w fun e w'=>∃ v',e=.returned v'∧Own w' w.heap.size w'.heap.size v' n f∧Below w.heap.size w w':=by
 obtain ⟨ao,cap,rfl,hm,hc⟩:=h
 go_enter Tryz.func21,Tryz.ntmps21
 go_wp2_with (at_make;refine wp_makeB _ rfl _ _ rfl _ _ n rfl rfl rfl rfl hn ?_;intro w1 hown1 hb1 hz1)
 go_loopw [4] (fun i wr=>∃ k:Nat,k≤n∧i=.int .i64 k∧Own wr w.heap.size w1.heap.size (.slice (some ⟨w.heap.size,0,none⟩) n n) n (fun i=>if i<k then f i else 0)∧Below w.heap.size w wr∧wr.heap.size=w1.heap.size) (fun i _=>n-(intOf i).toNat)
 case atStart=>exact ⟨0,Nat.zero_le _,rfl,hown1,hb1,rfl⟩
 case round=>
  obtain ⟨k,hk,rfl,hown,hb,hz⟩:=hrel
  by_cases hlt:k<n
  ·obtain ⟨b,off,rfl,hblt,hcell⟩:=hc (by omega)
   have hck:wr.cell? ⟨b,off+k,none⟩=some (.int .u8 (f k)):=(hb.cell (p:=⟨b,off+k,none⟩) (by show b<w.heap.size;omega)).trans (hcell k hlt)
   have hco:wr.cell? ⟨w.heap.size,k,none⟩=some (.int .u8 (0:Nat)):=by
    have:=hown.1.cellAt k (by omega);rw [this,cellsOf_get _ _ _ hlt,if_neg (Nat.lt_irrefl k)]
   have hfo:wr.frozen? ⟨w.heap.size,k,none⟩=false:=hown.1.frozenAt k
   have R:Own (wr.setCell ⟨w.heap.size,k,none⟩ (.int .u8 (f k))) w.heap.size w1.heap.size (.slice (some ⟨w.heap.size,0,none⟩) n n) n (fun i=>if i<k+1 then f i else 0):=
    hown.store k (f k) hlt (fun i _=>by by_cases e:i=k<;>simp [e]<;>by_cases e':i<k<;>simp [e']<;>omega)
   have R2:Below w.heap.size w (wr.setCell ⟨w.heap.size,k,none⟩ (.int .u8 (f k))):=hb.setCell (Nat.le_refl _) _;clear hown hb hc hcell;go_wp2
   go_roundw
   case rel=>exact ⟨k+1,by omega,by go_num,R,R2,by simpa using hz⟩
   case measure=>simp [intOf];omega
  ·have hkn:k=n:=by omega
   subst hkn;go_wp2;go_ret;exact ⟨_,rfl,(hown.congr (fun i hi=>by simp [hi])).mono (by omega),hb⟩
theorem eqByteS_same (v1 v2:Value) (n:Nat) (f:Nat→Nat) (h1 h2:Nat) (w:World) (r1:Rd w h1 v1 n f) (r2:Rd w h2 v2 n f) :
 Calls Tryz.prog 23 #[v1,v2] w fun e w'=>e=.returned (.bool true)∧Below w.heap.size w w':=by
 obtain ⟨ao,cap,rfl,hm,hc⟩:=r1;obtain ⟨ao2,cap2,rfl,_,hc2⟩:=r2;unfold maxLen at hm
 go_enter Tryz.func23,Tryz.ntmps23
 go_wp2
 go_loopw [5] (fun i wr=>∃ k:Nat,k≤n∧i=.int .i64 k∧∃ m,wr=w.drewN m) (fun i _=>n-(intOf i).toNat)
 case atStart=>exact ⟨0,Nat.zero_le _,rfl,0,rfl⟩
 case round=>
  obtain ⟨k,hk,rfl,m,rfl⟩:=hrel
  by_cases hlt:k<n
  ·obtain ⟨b,off,rfl,hblt,hcell⟩:=hc (by omega)
   obtain ⟨b2,off2,rfl,hblt2,hcell2⟩:=hc2 (by omega);have hck:w.cell? ⟨b,off+k,none⟩=some (.int .u8 (f k)):=hcell k hlt;have hck2:w.cell? ⟨b2,off2+k,none⟩=some (.int .u8 (f k)):=hcell2 k hlt;clear hc hc2 hcell hcell2;go_wp2
   go_quiet (fail)
   go_wp2
   go_roundw
   case rel=>exact ⟨k+1,by omega,by go_num,_,rfl⟩
   case measure=>simp [intOf];omega
  ·have hkn:k=n:=by omega
   subst hkn;go_wp2;go_ret;exact ⟨rfl,below_drewN (Below.refl _ _) _⟩
def marks (k:Nat):Nat→Nat:=fun i=>(k+i)%256
theorem marks_val (j k:Nat):((marks j k:Nat):Int)=((j:Int)+(k:Int))%256:=by unfold marks;omega
theorem markByteS_any (v:Value) (n:Nat) (f:Nat→Nat) (lo hi:Nat) (j:Nat) (hj:j≤1000000000) (hn:n≤1000000000) (w:World) (h:Own w lo hi v n f) :
 Calls Tryz.prog 24 #[v,.int .i64 j] w fun e w'=>e=.returned (.int .i64 ((j+n:Nat):Int))∧Own w' lo hi v n (marks j)∧Out lo hi w w':=by
 by_cases h0:n=0
 ·subst h0
  have hown:=h.congr (g:=marks j) (fun i hi=>by omega);obtain ⟨ao,cap,rfl⟩:=h.slice;clear h
  go_enter Tryz.func24,Tryz.ntmps24
  go_wp2
  go_loopw [1,5] (fun x i wr=>x=.int .i64 j∧i=.int .i64 0∧wr=w) (fun _ _ _=>0)
  case atStart=>exact ⟨rfl,rfl,rfl⟩
  case round=>
   obtain ⟨rfl,rfl,rfl⟩:=hrel;go_wp2;go_ret;exact ⟨ret_eq (by omega),hown,Out.refl _ _ _⟩
 ·obtain ⟨g,cap,rfl,hlo,hhi,hgs,hcap⟩:=h.form h0
  go_enter Tryz.func24,Tryz.ntmps24
  go_wp2
  go_loopw [1,5] (fun x i wr=>∃ k:Nat,k≤n∧i=.int .i64 k∧x=.int .i64 ((j+k:Nat):Int)∧Own wr lo hi (.slice (some ⟨g,0,none⟩) n cap) n (fun i=>if i<k then marks j i else f i)∧Out lo hi w wr) (fun _ i _=>n-(intOf i).toNat)
  case atStart=>exact ⟨0,Nat.zero_le _,rfl,rfl,h,Out.refl _ _ _⟩
  case round=>
   obtain ⟨k,hk,rfl,rfl,hown,hout⟩:=hrel
   by_cases hlt:k<n
   ·have hco:∃ u,wr.cell? ⟨g,k,none⟩=some u:=by
     have:=hown.1.cellAt k (by omega);exact ⟨_,by rw [this,cellsOf_get _ _ _ hlt]⟩
    obtain ⟨u,hco⟩:=hco;have hfo:wr.frozen? ⟨g,k,none⟩=false:=hown.1.frozenAt k
    have R:Own (wr.setCell ⟨g,k,none⟩ (.int .u8 (marks j k))) lo hi (.slice (some ⟨g,0,none⟩) n cap) n (fun i=>if i<k+1 then marks j i else f i):=
     hown.store k (marks j k) hlt (fun i _=>by by_cases e:i=k<;>simp [e]<;>by_cases e':i<k<;>simp [e']<;>omega)
    have R2:Out lo hi w (wr.setCell ⟨g,k,none⟩ (.int .u8 (marks j k))):=hout.trans (out_store wr lo hi g k _ hlo hhi);clear hown hout h;go_wp2
    go_roundw
    case rel=>exact ⟨k+1,by omega,by go_num,val_eq (by omega),by rw [← marks_val];exact R,by rw [← marks_val];exact R2⟩
    case measure=>simp [intOf];omega
   ·have hkn:k=n:=by omega
    subst hkn;go_wp2;go_ret;exact ⟨rfl,hown.congr (fun i hi=>by simp [hi]),hout⟩
theorem heldByteS_any (v:Value) (n:Nat) (hi:Nat) (j:Nat) (hj:j≤1000000000) (hn:n≤1000000000) (w:World) (h:Rd w hi v n (marks j)) :
 Calls Tryz.prog 46 #[v,.int .i64 j] w fun e w'=>e=.returned (.int .i64 ((j+n:Nat):Int))∧w'=w:=by
 obtain ⟨ao,cap,rfl,hm,hc⟩:=h
 go_enter Tryz.func46,Tryz.ntmps46
 go_wp2
 go_loop [1,5] (fun x i=>∃ k:Nat,k≤n∧i=.int .i64 k∧x=.int .i64 ((j+k:Nat):Int)) (fun _ i=>n-(intOf i).toNat)
 case atStart=>exact ⟨0,Nat.zero_le _,rfl,rfl⟩
 case round=>
  obtain ⟨k,hk,rfl,rfl⟩:=hrel
  by_cases hlt:k<n
  ·obtain ⟨b,off,rfl,hblt,hcell⟩:=hc (by omega)
   have hck:w.cell? ⟨b,off+k,none⟩=some (.int .u8 (((j:Int)+(k:Int))%256)):=by rw [← marks_val];exact hcell k hlt
   clear hc hcell;go_wp2
   go_round
   case rel=>exact ⟨k+1,by omega,by go_num,val_eq (by omega)⟩
   case measure=>simp [intOf];omega
  ·have hkn:k=n:=by omega
   subst hkn;go_wp2;go_ret;exact ⟨rfl,rfl⟩
def bytesR (c:Int) (v:Value):Value:=.agg #[.int .i64 c,v]
def valsOf (n:Nat) (e:Nat→Value):List Value:=(List.range n).map e
theorem valsOf_length (n:Nat) (e:Nat→Value):(valsOf n e).length=n:=by simp [valsOf]
theorem valsOf_get (n:Nat) (e:Nat→Value) (i:Nat) (h:i<n):(valsOf n e)[i]?=some (e i):=by simp [valsOf,h]
theorem valsOf_eq {n:Nat} {e g:Nat→Value} (h:∀ i,i<n→e i=g i):valsOf n e=valsOf n g:=by
 apply List.map_congr_left
 intro i hi;rw [h i (List.mem_range.mp hi)]
theorem valsOf_set (n:Nat) (e g:Nat→Value) (k:Nat) (x:Value) (hk:k<n) (h:∀ i,i<n→g i=if i=k then x else e i):(valsOf n e).set k x=valsOf n g:=by
 apply List.ext_getElem?
 intro i
 by_cases hi:i<n
 ·rw [valsOf_get n g i hi,h i hi,List.getElem?_set]
  by_cases c:k=i
  ·subst c;simp [valsOf_length,hk]
  ·rw [if_neg c,if_neg (fun h=>c h.symm),valsOf_get n e i hi]
 ·rw [List.getElem?_eq_none (by rw [List.length_set,valsOf_length];omega),List.getElem?_eq_none (by rw [valsOf_length];omega)]
theorem valsOf_snoc (n:Nat) (e:Nat→Value):valsOf n e++[e n]=valsOf (n+1) e:=by
 simp [valsOf,List.range_succ]
abbrev nilS:Value:=.slice none 0 0
theorem valsOf_made (n:Nat):(madeCells #[nilS] n).toList=valsOf n fun _=>nilS:=by
 rw [toList_madeCells_one]
 apply List.ext_getElem?
 intro i
 by_cases hi:i<n
 ·rw [valsOf_get _ _ _ hi];simp [hi]
 ·rw [List.getElem?_eq_none (by simp;omega),List.getElem?_eq_none (by rw [valsOf_length];omega)]
def RdM (w:World) (hi:Nat) (v:Value) (R:Nat) (n:Nat→Nat) (f:Nat→Nat→Nat):Prop:=
 ∃ (ao:Option Addr) (cap:Nat) (e:Nat→Value),v=.slice ao R cap∧R≤maxLen∧(R≠0→∃ b off,ao=some ⟨b,off,none⟩∧b<hi∧∀ i,i<R→w.cell? ⟨b,off+i,none⟩=some (e i))∧
  ∀ i,i<R→Rd w hi (e i) (n i) (f i)
def Apart (g R:Nat) (e:Nat→Value):Prop:=(∀ i,i<R→(e i).ownBlock≠some g)∧∀ i j,i<R→j<R→i≠j→∀ k,(e i).ownBlock=some k→(e j).ownBlock≠some k
structure OwnE (w:World) (lo hi:Nat) (v:Value) (R:Nat) (n:Nat→Nat) (f:Nat→Nat→Nat) (g cap:Nat) (e:Nat→Value):Prop where
 val:v=.slice (some ⟨g,0,none⟩) R cap
 low:lo≤g
 high:g<hi
 row:w.ownsRow lo 30 1 v R (valsOf R e)
 each:∀ i,i<R→Own w lo hi (e i) (n i) (f i)
 apart:Apart g R e
def OwnM (w:World) (lo hi:Nat) (v:Value) (R:Nat) (n:Nat→Nat) (f:Nat→Nat→Nat):Prop:=∃ g cap e,OwnE w lo hi v R n f g cap e
theorem RdM.below {w w':World} {hi B:Nat} {v:Value} {R:Nat} {n:Nat→Nat} {f:Nat→Nat→Nat} (h:RdM w hi v R n f) (hb:Below B w w') (hB:hi≤B):RdM w' hi v R n f:=by
 obtain ⟨ao,cap,e,rfl,hm,hc,he⟩:=h;refine ⟨ao,cap,e,rfl,hm,fun h0=>?_,fun i hi=>(he i hi).below hb hB⟩;obtain ⟨b,off,rfl,hlt,hcell⟩:=hc h0;exact ⟨b,off,rfl,hlt,fun i hi=>(hb.cell (p:=⟨b,off+i,none⟩) (by show b<B;omega)).trans (hcell i hi)⟩
theorem row_kept {w w':World} {lo:Nat} {t:TypeId} {v:Value} {R:Nat} {xs:List Value} (h:w.ownsRow lo t 1 v R xs) (hk:∀ g,v.ownBlock=some g→w'.heap[g]?=w.heap[g]?):w'.ownsRow lo t 1 v R xs:=by
 refine ⟨h.1,?_⟩
 rcases h.2 with hn | ⟨g,cap,cur,rfl,hbg,hgg,rest⟩
 ·exact .inl hn
 ·exact .inr ⟨g,cap,cur,rfl,hbg,(hk g rfl).trans hgg,rest⟩
theorem Own.kept {w w':World} {lo hi:Nat} {v:Value} {n:Nat} {f:Nat→Nat} (h:Own w lo hi v n f) (hk:∀ g,v.ownBlock=some g→w'.heap[g]?=w.heap[g]?):Own w' lo hi v n f:=⟨row_kept h.1 hk,h.2⟩
theorem OwnE.below {w w':World} {lo hi B:Nat} {v:Value} {R:Nat} {n:Nat→Nat} {f:Nat→Nat→Nat} {g cap:Nat} {e:Nat→Value} (h:OwnE w lo hi v R n f g cap e) (hb:Below B w w') (hB:hi≤B):OwnE w' lo hi v R n f g cap e:=by
 refine ⟨h.val,h.low,h.high,row_kept h.row fun k hk=>hb.block k ?_,fun i hi=>(h.each i hi).below hb hB,h.apart⟩;rw [h.val] at hk
 simp [Value.ownBlock] at hk
 have:=h.high;omega
theorem OwnE.cell {w:World} {lo hi:Nat} {v:Value} {R:Nat} {n:Nat→Nat} {f:Nat→Nat→Nat} {g cap:Nat} {e:Nat→Value} (h:OwnE w lo hi v R n f g cap e) (i:Nat) (hi:i<R):w.cell? ⟨g,i,none⟩=some (e i):=by
 have hr:=h.row;rw [h.val] at hr;rw [hr.cellAt i (by omega),valsOf_get R e i hi]
theorem OwnE.rd {w:World} {lo hi:Nat} {v:Value} {R:Nat} {n:Nat→Nat} {f:Nat→Nat→Nat} {g cap:Nat} {e:Nat→Value} (h:OwnE w lo hi v R n f g cap e):RdM w hi v R n f:=by
 have hle:R≤maxLen:=by
  rcases h.row.2 with ⟨h1,h2⟩ | ⟨g',cap',cur,h1,_,_,hnc,hcm,_⟩
  ·rw [h2];exact Nat.zero_le _
  ·omega
 exact ⟨_,cap,e,h.val,hle,fun _=>⟨g,0,rfl,h.high,fun i hi=>by rw [Nat.zero_add];exact h.cell i hi⟩,fun i hi=>(h.each i hi).rd⟩
def tlo (v:Value) (lo:Nat):Nat:=match v.ownBlock with | some k=>k | none=>lo
def thi (v:Value) (lo:Nat):Nat:=match v.ownBlock with | some k=>k+1 | none=>lo
theorem Own.tight {w:World} {lo hi:Nat} {v:Value} {n:Nat} {f:Nat→Nat} (h:Own w lo hi v n f):Own w (tlo v lo) (thi v lo) v n f:=by
 rcases h.1.2 with ⟨rfl,rfl⟩ | ⟨g,cap,cur,rfl,hbg,rest⟩
 ·exact own_nil _ _ _ _
 ·exact ⟨⟨h.1.1,.inr ⟨g,cap,cur,rfl,Nat.le_refl _,rest⟩⟩,fun k hk=>by simp [Value.ownBlock] at hk;subst hk;simp [thi,Value.ownBlock]⟩
theorem Own.untight {w:World} {lo hi:Nat} {v:Value} {n:Nat} {f:Nat→Nat} {n':Nat} {f':Nat→Nat} {w':World} (h:Own w lo hi v n f) (h':Own w' (tlo v lo) (thi v lo) v n' f'):Own w' lo hi v n' f':=by
 refine ⟨⟨h'.1.1,?_⟩,h.2⟩
 rcases h'.1.2 with hn | ⟨g,cap,cur,rfl,hbg,rest⟩
 ·exact .inl hn
 ·refine .inr ⟨g,cap,cur,rfl,?_,rest⟩
  exact (h.1.lt g rfl).1
theorem tight_sub {w:World} {lo hi:Nat} {v:Value} {n:Nat} {f:Nat→Nat} (h:Own w lo hi v n f) (hlh:lo≤hi):lo≤tlo v lo∧thi v lo≤hi:=by
 cases hv:v.ownBlock with
 | none=>simp [tlo,thi,hv,hlh]
 | some k=>
  have h1:=(h.1.lt k hv).1;have h2:=h.2 k hv
  simp [tlo,thi,hv]
  omega
theorem not_in_tight {v:Value} {lo k:Nat} (h:∀ g,v.ownBlock=some g→k≠g):k<tlo v lo∨thi v lo≤k:=by
 cases hv:v.ownBlock with
 | none=>simp [tlo,thi,hv];omega
 | some g=>
  have:=h g hv
  simp [tlo,thi,hv]
  omega
theorem Chg.widen {lo hi lo' hi':Nat} {w w':World} (h:Chg lo hi w w') (h1:lo'≤lo) (h2:hi≤hi'):Chg lo' hi' w w':=⟨h.os,h.tape,h.output,h.size,fun k hk ho=>h.block k hk (by omega)⟩
def sumN (n:Nat→Nat):Nat→Nat
 | 0=>0
 | k+1=>sumN n k+n k
theorem sumN_mono (n:Nat→Nat):∀ {a b:Nat},a≤b→sumN n a≤sumN n b
 | a,0,h=>by
  have:a=0:=by omega
  subst this;exact Nat.le_refl _
 | a,b+1,h=>by
  by_cases e:a=b+1
  ·subst e;exact Nat.le_refl _
  ·have:=sumN_mono n (show a≤b by omega)
   simp only [sumN]
   omega
theorem info_sl:(Tryz.prog.info? 30).map (fun i=>(i.zero,i.size,i.bytes))=some (some nilS,1,24):=by kernel_rfl
theorem Chg.refl' (lo hi:Nat) (w:World):Chg lo hi w w:=⟨rfl,rfl,rfl,Nat.le_refl _,fun _ _ _=>rfl⟩
end Go.Proofs.YtclclojenogpbaaGreat
namespace Go.Proofs.YtclclojenogpbaaGreat
open Go.ChangeShapes Go.WideShapes Go.ChangeAt Go.RowKit Go.Deep F256
end Go.Proofs.YtclclojenogpbaaGreat
namespace Go.Proofs.YtclclojenogpbaaGreat
def shapeV (s:Nat→Int):Value:=.agg #[.int .i64 (s 0),.int .i64 (s 1),.int .i64 (s 2),.int .i64 (s 3),.int .i64 (s 4),.int .i64 (s 5),.int .i64 (s 6),.int .i64 (s 7),.int .i64 (s 8)]
end Go.Proofs.YtclclojenogpbaaGreat
namespace Go.Proofs.YtclclojenogpbaaGreat
open Go.ChangeShapes Go.WideShapes Go.ChangeAt Go.RowKit
end Go.Proofs.YtclclojenogpbaaGreat
namespace Go.Proofs.YtclclojenogpbaaGreat
open Go.ChangeShapes Go.WideShapes Go.ChangeAt Go.RowKit Go.Deep
theorem opensRec:Opens layRec 203:=
 opens_as (A:=layI.two (layI.two (layS.two (layI.two (layI.two (layI.two (layInts.two (layBytes.two layBytes)))))))) (fun p=>⟨p.1,p.2.1,p.2.2.1,p.2.2.2.1,p.2.2.2.2.1,p.2.2.2.2.2.1,p.2.2.2.2.2.2.1,p.2.2.2.2.2.2.2.1,p.2.2.2.2.2.2.2.2⟩) (fun _=>rfl)
  (opens_struct Tryz.underlying203 (show _=9 by kernel_rfl)
   (opens_more ⟨_,rfl,rfl,rfl⟩ (opensI Tryz.underlying2 (by kernel_rfl))
   (opens_more ⟨_,rfl,rfl,rfl⟩ (opensI Tryz.underlying2 (by kernel_rfl))
   (opens_more ⟨_,rfl,rfl,rfl⟩ (opensS Tryz.underlying9 (by kernel_rfl))
   (opens_more ⟨_,rfl,rfl,rfl⟩ (opensI Tryz.underlying2 (by kernel_rfl))
   (opens_more ⟨_,rfl,rfl,rfl⟩ (opensI Tryz.underlying2 (by kernel_rfl))
   (opens_more ⟨_,rfl,rfl,rfl⟩ (opensI Tryz.underlying2 (by kernel_rfl))
   (opens_more ⟨_,rfl,rfl,rfl⟩ (opensInts Tryz.underlying25 Tryz.underlying2 (by kernel_rfl) (by kernel_rfl))
   (opens_more ⟨_,rfl,rfl,rfl⟩ (opensBytes Tryz.underlying30 Tryz.underlying5 (by kernel_rfl) (by kernel_rfl))
   (opens_last ⟨_,rfl,rfl,rfl⟩ (opensBytes Tryz.underlying30 Tryz.underlying5 (by kernel_rfl) (by kernel_rfl)) rfl))))))))))
set_option maxRecDepth 20000 in
theorem struct_of_trod {α:Type} {A:Lay α} {fs:Array Field} {H:Type} {enc:TypeId×Value→H} {W:World} {r:Reach} {b0:Nat} {v:Value} {d:DataW H} {ps:List MemPlace} {t:TypeId}
 (hO:Opens A t) (hu:Tryz.prog.underlying t=some (.struct fs)) (hval:Value.okWide Tryz.prog W r b0 t v) (h:DataW.Trod enc Tryz.prog W 0 (fun _=>true) true t v d ps) :
 ∃ cs a,v=.agg cs.toArray∧A.rd W W.heap.size a cs:=by
 obtain ⟨cs,rfl,hsz⟩:=okWide_struct hu hval;obtain ⟨fuel,hfu⟩:=h;have hfu':DataW.trod enc Tryz.prog W 0 (fun _=>true) true fuel t cs.toList=some (d,ps):=hfu;obtain ⟨a,ha⟩:=hO.opens hfu';exact ⟨cs.toList,a,by simp,ha⟩
theorem opens_map {α β:Type} {A:Lay α} {B:Lay β} {t:TypeId} (h:Opens A t) (hs:A.sz=B.sz) (hi:∃ b:β,True) (f:∀ W hi a cs,A.rd W hi a cs→∃ b,B.rd W hi b cs):Opens B t:=
 ⟨h.size.trans hs,hi,fun h1=>by
  obtain ⟨a,ha⟩:=h.opens h1
  exact f _ _ _ _ ha⟩
def nine (a0 a1 a2 a3 a4 a5 a6 a7 a8:Int):Nat→Int
 | 0=>a0 | 1=>a1 | 2=>a2 | 3=>a3 | 4=>a4 | 5=>a5 | 6=>a6 | 7=>a7 | 8=>a8 | _=>0
theorem opensShape9:Opens (layNums 9) 23:=by
 refine opens_map (A:=layI.two (layI.two (layI.two (layI.two (layI.two (layI.two (layI.two (layI.two layI)))))))) ?_ rfl ⟨fun _=>0,trivial⟩ ?_
 ·exact opens_struct Tryz.underlying23 (show _=9 by kernel_rfl)
   (opens_more ⟨_,rfl,rfl,rfl⟩ (opensI Tryz.underlying2 (by kernel_rfl))
   (opens_more ⟨_,rfl,rfl,rfl⟩ (opensI Tryz.underlying2 (by kernel_rfl))
   (opens_more ⟨_,rfl,rfl,rfl⟩ (opensI Tryz.underlying2 (by kernel_rfl))
   (opens_more ⟨_,rfl,rfl,rfl⟩ (opensI Tryz.underlying2 (by kernel_rfl))
   (opens_more ⟨_,rfl,rfl,rfl⟩ (opensI Tryz.underlying2 (by kernel_rfl))
   (opens_more ⟨_,rfl,rfl,rfl⟩ (opensI Tryz.underlying2 (by kernel_rfl))
   (opens_more ⟨_,rfl,rfl,rfl⟩ (opensI Tryz.underlying2 (by kernel_rfl))
   (opens_more ⟨_,rfl,rfl,rfl⟩ (opensI Tryz.underlying2 (by kernel_rfl))
   (opens_last ⟨_,rfl,rfl,rfl⟩ (opensI Tryz.underlying2 (by kernel_rfl)) rfl)))))))))
 ·intro W hi a cs h
  obtain ⟨a0,a1,a2,a3,a4,a5,a6,a7,a8⟩:=a;obtain ⟨_,_,rfl,⟨rfl,k0⟩,_,_,rfl,⟨rfl,k1⟩,_,_,rfl,⟨rfl,k2⟩,_,_,rfl,⟨rfl,k3⟩,_,_,rfl,⟨rfl,k4⟩,_,_,rfl,⟨rfl,k5⟩,_,_,rfl,⟨rfl,k6⟩,_,_,rfl,⟨rfl,k7⟩,⟨rfl,k8⟩⟩:=h;refine ⟨nine a0 a1 a2 a3 a4 a5 a6 a7 a8,rfl,fun i=>?_⟩
  match i with
  | 0=>exact k0
  | 1=>exact k1
  | 2=>exact k2
  | 3=>exact k3
  | 4=>exact k4
  | 5=>exact k5
  | 6=>exact k6
  | 7=>exact k7
  | 8=>exact k8
  | n+9=>exact ⟨show (-9223372036854775808:Int)≤0 by decide,show (0:Int)≤9223372036854775807 by decide⟩
theorem opensBlock:Opens layBlock 244:=
 opens_as (A:=layI.two layBytes) (fun p=>⟨p.1,p.2⟩) (fun _=>rfl)
  (opens_struct Tryz.underlying244 (show _=2 by kernel_rfl)
   (opens_more ⟨_,rfl,rfl,rfl⟩ (opensI Tryz.underlying2 (by kernel_rfl))
   (opens_last ⟨_,rfl,rfl,rfl⟩ (opensBytes Tryz.underlying30 Tryz.underlying5 (by kernel_rfl) (by kernel_rfl)) rfl)))
theorem opensDrive:Opens layDrive 158:=
 opens_as (A:=layB.two (layBlock.slice 126)) (fun p=>⟨p.1,p.2⟩) (fun _=>rfl)
  (opens_struct Tryz.underlying158 (show _=2 by kernel_rfl)
   (opens_more ⟨_,rfl,rfl,rfl⟩ (opensB Tryz.underlying4 (by kernel_rfl))
   (opens_last ⟨_,rfl,rfl,rfl⟩ (opens_slice (by decide) Tryz.underlying156 (by kernel_rfl) opensBlock) rfl)))
theorem opensTape:Opens layTape 100:=
 opens_as (A:=layB.two (layRec.slice 72)) (fun p=>⟨p.1,p.2⟩) (fun _=>rfl)
  (opens_struct Tryz.underlying100 (show _=2 by kernel_rfl)
   (opens_more ⟨_,rfl,rfl,rfl⟩ (opensB Tryz.underlying4 (by kernel_rfl))
   (opens_last ⟨_,rfl,rfl,rfl⟩ (opens_slice (by decide) Tryz.underlying98 (by kernel_rfl) opensRec) rfl)))
theorem opensWorld:Opens layWorld 28:=
 opens_as (A:=(layNums 9).two (((layDrive.slice 124).slice 109).two (layInts.two ((layTape.slice 112).two (layI.two (layI.two layB)))))) (fun p=>⟨p.1,p.2.1,p.2.2.1,p.2.2.2.1,p.2.2.2.2.1,p.2.2.2.2.2.1,p.2.2.2.2.2.2⟩) (fun _=>rfl)
  (opens_struct Tryz.underlying28 (show _=15 by kernel_rfl)
   (opens_more ⟨_,rfl,rfl,rfl⟩ opensShape9
   (opens_more ⟨_,rfl,rfl,rfl⟩ (opens_slice (by decide) Tryz.underlying24 (by kernel_rfl) (opens_slice (by decide) Tryz.underlying96 (by kernel_rfl) opensDrive))
   (opens_more ⟨_,rfl,rfl,rfl⟩ (opensInts Tryz.underlying25 Tryz.underlying2 (by kernel_rfl) (by kernel_rfl))
   (opens_more ⟨_,rfl,rfl,rfl⟩ (opens_slice (by decide) Tryz.underlying26 (by kernel_rfl) opensTape)
   (opens_more ⟨_,rfl,rfl,rfl⟩ (opensI Tryz.underlying2 (by kernel_rfl))
   (opens_more ⟨_,rfl,rfl,rfl⟩ (opensI Tryz.underlying2 (by kernel_rfl))
   (opens_last ⟨_,rfl,rfl,rfl⟩ (opensB Tryz.underlying4 (by kernel_rfl)) rfl))))))))
end Go.Proofs.YtclclojenogpbaaGreat
namespace Go.Proofs.YtclclojenogpbaaGreat
open Go.RowKit
theorem catN_made (zs:List Value) (hz:0<zs.length) (n:Nat):(madeCells zs.toArray (n*zs.length)).toList=catN n (fun _=>zs):=by
 have hl:∀ i,i<n→((fun _=>zs:Nat→List Value) i).length=zs.length:=fun _ _=>rfl
 apply List.ext_getElem?
 intro i
 by_cases hi:i<n*zs.length
 ·have e:i/zs.length*zs.length+i%zs.length=i:=by rw [Nat.mul_comm];exact Nat.div_add_mod i zs.length
  have hq:i/zs.length<n:=(Nat.div_lt_iff_lt_mul hz).2 hi;have hr:=Nat.mod_lt i hz;have g1:=catN_get hl hq hr;rw [e] at g1;rw [g1]
  simp only [madeCells,Array.toList_map,Array.toList_range,List.getElem?_map,List.getElem?_range hi,Option.map_some]
  simp [hr]
 ·rw [List.getElem?_eq_none (by simp [size_madeCells];omega),List.getElem?_eq_none (by rw [catN_len hl];omega)]
theorem wp_makeT {α:Type} (E:Lay α) (zs:List Value) (T e:TypeId) (by_:Nat) (hs:0<E.sz) (hzs:zs.length=E.sz) (hu:Tryz.prog.underlying T=some (.slice e)) (hi:(Tryz.prog.info? e).map (fun i=>(i.zero.map (·.cells),i.size,i.bytes))=some (some zs.toArray,E.sz,by_))
 (x:Nat→α) (Ls:Nat→List Nat) (w:World) {ops:Array Oper} {rest:List Oper} {o:Oper} {a:Act} {Q:Exit→Act→World→Prop}
 (hg:o.guard=none) (l c:Operand) (hop:o.op=Op.makeSlice T l c) (L C:Int) (n:Nat) (hl:a.eval l=.int .i64 L) (hc:a.eval c=.int .i64 C) (hL:L=(n:Int)) (hC:C=(n:Int)) (hn:by_*n≤281474976710656) (hm:n≤maxLen)
 (hK:∀ w',SlP E e w' w.heap.size w.heap.size n n 0 x (fun _=>zs) Ls→Below w.heap.size w w'→wpList Tryz.prog ops Q rest (a.put o.dst (.slice (some ⟨w.heap.size,0,none⟩) n n)) w') :
 wpList Tryz.prog ops Q (o::rest) a w:=by
 obtain ⟨i0,hi0⟩:∃ i0,Tryz.prog.info? e=some i0:=by
  cases h:Tryz.prog.info? e with
  | none=>rw [h] at hi;cases hi
  | some i0=>exact ⟨i0,rfl⟩
 rw [hi0] at hi
 simp only [Option.map_some,Option.some.injEq,Prod.mk.injEq] at hi
 obtain ⟨h1,h2,h3⟩:=hi
 obtain ⟨z,hz,hzc⟩:∃ z,i0.zero=some z∧z.cells=zs.toArray:=by
  cases h:i0.zero with
  | none=>rw [h] at h1;cases h1
  | some z=>rw [h] at h1;exact ⟨z,rfl,by simpa using h1⟩
 refine wpList_make_full w hg l c T hop w.heap.size e i0 z E.sz hu hi0 hz h2 .i64 .i64 L C n hl hc hL hC (by rw [h3];exact hn) hm (Nat.le_refl _) ?_;intro w' hown hgrow;rw [hzc,← hzs,catN_made zs (by omega)] at hown;rw [hzs] at hown;exact hK w' ⟨hown,fun _ _=>hzs,fun i hi=>by omega,by simp [catN_zero],fun b hb=>by rw [catN_zero] at hb;cases hb⟩ (below_of_grown hgrow)
structure SlG {α:Type} (E:Lay α) (t:TypeId) (w:World) (lo:Nat) (v:Value) (n:Nat) (x:Nat→α) (ce:Nat→List Value) (Ls:Nat→List Nat):Prop where
 row:w.ownsRow lo t E.sz v n (catN n ce)
 each:∀ i,i<n→E.own w (x i) (ce i) (Ls i)
 nd:(v.ownBlock.toList++catN n Ls).Nodup
 low:∀ b,b∈catN n Ls→lo≤b
section
variable {α:Type} {E:Lay α} {t:TypeId} {w w':World} {lo n:Nat} {v:Value} {x:Nat→α} {ce:Nat→List Value} {Ls:Nat→List Nat}
end
end Go.Proofs.YtclclojenogpbaaGreat
namespace Go.Proofs.YtclclojenogpbaaGreat
open Go.RowKit F256
def marksI (k:Nat):Nat→Int:=fun i=>(k:Int)+(i:Int)
theorem marksI_val (j k:Nat):marksI j k=(j:Int)+(k:Int):=rfl
theorem toInt64S_any (v:Value) (n:Nat) (f:Nat→Int) (hi:Nat) (w:World) (h:RdI w hi v n f) (hhi:hi≤w.heap.size) (hn:n≤1000000000) :
 Calls Tryz.prog 33 #[v] w fun e w'=>∃ v',e=.returned v'∧OwnI w' w.heap.size w'.heap.size v' n f∧Below w.heap.size w w':=by
 obtain ⟨ao,cap,rfl,hm,hc⟩:=h
 go_enter Tryz.func33,Tryz.ntmps33
 go_wp2_with (at_make;refine wp_makeI _ rfl _ _ rfl _ _ n rfl rfl rfl rfl hn ?_;intro w1 hown1 hb1 hz1)
 go_loopw [4] (fun i wr=>∃ k:Nat,k≤n∧i=.int .i64 k∧OwnI wr w.heap.size w1.heap.size (.slice (some ⟨w.heap.size,0,none⟩) n n) n (fun i=>if i<k then f i else 0)∧Below w.heap.size w wr∧wr.heap.size=w1.heap.size) (fun i _=>n-(intOf i).toNat)
 case atStart=>exact ⟨0,Nat.zero_le _,rfl,hown1,hb1,rfl⟩
 case round=>
  obtain ⟨k,hk,rfl,hown,hb,hz⟩:=hrel
  by_cases hlt:k<n
  ·obtain ⟨b,off,rfl,hblt,hcell⟩:=hc (by omega)
   have hck:wr.cell? ⟨b,off+k,none⟩=some (.int .i64 (f k)):=(hb.cell (p:=⟨b,off+k,none⟩) (by show b<w.heap.size;omega)).trans (hcell k hlt)
   have hco:wr.cell? ⟨w.heap.size,k,none⟩=some (.int .i64 0):=by
    have:=hown.1.cellAt k (by omega);rw [this,intsOf_get _ _ _ hlt,if_neg (Nat.lt_irrefl k)]
   have hfo:wr.frozen? ⟨w.heap.size,k,none⟩=false:=hown.1.frozenAt k
   have R:OwnI (wr.setCell ⟨w.heap.size,k,none⟩ (.int .i64 (f k))) w.heap.size w1.heap.size (.slice (some ⟨w.heap.size,0,none⟩) n n) n (fun i=>if i<k+1 then f i else 0):=
    hown.store k (f k) hlt (fun i _=>by by_cases e:i=k<;>simp [e]<;>by_cases e':i<k<;>simp [e']<;>omega)
   have R2:Below w.heap.size w (wr.setCell ⟨w.heap.size,k,none⟩ (.int .i64 (f k))):=hb.setCell (Nat.le_refl _) _;clear hown hb hc hcell;go_wp2
   go_roundw
   case rel=>exact ⟨k+1,by omega,by go_num,R,R2,by simpa using hz⟩
   case measure=>simp [intOf];omega
  ·have hkn:k=n:=by omega
   subst hkn;go_wp2;go_ret;exact ⟨_,rfl,(hown.congr (fun i hi=>by simp [hi])).mono (by omega),hb⟩
theorem eqInt64S_same (v1 v2:Value) (n:Nat) (f:Nat→Int) (h1 h2:Nat) (w:World) (r1:RdI w h1 v1 n f) (r2:RdI w h2 v2 n f) :
 Calls Tryz.prog 41 #[v1,v2] w fun e w'=>e=.returned (.bool true)∧Below w.heap.size w w':=by
 obtain ⟨ao,cap,rfl,hm,hc⟩:=r1;obtain ⟨ao2,cap2,rfl,_,hc2⟩:=r2;unfold maxLen at hm
 go_enter Tryz.func41,Tryz.ntmps41
 go_wp2
 go_loopw [5] (fun i wr=>∃ k:Nat,k≤n∧i=.int .i64 k∧∃ m,wr=w.drewN m) (fun i _=>n-(intOf i).toNat)
 case atStart=>exact ⟨0,Nat.zero_le _,rfl,0,rfl⟩
 case round=>
  obtain ⟨k,hk,rfl,m,rfl⟩:=hrel
  by_cases hlt:k<n
  ·obtain ⟨b,off,rfl,hblt,hcell⟩:=hc (by omega)
   obtain ⟨b2,off2,rfl,hblt2,hcell2⟩:=hc2 (by omega);have hck:w.cell? ⟨b,off+k,none⟩=some (.int .i64 (f k)):=hcell k hlt;have hck2:w.cell? ⟨b2,off2+k,none⟩=some (.int .i64 (f k)):=hcell2 k hlt;clear hc hc2 hcell hcell2;go_wp2
   go_quiet (fail)
   go_wp2
   go_roundw
   case rel=>exact ⟨k+1,by omega,by go_num,_,rfl⟩
   case measure=>simp [intOf];omega
  ·have hkn:k=n:=by omega
   subst hkn;go_wp2;go_ret;exact ⟨rfl,below_drewN (Below.refl _ _) _⟩
theorem markInt64S_any (v:Value) (n:Nat) (f:Nat→Int) (lo hi:Nat) (j:Nat) (hj:j≤1000000000) (hn:n≤1000000000) (w:World) (h:OwnI w lo hi v n f) :
 Calls Tryz.prog 44 #[v,.int .i64 j] w fun e w'=>e=.returned (.int .i64 ((j+n:Nat):Int))∧OwnI w' lo hi v n (marksI j)∧Out lo hi w w':=by
 by_cases h0:n=0
 ·subst h0
  have hown:=h.congr (g:=marksI j) (fun i hi=>by omega);obtain ⟨ao,cap,rfl⟩:=h.slice;clear h
  go_enter Tryz.func44,Tryz.ntmps44
  go_wp2
  go_loopw [1,5] (fun x i wr=>x=.int .i64 j∧i=.int .i64 0∧wr=w) (fun _ _ _=>0)
  case atStart=>exact ⟨rfl,rfl,rfl⟩
  case round=>
   obtain ⟨rfl,rfl,rfl⟩:=hrel;go_wp2;go_ret;exact ⟨ret_eq (by omega),hown,Out.refl _ _ _⟩
 ·obtain ⟨g,cap,rfl,hlo,hhi,hgs,hcap⟩:=h.form h0
  go_enter Tryz.func44,Tryz.ntmps44
  go_wp2
  go_loopw [1,5] (fun x i wr=>∃ k:Nat,k≤n∧i=.int .i64 k∧x=.int .i64 ((j+k:Nat):Int)∧OwnI wr lo hi (.slice (some ⟨g,0,none⟩) n cap) n (fun i=>if i<k then marksI j i else f i)∧Out lo hi w wr) (fun _ i _=>n-(intOf i).toNat)
  case atStart=>exact ⟨0,Nat.zero_le _,rfl,rfl,h,Out.refl _ _ _⟩
  case round=>
   obtain ⟨k,hk,rfl,rfl,hown,hout⟩:=hrel
   by_cases hlt:k<n
   ·have hco:∃ u,wr.cell? ⟨g,k,none⟩=some u:=by
     have:=hown.1.cellAt k (by omega);exact ⟨_,by rw [this,intsOf_get _ _ _ hlt]⟩
    obtain ⟨u,hco⟩:=hco;have hfo:wr.frozen? ⟨g,k,none⟩=false:=hown.1.frozenAt k
    have R:OwnI (wr.setCell ⟨g,k,none⟩ (.int .i64 (marksI j k))) lo hi (.slice (some ⟨g,0,none⟩) n cap) n (fun i=>if i<k+1 then marksI j i else f i):=
     hown.store k (marksI j k) hlt (fun i _=>by by_cases e:i=k<;>simp [e]<;>by_cases e':i<k<;>simp [e']<;>omega)
    have R2:Out lo hi w (wr.setCell ⟨g,k,none⟩ (.int .i64 (marksI j k))):=hout.trans (out_store wr lo hi g k _ hlo hhi);clear hown hout h;go_wp2
    go_roundw
    case rel=>exact ⟨k+1,by omega,by go_num,val_eq (by omega),by rw [← marksI_val];exact R,by rw [← marksI_val];exact R2⟩
    case measure=>simp [intOf];omega
   ·have hkn:k=n:=by omega
    subst hkn;go_wp2;go_ret;exact ⟨rfl,hown.congr (fun i hi=>by simp [hi]),hout⟩
def ToS {α:Type} (A:Lay α) (sz:α→Nat) (fn:Nat):Prop:=∀ (v:Value) (d:α) (hi:Nat) (w:World),A.rd w hi d [v]→hi≤w.heap.size→sz d≤1048576→
 Calls Tryz.prog fn #[v] w fun e w'=>∃ v',e=.returned v'∧OwnT A w' w.heap.size w'.heap.size d [v']∧Below w.heap.size w w'
def ToV {α:Type} (A:Lay α) (sz:α→Nat) (fn:Nat):Prop:=∀ (cs:List Value) (d:α) (hi:Nat) (w:World),A.rd w hi d cs→hi≤w.heap.size→sz d≤1048576→
 Calls Tryz.prog fn #[.agg cs.toArray] w fun e w'=>∃ cs',e=.returned (.agg cs'.toArray)∧OwnT A w' w.heap.size w'.heap.size d cs'∧Below w.heap.size w w'
def EqS {α:Type} (A:Lay α) (fn:Nat):Prop:=∀ (v1 v2:Value) (d:α) (h1 h2:Nat) (w:World),A.rd w h1 d [v1]→A.rd w h2 d [v2]→h1≤w.heap.size→h2≤w.heap.size→
 Calls Tryz.prog fn #[v1,v2] w fun e w'=>e=.returned (.bool true)∧Below w.heap.size w w'
def EqV {α:Type} (A:Lay α) (fn:Nat):Prop:=∀ (c1 c2:List Value) (d:α) (h1 h2:Nat) (w:World),A.rd w h1 d c1→A.rd w h2 d c2→h1≤w.heap.size→h2≤w.heap.size→
 Calls Tryz.prog fn #[.agg c1.toArray,.agg c2.toArray] w fun e w'=>e=.returned (.bool true)∧Below w.heap.size w w'
def MkS {α:Type} (A:Lay α) (c:α→Nat) (mk:Nat→α→α) (fn:Nat):Prop:=∀ (v:Value) (d:α) (L:List Nat) (j:Nat) (w:World),A.own w d [v] L→L.Nodup→j+c d≤100000000→
 Calls Tryz.prog fn #[v,.int .i64 j] w fun e w'=>e=.returned (.int .i64 ((j+c d:Nat):Int))∧A.own w' (mk j d) [v] L∧ChgL L w w'
def MkV {α:Type} (A:Lay α) (c:α→Nat) (mk:Nat→α→α) (fn:Nat):Prop:=∀ (cs:List Value) (d:α) (L:List Nat) (j:Nat) (w:World),A.own w d cs L→L.Nodup→j+c d≤100000000→
 Calls Tryz.prog fn #[.agg cs.toArray,.int .i64 j] w fun e w'=>e=.returned (.int .i64 ((j+c d:Nat):Int))∧A.own w' (mk j d) cs L∧ChgL L w w'
def HdS {α:Type} (A:Lay α) (c:α→Nat) (mk:Nat→α→α) (fn:Nat):Prop:=∀ (v:Value) (d:α) (hi:Nat) (j:Nat) (w:World),A.rd w hi (mk j d) [v]→hi≤w.heap.size→j+c d≤100000000→
 Calls Tryz.prog fn #[v,.int .i64 j] w fun e w'=>e=.returned (.int .i64 ((j+c d:Nat):Int))∧Below w.heap.size w w'
def HdV {α:Type} (A:Lay α) (c:α→Nat) (mk:Nat→α→α) (fn:Nat):Prop:=∀ (cs:List Value) (d:α) (hi:Nat) (j:Nat) (w:World),A.rd w hi (mk j d) cs→hi≤w.heap.size→j+c d≤100000000→
 Calls Tryz.prog fn #[.agg cs.toArray,.int .i64 j] w fun e w'=>e=.returned (.int .i64 ((j+c d:Nat):Int))∧Below w.heap.size w w'
def SzP (n L:Nat) (x:Int):Prop:=x=-1∨(n≤L∧x=(L:Int)-(n:Int))
def SzS {α:Type} (A:Lay α) (sz:α→Nat) (fn:Nat):Prop:=∀ (v:Value) (d:α) (hi L:Nat) (w:World),A.rd w hi d [v]→hi≤w.heap.size→L≤1048576→
 Calls Tryz.prog fn #[v,.int .i64 L] w fun e w'=>∃ x,e=.returned (.int .i64 x)∧SzP (sz d) L x∧Below w.heap.size w w'
def SzV {α:Type} (A:Lay α) (sz:α→Nat) (fn:Nat):Prop:=∀ (cs:List Value) (d:α) (hi L:Nat) (w:World),A.rd w hi d cs→hi≤w.heap.size→L≤1048576→
 Calls Tryz.prog fn #[.agg cs.toArray,.int .i64 L] w fun e w'=>∃ x,e=.returned (.int .i64 x)∧SzP (sz d) L x∧Below w.heap.size w w'
def szSl {α:Type} (s:α→Nat) (p:Nat×(Nat→α)):Nat:=p.1+sumN (fun i=>s (p.2 i)) p.1
def cSl {α:Type} (c:α→Nat) (p:Nat×(Nat→α)):Nat:=sumN (fun i=>c (p.2 i)) p.1
def mkSl {α:Type} (c:α→Nat) (mk:Nat→α→α) (j:Nat) (p:Nat×(Nat→α)):Nat×(Nat→α):=(p.1,fun i=>mk (j+sumN (fun i=>c (p.2 i)) i) (p.2 i))
def lenD {α:Type} (p:Nat×(Nat→α)):Nat:=p.1
def mkBytes (j:Nat) (p:Nat×(Nat→Nat)):Nat×(Nat→Nat):=(p.1,marks j)
def mkInts (j:Nat) (p:Nat×(Nat→Int)):Nat×(Nat→Int):=(p.1,fun i=>if i<p.1 then marksI j i else 0)
theorem sumN_succ (f:Nat→Nat) (k:Nat):sumN f (k+1)=sumN f k+f k:=rfl
theorem sumN_le (f:Nat→Nat) {i n:Nat} (h:i<n):f i≤sumN f n:=by
 have:=sumN_mono f (show i+1≤n from h);rw [sumN_succ] at this;omega
theorem szSl_n {α:Type} {s:α→Nat} {p:Nat×(Nat→α)} {B:Nat} (h:szSl s p≤B):p.1≤B:=by unfold szSl at h;omega
theorem szSl_at {α:Type} {s:α→Nat} {p:Nat×(Nat→α)} {B:Nat} (h:szSl s p≤B) {i:Nat} (hi:i<p.1):s (p.2 i)≤B:=by
 unfold szSl at h;have:=sumN_le (fun i=>s (p.2 i)) hi;omega
theorem toBytes_is:ToS layBytes lenD 21:=fun v d hi w h hhi hn=>by
 obtain ⟨v',e1,h1,h2⟩:=h
 cases e1
 refine (toByteS_any v d.1 d.2 hi w h1 hhi (by unfold lenD at hn;omega)).mono ?_;rintro e w' ⟨v',rfl,o,b⟩;refine ⟨v',rfl,⟨v'.ownBlock.toList,⟨v',rfl,rfl,o.weaken (Nat.zero_le _) (Nat.le_refl _),h2⟩,by cases v'.ownBlock<;>simp,fun b hb=>o.1.lt b (by simpa using hb)⟩,b⟩
theorem eqBytes_is:EqS layBytes 23:=fun v1 v2 d h1 h2 w r1 r2 _ _=>by
 obtain ⟨_,e1,k1,_⟩:=r1;obtain ⟨_,e2,k2,_⟩:=r2
 cases e1
 cases e2
 exact eqByteS_same v1 v2 d.1 d.2 h1 h2 w k1 k2
theorem toInts_is:ToS layInts lenD 33:=fun v d hi w h hhi hn=>by
 obtain ⟨v',e1,h1,h2⟩:=h
 cases e1
 refine (toInt64S_any v d.1 d.2 hi w h1.1 hhi (by unfold lenD at hn;omega)).mono ?_;rintro e w' ⟨v',rfl,o,b⟩;refine ⟨v',rfl,⟨v'.ownBlock.toList,⟨v',rfl,rfl,o.weaken (Nat.zero_le _) (Nat.le_refl _),h2⟩,by cases v'.ownBlock<;>simp,fun b hb=>o.1.lt b (by simpa using hb)⟩,b⟩
theorem eqInts_is:EqS layInts 41:=fun v1 v2 d h1 h2 w r1 r2 _ _=>by
 obtain ⟨_,e1,k1,_⟩:=r1;obtain ⟨_,e2,k2,_⟩:=r2
 cases e1
 cases e2
 exact eqInt64S_same v1 v2 d.1 d.2 h1 h2 w k1.1 k2.1
def oneBlk (v:Value):Nat:=v.ownBlock.getD 0
theorem ownBlk {w:World} {lo hi:Nat} {v:Value} {n:Nat} {f:Nat→Nat} (h:Own w lo hi v n f):Own w (oneBlk v) (oneBlk v+1) v n f:=by
 refine ⟨⟨h.1.1,?_⟩,fun k hk=>by simp [oneBlk,hk]⟩
 rcases h.1.2 with hn | ⟨g,cap,cur,rfl,hbg,rest⟩
 ·exact .inl hn
 ·exact .inr ⟨g,cap,cur,rfl,by simp [oneBlk,Value.ownBlock],rest⟩
theorem ownBlkI {w:World} {lo hi:Nat} {v:Value} {n:Nat} {f:Nat→Int} (h:OwnI w lo hi v n f):OwnI w (oneBlk v) (oneBlk v+1) v n f:=by
 refine ⟨⟨h.1.1,?_⟩,fun k hk=>by simp [oneBlk,hk]⟩
 rcases h.1.2 with hn | ⟨g,cap,cur,rfl,hbg,rest⟩
 ·exact .inl hn
 ·exact .inr ⟨g,cap,cur,rfl,by simp [oneBlk,Value.ownBlock],rest⟩
theorem ChgL.of_none {K:List Nat} {w w':World} (h:Out 0 0 w w'):ChgL K w w':=⟨h.os,h.tape,h.output,Nat.le_of_eq h.size.symm,fun b _ _=>h.block b (.inr (Nat.zero_le _))⟩
theorem marks_lt (j i:Nat):marks j i<256:=Nat.mod_lt _ (by decide)
theorem own_tight0 {w:World} {v:Value} {n:Nat} {f:Nat→Nat} {hi:Nat} (h:Own w 0 hi v n f) (hb:v.ownBlock=none):Own w 0 0 v n f:=⟨h.1,fun k hk=>by rw [hb] at hk;cases hk⟩
theorem markBytes_is:MkS layBytes lenD mkBytes 24:=fun v d L j w h nd hj=>by
 obtain ⟨v',e1,rfl,o,k⟩:=h
 cases e1
 unfold lenD at hj
 cases hb:v.ownBlock with
 | none=>
  refine (markByteS_any v d.1 d.2 0 0 j (by omega) (by omega) w (own_tight0 o hb)).mono ?_;rintro e w' ⟨rfl,o',out⟩;exact ⟨rfl,⟨v,rfl,by rw [hb],o'.weaken (Nat.le_refl _) (Nat.zero_le _),fun i=>marks_lt j i⟩,ChgL.of_none out⟩
 | some g=>
  have e:oneBlk v=g:=by simp [oneBlk,hb]
  have hg:=(o.1.lt g hb).2;have o2:=ownBlk o;rw [e] at o2;refine (markByteS_any v d.1 d.2 g (g+1) j (by omega) (by omega) w o2).mono ?_;rintro e w' ⟨rfl,o',out⟩;exact ⟨rfl,⟨v,rfl,by rw [hb],o'.weaken (Nat.zero_le _) (by rw [out.size];exact hg),fun i=>marks_lt j i⟩,ChgL.of_out out (by simp)⟩
theorem heldBytes_is:HdS layBytes lenD mkBytes 46:=fun v d hi j w h hhi hj=>by
 obtain ⟨v',e1,o,k⟩:=h
 cases e1
 unfold lenD at hj;refine (heldByteS_any v d.1 hi j (by omega) (by omega) w o).mono ?_;rintro e w' ⟨rfl,rfl⟩;exact ⟨rfl,Below.refl _ _⟩
theorem own_tight0I {w:World} {v:Value} {n:Nat} {f:Nat→Int} {hi:Nat} (h:OwnI w 0 hi v n f) (hb:v.ownBlock=none):OwnI w 0 0 v n f:=⟨h.1,fun k hk=>by rw [hb] at hk;cases hk⟩
theorem markInt64S_at (v:Value) (n:Nat) (f:Nat→Int) (lo hi:Nat) (j:Nat) (hj:j≤1000000000) (hn:n≤1000000000) (w:World) (h:OwnI w lo hi v n f) :
 Calls Tryz.prog 44 #[v,.int .i64 j] w fun e w'=>e=.returned (.int .i64 ((j+n:Nat):Int))∧OwnI w' lo hi v n (fun i=>if i<n then marksI j i else 0)∧Out lo hi w w':=by
 refine (markInt64S_any v n f lo hi j hj hn w h).mono ?_;rintro e w' ⟨rfl,o',out⟩;exact ⟨rfl,o'.congr (fun i hi=>by rw [if_pos hi]),out⟩
theorem marksI_bd {j n:Nat} (h:j+n≤100000000) (i:Nat):-9223372036854775808≤(if i<n then marksI j i else 0)∧(if i<n then marksI j i else 0)≤9223372036854775807:=by
 by_cases c:i<n
 ·rw [if_pos c,marksI_val];omega
 ·rw [if_neg c];omega
theorem markInts_is:MkS layInts lenD mkInts 44:=fun v d L j w h nd hj=>by
 obtain ⟨v',e1,rfl,o,k⟩:=h
 cases e1
 unfold lenD at hj
 cases hb:v.ownBlock with
 | none=>
  refine (markInt64S_at v d.1 d.2 0 0 j (by omega) (by omega) w (own_tight0I o hb)).mono ?_;rintro e w' ⟨rfl,o',out⟩;exact ⟨rfl,⟨v,rfl,by rw [hb],o'.weaken (Nat.le_refl _) (Nat.zero_le _),marksI_bd hj⟩,ChgL.of_none out⟩
 | some g=>
  have e:oneBlk v=g:=by simp [oneBlk,hb]
  have hg:=(o.1.lt g hb).2;have o2:=ownBlkI o;rw [e] at o2;refine (markInt64S_at v d.1 d.2 g (g+1) j (by omega) (by omega) w o2).mono ?_;rintro e w' ⟨rfl,o',out⟩;exact ⟨rfl,⟨v,rfl,by rw [hb],o'.weaken (Nat.zero_le _) (by rw [out.size];exact hg),marksI_bd hj⟩,ChgL.of_out out (by simp)⟩
theorem szBytes_is:SzS layBytes lenD 197:=fun v d hi L w h hhi hL=>by
 obtain ⟨v',e1,o,k⟩:=h
 cases e1
 unfold lenD;obtain ⟨n,f⟩:=d;obtain ⟨ao,cap,rfl,hm,hc⟩:=o
 simp only at hm hc ⊢
 unfold maxLen at hm;clear hc k hhi
 by_cases c:n≤L
 ·have c':¬ (L:Int)-(n:Int)<0:=by omega
  go_enter Tryz.func197,Tryz.ntmps197
  go_wp2;go_ret;exact ⟨_,rfl,.inr ⟨c,rfl⟩,Below.refl _ _⟩
 ·have c':(L:Int)-(n:Int)<0:=by omega
  go_enter Tryz.func197,Tryz.ntmps197
  go_wp2;go_ret;exact ⟨_,rfl,.inl rfl,Below.refl _ _⟩
theorem szInts_is:SzS layInts lenD 26:=fun v d hi L w h hhi hL=>by
 obtain ⟨v',e1,o,k⟩:=h
 cases e1
 unfold lenD;obtain ⟨n,f⟩:=d;obtain ⟨ao,cap,rfl,hm,hc⟩:=o.1
 simp only at hm hc ⊢
 unfold maxLen at hm;clear hc k hhi
 by_cases c:n≤L
 ·have c':¬ (L:Int)-(n:Int)<0:=by omega
  go_enter Tryz.func26,Tryz.ntmps26
  go_wp2;go_ret;exact ⟨_,rfl,.inr ⟨c,rfl⟩,Below.refl _ _⟩
 ·have c':(L:Int)-(n:Int)<0:=by omega
  go_enter Tryz.func26,Tryz.ntmps26
  go_wp2;go_ret;exact ⟨_,rfl,.inl rfl,Below.refl _ _⟩
theorem bytes_form {w:World} {hi:Nat} {p:Nat×(Nat→Nat)} {c:List Value} (h:layBytes.rd w hi p c):∃ ao cap,c=[.slice ao p.1 cap]:=by
 obtain ⟨v,rfl,⟨ao,cap,rfl,_⟩,_⟩:=h;exact ⟨ao,cap,rfl⟩
theorem ints_form {w:World} {hi:Nat} {p:Nat×(Nat→Int)} {c:List Value} (h:layInts.rd w hi p c):∃ ao cap,c=[.slice ao p.1 cap]:=by
 obtain ⟨v,rfl,⟨⟨ao,cap,rfl,_⟩,_⟩,_⟩:=h;exact ⟨ao,cap,rfl⟩
theorem sl_form {α:Type} {E:Lay α} {t:TypeId} {w:World} {hi:Nat} {p:Nat×(Nat→α)} {c:List Value} (h:(E.slice t).rd w hi p c):∃ ao cap,c=[.slice ao p.1 cap]:=by
 obtain ⟨ao,cap,rfl,_⟩:=h;exact ⟨ao,cap,rfl⟩
theorem bytes_formO {w:World} {p:Nat×(Nat→Nat)} {c:List Value} {L:List Nat} (h:layBytes.own w p c L):∃ ao cap,c=[.slice ao p.1 cap]:=bytes_form (layBytes.own_rd (hi:=w.heap.size) h (layBytes.own_lt h))
theorem ints_formO {w:World} {p:Nat×(Nat→Int)} {c:List Value} {L:List Nat} (h:layInts.own w p c L):∃ ao cap,c=[.slice ao p.1 cap]:=ints_form (layInts.own_rd (hi:=w.heap.size) h (layInts.own_lt h))
theorem sl_formO {α:Type} {E:Lay α} {t:TypeId} {w:World} {p:Nat×(Nat→α)} {c:List Value} {L:List Nat} (h:(E.slice t).own w p c L):∃ ao cap,c=[.slice ao p.1 cap]:=sl_form ((E.slice t).own_rd (hi:=w.heap.size) h ((E.slice t).own_lt h))
theorem bytes_formT {w:World} {lo hi:Nat} {p:Nat×(Nat→Nat)} {c:List Value} (h:OwnT layBytes w lo hi p c):∃ ao cap,c=[.slice ao p.1 cap]:=bytes_form h.rd
theorem ints_formT {w:World} {lo hi:Nat} {p:Nat×(Nat→Int)} {c:List Value} (h:OwnT layInts w lo hi p c):∃ ao cap,c=[.slice ao p.1 cap]:=ints_form h.rd
theorem sl_formT {α:Type} {E:Lay α} {t:TypeId} {w:World} {lo hi:Nat} {p:Nat×(Nat→α)} {c:List Value} (h:OwnT (E.slice t) w lo hi p c):∃ ao cap,c=[.slice ao p.1 cap]:=sl_form h.rd
theorem one_eq {v:Value} {u:Value} (h:[v]=[u]):v=u:=by simpa using h
theorem OwnT.two {α β:Type} {A:Lay α} {B:Lay β} {w:World} {l1 e1 l2 e2:Nat} {a:α} {b:β} {c d:List Value} (h1:OwnT A w l1 e1 a c) (h2:OwnT B w l2 e2 b d) (h:e1≤l2) (h3:l1≤l2) (h4:e1≤e2):OwnT (A.two B) w l1 e2 (a,b) (c++d):=by
 obtain ⟨K,a1,a2,a3⟩:=h1;obtain ⟨M,b1,b2,b3⟩:=h2;refine ⟨K++M,⟨c,d,K,M,rfl,rfl,a1,b1⟩,List.nodup_append.2 ⟨a2,b2,fun x hx y hy hh=>?_⟩,fun x hx=>?_⟩
 ·subst hh
  have:=a3 x hx;have:=b3 x hy;omega
 ·rcases List.mem_append.1 hx with h | h
  ·have:=a3 x h;omega
  ·have:=b3 x h;omega
theorem OwnT.pre {α β:Type} {A:Lay α} {B:Lay β} {w:World} {l e:Nat} {a:α} {b:β} {c d:List Value} (h1:A.own w a c []) (h2:OwnT B w l e b d):OwnT (A.two B) w l e (a,b) (c++d):=by
 obtain ⟨M,b1,b2,b3⟩:=h2;exact ⟨M,⟨c,d,[],M,rfl,rfl,h1,b1⟩,b2,b3⟩
theorem OwnT.nil {α:Type} {A:Lay α} {w:World} {a:α} {c:List Value} (h:A.own w a c []) (l e:Nat):OwnT A w l e a c:=⟨[],h,List.nodup_nil,fun b hb=>by cases hb⟩
theorem OwnT.set {α:Type} {A:Lay α} {w:World} {lo hi b j:Nat} {u:Value} {a:α} {cs:List Value} (h:OwnT A w lo hi a cs) (hb:b<lo):OwnT A (w.setCell ⟨b,j,none⟩ u) lo hi a cs:=
 h.chg (out_store w b (b+1) b j u (Nat.le_refl _) (Nat.lt_succ_self _)).chg (.inr hb)
theorem OwnT.call {α:Type} {A:Lay α} {w w':World} {lo hi:Nat} {a:α} {cs:List Value} (h:OwnT A w lo hi a cs) (hb:Below w.heap.size w w'):OwnT A w' lo hi a cs:=by
 obtain ⟨L,h1,h2,h3⟩:=h;exact ⟨L,A.own_kept h1 (fun b hb'=>hb.block b (A.own_lt h1 b hb')),h2,h3⟩
theorem OwnT.conv {α β:Type} {A:Lay α} {to:β→α} {w:World} {lo hi:Nat} {b:β} {cs:List Value} (h:OwnT A w lo hi (to b) cs):OwnT (A.as to) w lo hi b cs:=h
theorem OwnT.stN {α:Type} {A:Lay α} {w:World} {lo hi:Nat} {a:α} {cs:List Value} (h:OwnT A w lo hi a cs) (b off:Nat) (l:List Value) (hb:b<lo):OwnT A (stN w b off l) lo hi a cs:=by
 obtain ⟨L,h1,h2,h3⟩:=h;exact ⟨L,A.own_kept h1 (fun k hk=>stN_heap b k (by have:=h3 k hk;omega) l w off),h2,h3⟩
theorem OwnT.fin {α:Type} {A:Lay α} {w:World} {s:Nat} {a:α} {cs:List Value} (h:OwnT A w (s+1+1+1) w.heap.size a cs) (o1 o2:Nat) (l1 l2:List Value) (w':World) (e:w'=Go.Proofs.YtclclojenogpbaaGreat.stN (Go.Proofs.YtclclojenogpbaaGreat.stN w (s+1+1) o1 l1) (s+1) o2 l2):OwnT A w' s w'.heap.size a cs:=by
 subst e;exact ((h.stN (s+1+1) o1 l1 (by omega)).stN (s+1) o2 l2 (by omega)).weaken (by omega) (by rw [stN_size,stN_size];exact Nat.le_refl _)
theorem below_fin {w0 w:World} {s:Nat} (h:Below s w0 w) (o1 o2:Nat) (l1 l2:List Value) (w':World) (e:w'=Go.Proofs.YtclclojenogpbaaGreat.stN (Go.Proofs.YtclclojenogpbaaGreat.stN w (s+1+1) o1 l1) (s+1) o2 l2):Below s w0 w':=by
 subst e;exact (h.trans (stN_below (by omega) _ _)).trans (stN_below (by omega) _ _)
theorem below_set {B b j:Nat} {a w:World} {u:Value} (h:Below B a w) (hb:B≤b):Below B a (w.setCell ⟨b,j,none⟩ u):=h.setCell hb _
theorem Box.setc {w:World} {b:Nat} {cs:Array Value} {t:TypeId} (h:Box w b cs t) (j:Nat) (u:Value):Box (w.setCell ⟨b,j,none⟩ u) b (cs.setIfInBounds j u) t:=by
 unfold Box at h ⊢;have hlt:=(Array.getElem?_eq_some_iff.1 h).1;have he:=(Array.getElem?_eq_some_iff.1 h).2
 simp [World.setCell,hlt,Array.getElem_modify,he]
theorem Box.seto {w:World} {b b':Nat} {cs:Array Value} {t:TypeId} (h:Box w b cs t) (j:Nat) (u:Value) (hne:b≠b'):Box (w.setCell ⟨b',j,none⟩ u) b cs t:=(heap_setCell_other w ⟨b',j,none⟩ b u hne).trans h
theorem Box.stL:∀ (l:List Value) {w:World} {b:Nat} {cs:Array Value} {t:TypeId} (off:Nat),Box w b cs t→Box (Go.Proofs.YtclclojenogpbaaGreat.stN w b off l) b (setL cs.toList off l).toArray t
 | [],w,b,cs,t,off,h=>by simpa [Go.Proofs.YtclclojenogpbaaGreat.stN,setL] using h
 | c::l,w,b,cs,t,off,h=>by
  have h1:=Box.stL l (off+1) (h.setc off c);rw [Array.toList_setIfInBounds] at h1;exact h1
theorem Box.call {w w':World} {b:Nat} {cs:Array Value} {t:TypeId} (h:Box w b cs t) (hb:Below w.heap.size w w'):Box w' b cs t:=h.below hb h.lt
structure One (w wc:World) (c1:Array Value) (t1:TypeId):Prop where
 b1:Box wc w.heap.size c1 t1
 bel:Below w.heap.size w wc
theorem one_new (w:World) (c1:Array Value) (t1:TypeId):One w (w.alloc (.cells c1 t1)) c1 t1:=⟨box_new _ _ _,(Below.refl _ _).alloc (Nat.le_refl _) _⟩
theorem One.call {w wc w':World} {c1:Array Value} {t1:TypeId} (h:One w wc c1 t1) (hb:Below wc.heap.size wc w'):One w w' c1 t1:=⟨h.b1.call hb,h.bel.trans (hb.mono h.bel.size)⟩
structure Two (w wc:World) (c1 c2:Array Value) (t1 t2:TypeId):Prop where
 b1:Box wc w.heap.size c1 t1
 b2:Box wc (w.heap.size+1) c2 t2
 bel:Below w.heap.size w wc
theorem two_newb (w:World) (c1 c2:Array Value) (t1 t2:TypeId):Two w ((w.alloc (.cells c1 t1)).alloc (.cells c2 t2)) c1 c2 t1 t2:=by
 have h:=box_new (w.alloc (.cells c1 t1)) c2 t2
 have e:(w.alloc (.cells c1 t1)).heap.size=w.heap.size+1:=by simp
 rw [e] at h;exact ⟨((box_new w c1 t1).below (B:=w.heap.size+1) ((Below.refl _ _).alloc (by simp) _) (by omega)),h,((Below.refl _ _).alloc (Nat.le_refl _) _).alloc (by simp) _⟩
theorem Two.call {w wc w':World} {c1 c2:Array Value} {t1 t2:TypeId} (h:Two w wc c1 c2 t1 t2) (hb:Below wc.heap.size wc w'):Two w w' c1 c2 t1 t2:=⟨h.b1.call hb,h.b2.call hb,h.bel.trans (hb.mono h.bel.size)⟩
structure Three (w wc:World) (c1 c2 c3:Array Value) (t1 t2 t3:TypeId):Prop where
 b1:Box wc w.heap.size c1 t1
 b2:Box wc (w.heap.size+1) c2 t2
 b3:Box wc (w.heap.size+1+1) c3 t3
 bel:Below w.heap.size w wc
theorem three_newb (w:World) (c1 c2 c3:Array Value) (t1 t2 t3:TypeId):Three w (((w.alloc (.cells c1 t1)).alloc (.cells c2 t2)).alloc (.cells c3 t3)) c1 c2 c3 t1 t2 t3:=by
 have e1:(w.alloc (.cells c1 t1)).heap.size=w.heap.size+1:=by simp
 have e2:((w.alloc (.cells c1 t1)).alloc (.cells c2 t2)).heap.size=w.heap.size+1+1:=by simp
 have k1:=box_new w c1 t1;have k2:=box_new (w.alloc (.cells c1 t1)) c2 t2;have k3:=box_new ((w.alloc (.cells c1 t1)).alloc (.cells c2 t2)) c3 t3;rw [e1] at k2;rw [e2] at k3;have a2:Below (w.heap.size+1) (w.alloc (.cells c1 t1)) ((w.alloc (.cells c1 t1)).alloc (.cells c2 t2)):=(Below.refl _ _).alloc (by simp) _;have a3:Below (w.heap.size+1+1) ((w.alloc (.cells c1 t1)).alloc (.cells c2 t2)) (((w.alloc (.cells c1 t1)).alloc (.cells c2 t2)).alloc (.cells c3 t3)):=(Below.refl _ _).alloc (by simp) _;exact ⟨(k1.below a2 (by omega)).below a3 (by omega),k2.below a3 (by omega),k3,(((Below.refl _ _).alloc (Nat.le_refl _) _).alloc (by simp) _).alloc (by simp<;>omega) _⟩
section
variable {w wc w':World} {c1 c2 c3:Array Value} {t1 t2 t3:TypeId}
theorem Three.call (h:Three w wc c1 c2 c3 t1 t2 t3) (hb:Below wc.heap.size wc w'):Three w w' c1 c2 c3 t1 t2 t3:=⟨h.b1.call hb,h.b2.call hb,h.b3.call hb,h.bel.trans (hb.mono h.bel.size)⟩
theorem Three.set3 (h:Three w wc c1 c2 c3 t1 t2 t3) (j:Nat) (u:Value):Three w (wc.setCell ⟨w.heap.size+1+1,j,none⟩ u) c1 c2 (c3.setIfInBounds j u) t1 t2 t3:=
 ⟨h.b1.seto _ _ (by omega),h.b2.seto _ _ (by omega),h.b3.setc j u,h.bel.setCell (by show w.heap.size≤w.heap.size+1+1;omega) _⟩
theorem Three.st3 (h:Three w wc c1 c2 c3 t1 t2 t3) (off:Nat) (l:List Value) {c3':List Value} (e:setL c3.toList off l=c3'):Three w (Go.Proofs.YtclclojenogpbaaGreat.stN wc (w.heap.size+1+1) off l) c1 c2 c3'.toArray t1 t2 t3:=by
 subst e;refine ⟨?_,?_,h.b3.stL l off,h.bel.trans (stN_below (by omega) _ _)⟩
 ·exact (stN_heap _ _ (by omega) l wc off).trans h.b1
 ·exact (stN_heap _ _ (by omega) l wc off).trans h.b2
theorem Three.lt (h:Three w wc c1 c2 c3 t1 t2 t3):w.heap.size+1+1+1≤wc.heap.size:=h.b3.lt
end
def SlK {α:Type} (E:Lay α) (t:TypeId) (w:World) (g cap n:Nat) (x:Nat→α) (ce:Nat→List Value) (Ls:Nat→List Nat) (k:Nat) (a:α) (cs:List Value):Prop:=SlO E t w g cap n (upd x k a) (upd ce k cs) Ls
theorem upd_self {β:Type} (f:Nat→β) (i:Nat):upd f i (f i)=f:=by
 funext k
 by_cases c:k=i
 ·subst c;rw [upd_at]
 ·rw [upd_ne f _ c]
theorem upd_upd {β:Type} (f:Nat→β) (i:Nat) (a b:β):upd (upd f i a) i b=upd f i b:=by
 funext k
 by_cases c:k=i
 ·subst c;rw [upd_at,upd_at]
 ·rw [upd_ne _ _ c,upd_ne _ _ c,upd_ne _ _ c]
section
variable {α:Type} {E:Lay α} {t:TypeId} {w w':World} {g cap n:Nat} {x:Nat→α} {ce:Nat→List Value} {Ls:Nat→List Nat} {k:Nat} {a a':α} {cs:List Value}
theorem SlO.at_ (h:SlO E t w g cap n x ce Ls) (k:Nat):SlK E t w g cap n x ce Ls k (x k) (ce k):=by
 unfold SlK;rw [upd_self,upd_self];exact h
theorem SlK.cell (h:SlK E t w g cap n x ce Ls k a cs) (hk:k<n) {j:Nat} (hj:j<E.sz):w.cell? ⟨g,k*E.sz+j,none⟩=cs[j]?:=by
 have:=SlO.cell h hk hj;rw [upd_at] at this;exact this
theorem SlK.frozen (h:SlK E t w g cap n x ce Ls k a cs) (j:Nat):w.frozen? ⟨g,j,none⟩=false:=SlO.frozen h j
theorem SlK.own (h:SlK E t w g cap n x ce Ls k a cs) (hk:k<n):E.own w a cs (Ls k):=by
 have:=SlO.each h k hk;rw [upd_at,upd_at] at this;exact this
theorem SlK.store (h:SlK E t w g cap n x ce Ls k a cs) (nd:(g::catN n Ls).Nodup) (hk:k<n) {j:Nat} (hj:j<E.sz) (u:Value) (ha:E.own w a' (cs.set j u) (Ls k)) :
 SlK E t (w.setCell ⟨g,k*E.sz+j,none⟩ u) g cap n x ce Ls k a' (cs.set j u):=by
 have:=SlO.store (a':=a') h nd hk hj u (by rw [upd_at];exact ha);rw [upd_at,upd_upd,upd_upd] at this;exact this
theorem SlK.into (h:SlK E t w g cap n x ce Ls k a cs) (nd:(g::catN n Ls).Nodup) (hk:k<n) (hc:ChgL (Ls k) w w') (ha:E.own w' a' cs (Ls k)):SlK E t w' g cap n x ce Ls k a' cs:=by
 have:=SlO.into (a':=a') h nd hk hc (by rw [upd_at];exact ha);rw [upd_upd] at this;exact this
theorem SlO.sub (k:Nat) (hk:k<n):∀ b,b∈Ls k→b∈g::catN n Ls:=fun b hb=>List.mem_cons_of_mem _ (mem_catN.2 ⟨k,hk,hb⟩)
theorem nodup_at (nd:(g::catN n Ls).Nodup) (k:Nat) (hk:k<n):(Ls k).Nodup:=by
 have h:=(List.nodup_cons.1 nd).2;clear nd
 induction n with
 | zero=>omega
 | succ n ih=>
  rw [catN_succ] at h;obtain ⟨h1,h2,_⟩:=List.nodup_append.1 h
  by_cases c:k=n
  ·subst c;exact h2
  ·exact ih (by omega) h1
theorem slice_congr {p q:Nat×(Nat→α)} {L:List Nat} (h:(E.slice t).own w p cs L) (e:p.1=q.1) (hx:∀ i,i<p.1→p.2 i=q.2 i):(E.slice t).own w q cs L:=by
 obtain ⟨v,ce,Ls,h1,h2,h3,h4⟩:=h;exact ⟨v,ce,Ls,h1,by rw [← e];exact h2,by rw [← e];exact h3,fun i hi=>by rw [← hx i (by omega)];exact h4 i (by omega)⟩
theorem SlO.congr {y:Nat→α} (h:SlO E t w g cap n x ce Ls) (hx:∀ i,i<n→x i=y i):SlO E t w g cap n y ce Ls:=⟨h.row,fun i hi=>by rw [← hx i hi];exact h.each i hi⟩
end
def mkTo {α:Type} (c:α→Nat) (mk:Nat→α→α) (j:Nat) (x:Nat→α) (k:Nat):Nat→α:=fun i=>if i<k then mk (j+sumN (fun i=>c (x i)) i) (x i) else x i
theorem mkTo_at {α:Type} (c:α→Nat) (mk:Nat→α→α) (j:Nat) (x:Nat→α) (k:Nat):mkTo c mk j x k k=x k:=by simp [mkTo]
theorem mkTo_next {α:Type} (c:α→Nat) (mk:Nat→α→α) (j:Nat) (x:Nat→α) (k:Nat):upd (mkTo c mk j x k) k (mk (j+sumN (fun i=>c (x i)) k) (x k))=mkTo c mk j x (k+1):=by
 funext i
 by_cases h:i=k
 ·subst h;rw [upd_at];simp [mkTo]
 ·rw [upd_ne _ _ h]
  unfold mkTo
  by_cases h2:i<k
  ·rw [if_pos h2,if_pos (by omega)]
  ·rw [if_neg h2,if_neg (by omega)]
theorem mkTo_zero {α:Type} (c:α→Nat) (mk:Nat→α→α) (j:Nat) (x:Nat→α):mkTo c mk j x 0=x:=by
 funext i
 simp [mkTo]
theorem mkTo_done {α:Type} (c:α→Nat) (mk:Nat→α→α) (j:Nat) (x:Nat→α) (n i:Nat) (h:i<n):mkTo c mk j x n i=(mkSl c mk j (n,x)).2 i:=by simp [mkTo,mkSl,h]
theorem SlP.some {α:Type} {E:Lay α} {t:TypeId} {w w':World} {lo g cap n k:Nat} {x:Nat→α} {ce:Nat→List Value} {Ls:Nat→List Nat} (h:SlP E t w lo g cap n k x ce Ls) (hb:Below w.heap.size w w') {i j:Nat} (hi:i<n) (hj:j<E.sz):∃ u,w'.cell? ⟨g,i*E.sz+j,none⟩=some u:=by
 have h':=h.below hb;rw [h'.cell hi hj];exact ⟨_,List.getElem?_eq_getElem (by rw [h'.lens i hi];exact hj)⟩
theorem SlP.next {α:Type} {E:Lay α} {t:TypeId} {w1 w:World} {lo g cap n k:Nat} {x:Nat→α} {ce:Nat→List Value} {Ls:Nat→List Nat} (h1:SlP E t w1 lo g cap n k x ce Ls) (hb:Below w1.heap.size w1 w) (hk:k<n) {cs:List Value} (ha:OwnT E w w1.heap.size w.heap.size (x k) cs) (hlo:lo≤w1.heap.size) :
 ∃ ce' Ls',SlP E t (stN w g (k*E.sz) cs) lo g cap n (k+1) x ce' Ls':=by
 obtain ⟨K,a1,a2,a3⟩:=ha;have:=h1.lay hb hk a1 a2 (fun b hb=>(a3 b hb).1) hlo;rw [upd_self] at this;exact ⟨_,_,this⟩
theorem elem_rd {α:Type} {E:Lay α} {t:TypeId} {w wr:World} {hi n:Nat} {x:Nat→α} {b off:Nat} (hel:∀ i,i<n→∃ ce,E.rd w hi (x i) ce∧∀ j,j<E.sz→w.cell? ⟨b,off+(i*E.sz+j),none⟩=ce[j]?) (hb:Below w.heap.size w wr) (hhi:hi≤w.heap.size) (hbh:b<hi) {k:Nat} (hk:k<n) :
 ∃ ce,E.rd wr hi (x k) ce∧∀ j,j<E.sz→wr.cell? ⟨b,off+(k*E.sz+j),none⟩=ce[j]?:=by
 obtain ⟨ce,h1,h2⟩:=hel k hk;exact ⟨ce,E.rd_below h1 hb hhi,fun j hj=>(hb.cell (p:=⟨b,off+(k*E.sz+j),none⟩) (by show b<w.heap.size;omega)).trans (h2 j hj)⟩
theorem own_setg {α:Type} {A:Lay α} {w:World} {a:α} {cs:List Value} {K:List Nat} {g j:Nat} {u:Value} (h:A.own w a cs K) (hg:g∉K):A.own (w.setCell ⟨g,j,none⟩ u) a cs K:=
 A.own_kept h (fun b hb=>heap_setCell_other w _ b u (fun hh=>hg (by have e:b=g:=hh;rw [← e];exact hb)))
theorem not_in {g n k:Nat} {Ls:Nat→List Nat} (nd:(g::catN n Ls).Nodup) (hk:k<n):g∉Ls k:=fun h=>(List.nodup_cons.1 nd).1 (mem_catN.2 ⟨k,hk,h⟩)
theorem ChgL.st {K:List Nat} {w0 w:World} (h:ChgL K w0 w) (b j:Nat) (u:Value) (hb:b∈K):ChgL K w0 (w.setCell ⟨b,j,none⟩ u):=h.trans (ChgL.store K w b j u hb)
theorem ChgL.sub {K M:List Nat} {w0 w w':World} (h:ChgL K w0 w) (h2:ChgL M w w') (hs:∀ b,b∈M→b∈K):ChgL K w0 w':=h.trans (h2.mono hs)
theorem SlO.mem_lt {α:Type} {E:Lay α} {t:TypeId} {w:World} {g cap n:Nat} {x:Nat→α} {ce:Nat→List Value} {Ls:Nat→List Nat} (h:SlO E t w g cap n x ce Ls):∀ b,b∈g::catN n Ls→b<w.heap.size:=fun b hb=>by
 rcases List.mem_cons.1 hb with rfl | hb
 ·exact h.lt
 ·obtain ⟨i,hi,hbi⟩:=mem_catN.1 hb
  exact E.own_lt (h.each i hi) b hbi
def digT:Nat→Nat→ByteArray→ByteArray
 | 0,_,out=>out
 | f+1,k,out=>if k=0 then out else digT f (k/10) (strOfNums [48+(k:Int)%10]++out)
def markT (k:Nat):ByteArray:=ByteArray.mk #[109]++digT 20 k ByteArray.empty
theorem digT_zero (f:Nat) (out:ByteArray):digT f 0 out=out:=by
 cases f<;>simp [digT]
theorem str1_size (x:Int):(strOfNums [x]).size=1:=rfl
theorem digT_size:∀ (f k:Nat) (out:ByteArray),(digT f k out).size≤f+out.size
 | 0,k,out=>by simp [digT]
 | f+1,k,out=>by
  rw [digT]
  split
  ·omega
  ·have:=digT_size f (k/10) (strOfNums [48+(k:Int)%10]++out)
   rw [ByteArray.size_append,str1_size] at this;omega
theorem markT_le (k:Nat):(markT k).size≤maxLen:=by
 have:=digT_size 20 k ByteArray.empty;have e0:ByteArray.empty.size=0:=rfl
 have e:(markT k).size=1+(digT 20 k ByteArray.empty).size:=by unfold markT;rw [ByteArray.size_append];rfl
 rw [e];unfold maxLen;omega
theorem markText_any (k0:Nat) (h0:0<k0) (h1:k0≤1000000000) (w:World) :
 Calls Tryz.prog 124 #[.int .i64 k0] w fun e w'=>e=.returned (.string (markT k0))∧Below w.heap.size w w':=by
 go_enter Tryz.func124,Tryz.ntmps124
 go_wp2
 go_loopw [0,3] (fun y s wr=>∃ (k f:Nat) (out:ByteArray),y=.int .i64 k∧s=.string out∧k<10 ^ f∧k≤1000000000∧f≤20∧out.size≤20-f∧digT f k out=digT 20 k0 ByteArray.empty∧Below w.heap.size w wr) (fun y _ _=>(intOf y).toNat)
 case atStart=>exact ⟨k0,20,ByteArray.empty,rfl,rfl,by omega,by omega,by omega,by simp,rfl,Below.refl _ _⟩
 case round=>
  obtain ⟨k,f,out,rfl,rfl,hk,hkb,hf,hsz,hd,hb⟩:=hrel;have HD:=hid hd;clear hd;have HP:=hid hk;clear hk
  by_cases hk0:k=0
  ·subst hk0
   go_wp2;go_ret;have e:=HD.out;rw [digT_zero] at e;exact ⟨by unfold markT;rw [← e];rfl,hb⟩
  ·obtain ⟨f',hf'⟩:∃ f',f=f'+1:=by
    cases f with
    | zero=>exact absurd HP.out (by simp;omega)
    | succ f'=>exact ⟨f',rfl⟩
   have HF:=hid hf';clear hf'
   have h48:(48+(k:Int)%10)%256=48+(k:Int)%10:=by omega
   have HC:∀ ct,(convert 30 9 (.slice (some ⟨wr.heap.size,0,none⟩) 1 ct)).run Tryz.prog (wr.alloc (.cells #[.int .u8 (48+(k:Int)%10)] 5))=.ok (.string (strOfNums [48+(k:Int)%10])) (wr.alloc (.cells #[.int .u8 (48+(k:Int)%10)] 5)):=fun ct=>
    run_convert_bytes_arg _ _ _ Tryz.underlying30 Tryz.underlying5 wr.heap.size 0 1 ct [48+(k:Int)%10] rfl (fun i hi=>by
     obtain rfl:i=0:=by omega
     exact (box_new wr #[.int .u8 (48+(k:Int)%10)] 5).cell 0) _ Tryz.underlying9
   have hadd:¬ (strOfNums [48+(k:Int)%10]).size+out.size > 9223372036854775807:=by rw [str1_size];omega
   go_wp2
   go_roundw
   case rel=>
    have e:=HD.out;have p:=HP.out;have q:=HF.out;subst q;rw [digT,if_neg hk0] at e;rw [Nat.pow_succ] at p;exact ⟨k/10,f',_,val_eq (by omega),rfl,by omega,by omega,by omega,by rw [ByteArray.size_append,str1_size];omega,e,hb.alloc hb.size _⟩
   case measure=>simp [intOf];omega
theorem Block_rd {w:World} {hi:Nat} {d:BlockD} {cs:List Value} (h:layBlock.rd w hi d cs):∃ ao1 cap1,cs=[.int .i64 d.stamp,.slice ao1 d.bytes.1 cap1]∧layBytes.rd w hi d.bytes [.slice ao1 d.bytes.1 cap1]∧(-9223372036854775808≤d.stamp∧d.stamp≤9223372036854775807):=by
 obtain ⟨c0,r0,rfl,h0,h1⟩:=h;obtain ⟨rfl,k0⟩:=h0;obtain ⟨ao1,cap1,rfl⟩:=bytes_form h1;exact ⟨ao1,cap1,rfl,h1,k0⟩
theorem Block_own {w:World} {d:BlockD} {cs:List Value} {L:List Nat} (h:layBlock.own w d cs L):∃ ao1 cap1 K1,cs=[.int .i64 d.stamp,.slice ao1 d.bytes.1 cap1]∧L=K1∧layBytes.own w d.bytes [.slice ao1 d.bytes.1 cap1] K1∧(-9223372036854775808≤d.stamp∧d.stamp≤9223372036854775807):=by
 obtain ⟨c0,r0,L0,M0,rfl,rfl,h0,h1⟩:=h;obtain ⟨rfl,k0,rfl⟩:=h0;obtain ⟨ao1,cap1,rfl⟩:=bytes_formO h1;exact ⟨ao1,cap1,_,rfl,rfl,h1,k0⟩
theorem Block_cellsO {w:World} {d:BlockD} {cs:List Value} {L:List Nat} (h:layBlock.own w d cs L):∃ ao1 cap1,cs=[.int .i64 d.stamp,.slice ao1 d.bytes.1 cap1]:=by
 obtain ⟨ao1,cap1,K1,rfl,-⟩:=Block_own h;exact ⟨ao1,cap1,rfl⟩
theorem Block_cells {w:World} {lo hi:Nat} {d:BlockD} {cs:List Value} (h:OwnT layBlock w lo hi d cs):∃ ao1 cap1,cs=[.int .i64 d.stamp,.slice ao1 d.bytes.1 cap1]:=by
 obtain ⟨L,h1,-⟩:=h;exact Block_cellsO h1
theorem Block_mk {w:World} (d:BlockD) {ao1:Option Addr} {cap1:Nat} {K1:List Nat} (h1:layBytes.own w d.bytes [.slice ao1 d.bytes.1 cap1] K1) (k0:(-9223372036854775808≤d.stamp∧d.stamp≤9223372036854775807)):layBlock.own w d [.int .i64 d.stamp,.slice ao1 d.bytes.1 cap1] (K1):=⟨_,_,[],K1,rfl,rfl,⟨rfl,k0,rfl⟩,h1⟩
def szBlockD (d:BlockD):Nat:=lenD d.bytes
def cBlockD (d:BlockD):Nat:=1+lenD d.bytes
def mkBlockD (j:Nat) (d:BlockD):BlockD:=⟨((j:Nat):Int),mkBytes (j+1) d.bytes⟩
theorem Drive_rd {w:World} {hi:Nat} {d:DriveD} {cs:List Value} (h:layDrive.rd w hi d cs):∃ ao1 cap1,cs=[.bool d.wiped,.slice ao1 d.blocks.1 cap1]∧(layBlock.slice 126).rd w hi d.blocks [.slice ao1 d.blocks.1 cap1]:=by
 obtain ⟨c0,r0,rfl,h0,h1⟩:=h;obtain ⟨rfl,k0⟩:=h0;obtain ⟨ao1,cap1,rfl⟩:=sl_form h1;exact ⟨ao1,cap1,rfl,h1⟩
theorem Drive_own {w:World} {d:DriveD} {cs:List Value} {L:List Nat} (h:layDrive.own w d cs L):∃ ao1 cap1 K1,cs=[.bool d.wiped,.slice ao1 d.blocks.1 cap1]∧L=K1∧(layBlock.slice 126).own w d.blocks [.slice ao1 d.blocks.1 cap1] K1:=by
 obtain ⟨c0,r0,L0,M0,rfl,rfl,h0,h1⟩:=h;obtain ⟨rfl,k0,rfl⟩:=h0;obtain ⟨ao1,cap1,rfl⟩:=sl_formO h1;exact ⟨ao1,cap1,_,rfl,rfl,h1⟩
theorem Drive_cellsO {w:World} {d:DriveD} {cs:List Value} {L:List Nat} (h:layDrive.own w d cs L):∃ ao1 cap1,cs=[.bool d.wiped,.slice ao1 d.blocks.1 cap1]:=by
 obtain ⟨ao1,cap1,K1,rfl,-⟩:=Drive_own h;exact ⟨ao1,cap1,rfl⟩
theorem Drive_cells {w:World} {lo hi:Nat} {d:DriveD} {cs:List Value} (h:OwnT layDrive w lo hi d cs):∃ ao1 cap1,cs=[.bool d.wiped,.slice ao1 d.blocks.1 cap1]:=by
 obtain ⟨L,h1,-⟩:=h;exact Drive_cellsO h1
theorem Drive_mk {w:World} (d:DriveD) {ao1:Option Addr} {cap1:Nat} {K1:List Nat} (h1:(layBlock.slice 126).own w d.blocks [.slice ao1 d.blocks.1 cap1] K1):layDrive.own w d [.bool d.wiped,.slice ao1 d.blocks.1 cap1] (K1):=⟨_,_,[],K1,rfl,rfl,⟨rfl,trivial,rfl⟩,h1⟩
def szDriveD (d:DriveD):Nat:=(szSl szBlockD) d.blocks
def cDriveD (d:DriveD):Nat:=1+(cSl cBlockD) d.blocks
def mkDriveD (j:Nat) (d:DriveD):DriveD:=⟨decide ((j)%3=0),(mkSl cBlockD mkBlockD) (j+1) d.blocks⟩
theorem Rec_rd {w:World} {hi:Nat} {d:RecD} {cs:List Value} (h:layRec.rd w hi d cs):∃ ao6 cap6 ao7 cap7 ao8 cap8,cs=[.int .i64 d.kind,.int .i64 d.seq,.string d.name,.int .i64 d.length,.int .i64 d.group,.int .i64 d.row,.slice ao6 d.rows.1 cap6,.slice ao7 d.data.1 cap7,.slice ao8 d.delta.1 cap8]∧layInts.rd w hi d.rows [.slice ao6 d.rows.1 cap6]∧layBytes.rd w hi d.data [.slice ao7 d.data.1 cap7]∧layBytes.rd w hi d.delta [.slice ao8 d.delta.1 cap8]∧(-9223372036854775808≤d.kind∧d.kind≤9223372036854775807)∧(-9223372036854775808≤d.seq∧d.seq≤9223372036854775807)∧d.name.size≤maxLen∧(-9223372036854775808≤d.length∧d.length≤9223372036854775807)∧(-9223372036854775808≤d.group∧d.group≤9223372036854775807)∧(-9223372036854775808≤d.row∧d.row≤9223372036854775807):=by
 obtain ⟨c0,r0,rfl,h0,c1,r1,rfl,h1,c2,r2,rfl,h2,c3,r3,rfl,h3,c4,r4,rfl,h4,c5,r5,rfl,h5,c6,r6,rfl,h6,c7,r7,rfl,h7,h8⟩:=h;obtain ⟨rfl,k0⟩:=h0;obtain ⟨rfl,k1⟩:=h1;obtain ⟨rfl,k2⟩:=h2;obtain ⟨rfl,k3⟩:=h3;obtain ⟨rfl,k4⟩:=h4;obtain ⟨rfl,k5⟩:=h5;obtain ⟨ao6,cap6,rfl⟩:=ints_form h6;obtain ⟨ao7,cap7,rfl⟩:=bytes_form h7;obtain ⟨ao8,cap8,rfl⟩:=bytes_form h8;exact ⟨ao6,cap6,ao7,cap7,ao8,cap8,rfl,h6,h7,h8,k0,k1,k2,k3,k4,k5⟩
theorem Rec_own {w:World} {d:RecD} {cs:List Value} {L:List Nat} (h:layRec.own w d cs L):∃ ao6 cap6 ao7 cap7 ao8 cap8 K6 K7 K8,cs=[.int .i64 d.kind,.int .i64 d.seq,.string d.name,.int .i64 d.length,.int .i64 d.group,.int .i64 d.row,.slice ao6 d.rows.1 cap6,.slice ao7 d.data.1 cap7,.slice ao8 d.delta.1 cap8]∧L=K6++(K7++K8)∧layInts.own w d.rows [.slice ao6 d.rows.1 cap6] K6∧layBytes.own w d.data [.slice ao7 d.data.1 cap7] K7∧layBytes.own w d.delta [.slice ao8 d.delta.1 cap8] K8∧(-9223372036854775808≤d.kind∧d.kind≤9223372036854775807)∧(-9223372036854775808≤d.seq∧d.seq≤9223372036854775807)∧d.name.size≤maxLen∧(-9223372036854775808≤d.length∧d.length≤9223372036854775807)∧(-9223372036854775808≤d.group∧d.group≤9223372036854775807)∧(-9223372036854775808≤d.row∧d.row≤9223372036854775807):=by
 obtain ⟨c0,r0,L0,M0,rfl,rfl,h0,c1,r1,L1,M1,rfl,rfl,h1,c2,r2,L2,M2,rfl,rfl,h2,c3,r3,L3,M3,rfl,rfl,h3,c4,r4,L4,M4,rfl,rfl,h4,c5,r5,L5,M5,rfl,rfl,h5,c6,r6,L6,M6,rfl,rfl,h6,c7,r7,L7,M7,rfl,rfl,h7,h8⟩:=h;obtain ⟨rfl,k0,rfl⟩:=h0;obtain ⟨rfl,k1,rfl⟩:=h1;obtain ⟨rfl,k2,rfl⟩:=h2;obtain ⟨rfl,k3,rfl⟩:=h3;obtain ⟨rfl,k4,rfl⟩:=h4;obtain ⟨rfl,k5,rfl⟩:=h5;obtain ⟨ao6,cap6,rfl⟩:=ints_formO h6;obtain ⟨ao7,cap7,rfl⟩:=bytes_formO h7;obtain ⟨ao8,cap8,rfl⟩:=bytes_formO h8;exact ⟨ao6,cap6,ao7,cap7,ao8,cap8,L6,L7,_,rfl,rfl,h6,h7,h8,k0,k1,k2,k3,k4,k5⟩
theorem Rec_cellsO {w:World} {d:RecD} {cs:List Value} {L:List Nat} (h:layRec.own w d cs L):∃ ao6 cap6 ao7 cap7 ao8 cap8,cs=[.int .i64 d.kind,.int .i64 d.seq,.string d.name,.int .i64 d.length,.int .i64 d.group,.int .i64 d.row,.slice ao6 d.rows.1 cap6,.slice ao7 d.data.1 cap7,.slice ao8 d.delta.1 cap8]:=by
 obtain ⟨ao6,cap6,ao7,cap7,ao8,cap8,K6,K7,K8,rfl,-⟩:=Rec_own h;exact ⟨ao6,cap6,ao7,cap7,ao8,cap8,rfl⟩
theorem Rec_cells {w:World} {lo hi:Nat} {d:RecD} {cs:List Value} (h:OwnT layRec w lo hi d cs):∃ ao6 cap6 ao7 cap7 ao8 cap8,cs=[.int .i64 d.kind,.int .i64 d.seq,.string d.name,.int .i64 d.length,.int .i64 d.group,.int .i64 d.row,.slice ao6 d.rows.1 cap6,.slice ao7 d.data.1 cap7,.slice ao8 d.delta.1 cap8]:=by
 obtain ⟨L,h1,-⟩:=h;exact Rec_cellsO h1
theorem Rec_mk {w:World} (d:RecD) {ao6 ao7 ao8:Option Addr} {cap6 cap7 cap8:Nat} {K6 K7 K8:List Nat} (h6:layInts.own w d.rows [.slice ao6 d.rows.1 cap6] K6) (h7:layBytes.own w d.data [.slice ao7 d.data.1 cap7] K7) (h8:layBytes.own w d.delta [.slice ao8 d.delta.1 cap8] K8) (k0:(-9223372036854775808≤d.kind∧d.kind≤9223372036854775807)) (k1:(-9223372036854775808≤d.seq∧d.seq≤9223372036854775807)) (k2:d.name.size≤maxLen) (k3:(-9223372036854775808≤d.length∧d.length≤9223372036854775807)) (k4:(-9223372036854775808≤d.group∧d.group≤9223372036854775807)) (k5:(-9223372036854775808≤d.row∧d.row≤9223372036854775807)):layRec.own w d [.int .i64 d.kind,.int .i64 d.seq,.string d.name,.int .i64 d.length,.int .i64 d.group,.int .i64 d.row,.slice ao6 d.rows.1 cap6,.slice ao7 d.data.1 cap7,.slice ao8 d.delta.1 cap8] (K6++(K7++K8)):=⟨_,_,[],(K6++(K7++K8)),rfl,rfl,⟨rfl,k0,rfl⟩,⟨_,_,[],(K6++(K7++K8)),rfl,rfl,⟨rfl,k1,rfl⟩,⟨_,_,[],(K6++(K7++K8)),rfl,rfl,⟨rfl,k2,rfl⟩,⟨_,_,[],(K6++(K7++K8)),rfl,rfl,⟨rfl,k3,rfl⟩,⟨_,_,[],(K6++(K7++K8)),rfl,rfl,⟨rfl,k4,rfl⟩,⟨_,_,[],(K6++(K7++K8)),rfl,rfl,⟨rfl,k5,rfl⟩,⟨_,_,K6,(K7++K8),rfl,rfl,h6,⟨_,_,K7,K8,rfl,rfl,h7,h8⟩⟩⟩⟩⟩⟩⟩⟩
def szRecD (d:RecD):Nat:=d.name.size+lenD d.rows+lenD d.data+lenD d.delta
def cRecD (d:RecD):Nat:=6+lenD d.rows+lenD d.data+lenD d.delta
def mkRecD (j:Nat) (d:RecD):RecD:=⟨((j:Nat):Int),((j+1:Nat):Int),markT (j+2),((j+3:Nat):Int),((j+4:Nat):Int),((j+5:Nat):Int),mkInts (j+6) d.rows,mkBytes (j+6+lenD d.rows) d.data,mkBytes (j+6+lenD d.rows+lenD d.data) d.delta⟩
theorem Tape_rd {w:World} {hi:Nat} {d:TapeD} {cs:List Value} (h:layTape.rd w hi d cs):∃ ao1 cap1,cs=[.bool d.wiped,.slice ao1 d.recs.1 cap1]∧(layRec.slice 72).rd w hi d.recs [.slice ao1 d.recs.1 cap1]:=by
 obtain ⟨c0,r0,rfl,h0,h1⟩:=h;obtain ⟨rfl,k0⟩:=h0;obtain ⟨ao1,cap1,rfl⟩:=sl_form h1;exact ⟨ao1,cap1,rfl,h1⟩
theorem Tape_own {w:World} {d:TapeD} {cs:List Value} {L:List Nat} (h:layTape.own w d cs L):∃ ao1 cap1 K1,cs=[.bool d.wiped,.slice ao1 d.recs.1 cap1]∧L=K1∧(layRec.slice 72).own w d.recs [.slice ao1 d.recs.1 cap1] K1:=by
 obtain ⟨c0,r0,L0,M0,rfl,rfl,h0,h1⟩:=h;obtain ⟨rfl,k0,rfl⟩:=h0;obtain ⟨ao1,cap1,rfl⟩:=sl_formO h1;exact ⟨ao1,cap1,_,rfl,rfl,h1⟩
theorem Tape_cellsO {w:World} {d:TapeD} {cs:List Value} {L:List Nat} (h:layTape.own w d cs L):∃ ao1 cap1,cs=[.bool d.wiped,.slice ao1 d.recs.1 cap1]:=by
 obtain ⟨ao1,cap1,K1,rfl,-⟩:=Tape_own h;exact ⟨ao1,cap1,rfl⟩
theorem Tape_cells {w:World} {lo hi:Nat} {d:TapeD} {cs:List Value} (h:OwnT layTape w lo hi d cs):∃ ao1 cap1,cs=[.bool d.wiped,.slice ao1 d.recs.1 cap1]:=by
 obtain ⟨L,h1,-⟩:=h;exact Tape_cellsO h1
theorem Tape_mk {w:World} (d:TapeD) {ao1:Option Addr} {cap1:Nat} {K1:List Nat} (h1:(layRec.slice 72).own w d.recs [.slice ao1 d.recs.1 cap1] K1):layTape.own w d [.bool d.wiped,.slice ao1 d.recs.1 cap1] (K1):=⟨_,_,[],K1,rfl,rfl,⟨rfl,trivial,rfl⟩,h1⟩
def szTapeD (d:TapeD):Nat:=(szSl szRecD) d.recs
def cTapeD (d:TapeD):Nat:=1+(cSl cRecD) d.recs
def mkTapeD (j:Nat) (d:TapeD):TapeD:=⟨decide ((j)%3=0),(mkSl cRecD mkRecD) (j+1) d.recs⟩
theorem World_rd {w:World} {hi:Nat} {d:WorldD} {cs:List Value} (h:layWorld.rd w hi d cs):∃ ao1 cap1 ao2 cap2 ao3 cap3,cs=[.int .i64 (d.shape 0),.int .i64 (d.shape 1),.int .i64 (d.shape 2),.int .i64 (d.shape 3),.int .i64 (d.shape 4),.int .i64 (d.shape 5),.int .i64 (d.shape 6),.int .i64 (d.shape 7),.int .i64 (d.shape 8),.slice ao1 d.groups.1 cap1,.slice ao2 d.on.1 cap2,.slice ao3 d.tapes.1 cap3,.int .i64 d.writes,.int .i64 d.stop,.bool d.down]∧((layDrive.slice 124).slice 109).rd w hi d.groups [.slice ao1 d.groups.1 cap1]∧layInts.rd w hi d.on [.slice ao2 d.on.1 cap2]∧(layTape.slice 112).rd w hi d.tapes [.slice ao3 d.tapes.1 cap3]∧(∀ i,-9223372036854775808≤d.shape i∧d.shape i≤9223372036854775807)∧(-9223372036854775808≤d.writes∧d.writes≤9223372036854775807)∧(-9223372036854775808≤d.stop∧d.stop≤9223372036854775807):=by
 obtain ⟨c0,r0,rfl,h0,c1,r1,rfl,h1,c2,r2,rfl,h2,c3,r3,rfl,h3,c4,r4,rfl,h4,c5,r5,rfl,h5,h6⟩:=h;obtain ⟨rfl,k0⟩:=h0;obtain ⟨ao1,cap1,rfl⟩:=sl_form h1;obtain ⟨ao2,cap2,rfl⟩:=ints_form h2;obtain ⟨ao3,cap3,rfl⟩:=sl_form h3;obtain ⟨rfl,k4⟩:=h4;obtain ⟨rfl,k5⟩:=h5;obtain ⟨rfl,k6⟩:=h6;exact ⟨ao1,cap1,ao2,cap2,ao3,cap3,rfl,h1,h2,h3,k0,k4,k5⟩
theorem World_own {w:World} {d:WorldD} {cs:List Value} {L:List Nat} (h:layWorld.own w d cs L):∃ ao1 cap1 ao2 cap2 ao3 cap3 K1 K2 K3,cs=[.int .i64 (d.shape 0),.int .i64 (d.shape 1),.int .i64 (d.shape 2),.int .i64 (d.shape 3),.int .i64 (d.shape 4),.int .i64 (d.shape 5),.int .i64 (d.shape 6),.int .i64 (d.shape 7),.int .i64 (d.shape 8),.slice ao1 d.groups.1 cap1,.slice ao2 d.on.1 cap2,.slice ao3 d.tapes.1 cap3,.int .i64 d.writes,.int .i64 d.stop,.bool d.down]∧L=K1++(K2++(K3++[]))∧((layDrive.slice 124).slice 109).own w d.groups [.slice ao1 d.groups.1 cap1] K1∧layInts.own w d.on [.slice ao2 d.on.1 cap2] K2∧(layTape.slice 112).own w d.tapes [.slice ao3 d.tapes.1 cap3] K3∧(∀ i,-9223372036854775808≤d.shape i∧d.shape i≤9223372036854775807)∧(-9223372036854775808≤d.writes∧d.writes≤9223372036854775807)∧(-9223372036854775808≤d.stop∧d.stop≤9223372036854775807):=by
 obtain ⟨c0,r0,L0,M0,rfl,rfl,h0,c1,r1,L1,M1,rfl,rfl,h1,c2,r2,L2,M2,rfl,rfl,h2,c3,r3,L3,M3,rfl,rfl,h3,c4,r4,L4,M4,rfl,rfl,h4,c5,r5,L5,M5,rfl,rfl,h5,h6⟩:=h;obtain ⟨rfl,k0,rfl⟩:=h0;obtain ⟨ao1,cap1,rfl⟩:=sl_formO h1;obtain ⟨ao2,cap2,rfl⟩:=ints_formO h2;obtain ⟨ao3,cap3,rfl⟩:=sl_formO h3;obtain ⟨rfl,k4,rfl⟩:=h4;obtain ⟨rfl,k5,rfl⟩:=h5;obtain ⟨rfl,k6,rfl⟩:=h6;exact ⟨ao1,cap1,ao2,cap2,ao3,cap3,L1,L2,L3,rfl,rfl,h1,h2,h3,k0,k4,k5⟩
theorem World_mk {w:World} (d:WorldD) {ao1 ao2 ao3:Option Addr} {cap1 cap2 cap3:Nat} {K1 K2 K3:List Nat} (h1:((layDrive.slice 124).slice 109).own w d.groups [.slice ao1 d.groups.1 cap1] K1) (h2:layInts.own w d.on [.slice ao2 d.on.1 cap2] K2) (h3:(layTape.slice 112).own w d.tapes [.slice ao3 d.tapes.1 cap3] K3) (k0:(∀ i,-9223372036854775808≤d.shape i∧d.shape i≤9223372036854775807)) (k4:(-9223372036854775808≤d.writes∧d.writes≤9223372036854775807)) (k5:(-9223372036854775808≤d.stop∧d.stop≤9223372036854775807)):layWorld.own w d [.int .i64 (d.shape 0),.int .i64 (d.shape 1),.int .i64 (d.shape 2),.int .i64 (d.shape 3),.int .i64 (d.shape 4),.int .i64 (d.shape 5),.int .i64 (d.shape 6),.int .i64 (d.shape 7),.int .i64 (d.shape 8),.slice ao1 d.groups.1 cap1,.slice ao2 d.on.1 cap2,.slice ao3 d.tapes.1 cap3,.int .i64 d.writes,.int .i64 d.stop,.bool d.down] (K1++(K2++(K3++[]))):=⟨_,_,[],(K1++(K2++(K3++[]))),rfl,rfl,⟨rfl,k0,rfl⟩,⟨_,_,K1,(K2++(K3++[])),rfl,rfl,h1,⟨_,_,K2,(K3++[]),rfl,rfl,h2,⟨_,_,K3,[],rfl,rfl,h3,⟨_,_,[],[],rfl,rfl,⟨rfl,k4,rfl⟩,⟨_,_,[],[],rfl,rfl,⟨rfl,k5,rfl⟩,⟨rfl,trivial,rfl⟩⟩⟩⟩⟩⟩⟩
def szWorldD (d:WorldD):Nat:=(szSl (szSl szDriveD)) d.groups+lenD d.on+(szSl szTapeD) d.tapes
def cvWorldD (d:WorldD):Nat:=(cSl (cSl cDriveD)) d.groups+lenD d.on+(cSl cTapeD) d.tapes
def mkvWorldD (j:Nat) (d:WorldD):WorldD:=⟨d.shape,(mkSl (cSl cDriveD) (mkSl cDriveD mkDriveD)) (j) d.groups,mkInts (j+(cSl (cSl cDriveD)) d.groups) d.on,(mkSl cTapeD mkTapeD) (j+(cSl (cSl cDriveD)) d.groups+lenD d.on) d.tapes,d.writes,d.stop,d.down⟩
structure WorldResultD where
 code:Int
 world:WorldD
structure BlockResultD where
 code:Int
 block:BlockD
theorem wp_makeM (w:World) {ops:Array Oper} {rest:List Oper} {o:Oper} {a:Act} {Q:Exit→Act→World→Prop}
 (hg:o.guard=none) (l c:Operand) (hop:o.op=Op.makeSlice 105 l c) (L C:Int) (n:Nat) (hl:a.eval l=.int .i64 L) (hc:a.eval c=.int .i64 C) (hL:L=(n:Int)) (hC:C=(n:Int)) (hn:n≤1000000000)
 (hK:∀ w',w'.ownsRow w.heap.size 30 1 (.slice (some ⟨w.heap.size,0,none⟩) n n) n (valsOf n fun _=>nilS)→Below w.heap.size w w'→w.heap.size<w'.heap.size→wpList Tryz.prog ops Q rest (a.put o.dst (.slice (some ⟨w.heap.size,0,none⟩) n n)) w') :
 wpList Tryz.prog ops Q (o::rest) a w:=by
 obtain ⟨i0,hi0,hz0,hz1,hz2⟩:=info_parts info_sl;refine wpList_make_full w hg l c 105 hop w.heap.size 30 i0 nilS 1 Tryz.underlying105 hi0 hz0 hz1 .i64 .i64 L C n hl hc hL hC (by rw [hz2];omega) (by unfold maxLen;omega) (Nat.le_refl _) ?_;intro w' hown hgrow
 have hown':w'.ownsRow w.heap.size 30 1 (.slice (some ⟨w.heap.size,0,none⟩) n n) n (valsOf n fun _=>nilS):=by
  rw [← valsOf_made n]
  have e:(madeCells nilS.cells (n*1)).toList=(madeCells #[nilS] n).toList:=by rw [Nat.mul_one];rfl
  rw [← e];exact hown
 exact hK w' hown' (below_of_grown hgrow) (hown'.lt _ rfl).2
structure Cpy (w wr:World) (R k:Nat) (n:Nat→Nat) (f:Nat→Nat→Nat) (e:Nat→Value):Prop where
 row:wr.ownsRow w.heap.size 30 1 (.slice (some ⟨w.heap.size,0,none⟩) R R) R (valsOf R fun i=>if i<k then e i else nilS)
 each:∀ i,i<k→Own wr (w.heap.size+1) wr.heap.size (e i) (n i) (f i)
 apart:Apart w.heap.size k e
 bel:Below w.heap.size w wr
 lt:w.heap.size<wr.heap.size
theorem Cpy.next {w wr w2:World} {R k:Nat} {n:Nat→Nat} {f:Nat→Nat→Nat} {e:Nat→Value} {ao:Option Addr} {cap:Nat} (h:Cpy w wr R k n f e) (hk:k<R) (hb:Below wr.heap.size wr w2) (ho:Own w2 wr.heap.size w2.heap.size (.slice ao (n k) cap) (n k) (f k)) :
 Cpy w (w2.setCell ⟨w.heap.size,k,none⟩ (.slice ao (n k) cap)) R (k+1) n f (fun i=>if i=k then .slice ao (n k) cap else e i):=by
 have l:=h.lt
 have hr2:w2.ownsRow w.heap.size 30 1 (.slice (some ⟨w.heap.size,0,none⟩) R R) R (valsOf R fun i=>if i<k then e i else nilS):=
  row_kept h.row fun g hg=>hb.block g (by simp [Value.ownBlock] at hg;omega)
 have hst:=(hr2.stored k (.slice ao (n k) cap)).1
 rw [valsOf_set R _ (fun i=>if i<k+1 then (if i=k then .slice ao (n k) cap else e i) else nilS) k _ hk (fun i hi=>by
  by_cases c:i=k
  ·subst c;simp
  ·by_cases c':i<k
   ·have c2:i<k+1:=by omega
    simp [c,c',c2]
   ·have c2:¬ i<k+1:=by omega
    simp [c,c',c2])] at hst
 have oth:∀ g,w.heap.size+1≤g→(w2.setCell ⟨w.heap.size,k,none⟩ (.slice ao (n k) cap)).heap[g]?=w2.heap[g]?:=fun g hg=>heap_setCell_other w2 ⟨w.heap.size,k,none⟩ g _ (by show g≠w.heap.size;omega)
 have hsz:(w2.setCell ⟨w.heap.size,k,none⟩ (.slice ao (n k) cap)).heap.size=w2.heap.size:=by simp
 have hs2:=hb.size;refine ⟨hst,fun i hi=>?_,⟨fun i hi=>?_,fun i j hi hj hij b hbi=>?_⟩,(h.bel.trans (hb.mono (by omega))).setCell (Nat.le_refl _) _,by rw [hsz];omega⟩
 ·by_cases c:i=k
  ·subst c
   simp only [if_pos]
   exact (ho.kept fun g hg=>oth g (by have:=(ho.1.lt g hg).1;omega)).weaken (by omega) (Nat.le_of_eq hsz.symm)
  ·simp only [if_neg c]
   have h1:=(h.each i (by omega)).below hb (Nat.le_refl _);exact (h1.kept fun g hg=>oth g (h1.1.lt g hg).1).weaken (Nat.le_refl _) (by rw [hsz];exact hs2)
 ·by_cases c:i=k
  ·subst c
   simp only [if_pos]
   intro hh;have:=(ho.1.lt _ hh).1;omega
  ·simp only [if_neg c]
   exact h.apart.1 i (by omega)
 ·by_cases c:i=k
  ·subst c
   simp only [if_pos] at hbi
   have c2:¬ j=i:=fun x=>hij x.symm
   simp only [if_neg c2]
   intro hh;have h1:=(ho.1.lt _ hbi).1;have h2:=(h.each j (by omega)).2 _ hh;omega
  ·simp only [if_neg c] at hbi
   by_cases c2:j=k
   ·subst c2
    simp only [if_pos]
    intro hh;have h1:=(ho.1.lt _ hh).1;have h2:=(h.each i (by omega)).2 _ hbi;omega
   ·simp only [if_neg c2]
    exact h.apart.2 i j (by omega) (by omega) hij b hbi
theorem Cpy.done {w wr:World} {R:Nat} {n:Nat→Nat} {f:Nat→Nat→Nat} {e:Nat→Value} (h:Cpy w wr R R n f e):OwnM wr w.heap.size wr.heap.size (.slice (some ⟨w.heap.size,0,none⟩) R R) R n f:=by
 have hr:=h.row;rw [valsOf_eq (g:=e) (fun i hi=>by simp [hi])] at hr;exact ⟨w.heap.size,R,e,rfl,Nat.le_refl _,h.lt,hr,fun i hi=>(h.each i hi).weaken (by omega) (Nat.le_refl _),h.apart⟩
end Go.Proofs.YtclclojenogpbaaGreat