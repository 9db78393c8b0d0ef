/- Walk of the specification's JoinObject. -/
import Derived.Test.YtclclojenogpbaaGreatRows
import Derived.Test.YtclclojenogpbaaGreatZPitembaj
import Derived.Test.YtclclojenogpbaaGreatZPitembac
set_option linter.unusedVariables false
set_option linter.unusedSimpArgs false
set_option maxHeartbeats 16000000
namespace Go.Proofs.YtclclojenogpbaaGreat
open Go.RowKit F256
def zfq (W:Nat) (f:Mat):Nat→Nat:=fun t=>f (t/W) (t%W)
theorem zkX (W:Nat) (f:Mat) (k i:Nat) (hi:i<W):zfq W f (W*k+i)=f k i:=by
 unfold zfq;rw [Nat.mul_add_div (by omega),Nat.mul_add_mod,Nat.div_eq_of_lt hi,Nat.mod_eq_of_lt hi,Nat.add_zero]
theorem Own.cut {w:World} {lo hi g N L cap:Nat} {f:Nat→Nat} (h:Own w lo hi (.slice (some ⟨g,0,none⟩) N cap) N f) (hL:L≤N):Own w lo hi (.slice (some ⟨g,0,none⟩) L cap) L f:=by
 refine ⟨⟨by rw [zac];omega,?_⟩,h.2⟩
 rcases h.1.2 with ⟨h1,_⟩ | ⟨g',cap',cur,h1,hbg,hgg,hnc,hcm,hcs,htake⟩
 ·cases h1
 ·cases h1
  refine .inr ⟨g,cap,cur,rfl,hbg,hgg,by omega,hcm,hcs,?_⟩
  have h2:List.take (L*1) (List.take (N*1) cur.toList)=List.take (L*1) (cellsOf N f):=by rw [htake]
  rw [List.take_take,Nat.min_eq_left (by omega)] at h2;rw [h2]
  apply List.ext_getElem?
  intro i;rw [List.getElem?_take]
  by_cases hi:i<L
  ·rw [if_pos (by omega),zag _ _ _ (by omega),zag _ _ _ hi]
  ·rw [if_neg (by omega),List.getElem?_eq_none (by rw [zac];omega)]
theorem zkk (v:Value) (R W:Nat) (n:Nat→Nat) (f:Mat) (h1:Nat) (w:World) (r:RdM w h1 v R n f) (hh:h1≤w.heap.size) (hR:R≤1000) (hW1:1≤W) (hW:W≤100) (h4:∀ i,i<R→n i=W) :
 Calls Tryz.prog 65 #[v] w fun e w'=>∃ v',e=.returned v'∧Own w' w.heap.size w'.heap.size v' (W*R) (zfq W f)∧Below w.heap.size w w':=by
 obtain ⟨ao,cap,e,rfl,hm,hc,he⟩:=r
 have HE:Hid (∀ i,i<R→Rd w h1 (e i) W (f i)):=fun i hi=>by have:=he i hi;rw [h4 i hi] at this;exact this
 clear he h4
 go_enter Tryz.func65,Tryz.ntmps65
 go_wp2
 go_loopw [3,4] (fun u i wr=>∃ k:Nat,k≤R∧i=.int .i64 k∧Own wr w.heap.size wr.heap.size u (W*k) (zfq W f)∧Below w.heap.size w wr) (fun _ i _=>R-(intOf i).toNat)
 case atStart=>exact ⟨0,Nat.zero_le _,rfl,zcZ w _,(Below.refl _ _).alloc (Nat.le_refl _) _⟩
 case round=>
  obtain ⟨k,hk,rfl,hown,hb⟩:=hrel
  by_cases hlt:k<R
  ·obtain ⟨b,off,rfl,hblt,hcell⟩:=hc (by omega)
   have hck:wr.cell? ⟨b,off+k,none⟩=some (e k):=(hb.cell (p:=⟨b,off+k,none⟩) (by show b<w.heap.size;omega)).trans (hcell k hlt);have rk:Rd wr h1 (e k) W (f k):=(HE.out k hlt).below hb hh;obtain ⟨x,hx⟩:∃ x,x=e k:=⟨_,rfl⟩;rw [← hx] at hck rk;have HRK:=hid rk;obtain ⟨aox,capx,hxs,_,_⟩:=rk;subst hxs;obtain ⟨A,hA⟩:∃ A,A=W*k:=⟨_,rfl⟩
   have hA9:A≤100*1000:=by rw [hA];exact Nat.mul_le_mul hW (by omega)
   have HA:=hid hA
   have HG:Hid (∀ i,i<W→zfq W f (A+i)=f k i):=fun i hi=>by rw [HA.out];exact zkX W f k i hi
   rw [← hA] at hown;have HO:=hid hown;have HB:=hid hb;have hsz:=hb.size
   have hm4:A+W≤1000000:=by omega
   have hW0:0<W:=by omega
   clear hc hcell hown hb hx hA
   go_wp2_with (at_builtin;refine zfh rfl (.tmp 12) (.tmp 16) rfl w.heap.size wr.heap.size u3 A (zfq W f) ?_ HO.out h1 (.slice aox W capx) W (f k) ?_ HRK.out hW0 HG.out hm4 hsz ?_;(simp [Act.eval]);(simp [Act.eval]);intro v2 w2 ho2 hg2)
   have R2:Below w.heap.size w w2:=HB.out.grown hg2 hsz (fun q hq=>(HO.out.1.lt q hq).1)
   have e4:A+W=W*(k+1):=by rw [HA.out,Nat.mul_succ]
   rw [e4] at ho2;clear hg2 HO HB HRK;go_wp2
   go_roundw
   case rel=>exact ⟨k+1,by omega,by go_num,ho2,R2⟩
   case measure=>simp [intOf];omega
  ·obtain rfl:k=R:=by omega
   go_wp2;go_ret;exact ⟨_,rfl,hown,hb⟩
def JoAns (s:Nat→Int) (R:Nat) (n:Nat→Nat) (l:Int) (x:Int):Prop:=
 (x≠0∧∃ v,PfAns s l v x)∨(x=1∧∃ v,PfAns s l v 0∧((R:Int)≠v∨∃ i,i<R∧n i≠4*(s 2).toNat))∨(x=0∧∃ v,PfAns s l v 0∧(R:Int)=v∧∀ i,i<R→n i=4*(s 2).toNat)
theorem JoAns.one {s:Nat→Int} {R:Nat} {n:Nat→Nat} {l x y:Int} (h:JoAns s R n l x) (k:JoAns s R n l y):x=y:=by
 rcases h with ⟨h0,v,h⟩ | ⟨rfl,v,h,h2⟩ | ⟨rfl,v,h,h2,h3⟩<;>rcases k with ⟨k0,u,k⟩ | ⟨rfl,u,k,k2⟩ | ⟨rfl,u,k,k2,k3⟩
 ·exact (h.one k).2
 ·exact absurd (h.one k).2 h0
 ·exact (h.one k).2
 ·exact absurd (h.one k).2.symm k0
 ·rfl
 ·obtain rfl:=(h.one k).1
  rcases h2 with h2 | ⟨i,hi,h2⟩
  ·exact absurd k2 h2
  ·exact absurd (k3 i hi) h2
 ·exact (h.one k).2
 ·obtain rfl:=(h.one k).1
  rcases k2 with k2 | ⟨i,hi,k2⟩
  ·exact absurd h2 k2
  ·exact absurd (h3 i hi) k2
 ·rfl
theorem zcc:(Tryz.prog.info? 32).map (·.size)=some 2:=by kernel_rfl
theorem zhU {w:World} {lo hi n cap:Nat} {ao:Option Addr} {f:Nat→Nat} (h:Own w lo hi (.slice ao n cap) n f) (hhi:hi≤w.heap.size) (hb:∀ i,f i<256) (c:Int) (hc:-9223372036854775808≤c∧c≤9223372036854775807):OwnT zay w lo hi ⟨c,(n,f)⟩ [.int .i64 c,.slice ao n cap]:=
 ⟨(
  Value.slice ao n cap).ownBlock.toList,zc5 ⟨c,(n,f)⟩ ⟨_,rfl,rfl,h.weaken (Nat.zero_le _) hhi,hb⟩ hc,by cases (Value.slice ao n cap).ownBlock<;>simp,fun b hb=>by
  have e:(Value.slice ao n cap).ownBlock=some b:=by simpa using hb
  exact ⟨(h.1.lt b e).1,h.2 b e⟩⟩
theorem zbs (w:World) (c:Int) (hc:-9223372036854775808≤c∧c≤9223372036854775807) (lo hi:Nat) (hhi:hi≤w.heap.size):OwnT zay w lo hi ⟨c,(0,fun _=>0)⟩ [.int .i64 c,.slice none 0 0]:=zhU (zbu w lo hi _) hhi (fun _=>Nat.zero_lt_succ _) c hc
def zoU (P:BytesResultD→Prop) (w:World) (e:Ending) (w':World):Prop:=∃ q cs,e=.returned (.agg cs.toArray)∧P q∧OwnT zay w' w.heap.size w'.heap.size q cs∧Below w.heap.size w w'
def zl6 (s:Nat→Int) (nm:ByteArray):Int:=(zbv nm nm.size:Int)%s 0
theorem zpx (c z:Int) (w':World):(Instr.field 74 (.agg #[.int .i64 c,.int .i64 z]) 1).run Tryz.prog w'=.ok (.int .i64 z) w':=by kernel_rfl
theorem zoc {s:Nat→Int} {b:ByteArray} (hok:zam s) (hn:zbM b) (w:World):Calls Tryz.prog 36 #[zah s,.string b] w fun e w'=>e=.returned (.agg #[.int .i64 0,.int .i64 (zl6 s b)])∧Below w.heap.size w w':=
 (zgL s b (Nat.le_trans hn.2.1 (by decide)) w).mono fun e w' ⟨z,c,h1,h2,h3⟩=>by
  rcases h2 with ⟨h,_⟩ | ⟨_,h,_⟩ | ⟨_,_,rfl,rfl⟩
  ·exact absurd hok h
  ·exact absurd hn h
  ·exact ⟨h1,h3⟩
def NfC (d:WorldD) (nm:ByteArray) (x:Int):Prop:=(x≠0∧AskAns d x)∨(AskAns d 0∧NmAns nm x)
theorem NfC.one {d:WorldD} {nm:ByteArray} {x y:Int} (h:NfC d nm x) (k:NfC d nm y):x=y:=by
 rcases h with ⟨h1,h2⟩ | ⟨h1,h2⟩<;>rcases k with ⟨k1,k2⟩ | ⟨k1,k2⟩
 ·exact h2.one k2
 ·exact absurd (h2.one k1) h1
 ·exact absurd (k2.one h1) k1
 ·exact h2.one k2
theorem zdx {d:WorldD} {nm:ByteArray} {x:Int} (h:NfC d nm x):-9223372036854775808≤x∧x≤9223372036854775807:=by
 rcases h with ⟨h1,h2⟩ | ⟨_,⟨rfl,_⟩ | ⟨rfl,_⟩⟩
 ·exact zkb (d:=d) (g:=0) (r:=0) (.inl ⟨h1,h2⟩)
 all_goals decide
theorem zhV {d:WorldD} {nm:ByteArray} (h:NfC d nm 0):AskAns d 0∧zbM nm:=by
 rcases h with ⟨h1,_⟩ | ⟨h1,⟨h2,_⟩ | ⟨_,h2⟩⟩
 ·exact absurd rfl h1
 ·cases h2
 ·exact ⟨h1,h2⟩
theorem zhW {d:WorldD} (h:AskAns d 0):WldAns d 0:=by
 rcases h with ⟨h,_⟩ | ⟨h,_⟩
 ·exact absurd rfl h
 ·exact h
def zei (d:WorldD) (nm:ByteArray):Nat:=(zl6 d.shape nm).toNat
def zkl (d:WorldD) (G:Nat) (r:RecD):Nat→Nat:=zfq (4*(d.shape 2).toNat) (fun k=>rowB d G (r.rows.2 k).toNat)
def RdItP (d:WorldD) (nm:ByteArray) (r:RecD) (q:BytesResultD):Prop:=
 (r.data.1≠0∧q=⟨0,r.data⟩)∨(r.data.1=0∧((∃ x,x≠0∧LivC d (zei d nm) x∧q=⟨x,(0,fun _=>0)⟩)∨(LivC d (zei d nm) 0∧q=⟨0,(r.length.toNat,zkl d (zei d nm) r)⟩)))
theorem LivC.one {d:WorldD} {g x y:Int} (h:LivC d g x) (k:LivC d g y):x=y:=by
 rcases h with ⟨h1,rfl⟩ | ⟨h1,⟨h2,rfl⟩ | ⟨h2,rfl⟩⟩<;>rcases k with ⟨k1,rfl⟩ | ⟨k1,⟨k2,rfl⟩ | ⟨k2,rfl⟩⟩<;>first | rfl | exact absurd h1 k1 | exact absurd k1 h1 | exact absurd h2 k2 | exact absurd k2 h2
theorem zoV (d:WorldD) (g:Int):∃ x,LivC d g x:=by
 by_cases h:HasP d.on.1 d.on.2 g
 ·by_cases k:zd2 d g.toNat
  ·exact ⟨10,.inr ⟨h,.inl ⟨k,rfl⟩⟩⟩
  ·exact ⟨0,.inr ⟨h,.inr ⟨k,rfl⟩⟩⟩
 ·exact ⟨8,.inl ⟨h,rfl⟩⟩
theorem zg7 {d:WorldD} {g x:Int} (h:LivC d g x):-9223372036854775808≤x∧x≤9223372036854775807:=by
 rcases h with ⟨_,rfl⟩ | ⟨_,⟨_,rfl⟩ | ⟨_,rfl⟩⟩<;>decide
theorem znv {d:WorldD} {g:Int} (h:LivC d g 0):HasP d.on.1 d.on.2 g∧¬ zd2 d g.toNat:=by
 rcases h with ⟨_,h⟩ | ⟨h1,⟨_,h⟩ | ⟨h2,_⟩⟩
 ·cases h
 ·cases h
 ·exact ⟨h1,h2⟩
theorem RdItP.one {d:WorldD} {nm:ByteArray} {r:RecD} {p q:BytesResultD} (h:RdItP d nm r p) (k:RdItP d nm r q):p=q:=by
 rcases h with ⟨h1,rfl⟩ | ⟨h1,⟨x,h2,h3,rfl⟩ | ⟨h2,rfl⟩⟩<;>rcases k with ⟨k1,rfl⟩ | ⟨k1,⟨y,k2,k3,rfl⟩ | ⟨k2,rfl⟩⟩
 ·rfl
 ·exact absurd k1 h1
 ·exact absurd k1 h1
 ·exact absurd h1 k1
 ·rw [h3.one k3]
 ·exact absurd (h3.one k2) h2
 ·exact absurd h1 k1
 ·exact absurd (k3.one h2) k2
 ·rfl
theorem zoW (d:WorldD) (nm:ByteArray) (r:RecD):∃ q,RdItP d nm r q:=by
 by_cases h:r.data.1=0
 ·obtain ⟨x,hx⟩:=zoV d (zei d nm)
  by_cases h0:x=0
  ·subst h0
   exact ⟨_,.inr ⟨h,.inr ⟨hx,rfl⟩⟩⟩
  ·exact ⟨_,.inr ⟨h,.inl ⟨x,h0,hx,rfl⟩⟩⟩
 ·exact ⟨_,.inl ⟨h,rfl⟩⟩
def IbP (d:WorldD) (x:Nat→RecD) (n:Nat) (nm:ByteArray) (q:BytesResultD):Prop:=
 (zdc (itm x nm) n=-1∧q=⟨4,(0,fun _=>0)⟩)∨∃ i:Nat,i<n∧zdc (itm x nm) n=(i:Int)∧(((x i).length<0∧q=⟨4,(0,fun _=>0)⟩)∨(¬ (x i).length<0∧RdItP d nm (x i) q))
theorem IbP.one {d:WorldD} {x:Nat→RecD} {n:Nat} {nm:ByteArray} {p q:BytesResultD} (h:IbP d x n nm p) (k:IbP d x n nm q):p=q:=by
 rcases h with ⟨h1,h2⟩ | ⟨i,hi,h1,h2⟩<;>rcases k with ⟨k1,k2⟩ | ⟨j,hj,k1,k2⟩
 ·rw [h2,k2]
 ·omega
 ·omega
 ·obtain rfl:i=j:=by omega
  rcases h2 with ⟨a,h2⟩ | ⟨a,h2⟩<;>rcases k2 with ⟨b,k2⟩ | ⟨b,k2⟩
  ·rw [h2,k2]
  ·exact absurd a b
  ·exact absurd b a
  ·exact h2.one k2
theorem zpy (d:WorldD) (x:Nat→RecD) (n:Nat) (nm:ByteArray):∃ q,IbP d x n nm q:=by
 rcases zcl (itm x nm) n with e | ⟨i,h1,h2,h3⟩
 ·exact ⟨_,.inl ⟨e,rfl⟩⟩
 ·by_cases c:(x i).length<0
  ·exact ⟨_,.inr ⟨i,h1,h2,.inl ⟨c,rfl⟩⟩⟩
  ·obtain ⟨q,hq⟩:=zoW d nm (x i)
   exact ⟨q,.inr ⟨i,h1,h2,.inr ⟨c,hq⟩⟩⟩
def IbAns (d:WorldD) (nm:ByteArray) (q:BytesResultD):Prop:=(∃ x,x≠0∧NfC d nm x∧q=⟨x,(0,fun _=>0)⟩)∨(NfC d nm 0∧∃ l,Cnt (recT d.tapes.2 2) (lenT d.tapes.2 2) l∧IbP d (fun i=>recT d.tapes.2 2 (l.getD i 0)) l.length nm q)
theorem IbAns.one {d:WorldD} {nm:ByteArray} {p q:BytesResultD} (h:IbAns d nm p) (k:IbAns d nm q):p=q:=by
 rcases h with ⟨x,h1,h2,rfl⟩ | ⟨h1,l,hl,hp⟩<;>rcases k with ⟨y,k1,k2,rfl⟩ | ⟨k1,m,hm,kp⟩
 ·rw [h2.one k2]
 ·exact absurd (h2.one k1) h1
 ·exact absurd (k2.one h1) k1
 ·obtain rfl:=hl.uniq hm
  exact hp.one kp
structure InRows (s:Nat→Int) (r:RecD):Prop where
 len:1≤r.length
 most:r.length≤3*(s 2*4)
 count:(r.rows.1:Int)=(r.length+s 2*4-1)/(s 2*4)
 apart:zce r.rows.1 r.rows.2 (s 4-1)
theorem zkm {s:Nat→Int} {r:RecD} (h:zba s r) (hk:r.kind=1) (hn:¬ r.length<0) (hd:r.data.1=0):InRows s r:=by
 rcases h with ⟨_,h⟩ | ⟨h,_⟩ | ⟨h,_⟩ | ⟨h,_⟩
 ·rcases h with ⟨h,_⟩ | ⟨_,h1,h2,⟨h3,_⟩ | ⟨_,h3,h4⟩⟩
  ·omega
  ·omega
  ·exact ⟨h1,h2,h3,h4⟩
 ·omega
 ·omega
 ·omega
theorem InRows.few {s:Nat→Int} {r:RecD} (hok:zam s) (h:InRows s r):1≤r.rows.1∧r.rows.1≤3:=by
 have hb:=okB hok;have h1:=h.len;have h2:=h.most;have h3:=h.count
 have c:0<s 2*4:=by omega
 have e1:(1:Int)≤(r.length+s 2*4-1)/(s 2*4):=Int.le_ediv_of_mul_le c (by omega);have e2:(r.length+s 2*4-1)/(s 2*4)<4:=Int.ediv_lt_of_lt_mul c (by omega);omega
theorem InRows.pf {s:Nat→Int} {r:RecD} (hok:zam s) (h:InRows s r):PfAns s r.length r.rows.1 0:=.inr (.inr (.inr ⟨hok,h.len,h.most,rfl,h.count⟩))
theorem znw {d:WorldD} (hok:OkWorld d) (nm:ByteArray):((zei d nm:Nat):Int)=zl6 d.shape nm∧InP (zei d nm:Int) 0 (d.shape 0+d.shape 1-1)∧zei d nm<d.groups.1:=by
 have hb:=okB hok.shape
 have c:d.shape 0≠0:=by omega
 have h1:0≤zl6 d.shape nm:=Int.emod_nonneg _ c;have h2:zl6 d.shape nm<d.shape 0:=Int.emod_lt_of_pos _ (by omega)
 have e:((zei d nm:Nat):Int)=zl6 d.shape nm:=by unfold zei;omega
 have hf:=hok.form.1.1;refine ⟨e,⟨by omega,by omega⟩,?_⟩;omega
theorem zgR (b off n cap m:Nat) (hm:m≤n):∃ ao,(cap≠m→ao=some ⟨b,off+m,none⟩)∧∀ w,(Instr.slice 30 (.slice (some ⟨b,off,none⟩) n cap) (some (.int .i64 (m:Int))) none none).run Tryz.prog w=.ok (.slice ao (n-m) (cap-m)) w:=by
 by_cases h:cap=m
 ·refine ⟨some ⟨b,off,none⟩,fun k=>absurd h k,fun w=>?_⟩
  have e1:(m:Int)≤(n:Int):=by omega
  subst h
  simp [Instr.slice,run_underlying Tryz.underlying30,Instr.sliceBounds,Instr.sliceBound,asIntOf,go_sem,e1,hm]
 ·refine ⟨some ⟨b,off+m,none⟩,fun _=>rfl,fun w=>?_⟩
  have e1:(m:Int)≤(n:Int):=by omega
  simp [Instr.slice,run_underlying Tryz.underlying30,Instr.sliceBounds,Instr.sliceBound,asIntOf,go_sem,e1,hm,h]
theorem zi0 (s:Nat→Int) (W:Nat) (hW:s 2*4=(W:Int)) (h1:1≤s 2) (h2:s 2≤1000) (w:World) :
 Calls Tryz.prog 94 #[.agg #[.int .i64 (s 0),.int .i64 (s 1),.int .i64 (s 2),.int .i64 (s 3),.int .i64 (s 4),.int .i64 (s 5),.int .i64 (s 6),.int .i64 (s 7),.int .i64 (s 8)]] w fun e w'=>e=.returned (.int .i64 (W:Int))∧Below w.heap.size w w':=
 (zdu s h1 h2 w).mono fun e w' h=>⟨by rw [h.1,hW],h.2⟩
theorem zoX {D n k:Nat} (hD:1≤D) (hn:1≤n) (h:k<zfI D n):4*D*k<n:=by
 unfold zfI at h;have h2:(k+1)*(4*D)≤n+4*D-1:=(Nat.le_div_iff_mul_le (by omega)).mp h;rw [Nat.succ_mul,Nat.mul_comm] at h2;omega
theorem zkn (v:Value) (R:Nat) (n:Nat→Nat) (f:Mat) (hi:Nat) (W:Nat) (hW:W≤1000) (bb:Bool) (hbb:bb=true↔∀ i,i<R→n i=W) (w:World) (r:RdM w hi v R n f) :
 Calls Tryz.prog 120 #[v,.int .i64 (W:Int)] w fun e w'=>e=.returned (.bool bb)∧w'=w:=by
 obtain ⟨ao,cap,e,rfl,hm,hc,he⟩:=r;unfold maxLen at hm;have HB:=hid hbb;clear hbb
 go_enter Tryz.func120,Tryz.ntmps120
 go_wp2
 go_loop [9] (fun i=>∃ k:Nat,k≤R∧i=.int .i64 k∧∀ i,i<k→n i=W) (fun i=>R-(intOf i).toNat)
 case atStart=>exact ⟨0,Nat.zero_le _,rfl,fun i hi=>by omega⟩
 case round=>
  obtain ⟨k,hk,rfl,hall⟩:=hrel;have HALL:=hid hall;clear hall
  by_cases hlt:k<R
  ·obtain ⟨b,off,rfl,hblt,hcell⟩:=hc (by omega)
   obtain ⟨aok,capk,hsk,hmk,hqk⟩:=he k hlt
   have hck:w.cell? ⟨b,off+k,none⟩=some (.slice aok (n k) capk):=by rw [← hsk];exact hcell k hlt
   unfold maxLen at hmk;obtain ⟨nk,hnk⟩:∃ x,x=n k:=⟨_,rfl⟩;rw [← hnk] at hck hmk;have HN:=hid hnk;clear hc he hcell hsk hqk hnk
   by_cases heq:nk=W
   ·subst heq
    have tn:((nk:Int) != (nk:Int))=false:=by simp
    go_wp2
    go_round
    case rel=>exact ⟨k+1,by omega,by go_num,fun i hi=>by
     by_cases cc:i=k
     ·rw [cc,← HN.out]
     ·exact HALL.out i (by omega)⟩
    case measure=>simp [intOf];omega
   ·have tn:((nk:Int) != (W:Int))=true:=by simp;omega
    have HF:Hid (bb=false):=by
     show bb=false
     cases hb:bb with
     | false=>rfl
     | true=>exact absurd (HN.out.trans (HB.out.mp hb k hlt)) heq
    clear heq;go_wp2;go_ret;have hf:=HF.out;subst hf;exact ⟨rfl,rfl⟩
  ·obtain rfl:k=R:=by omega
   have HF:=hid (HB.out.mpr HALL.out);go_wp2;go_ret;have hf:=HF.out;subst hf;exact ⟨rfl,rfl⟩
def upTo (W:Nat) (f:Mat) (k:Nat):Nat→Nat:=fun i=>if i<W*k then zfq W f i else 0
theorem znx (W:Nat) (f:Mat):upTo W f 0=fun _=>0:=by funext i;simp [upTo]
theorem zod {W L k c:Nat} {f:Mat} (hc:c≤W) (h1:W*k+c≤L) (h2:c=L-W*k∨c=W):splice (cellsOf L (upTo W f k)) (W*k) (cellsOf c (f k))=cellsOf L (upTo W f (k+1)):=by
 refine zcv L (W*k) c _ _ _ h1 (fun i hi=>?_);unfold upTo;rw [Nat.mul_succ]
 by_cases hk:i<W*k
 ·rw [if_pos (by omega),if_neg (by omega),if_pos hk]
 ·by_cases hk2:i<W*k+c
  ·rw [if_pos (by omega),if_pos ⟨by omega,hk2⟩]
   have:=zkX W f k (i-W*k) (by omega);rw [← this]
   congr 1
   omega
  ·rw [if_neg (by omega),if_neg (by omega),if_neg hk]
theorem zhX {w:World} {hi n c cap:Nat} {ao:Option Addr} {f:Nat→Nat} (r:Rd w hi (.slice ao n cap) n f) (hc:c≤n) (h:0<(cellsOf c f).length):∃ ad,ao=some ad∧∀ j v,(cellsOf c f)[j]?=some v→w.cell? (ad.add j)=some v:=by
 have h':=h;rw [zac] at h';obtain ⟨ad,h1,h2⟩:=zd9 r (by rw [zac];omega);refine ⟨ad,h1,fun j v hj=>h2 j v ?_⟩
 by_cases hjc:j<c
 ·rw [zag c f j hjc] at hj
  rw [zag n f j (by omega)];exact hj
 ·rw [List.getElem?_eq_none (by rw [zac];omega)] at hj
  cases hj
theorem zi1 (s:Nat→Int) (v:Value) (R:Nat) (n:Nat→Nat) (f:Mat) (l:Int) (h1:Nat) (w:World) (r:RdM w h1 v R n f) (hh:h1≤w.heap.size) :
 Calls Tryz.prog 74 #[zah s,v,.int .i64 l] w fun ee w'=>∃ x v',ee=.returned (zaW x v')∧JoAns s R n l x∧Own w' w.heap.size w'.heap.size v' (if x=0 then l.toNat else 0) (zfq (4*(s 2).toNat) f)∧Below w.heap.size w w':=by
 have HR:=hid r;obtain ⟨ao,cap,e,rfl,hm,hc,he⟩:=r;unfold maxLen at hm;have HHE:=hid he;have HHC:=hid hc;clear hc he;have CP:=zeY s l
 unfold zah at *
 go_enter Tryz.func74,Tryz.ntmps74
 go_wp2_with fail
 refine (CP _).mono ?_;rintro e0 w1 ⟨x,c,rfl,hp,b1'⟩;obtain ⟨X1,X2,B1,z1⟩:=zjE b1';obtain ⟨y0,y1,y2,y3⟩:=zbe X2
 have z0:w.heap.size<w1.heap.size:=by omega
 have HP:=hid hp;have HX1:=hid X1;have HX2:=hid X2;have BA:Below w.heap.size w (w1.alloc (.cells #[.int .i64 c,.int .i64 x] 74)):=B1.alloc B1.size _;clear b1' X1 X2 hp CP;unfold intR
 have HQ:Hid (∀ d:Int,(((w1.setCell ⟨w.heap.size+1,0,none⟩ (.int .i64 d)).setCell ⟨w.heap.size+1,1,none⟩ (.slice none 0 0)).alloc (.cells #[.int .i64 c,.int .i64 x] 74)).cell? ⟨w.heap.size+1,0,none⟩=some (.int .i64 d)∧(((w1.setCell ⟨w.heap.size+1,0,none⟩ (.int .i64 d)).setCell ⟨w.heap.size+1,1,none⟩ (.slice none 0 0)).alloc (.cells #[.int .i64 c,.int .i64 x] 74)).cell? ⟨w.heap.size+1,1,none⟩=some (.slice none 0 0)):=fun d=>by
  have sz2:w.heap.size+1<((w1.setCell ⟨w.heap.size+1,0,none⟩ (.int .i64 d)).setCell ⟨w.heap.size+1,1,none⟩ (.slice none 0 0)).heap.size:=by simp;exact z1
  have u0:((w1.setCell ⟨w.heap.size+1,0,none⟩ (.int .i64 d)).setCell ⟨w.heap.size+1,1,none⟩ (.slice none 0 0)).cell? ⟨w.heap.size+1,0,none⟩=some (.int .i64 d):=by simp [go_sem,y0,y1]
  have u1:((w1.setCell ⟨w.heap.size+1,0,none⟩ (.int .i64 d)).setCell ⟨w.heap.size+1,1,none⟩ (.slice none 0 0)).cell? ⟨w.heap.size+1,1,none⟩=some (.slice none 0 0):=by simp [go_sem,y0,y1]
  exact ⟨zg6 sz2 u0,zg6 sz2 u1⟩
 by_cases hc0:c=0
 ·subst hc0
  have HOK:Hid (zam s∧1≤l∧l≤3*(s 2*4)∧x=(l+s 2*4-1)/(s 2*4)):=by
   rcases HP.out with ⟨_,h,_⟩ | ⟨_,_,h,_⟩ | ⟨_,_,_,h,_⟩ | ⟨h1,h2,h3,_,h4⟩
   ·omega
   ·omega
   ·omega
   ·exact ⟨h1,h2,h3,h4⟩
  obtain ⟨D,hD,hD1,hD3⟩:=zoT HOK.out.1
  have HDT:Hid ((s 2).toNat=D):=by show (s 2).toNat=D;rw [hD];simp
  obtain ⟨L,rfl⟩:∃ L:Nat,l=L:=⟨l.toNat,by have:=HOK.out.2.1;omega⟩
  have hL1:1≤L:=by have:=HOK.out.2.1;omega
  have hL2:L≤12*D:=by have:=HOK.out.2.2.1;rw [hD] at this;omega
  have hxP:x=((zfI D L:Nat):Int):=by rw [HOK.out.2.2.2,hD,zn8 hD1]
  obtain ⟨p1,p2,p3,p4⟩:=zkd hD1 hD3 hL1 hL2;have HPLL:Hid (∀ k,k<zfI D L→4*D*k<L):=fun k hk=>zoX hD1 hL1 hk;obtain ⟨P,hP⟩:∃ P,P=zfI D L:=⟨_,rfl⟩;rw [← hP] at hxP p1 p2 p3 p4 HPLL;obtain ⟨W,hW⟩:∃ W,W=4*D:=⟨_,rfl⟩
  have HW:Hid (4*(s 2).toNat=W):=by show 4*(s 2).toNat=W;rw [HDT.out,hW]
  rw [← hW] at p3 p4 HPLL;have CW:=zi0 s W (by rw [hD];omega) (by omega) (by omega)
  have hW12:W≤12∧4≤W:=by omega
  have HPW:Hid (L≤P*W∧P*W≤36):=⟨p3,p4⟩;subst hxP;clear hP hW hD p3 p4 HOK
  by_cases hRP:R=P
  ·subst hRP
   obtain ⟨wA,hwA⟩:∃ wA,wA=w1.alloc (.cells #[.int .i64 0,.int .i64 (R:Int)] 74):=⟨_,rfl⟩
   have HXA:Hid (Box wA w.heap.size (rwS s).toArray 34):=by
    show Box wA w.heap.size _ _
    rw [hwA];exact HX1.out.allocd _
   have HXB:Hid (Box wA (w.heap.size+1) #[.int .i64 0,.slice none 0 0] 32):=by
    show Box wA (w.heap.size+1) _ _
    rw [hwA];exact HX2.out.allocd _
   have HBA:Hid (Below w.heap.size w wA):=by show Below w.heap.size w wA;rw [hwA];exact BA
   have zA:w.heap.size+1<wA.heap.size:=HXB.out.lt
   have tR:((R:Int) != (R:Int))=false:=by simp
   clear BA;have XA:=HX1.out.allocd (.cells #[.int .i64 0,.int .i64 (R:Int)] 74);obtain ⟨x0,x1,x2,x3,x4,x5,x6,x7,x8⟩:=box9 XA;clear XA
   go_wp2_with fail
   refine (CW _).mono ?_;rintro ee w3 ⟨rfl,b3⟩;rw [← hwA] at b3;clear hwA y0 y1 y2 y3 x0 x1 x2 x3 x4 x5 x6 x7 x8;have HB3:=hid (HBA.out.trans (b3.mono HBA.out.size));have HX3:=hid (HXB.out.below b3 zA);have z3:w.heap.size+1<w3.heap.size:=HX3.out.lt;have HR3:=hid (HR.out.below HB3.out hh);clear b3 HXA HXB HBA zA HX1 HX2
   obtain ⟨bb,hbb⟩:∃ bb:Bool,bb=true↔∀ i,i<R→n i=W:=by
    by_cases c:∀ i,i<R→n i=W
    ·exact ⟨true,⟨fun _=>c,fun _=>rfl⟩⟩
    ·exact ⟨false,⟨fun h=>(by cases h),fun h=>absurd h c⟩⟩
   have CA:=zkn (.slice ao R cap) R n f h1 W (by omega) bb hbb w3 HR3.out;have HBB:=hid hbb;clear hbb
   go_wp2_with fail
   refine CA.mono ?_;rintro ee w4 ⟨rfl,hw4⟩;obtain rfl:=hw4.symm;clear CA
   cases bb with
   | false=>
    have HJ:Hid (JoAns s R n (L:Int) 1):=.inr (.inl ⟨rfl,_,HP.out,.inr (by
     have h1:¬ ∀ i,i<R→n i=W:=fun h=>by have:=HBB.out.mpr h;cases this
     rw [HW.out]
     exact Classical.byContradiction fun h2=>h1 fun i hi=>Classical.byContradiction fun h3=>h2 ⟨i,hi,h3⟩)⟩)
    obtain ⟨r0,r1,r2,r3⟩:=zbe HX3.out;go_wp2;exact bodyPost_ret (v:=zaW 1 (.slice none 0 0)) (by simp [results,Tryz.results74,go_sem,zaW,r0,r1]) rfl ⟨1,_,rfl,HJ.out,zbu _ _ _ _,(HB3.out.setCell (Nat.le_succ _) _).setCell (Nat.le_succ _) _⟩
   | true=>
    have HALL:Hid (∀ i,i<R→n i=W):=HBB.out.mp rfl;have HJ:Hid (JoAns s R n (L:Int) 0):=.inr (.inr ⟨rfl,_,HP.out,rfl,fun i hi=>by rw [HW.out];exact HALL.out i hi⟩);have HANS:Hid (∀ w' v',Own w' w.heap.size w'.heap.size v' L (zfq W f)→Below w.heap.size w w'→∃ x v'',Ending.returned (zaW 0 v')=.returned (zaW x v'')∧JoAns s R n (L:Int) x∧Own w' w.heap.size w'.heap.size v'' (if x=0 then ((L:Int)).toNat else 0) (zfq (4*(s 2).toNat) f)∧Below w.heap.size w w'):=fun w' v' ho hb=>⟨0,v',rfl,HJ.out,by rw [if_pos rfl,HW.out,Int.toNat_natCast];exact ho,hb⟩;have HPL:=hid HPLL.out;clear HBB HJ HP HR CW HPLL
    go_wp2_with (at_make;refine zbI _ rfl _ _ rfl _ _ L rfl rfl rfl rfl (by omega) ?_;intro w5 ho5 hb5 hz5)
    have HF0:Hid (w5.heap[w3.heap.size]?=some (.cells (cellsOf L (upTo W f 0)).toArray 5 (0,0))):=by
     have:=ho5.full;rw [show (cellsOf L fun _=>0)=cellsOf L (upTo W f 0) from congrArg (cellsOf L) (znx W f).symm] at this;exact this
    clear ho5
    go_loopw [9,39] (fun u i wr=>∃ k:Nat,k≤R∧i=.int .i64 k∧(k<R→u=.slice (some ⟨w3.heap.size,W*k,none⟩) (L-W*k) (L-W*k))∧Hid (wr.heap[w3.heap.size]?=some (.cells (cellsOf L (upTo W f k)).toArray 5 (0,0)))∧Below w3.heap.size w3 wr∧w3.heap.size<wr.heap.size) (fun _ i _=>R-(intOf i).toNat)
    case atStart=>exact ⟨0,Nat.zero_le _,rfl,fun _=>by simp,HF0,hb5,hz5⟩
    case round=>
     clear HF0 hb5 hz5;obtain ⟨k,hk,rfl,hu,hF,hb,hz⟩:=hrel
     by_cases hlt:k<R
     ·obtain rfl:=hu hlt
      have HB:=hid hb;have HBW:=hid (HB3.out.trans (hb.mono HB3.out.size));obtain ⟨b,off,hao,hblt,hcell⟩:=HHC.out (by omega);subst hao
      have hbw:b<w.heap.size:=by omega
      have hck:wr.cell? ⟨b,off+k,none⟩=some (e k):=(HBW.out.cell (p:=⟨b,off+k,none⟩) hbw).trans (hcell k hlt)
      have rk:Rd wr h1 (e k) W (f k):=by have:=HHE.out k hlt;rw [HALL.out k hlt] at this;exact this.below HBW.out hh
      obtain ⟨aok,capk,hsk,hmk,hqk⟩:=rk;have HRK:Hid (Rd wr h1 (.slice aok W capk) W (f k)):=⟨aok,capk,rfl,hmk,hqk⟩;rw [hsk] at hck;obtain ⟨A,hA⟩:∃ A,A=W*k:=⟨_,rfl⟩
      have hAn:A<L:=by rw [hA];exact HPL.out k hlt
      have hA1:k+1<R→A+W<L:=fun h=>by have:=HPL.out (k+1) h;rw [Nat.mul_succ,← hA] at this;exact this
      obtain ⟨Ln,hLn⟩:∃ x,x=L-A:=⟨_,rfl⟩;obtain ⟨c,hc⟩:∃ c,c=Nat.min W Ln:=⟨_,rfl⟩
      have hcm:c≤Ln∧c≤W∧(c=Ln∨c=W):=by
       have:c=min W Ln:=hc;omega
      have HSP:Hid (splice (cellsOf L (upTo W f k)) A (cellsOf c (f k))=cellsOf L (upTo W f (k+1))):=by
       show splice (cellsOf L (upTo W f k)) A (cellsOf c (f k))=cellsOf L (upTo W f (k+1))
       rw [hA];exact zod hcm.2.1 (by rw [← hA];omega) (by rw [← hA];omega)
      have HL1:Hid ((cellsOf c (f k)).length=Nat.min W Ln):=by show (cellsOf c (f k)).length=Nat.min W Ln;rw [zac,hc]
      have HL2:Hid (A+(cellsOf c (f k)).length≤(cellsOf L (upTo W f k)).length):=by
       show A+(cellsOf c (f k)).length≤(cellsOf L (upTo W f k)).length
       rw [zac,zac];omega
      obtain ⟨ar,har,hsl⟩:=zgR w3.heap.size A Ln Ln c hcm.1
      have HAO:Hid (k+1<R→(.slice ar (Ln-c) (Ln-c):Value)=.slice (some ⟨w3.heap.size,W*(k+1),none⟩) (L-W*(k+1)) (L-W*(k+1))):=fun h=>by
       have h1:=hA1 h
       have h2:c=W:=by omega
       rw [har (by omega),Nat.mul_succ,← hA,h2]
       congr 1<;>omega
      have HSRC:Hid (∀ hp:0<(cellsOf c (f k)).length,∃ ad,aok=some ad∧∀ j v,(cellsOf c (f k))[j]?=some v→wr.cell? (ad.add j)=some v):=fun hp=>zhX HRK.out hcm.2.1 hp;obtain ⟨r1,hr1⟩:∃ x,x=Ln-c:=⟨_,rfl⟩;rw [← hr1] at hsl HAO;have hlc:(cellsOf c (f k)).length=c:=zac _ _;rw [← hA,← hLn]
      have hc12:c≤12:=by omega
      clear hb hu hA hA1 hLn hc hcm har hr1 hAn hcell hsk hqk hmk HRK
      go_wp2_with (refine wpList_copy_splice rfl (.tmp 44) (.tmp 45) 30 30 rfl 5 Tryz.underlying30 zff (some ⟨w3.heap.size,A,none⟩) aok Ln Ln W capk rfl ?_ w3.heap.size A (cellsOf L (upTo W f k)) 5 hF.out (cellsOf c (f k)) HL1.out (fun hp=>⟨rfl,HSRC.out hp⟩) HL2.out (zbF c _) w3.heap.size w3 HB.out (Nat.le_refl _) ?_;(simp [Act.eval]);intro w6 hF6 hb6;rw [hlc])
      have F6:=hF6.out;rw [HSP.out] at F6;have HF6:=hid F6;have z6:w3.heap.size<w6.heap.size:=(Array.getElem?_eq_some_iff.1 F6).1;clear F6 hF6
      go_roundw
      case rel=>exact ⟨k+1,by omega,by go_num,HAO.out,HF6,hb6,z6⟩
      case measure=>simp [intOf];omega
     ·obtain rfl:k=R:=by omega
      have B9:Below w.heap.size w wr:=HB3.out.trans (hb.mono HB3.out.size);obtain ⟨r0,r1,r2,r3⟩:=zbe (HX3.out.below hb z3);have O9:Own wr w3.heap.size wr.heap.size (.slice (some ⟨w3.heap.size,0,none⟩) L L) L (upTo W f k):=zdj hF.out (Nat.le_refl _) (by unfold maxLen;omega)
      have O8:Own wr w3.heap.size wr.heap.size (.slice (some ⟨w3.heap.size,0,none⟩) L L) L (zfq W f):=O9.congr (fun i hi=>by
       have:=HPW.out.1;rw [Nat.mul_comm] at this
       simp [upTo,show i<W*k by omega])
      have HO8:=hid O8;clear hb hu O9 O8 hF;go_wp2;refine bodyPost_ret (v:=zaW 0 (.slice (some ⟨w3.heap.size,0,none⟩) L L)) (by simp [results,Tryz.results74,go_sem,zaW,r0,r1]) rfl (HANS.out _ _ ?_ ((B9.setCell (Nat.le_succ _) _).setCell (Nat.le_succ _) _));have o1:=zbd wr (w.heap.size+1) (w.heap.size+2) (w.heap.size+1) 0 (.int .i64 0) (Nat.le_refl _) (by omega);have o2:=zbd (wr.setCell ⟨w.heap.size+1,0,none⟩ (.int .i64 0)) (w.heap.size+1) (w.heap.size+2) (w.heap.size+1) 1 (.slice (some ⟨w3.heap.size,0,none⟩) L L) (Nat.le_refl _) (by omega);exact (HO8.out.out (o1.trans o2) (.inr (by omega))).weaken (by omega) (by rw [(o1.trans o2).size];exact Nat.le_refl _)
  ·have tR:((R:Int) != (P:Int))=true:=by simp;omega
   have HJ:Hid (JoAns s R n (L:Int) 1):=.inr (.inl ⟨rfl,_,HP.out,.inl (by omega)⟩);obtain ⟨q0,q1⟩:=HQ.out 1;clear hRP;go_wp2;exact bodyPost_ret (v:=zaW 1 (.slice none 0 0)) (by simp [results,Tryz.results74,go_sem,zaW,q0,q1]) rfl ⟨1,_,rfl,HJ.out,zbu _ _ _ _,((B1.setCell (Nat.le_succ _) _).setCell (Nat.le_succ _) _).alloc (by simp;omega) _⟩
 ·have tc:(c != 0)=true:=by simp [hc0]
  have HJ:Hid (JoAns s R n l c):=.inl ⟨hc0,x,HP.out⟩;obtain ⟨q0,q1⟩:=HQ.out c;go_wp2;refine bodyPost_ret (v:=zaW c (.slice none 0 0)) (by simp [results,Tryz.results74,go_sem,zaW,q0,q1]) rfl ⟨c,_,rfl,HJ.out,?_,((B1.setCell (Nat.le_succ _) _).setCell (Nat.le_succ _) _).alloc (by simp;omega) _⟩;rw [if_neg hc0];exact zbu _ _ _ _
structure BldQ (wr:World) (lo hi:Nat) (v:Value) (k:Nat) (n:Nat→Nat) (f:Mat) (e:Nat→Value):Prop where
 row:wr.ownsRow lo 30 1 v k (zaK k e)
 low:∀ b,v.ownBlock=some b→b<hi
 each:∀ i,i<k→Own wr lo hi (e i) (n i) (f i)
 apart:∀ i j,i<k→j<k→i≠j→∀ b,(e i).ownBlock=some b→(e j).ownBlock≠some b
 le:lo≤hi
 le2:hi≤wr.heap.size
theorem BldQ.nil (w:World) (lo:Nat) (hlo:lo≤w.heap.size) (n:Nat→Nat) (f:Mat) (e:Nat→Value):BldQ w lo w.heap.size (.slice none 0 0) 0 n f e:=
 ⟨World.ownsRow_nil w lo _ 1,fun b hb=>by simp [Value.ownBlock] at hb,fun i hi=>by omega,fun i j hi=>by omega,hlo,Nat.le_refl _⟩
theorem BldQ.kept {w w2:World} {lo hi:Nat} {v:Value} {k:Nat} {n:Nat→Nat} {f:Mat} {e:Nat→Value} (h:BldQ w lo hi v k n f e) (hk:∀ b,lo≤b→b<hi→w2.heap[b]?=w.heap[b]?) (hs:hi≤w2.heap.size):BldQ w2 lo hi v k n f e:=
 ⟨zb3 h.row fun b hb=>hk b (h.row.lt b hb).1 (h.low b hb),h.low,fun i hi=>(h.each i hi).kept fun b hb=>hk b ((h.each i hi).1.lt b hb).1 ((h.each i hi).2 b hb),h.apart,h.le,hs⟩
theorem BldQ.next {w2 w4:World} {lo hi lo2 hi2:Nat} {v v' x:Value} {k:Nat} {n n':Nat→Nat} {f f':Mat} {e:Nat→Value} (h:BldQ w2 lo hi v k n f e) (ho:Own w2 lo2 hi2 x (n' k) (f' k)) (hlo:hi≤lo2)
 (hn:∀ i,i<k→n' i=n i) (hf:∀ i,i<k→f' i=f i)
 (hr:w4.ownsRow lo 30 1 v' (k+1) (zaK k e++[x])) (hg:(w2.alloc (.cells #[x] 30)).grownBy w4 v.ownBlock) (hnn:v'≠nilS):BldQ w4 lo w4.heap.size v' (k+1) n' f' (fun i=>if i=k then x else e i):=by
 have hs4:w2.heap.size+1≤w4.heap.size:=by have:=hg.size;simpa using this
 have hle:=h.le;have hle2:=h.le2
 have hv:zaK k e++[x]=zaK (k+1) (fun i=>if i=k then x else e i):=by
  rw [← zes]
  simp only [if_pos]
  rw [zc7 (e:=e) (g:=fun i=>if i=k then x else e i) (fun i hi=>by simp [show ¬ i=k by omega])]
 rw [hv] at hr
 have kp:∀ {y:Value} {m:Nat} {q:Nat→Nat} {l u:Nat},Own w2 l u y m q→Own w4 l w4.heap.size y m q:=fun {y m q l u} hy=>
  ⟨(
   hy.kept fun b hb'=>by
   have hlt:=(hy.1.lt b hb').2;rw [hg.block b (by simp;omega) (fun hh=>zea h.row hy b hh.symm hb')]
   exact Below.heap_alloc w2 _ b hlt).1,fun b hb'=>by have:=(hy.1.lt b hb').2;omega⟩
 refine ⟨hr,fun b hb=>(hr.lt b hb).2,fun i hik=>?_,fun i j hik hj hne b hbi=>?_,by omega,Nat.le_refl _⟩
 ·by_cases c:i=k
  ·subst c
   simp only [if_pos]
   exact (kp ho).weaken (by omega) (Nat.le_refl _)
  ·simp only [if_neg c]
   rw [hn i (by omega),hf i (by omega)];exact kp (h.each i (by omega))
 ·have new:∀ b,x.ownBlock=some b→hi≤b:=fun b hb'=>by have:=(ho.1.lt b hb').1;omega
  have old:∀ i,i<k→∀ b,(e i).ownBlock=some b→b<hi:=fun i hi b hb'=>(h.each i hi).2 b hb';have hbi2:(if i=k then x else e i).ownBlock=some b:=hbi
  show (if j=k then x else e j).ownBlock≠some b
  by_cases c:i=k
  ·have c2:¬ j=k:=fun z=>hne (by rw [c,z])
   rw [if_pos c] at hbi2;rw [if_neg c2];intro hh;have h5:=new b hbi2;have h6:=old j (by omega) b hh;omega
  ·rw [if_neg c] at hbi2
   by_cases c2:j=k
   ·rw [if_pos c2]
    intro hh;have h5:=new b hh;have h6:=old i (by omega) b hbi2;omega
   ·rw [if_neg c2]
    exact h.apart i j (by omega) (by omega) hne b hbi2
theorem BldQ.rd {wr:World} {lo hi:Nat} {v:Value} {k:Nat} {n:Nat→Nat} {f:Mat} {e:Nat→Value} (h:BldQ wr lo hi v k n f e) (h0:k≠0):RdM wr wr.heap.size v k n f∧∃ ao cap,v=.slice ao k cap∧k≤cap:=by
 have hnn:v≠nilS:=fun hh=>by
  rcases h.row.2 with ⟨_,h1⟩ | ⟨g,cap,cur,hv,_⟩
  ·exact h0 h1
  ·rw [hh] at hv;cases hv
 have R:BldR wr lo wr.heap.size v k n f e:=⟨h.row,hnn,fun b hb=>(h.row.lt b hb).2,fun i hi=>(h.each i hi).weaken (Nat.le_refl _) h.le2,h.apart,Nat.le_trans h.le h.le2,Nat.le_refl _⟩;obtain ⟨g,cap,hE⟩:=R.done;refine ⟨hE.rd,?_⟩
 rcases h.row.2 with ⟨h1,_⟩ | ⟨g,cap,cur,hv,_,_,hnc,_⟩
 ·exact absurd h1 hnn
 ·exact ⟨_,_,hv,hnc⟩
set_option maxRecDepth 20000 in
theorem zgA (d:WorldD) (nm:ByteArray) (cs:List Value) (hi:Nat) (w:World) (h:zaf.rd w hi d cs) (hhi:hi≤w.heap.size) (hsz:za6 d≤1048576) (hnm:nm.size≤1048576) :
 Calls Tryz.prog 54 #[.agg cs.toArray,.string nm] w (zoS (NfC d nm) w):=by
 have h':=h;obtain ⟨ao1,cap1,ao2,cap2,ao3,cap3,rfl,g1,g2,g3,k0,k4,k5⟩:=zaE h';have HRD:=hid h;clear h h' g1 g2 g3 k0 k4 k5;have T0:=zaD w (rwW d ao1 cap1 ao2 cap2 ao3 cap3).toArray 38
 go_enter Tryz.func54,Tryz.ntmps54
 go_wp2_with (refine zaq 38 (.tmp 2) rfl rfl (w.heap.size) rfl (T0.b1) Tryz.underlying38 zcf rfl ?_)
 refine (zka d _ hi _ (zaf.rd_below HRD.out T0.bel hhi) (Nat.le_trans hhi T0.bel.size) hsz).mono ?_;rintro e w1 ⟨x,rfl,hx,b1⟩;have HB:Hid (Below w.heap.size w w1):=(T0.call b1).bel;have HX:=hid hx;clear b1 T0 hx
 by_cases hx0:x=0
 case neg=>
  have hne:(x != 0)=true:=by simp [hx0]
  go_wp2;go_ret;exact ⟨x,rfl,.inl ⟨hx0,HX.out⟩,HB.out⟩
 subst hx0
 go_wp2_with fail
 refine (zd0 nm hnm w1).mono ?_;rintro e w2 ⟨x,rfl,hx,rfl⟩;have HN:=hid hx;clear hx;go_wp2;go_ret;exact ⟨x,rfl,.inr ⟨HX.out,HN.out⟩,HB.out⟩
def zpz (d:WorldD) (nm:ByteArray) (q:RecsResultD):Prop:=(∃ x,x≠0∧NfC d nm x∧q=⟨x,(0,fun _=>rec0)⟩)∨(NfC d nm 0∧zps d nm q)
set_option maxRecDepth 20000 in
theorem zgB (d:WorldD) (nm:ByteArray) (cs:List Value) (hi:Nat) (w:World) (h:zaf.rd w hi d cs) (hhi:hi≤w.heap.size) (hsz:za6 d≤1048576) (hnm:nm.size≤1048576) :
 Calls Tryz.prog 35 #[.agg cs.toArray,.string nm] w (zoq (zpz d nm) w):=by
 have h':=h;obtain ⟨ao1,cap1,ao2,cap2,ao3,cap3,rfl,g1,g2,g3,k0,k4,k5⟩:=zaE h';have HRD:=hid h;clear h h' g1 g2 g3 k0 k4 k5;have T0:=zaJ w (rwW d ao1 cap1 ao2 cap2 ao3 cap3).toArray #[.int .i64 0,.slice none 0 0] 38 69
 go_enter Tryz.func35,Tryz.ntmps35
 go_wp2_with (refine zaq 38 (.tmp 2) rfl rfl (w.heap.size) rfl (T0.b1) Tryz.underlying38 zcf rfl ?_)
 refine (zgA d nm _ hi _ (zaf.rd_below HRD.out T0.bel hhi) (Nat.le_trans hhi T0.bel.size) hsz hnm).mono ?_;rintro e w1 ⟨x,rfl,hx,b1⟩;have HT1:=hid (T0.call b1);have HX:=hid hx;have z1:w.heap.size+1<w1.heap.size:=HT1.out.b2.lt;clear b1 T0 hx
 by_cases hx0:x=0
 case neg=>
  have hne:(x != 0)=true:=by simp [hx0]
  go_wp2_with (refine zaV 69 _ _ rfl rfl (w.heap.size+1) rfl (cs:=[.int .i64 x,.slice none 0 0]) rfl (HT1.out.b2) zb8 rfl rfl ((zcz w1 x (zdx HX.out) 0 0).one) ?_;intro w9 X9 C9 z9)
  refine zcb Tryz.results35 rfl X9 Tryz.underlying69 zb8 rfl rfl ?_;have zz:=C9.size;exact ⟨⟨x,(0,fun _=>rec0)⟩,[.int .i64 x,.slice none 0 0],rfl,.inl ⟨x,hx0,HX.out,rfl⟩,zcz w9 x (zdx HX.out) _ _,HT1.out.bel.trans (C9.bel (fun b hb=>by simp at hb;omega) HT1.out.bel.size)⟩
 subst hx0
 go_wp2_with (refine zaq 38 (.tmp 2) rfl rfl (w.heap.size) rfl (HT1.out.b1) Tryz.underlying38 zcf rfl ?_)
 refine (zlO d nm _ hi w1 (zaf.rd_below HRD.out HT1.out.bel hhi) (Nat.le_trans hhi HT1.out.bel.size) hsz hnm).mono ?_;rintro e w2 ⟨q,cs2,rfl,hq,o2,b2⟩;obtain ⟨ar,cr,rfl,-⟩:=zeW o2.rd;have HT2:=hid (HT1.out.call b2);have HQ:=hid hq;have HO:=hid o2;have z2:w1.heap.size≤w2.heap.size:=b2.size;clear b2 hq o2 HT1
 go_wp2_with (refine zaV 69 _ _ rfl rfl (w.heap.size+1) rfl (cs:=[.int .i64 q.code,.slice ar q.recs.1 cr]) rfl (HT2.out.b2) zb8 rfl rfl (HO.out.one) ?_;intro w9 X9 C9 z9)
 refine zcb Tryz.results35 rfl X9 Tryz.underlying69 zb8 rfl rfl ?_;have zz:=C9.size;exact ⟨q,_,rfl,.inr ⟨HX.out,HQ.out⟩,(HO.out.chgk C9 (fun b hb=>by simp at hb;omega)).weaken (by omega) zz,HT2.out.bel.trans (C9.bel (fun b hb=>by simp at hb;omega) HT2.out.bel.size)⟩
set_option maxRecDepth 20000 in
theorem zgC (d:WorldD) (G:Nat) (r:RecD) (cs cr:List Value) (hi h2:Nat) (w:World) (h:zaf.rd w hi d cs) (hhi:hi≤w.heap.size) (rr:zab.rd w h2 r cr) (hh2:h2≤w.heap.size) (hok:OkWorld d) (hG:G<d.groups.1) (hnd:¬ zd2 d G) (hin:InRows d.shape r) :
 Calls Tryz.prog 38 #[.agg cs.toArray,.int .i64 (G:Int),.agg cr.toArray] w fun e w'=>∃ v',e=.returned v'∧Own w' w.heap.size w'.heap.size v' r.length.toNat (zkl d G r)∧Below w.heap.size w w':=by
 have h':=h;obtain ⟨ao1,cap1,ao2,cap2,ao3,cap3,rfl,g1,g2,g3,k0,k4,k5⟩:=zaE h';have HRD:=hid h;clear h h' g1 g2 g3 k0 k4 k5;obtain ⟨ao6,cap6,ao7,cap7,ao8,cap8,rfl,r6,r7,r8,-⟩:=zaP rr
 have HRI:Hid (RdI w h2 (.slice ao6 r.rows.1 cap6) r.rows.1 r.rows.2):=by
  obtain ⟨_,e2,⟨h2,_⟩,_⟩:=r6
  cases e2
  exact h2
 clear rr r6 r7 r8;have HIN:=hid hin;have HOK:=hid hok;have hfew:=hin.few hok.shape;have T0:=zaJ w (rwW d ao1 cap1 ao2 cap2 ao3 cap3).toArray (rwR r ao6 cap6 ao7 cap7 ao8 cap8).toArray 38 72;obtain ⟨D,hD⟩:∃ D,D=4*(d.shape 2).toNat:=⟨_,rfl⟩;have HD:=hid hD;obtain ⟨nR,hnR⟩:∃ n,n=r.rows.1:=⟨_,rfl⟩;have HNR:=hid hnR;obtain ⟨_,_,e9,hm9,hc9⟩:=HRI.out
 cases e9
 obtain ⟨b6,off6,rfl,hb6,hcell6⟩:=hc9 (by omega);have HC6:=hid hcell6;unfold maxLen at hm9;clear hD hc9 hcell6 hin hok
 go_enter Tryz.func38,Tryz.ntmps38
 go_upto_region 2 with fail
 obtain ⟨W0,hW0⟩:∃ y,y=((w.alloc (.cells (rwW d ao1 cap1 ao2 cap2 ao3 cap3).toArray 38)).alloc (.cells (rwR r (some ⟨b6,off6,none⟩) cap6 ao7 cap7 ao8 cap8).toArray 72)):=⟨_,rfl⟩;rw [← hW0] at T0 ⊢;clear hW0;have HT0:=hid T0
 have x6:W0.cell? ⟨w.heap.size+1,6,none⟩=some (.slice (some ⟨b6,off6,none⟩) nR cap6):=by rw [HNR.out];exact T0.b2.cell 6
 have z0:w.heap.size+1<W0.heap.size:=T0.b2.lt;clear T0 hnR
 have hnr:nR≤3∧1≤nR:=by rw [HNR.out];exact ⟨hfew.2,hfew.1⟩
 clear hfew;go_wp2;clear x6
 go_loopw [7,13] (fun v i wr=>∃ (k:Nat) (e:Nat→Value),k≤nR∧i=.int .i64 k∧BldQ wr (w.heap.size+2) wr.heap.size v k (fun _=>D) (fun k=>rowB d G (r.rows.2 k).toNat) e∧Two w wr (rwW d ao1 cap1 ao2 cap2 ao3 cap3).toArray (rwR r (some ⟨b6,off6,none⟩) cap6 ao7 cap7 ao8 cap8).toArray 38 72) (fun _ i _=>nR-(intOf i).toNat)
 case atStart=>exact ⟨0,fun _=>nilS,Nat.zero_le _,rfl,BldQ.nil W0 _ (by omega) _ _ _,HT0.out⟩
 case round=>
  clear HT0;obtain ⟨k,ee,hk,rfl,hB,T⟩:=hrel;obtain ⟨wx,rfl⟩:∃ y,y=wr:=⟨_,rfl⟩;have HT:=hid T;have zx:w.heap.size+1<wx.heap.size:=T.b2.lt
  by_cases hlt:k<nR
  ·have t1:(k:Int)<(nR:Int):=by omega
   have hkr:k<r.rows.1:=by rw [← HNR.out];exact hlt
   have hA:=(HIN.out.apart k hkr).1;obtain ⟨R,hR⟩:∃ R:Nat,r.rows.2 k=(R:Int):=⟨(r.rows.2 k).toNat,by have:=hA.1;omega⟩
   have hRs:(R:Int)≤d.shape 4-1:=by rw [← hR];exact hA.2
   have ck:wx.cell? ⟨b6,off6+k,none⟩=some (.int .i64 (R:Int)):=(T.bel.cell (p:=⟨b6,off6+k,none⟩) (by show b6<_;omega)).trans (by rw [← hR];exact HC6.out k hkr);have CB:=zgP d _ hi G R wx (zaf.rd_below HRD.out T.bel hhi) (Nat.le_trans hhi T.bel.size) hG (fun j hj=>by have h1:=((HOK.out.form.1.2 G hG).2 j hj).1;omega) HOK.out hnd;have HB:=hid hB
   have HRR:Hid ((r.rows.2 k).toNat=R):=by show (r.rows.2 k).toNat=R;rw [hR];rfl
   clear T hB hA hR hRs
   go_wp2_with (refine zaq 38 (.tmp 3) rfl rfl (w.heap.size) rfl (HT.out.b1) Tryz.underlying38 zcf rfl ?_)
   refine CB.mono ?_;rintro e w5 ⟨vb,rfl,ob,b5⟩;have z5:wx.heap.size≤w5.heap.size:=b5.size;have HT5:=hid (HT.out.call b5);have HB5:Hid (BldQ w5 (w.heap.size+2) wx.heap.size u7 k (fun _=>D) (fun k=>rowB d G (r.rows.2 k).toNat) ee):=HB.out.kept (fun b h1 h2=>b5.block b h2) z5
   have HO:Hid (Own w5 wx.heap.size w5.heap.size vb D (rowB d G (r.rows.2 k).toNat)):=by show Own _ _ _ _ _ _;rw [HD.out,HRR.out];exact ob
   obtain ⟨aob,capb,hvb⟩:=HO.out.slice;subst hvb;clear CB ob b5 HT HB ck
   go_wp2_with (at_builtin;refine zfg rfl (.tmp 17) (.tmp 22) rfl (w.heap.size+2) u7 k ee ?_ ?_ w5.heap.size 1 (.slice aob D capb) ?_ ?_ rfl (by omega) ?_ ?_;(simp [Act.eval]);exact HB5.out.row.alloc _;(simp [Act.eval]);simp;(simp;omega);intro v6 w6 hr6 hg6 hn6)
   have HB6:Hid (BldQ w6 (w.heap.size+2) w6.heap.size v6 (k+1) (fun _=>D) (fun k=>rowB d G (r.rows.2 k).toNat) _):=HB5.out.next HO.out (Nat.le_refl _) (fun _ _=>rfl) (fun _ _=>rfl) hr6 hg6 hn6;have b6':Below (w.heap.size+2) w5 w6:=((Below.refl (w.heap.size+2) w5).alloc (by omega) _).trans ((Below.refl _ _).grown hg6 (by simp;omega) (fun b hb=>(HB5.out.row.lt b hb).1));have HT6:Hid (Two w w6 (rwW d ao1 cap1 ao2 cap2 ao3 cap3).toArray (rwR r (some ⟨b6,off6,none⟩) cap6 ao7 cap7 ao8 cap8).toArray 38 72):=⟨HT5.out.b1.below b6' (by omega),HT5.out.b2.below b6' (by omega),HT5.out.bel.trans (b6'.mono (by omega))⟩;clear hr6 hg6 hn6 b6' HB5 HT5 HO;go_wp2
   go_roundw
   case rel=>exact ⟨k+1,_,by omega,by go_num,HB6.out,HT6.out⟩
   case measure=>simp [intOf];omega
  ·obtain rfl:k=nR:=by omega
   obtain ⟨hrd,hcap⟩:=hB.rd (by omega);have x3:wx.cell? ⟨w.heap.size+1,3,none⟩=some (.int .i64 r.length):=T.b2.cell 3;have x_0:wx.cell? ⟨w.heap.size,0,none⟩=some (.int .i64 (d.shape 0)):=T.b1.cell 0;have x_1:wx.cell? ⟨w.heap.size,1,none⟩=some (.int .i64 (d.shape 1)):=T.b1.cell 1;have x_2:wx.cell? ⟨w.heap.size,2,none⟩=some (.int .i64 (d.shape 2)):=T.b1.cell 2;have x_3:wx.cell? ⟨w.heap.size,3,none⟩=some (.int .i64 (d.shape 3)):=T.b1.cell 3;have x_4:wx.cell? ⟨w.heap.size,4,none⟩=some (.int .i64 (d.shape 4)):=T.b1.cell 4;have x_5:wx.cell? ⟨w.heap.size,5,none⟩=some (.int .i64 (d.shape 5)):=T.b1.cell 5;have x_6:wx.cell? ⟨w.heap.size,6,none⟩=some (.int .i64 (d.shape 6)):=T.b1.cell 6;have x_7:wx.cell? ⟨w.heap.size,7,none⟩=some (.int .i64 (d.shape 7)):=T.b1.cell 7;have x_8:wx.cell? ⟨w.heap.size,8,none⟩=some (.int .i64 (d.shape 8)):=T.b1.cell 8;have CJ:=zi1 d.shape u7 k (fun _=>D) (fun k=>rowB d G (r.rows.2 k).toNat) r.length wx.heap.size wx hrd (Nat.le_refl _);unfold zah at CJ;have HBW:=hid T.bel;obtain ⟨aF,cF,hvF,-⟩:=hcap;subst hvF;clear T hB hrd hlt
   go_wp2_with fail
   refine CJ.mono ?_;rintro e w7 ⟨x,v7,rfl,hx,o7,b7⟩;have hJ:JoAns d.shape k (fun _=>D) r.length 0:=.inr (.inr ⟨rfl,_,HIN.out.pf HOK.out.shape,by rw [HNR.out],fun i hi=>HD.out⟩);obtain rfl:=hx.one hJ
   have HO7:Hid (Own w7 w.heap.size w7.heap.size v7 r.length.toNat (zkl d G r)):=by
    show Own w7 w.heap.size w7.heap.size v7 r.length.toNat (zkl d G r)
    have:=o7.weaken (lo':=w.heap.size) (hi':=w7.heap.size) HBW.out.size (Nat.le_refl _)
    simpa [zkl] using this
   have HB7:=hid (HBW.out.trans (b7.mono HBW.out.size));obtain ⟨a7,c7,hv7⟩:=HO7.out.slice;subst hv7;clear CJ hx o7 b7 hJ x3 x_0 x_1 x_2 x_3 x_4 x_5 x_6 x_7 x_8;unfold zaW
   have fB:∀ (x:Int) (v:Value) (w':World),(Instr.field 32 (.agg #[.int .i64 x,v]) 1).run Tryz.prog w'=.ok v w':=fun x v w'=>by kernel_rfl
   go_wp2;go_ret;exact ⟨_,rfl,HO7.out,HB7.out⟩
theorem zkY (d:WorldD) (G R:Nat) (i:Nat):rowB d G R i<256:=by
 unfold rowB decN zep;exact zhj _ _ (zcV _ _ _ _) _ _
theorem zoe:(Tryz.prog.info? 69).map (fun i=>(i.zero.map (·.cells),i.size))=some (some #[.int .i64 0,.slice none 0 0],2):=by kernel_rfl
theorem zoY:(Tryz.prog.info? 72).map (·.size)=some 9:=by kernel_rfl
theorem zi2 {w:World} {lo hi:Nat} {p:Nat×(Nat→Nat)} {ao:Option Addr} {cap:Nat} (h:OwnT zad w lo hi p [.slice ao p.1 cap]) (c:Int) (hc:-9223372036854775808≤c∧c≤9223372036854775807):OwnT zay w lo hi ⟨c,p⟩ [.int .i64 c,.slice ao p.1 cap]:=by
 obtain ⟨L,h1,h2,h3⟩:=h;exact ⟨L,zc5 ⟨c,p⟩ h1 hc,h2,h3⟩
theorem zof {W:World} {lo hi:Nat} {r:RecD} {c:Int} {ao:Option Addr} {cap:Nat} (h:OwnT zaR W lo hi ⟨c,(1,fun _=>r)⟩ [.int .i64 c,.slice ao 1 cap]) :
 ∃ g ao6 cap6 ao7 cap7 ao8 cap8,ao=some ⟨g,0,none⟩∧lo≤g∧g<hi∧W.rangeAt g 0 [.int .i64 r.kind,.int .i64 r.seq,.string r.name,.int .i64 r.length,.int .i64 r.group,.int .i64 r.row,.slice ao6 r.rows.1 cap6,.slice ao7 r.data.1 cap7,.slice ao8 r.delta.1 cap8]∧zab.rd W hi r [.int .i64 r.kind,.int .i64 r.seq,.string r.name,.int .i64 r.length,.int .i64 r.group,.int .i64 r.row,.slice ao6 r.rows.1 cap6,.slice ao7 r.data.1 cap7,.slice ao8 r.delta.1 cap8]∧OwnT zad W lo hi r.data [.slice ao7 r.data.1 cap7]:=by
 obtain ⟨Ls,h1,h2,h3⟩:=h;obtain ⟨ao1,cap1,K1,e1,rfl,o1,-⟩:=zen h1
 cases e1
 obtain ⟨g,cap',ce,Ls',e2,rfl,so⟩:=zcM o1 (by show (1:Nat)≠0;decide)
 cases e2
 have h0:zab.own W r (ce 0) (Ls' 0):=so.each 0 (by show (0:Nat)<1;decide)
 have hc:catN 1 Ls'=Ls' 0:=by rw [zbq,zb1,List.nil_append]
 have hsub:∀ b,b∈Ls' 0→b∈g::catN 1 Ls':=fun b hb=>List.mem_cons_of_mem _ (by rw [hc];exact hb);obtain ⟨ao6,cap6,ao7,cap7,ao8,cap8,K6,K7,K8,ec,eK,o6,o7,o8,-⟩:=zjh h0;have hb:=h3 g (List.mem_cons_self ..);refine ⟨g,ao6,cap6,ao7,cap7,ao8,cap8,rfl,hb.1,hb.2,fun j v hv=>?_,?_,K7,o7,?_,fun b hb'=>h3 b (hsub b (by rw [eK];exact List.mem_append_right _ (List.mem_append_left _ hb')))⟩
 ·have hj:j<9:=(List.getElem?_eq_some_iff.1 hv).1
  have hq:=so.cell (i:=0) (j:=j) (by show (0:Nat)<1;decide) hj;rw [Nat.zero_mul] at hq;rw [hq,ec];exact hv
 ·rw [← ec]
  exact zab.own_rd h0 (fun b hb'=>(h3 b (hsub b hb')).2)
 ·have hn:(Ls' 0).Nodup:=by rw [← hc];exact (List.nodup_cons.1 h2).2
  rw [eK] at hn;exact (List.nodup_append.1 (List.nodup_append.1 hn).2.1).1
theorem zog {d:WorldD} {nm:ByteArray} {q:RecsResultD} (h:zpz d nm q):(∃ x,x≠0∧(-9223372036854775808≤x∧x≤9223372036854775807)∧q=⟨x,(0,fun _=>rec0)⟩∧IbAns d nm ⟨x,(0,fun _=>0)⟩) ∨
 (NfC d nm 0∧∃ l i,Cnt (recT d.tapes.2 2) (lenT d.tapes.2 2) l∧i<l.length∧zdc (itm (fun i=>recT d.tapes.2 2 (l.getD i 0)) nm) l.length=((i:Nat):Int)∧¬ (recT d.tapes.2 2 (l.getD i 0)).length<0∧q=⟨0,(1,fun _=>recT d.tapes.2 2 (l.getD i 0))⟩):=by
 rcases h with ⟨x,h1,h2,rfl⟩ | ⟨h0,h⟩
 ·exact .inl ⟨x,h1,zdx h2,rfl,.inl ⟨x,h1,h2,rfl⟩⟩
 ·rcases h with ⟨x,h1,h2,rfl⟩ | ⟨_,l,hl,hp⟩
  ·exact absurd (h2.one (zhW (zhV h0).1)) h1
  ·rcases hp with ⟨e,rfl⟩ | ⟨i,hi,e,⟨c,rfl⟩ | ⟨c,rfl⟩⟩
   ·exact .inl ⟨4,by decide,by decide,rfl,.inr ⟨h0,l,hl,.inl ⟨e,rfl⟩⟩⟩
   ·exact .inl ⟨4,by decide,by decide,rfl,.inr ⟨h0,l,hl,.inr ⟨i,hi,e,.inl ⟨c,rfl⟩⟩⟩⟩
   ·exact .inr ⟨h0,l,i,hl,hi,e,c,rfl⟩
theorem zi3 {x:Nat→RecD} {nm:ByteArray} {n i:Nat} (h:zdc (itm x nm) n=(i:Int)):(x i).kind=1:=by
 rcases zcl (itm x nm) n with e | ⟨j,_,h2,h3⟩
 ·rw [h] at e;omega
 ·rw [h] at h2
  obtain rfl:i=j:=by omega
  exact h3.1
set_option maxRecDepth 20000 in
theorem zl7 (d:WorldD) (nm:ByteArray) (cs:List Value) (hi:Nat) (w:World) (h:zaf.rd w hi d cs) (hhi:hi≤w.heap.size) (hsz:za6 d≤1048576) (hnm:nm.size≤1048576) :
 Calls Tryz.prog 9 #[.agg cs.toArray,.string nm] w (zoU (IbAns d nm) w):=by
 have h':=h;obtain ⟨ao1,cap1,ao2,cap2,ao3,cap3,rfl,g1,g2,g3,k0,k4,k5⟩:=zaE h';have HRD:=hid h;clear h h' g1 g2 g3 k0 k4 k5;have T0:=zaJ w (rwW d ao1 cap1 ao2 cap2 ao3 cap3).toArray #[.int .i64 0,.slice none 0 0] 38 32
 go_enter Tryz.func9,Tryz.ntmps9
 go_wp2_with (refine zaq 38 (.tmp 2) rfl rfl (w.heap.size) rfl (T0.b1) Tryz.underlying38 zcf rfl ?_)
 refine (zgB d nm _ hi _ (zaf.rd_below HRD.out T0.bel hhi) (Nat.le_trans hhi T0.bel.size) hsz hnm).mono ?_;rintro e w1 ⟨q,cs1,rfl,hq,o1,b1⟩;obtain ⟨ar,cr,rfl,-⟩:=zeW o1.rd;have HT1:=hid (T0.call b1);have HO1:Hid (OwnT zaR w1 (w.heap.size+2) w1.heap.size q [.int .i64 q.code,.slice ar q.recs.1 cr]):=o1.weaken (by have:=T0.b2.lt;omega) (Nat.le_refl _);have z1:w.heap.size+1<w1.heap.size:=HT1.out.b2.lt;have HQ:=hid hq;clear b1 T0 hq o1
 go_upto_region 2 with (refine zaI 69 5 (.tmp 11) _ _ 2 rfl rfl rfl rfl rfl rfl rfl rfl zoe rfl rfl HO1.out.one ?_)
 have bA:=bAl w1 (.cells #[.int .i64 q.code,.slice ar q.recs.1 cr] 69);have bx:=zas w1 #[.int .i64 q.code,.slice ar q.recs.1 cr] 69;obtain ⟨w2,hw2⟩:∃ y,y=w1.alloc (.cells #[.int .i64 q.code,.slice ar q.recs.1 cr] 69):=⟨_,rfl⟩;rw [← hw2] at bA bx ⊢;have HT2:=hid (HT1.out.call bA);have HO2:=hid (HO1.out.call bA);have z2:w1.heap.size<w2.heap.size:=bx.lt;have n_0:w2.cell? ⟨w1.heap.size,0,none⟩=some (.int .i64 q.code):=bx.cell 0;have n_1:w2.cell? ⟨w1.heap.size,1,none⟩=some (.slice ar q.recs.1 cr):=bx.cell 1;clear bA bx hw2 HT1 HO1
 rcases zog HQ.out with ⟨x,hx0,hxb,rfl,hans⟩ | ⟨hnf,l,i,hl,hiN,hlast,hlen,rfl⟩
 ·have hne:(x != 0)=true:=by simp [hx0]
  have HA:=hid hans;clear hans HQ HO2
  simp only at n_0 n_1
  go_wp2_with (refine zaV 32 _ _ rfl rfl (w.heap.size+1) rfl (cs:=[.int .i64 x,.slice none 0 0]) rfl (HT2.out.b2) zcc rfl rfl ((zbs w2 x (hxb) 0 0 (Nat.zero_le _)).one) ?_;intro w9 X9 C9 z9)
  refine zcb Tryz.results9 rfl X9 Tryz.underlying32 zcc rfl rfl ?_;have zz:=C9.size;exact ⟨⟨x,(0,fun _=>0)⟩,_,rfl,HA.out,zbs w9 x (hxb) _ _ (Nat.le_refl _),HT2.out.bel.trans (C9.bel (fun b hb=>by simp at hb;omega) HT2.out.bel.size)⟩
 obtain ⟨r,hr⟩:∃ r,r=recT d.tapes.2 2 (l.getD i 0):=⟨_,rfl⟩;have HNF:=hid hnf;have HASK:=zhV hnf;have HOK:Hid (OkWorld d):=(zhW HASK.1).ok
 have HK:Hid (zba d.shape r):=by rw [hr];exact zkS HOK.out hl hiN
 have HK1:Hid (r.kind=1):=by rw [hr];exact zi3 (x:=fun i=>recT d.tapes.2 2 (l.getD i 0)) hlast
 have HLEN:Hid (¬ r.length<0):=by rw [hr];exact hlen
 have HON:=hid HASK.2;have HANS:Hid (∀ q,RdItP d nm r q→IbAns d nm q):=fun q hq=>.inr ⟨hnf,l,hl,.inr ⟨i,hiN,hlast,.inr ⟨hlen,by show RdItP d nm (recT d.tapes.2 2 (l.getD i 0)) q;rw [← hr];exact hq⟩⟩⟩
 have HO3:Hid (OwnT zaR w2 (w.heap.size+2) w1.heap.size ⟨0,(1,fun _=>r)⟩ [.int .i64 0,.slice ar 1 cr]):=by rw [hr];exact HO2.out
 simp only at n_0 n_1
 clear HQ HO2 hr hl hiN hlast hlen hnf HASK;obtain ⟨g,ao6,cap6,ao7,cap7,ao8,cap8,rfl,hg1,hg2,rg,rdr,od⟩:=zof HO3.out;have HRR:=hid rdr;have HOD:=hid od;have zo:=zee rdr;clear rdr od HO3
 go_upto_region 5 with (first | (refine wpList_load_mid rfl 72 (.tmp 20) rfl g 0 (by simp [Act.eval,Act.put]) (rwR r ao6 cap6 ao7 cap7 ao8 cap8) _ rg Tryz.underlying72 rfl (zap rfl) ?_) | (refine zaI 72 6 (.tmp 21) _ _ 9 rfl rfl rfl rfl rfl rfl (by simp [Act.eval,Act.put]) (by simp [Act.eval,Act.put]) zcX rfl rfl zo ?_))
 have bA:=bAl w2 (.cells (rwR r ao6 cap6 ao7 cap7 ao8 cap8).toArray 72);have bx:=zas w2 (rwR r ao6 cap6 ao7 cap7 ao8 cap8).toArray 72;obtain ⟨w3,hw3⟩:∃ y,y=w2.alloc (.cells (rwR r ao6 cap6 ao7 cap7 ao8 cap8).toArray 72):=⟨_,rfl⟩;rw [← hw3] at bA bx ⊢;have HT3:=hid (HT2.out.call bA);have HOD3:=hid (HOD.out.call bA);have HRR3:Hid (zab.rd w3 w1.heap.size r (rwR r ao6 cap6 ao7 cap7 ao8 cap8)):=zab.rd_below HRR.out bA (by omega);have HI3:=hid bx;have z3:w2.heap.size<w3.heap.size:=bx.lt;have i_7:w3.cell? ⟨w2.heap.size,7,none⟩=some (.slice ao7 r.data.1 cap7):=bx.cell 7;clear bA bx hw3 HT2 HOD HRR n_0 n_1 rg zo
 by_cases hd:r.data.1=0
 case neg=>
  have HD0:=hid hd
  have t1:(0:Int)<(r.data.1:Int):=by omega
  have OO:Hid (OwnT zay w3 (w.heap.size+2) w1.heap.size ⟨0,r.data⟩ [.int .i64 0,.slice ao7 r.data.1 cap7]):=zi2 HOD3.out 0 (by decide);clear hd
  go_wp2_with (refine zaV 32 _ _ rfl rfl (w.heap.size+1) rfl (cs:=[.int .i64 0,.slice ao7 r.data.1 cap7]) rfl (HT3.out.b2) zcc rfl rfl (OO.out.one) ?_;intro w9 X9 C9 z9)
  refine zcb Tryz.results9 rfl X9 Tryz.underlying32 zcc rfl rfl ?_;have zz:=C9.size;exact ⟨⟨0,r.data⟩,_,rfl,HANS.out _ (.inl ⟨HD0.out,rfl⟩),(OO.out.chgk C9 (fun b hb=>by simp at hb;omega)).weaken (by omega) (by omega),HT3.out.bel.trans (C9.bel (fun b hb=>by simp at hb;omega) HT3.out.bel.size)⟩
 have HD0:=hid hd
 have t1:¬ (0:Int)<(r.data.1:Int):=by omega
 obtain ⟨hh1,hh2,hh3⟩:=znw HOK.out nm;have CH:=zoc HOK.out.shape HON.out w3;rw [← hh1] at CH;unfold zah at CH;obtain ⟨G,hG⟩:∃ G,G=zei d nm:=⟨_,rfl⟩;have HG:=hid hG;rw [← hG] at CH hh2 hh3;have HIN:=hid hh2;have x_0:w3.cell? ⟨w.heap.size,0,none⟩=some (.int .i64 (d.shape 0)):=HT3.out.b1.cell 0;have x_1:w3.cell? ⟨w.heap.size,1,none⟩=some (.int .i64 (d.shape 1)):=HT3.out.b1.cell 1;have x_2:w3.cell? ⟨w.heap.size,2,none⟩=some (.int .i64 (d.shape 2)):=HT3.out.b1.cell 2;have x_3:w3.cell? ⟨w.heap.size,3,none⟩=some (.int .i64 (d.shape 3)):=HT3.out.b1.cell 3;have x_4:w3.cell? ⟨w.heap.size,4,none⟩=some (.int .i64 (d.shape 4)):=HT3.out.b1.cell 4;have x_5:w3.cell? ⟨w.heap.size,5,none⟩=some (.int .i64 (d.shape 5)):=HT3.out.b1.cell 5;have x_6:w3.cell? ⟨w.heap.size,6,none⟩=some (.int .i64 (d.shape 6)):=HT3.out.b1.cell 6;have x_7:w3.cell? ⟨w.heap.size,7,none⟩=some (.int .i64 (d.shape 7)):=HT3.out.b1.cell 7;have x_8:w3.cell? ⟨w.heap.size,8,none⟩=some (.int .i64 (d.shape 8)):=HT3.out.b1.cell 8;clear hh1 hh2 hG hd HOD3;have fN:=zpx
 go_wp2_with fail
 refine CH.mono ?_;rintro e w4 ⟨rfl,b4⟩;have HT4:=hid (HT3.out.call b4);have HRR4:Hid (zab.rd w4 w1.heap.size r (rwR r ao6 cap6 ao7 cap7 ao8 cap8)):=zab.rd_below HRR3.out b4 (by omega);have HI4:=hid (HI3.out.call b4);have z4:w3.heap.size≤w4.heap.size:=b4.size;clear CH b4 HT3 HRR3 HI3 i_7 x_0 x_1 x_2 x_3 x_4 x_5 x_6 x_7 x_8
 go_wp2_with (refine zaq 38 (.tmp 2) rfl rfl (w.heap.size) rfl (HT4.out.b1) Tryz.underlying38 zcf rfl ?_)
 refine (zgz d G _ hi w4 (zaf.rd_below HRD.out HT4.out.bel hhi) (Nat.le_trans hhi HT4.out.bel.size) HOK.out.shape hh3 HIN.out).mono ?_;rintro e w5 ⟨x,rfl,hx,b5⟩;have HT5:=hid (HT4.out.call b5);have HRR5:Hid (zab.rd w5 w1.heap.size r (rwR r ao6 cap6 ao7 cap7 ao8 cap8)):=zab.rd_below HRR4.out b5 (by omega);have HI5:=hid (HI4.out.call b5);have z5:w4.heap.size≤w5.heap.size:=b5.size
 have HX:Hid (LivC d (zei d nm) x):=by rw [← HG.out];exact hx
 clear hx b5 HT4 HRR4 HI4
 by_cases hx0:x=0
 case neg=>
  have hne:(x != 0)=true:=by simp [hx0]
  go_wp2_with (refine zaV 32 _ _ rfl rfl (w.heap.size+1) rfl (cs:=[.int .i64 x,.slice none 0 0]) rfl (HT5.out.b2) zcc rfl rfl ((zbs w5 x (zg7 HX.out) 0 0 (Nat.zero_le _)).one) ?_;intro w9 X9 C9 z9)
  refine zcb Tryz.results9 rfl X9 Tryz.underlying32 zcc rfl rfl ?_;have zz:=C9.size;exact ⟨⟨x,(0,fun _=>0)⟩,_,rfl,HANS.out _ (.inr ⟨HD0.out,.inl ⟨x,hx0,HX.out,rfl⟩⟩),zbs w9 x (zg7 HX.out) _ _ (Nat.le_refl _),HT5.out.bel.trans (C9.bel (fun b hb=>by simp at hb;omega) HT5.out.bel.size)⟩
 subst hx0
 have hnd:¬ zd2 d G:=by rw [HG.out];exact (znv HX.out).2
 have CB:=zgC d G r _ (rwR r ao6 cap6 ao7 cap7 ao8 cap8) hi w1.heap.size w5 (zaf.rd_below HRD.out HT5.out.bel hhi) (Nat.le_trans hhi HT5.out.bel.size) HRR5.out (by omega) HOK.out hh3 hnd (zkm HK.out HK1.out (by have:=HLEN.out;omega) HD0.out);clear hnd
 go_wp2_with (first | (refine zaq 38 (.tmp 2) rfl rfl (w.heap.size) rfl (HT5.out.b1) Tryz.underlying38 zcf rfl ?_) | (refine zaq 72 (.tmp 6) rfl rfl (w2.heap.size) rfl (HI5.out) Tryz.underlying72 zoY rfl ?_))
 refine CB.mono ?_;rintro e w6 ⟨v6,rfl,o6,b6⟩;obtain ⟨ao9,cap9,rfl⟩:=o6.slice;have HT6:=hid (HT5.out.call b6);have z6:w5.heap.size≤w6.heap.size:=b6.size;have OO:=zhU o6 (Nat.le_refl _) (fun i=>zkY d G _ _) 0 (by decide);clear CB o6 b6 HT5
 go_wp2_with (refine zaV 32 _ _ rfl rfl (w.heap.size+1) rfl (cs:=[.int .i64 0,.slice ao9 r.length.toNat cap9]) rfl (HT6.out.b2) zcc rfl rfl (OO.one) ?_;intro w9 X9 C9 z9)
 refine zcb Tryz.results9 rfl X9 Tryz.underlying32 zcc rfl rfl ?_;have zz:=C9.size;refine ⟨⟨0,(r.length.toNat,zkl d G r)⟩,_,rfl,HANS.out _ (.inr ⟨HD0.out,.inr ⟨HX.out,?_⟩⟩),(OO.chgk C9 (fun b hb=>by simp at hb;omega)).weaken (by omega) zz,HT6.out.bel.trans (C9.bel (fun b hb=>by simp at hb;omega) HT6.out.bel.size)⟩;rw [HG.out]
theorem BldQ.lit (w:World) (lo:Nat) (hlo:lo≤w.heap.size) (n:Nat→Nat) (f:Mat) (e:Nat→Value):BldQ (w.alloc (.cells #[] 30)) lo (w.alloc (.cells #[] 30)).heap.size (.slice (some ⟨w.heap.size,0,none⟩) 0 0) 0 n f e:=by
 have h:=World.ownsRow_lit (base:=lo) (e:=30) (size:=1) w #[] 0 hlo (Nat.zero_le _) (by simp);have hz:w.heap.size≤(w.alloc (.cells #[] 30)).heap.size:=((Below.refl w.heap.size w).alloc (Nat.le_refl _) _).size;exact ⟨by simpa [zaK] using h,fun b hb=>(h.lt b hb).2,fun i hi=>by omega,fun i j hi=>by omega,by omega,Nat.le_refl _⟩
section
variable {P:Program} {ops:Array Oper} {Q:Exit→Act→World→Prop} {md:Region.Mode} {S:World→Prop} {L:Nat}
theorem zko {i:Nat} {o:Oper} {fuel:Nat} {listed:Array Bool} {a:Act} {w:World} (ho:ops[i]?=some o) (hr:Region.ready md ops listed=[i])
 (h:∀ K':Act→World→Prop,Shut (∀ a w,S w→zaS P md ops Q S L fuel (listed.setIfInBounds i true) a w→K' a w)→if Region.wanted o (yielded ops a.tmps)=true then Oper.wp P o a w K' Q else K' (a.put o.dst undef) w):zaS P md ops Q S L (fuel+1) listed a w:=by
 refine ⟨fun h0=>(by rw [hr] at h0;cases h0),fun j hj=>?_⟩;rw [hr] at hj
 obtain rfl:j=i:=by simpa using hj
 exact wpOp_step ho (fun K' hK=>h K' (fun a w hS hW=>hK a w ⟨fun _=>hS,hW⟩))
end
theorem zl8 {f:Nat} {args:Array Value} {w:World} {R:Ending→World→Prop} (h:Calls Tryz.prog f args w R):Calls Tryz.prog f (args++#[]) w R:=by simpa using h
theorem zoZ:Tryz.prog.follows Departure.mixedOrders=true:=by kernel_rfl
theorem zg8 {s:Nat→Int} {r:RecD} (hok:zam s) (h:zba s r) (hk:r.kind=1):r.data.1≤36:=by
 have hb:=okB hok
 rcases h with ⟨_,h⟩ | ⟨h,_⟩ | ⟨h,_⟩ | ⟨h,_⟩
 ·rcases h with ⟨_,h,_⟩ | ⟨_,h1,h2,⟨_,h3,_⟩ | ⟨h3,_⟩⟩
  ·omega
  ·omega
  ·omega
 ·omega
 ·omega
 ·omega
def zpA (d:WorldD) (nm:ByteArray) (w:World) (e:Ending) (w':World):Prop:=∃ q a c,e=.returned (.tuple #[.slice a q.bytes.1 c,.int .i64 q.code])∧(∃ l,Cnt (recT d.tapes.2 2) (lenT d.tapes.2 2) l∧IbP d (fun i=>recT d.tapes.2 2 (l.getD i 0)) l.length nm q)∧OwnT zay w' w.heap.size w'.heap.size q [.int .i64 q.code,.slice a q.bytes.1 c]∧Below w.heap.size w w'
set_option maxRecDepth 20000 in
theorem zkp (d:WorldD) (nm:ByteArray) (cs:List Value) (hi B:Nat) (w:World) (h:zaf.rd w hi d cs) (hhi:hi≤w.heap.size) (hB:Box w B cs.toArray 38) (hok:OkWorld d) (hon:zbM nm) :
 Calls Tryz.prog 30 #[.pointer (some ⟨B,0,none⟩),.string nm] w (zpA d nm w):=by
 have hn0:(d.tapes.2 0).recs.1≤400000:=Nat.le_trans (hok.few 0 (by have:=hok.form.2.2;omega)) (by decide);have hn1:(d.tapes.2 1).recs.1≤400000:=Nat.le_trans (hok.few 1 (by have:=hok.form.2.2;omega)) (by decide);have CC:=zhA d cs hi B w h hhi hB hok.form.2.2 hn0 hn1;have hBlt:=hB.lt;have HL7:Hid (∀ (G R:Nat) (w':World),G<d.groups.1→(R:Int)≤d.shape 4-1→Below w.heap.size w w'→Calls Tryz.prog 64 #[.pointer (some ⟨B,0,none⟩),.int .i64 (G:Int),.int .i64 (R:Int)] w' (znl d G R w')):=fun G R w' hG hR hb=>zj8 d cs hi B G R w' (zaf.rd_below h hb hhi) (Nat.le_trans hhi hb.size) (hB.below hb hBlt) hG (fun j hj=>by have h1:=((hok.form.1.2 G hG).2 j hj).1;omega) hok;have h':=h;obtain ⟨ao1,cap1,ao2,cap2,ao3,cap3,rfl,g1,g2,g3,k0,k4,k5⟩:=zaE h'
 have HG2:Hid (RdI w hi (.slice ao2 d.on.1 cap2) d.on.1 d.on.2):=by
  obtain ⟨_,e2,⟨h2,_⟩,_⟩:=g2
  cases e2
  exact h2
 have HBX:Hid (∀ w',Below w.heap.size w w'→Box w' B (rwW d ao1 cap1 ao2 cap2 ao3 cap3).toArray 38):=fun w' hb=>hB.below hb hBlt;have HOK:=hid hok;have HON:=hid hon;clear h h' g1 g2 g3 k0 k4 k5 hB hok hon
 go_enter Tryz.func30,Tryz.ntmps30
 go_wp2_with fail
 refine CC.mono ?_;rintro e w2 ⟨v2,l,ce0,lo2,rfl,hCt,hlo2,V,b2⟩;have HL:=hid hCt;have z2:w.heap.size≤w2.heap.size:=b2.size;have HB2:=hid b2
 have hlen:l.length≤1000000:=by
  have h1:=(hCt.sum (fun _=>0)).2
  have e2:lenT d.tapes.2 2=(d.tapes.2 0).recs.1+(d.tapes.2 1).recs.1:=by simp [lenT]
  omega
 have rdl:=V.rd (by omega);have CN:=ziD v2 l.length (fun i=>recT d.tapes.2 2 (l.getD i 0)) nm w2.heap.size w2 rdl (Nat.le_refl _) (by omega);clear CC b2 V;obtain ⟨ao,cap,ev,hmm,hc⟩:=rdl
 obtain rfl:v2=.slice ao l.length cap:=by simpa using ev
 have HC:=hid hc;clear hc hmm ev;obtain ⟨at_,hat⟩:∃ a,a=zdc (itm (fun i=>recT d.tapes.2 2 (l.getD i 0)) nm) l.length:=⟨_,rfl⟩;rw [← hat] at CN;obtain ⟨n,hn⟩:∃ n,n=l.length:=⟨_,rfl⟩;have HN:=hid hn;rw [← hn] at CN ⊢;clear hn
 go_wp2_with fail
 refine CN.mono ?_;rintro e w5 ⟨rfl,b5⟩;have HB5:=hid (HB2.out.trans (b5.mono z2));have z5:w2.heap.size≤w5.heap.size:=b5.size
 rcases zcl (itm (fun i=>recT d.tapes.2 2 (l.getD i 0)) nm) l.length with e | ⟨i,hiN,hi2,hi3⟩
 ·have HLA:=hid e
  obtain rfl:at_=-1:=hat.trans e;clear hat e hCt HC CN b5;go_wp2
  go_ret2
  exact ⟨⟨4,(0,fun _=>0)⟩,none,0,rfl,⟨l,HL.out,.inl ⟨HLA.out,rfl⟩⟩,zbs w5 4 (by decide) _ _ (Nat.le_refl _),HB5.out⟩
 ·have HLA:=hid hi2
  obtain rfl:at_=(i:Int):=hat.trans hi2;obtain ⟨b,off,rfl,hbh,hel⟩:=HC.out (by omega);obtain ⟨ce,hy,hcell⟩:=zaG (t:=72) hel b5 (Nat.le_refl _) hbh hiN;obtain ⟨r,hr⟩:∃ r,r=recT d.tapes.2 2 (l.getD i 0):=⟨_,rfl⟩;have HRR:=hid hr;rw [← hr] at hy
  have HK:Hid (zba d.shape r):=by rw [hr];exact zkS HOK.out hCt hiN
  have HK1:Hid (r.kind=1):=by rw [hr];exact hi3.1
  obtain ⟨ao6,cap6,ao7,cap7,ao8,cap8,rfl,r6,r7,r8,-⟩:=zaP hy;have zo:=zee hy
  have rg:w5.rangeAt b (off+i*9) (rwR r ao6 cap6 ao7 cap7 ao8 cap8):=fun j u hu=>by
   have hj:j<9:=by have:=(List.getElem?_eq_some_iff.1 hu).1;exact this
   have h:=hcell j hj;rw [show off+i*9+j=off+(i*zab.sz+j) from by show off+i*9+j=off+(i*9+j);omega,h];exact hu
  have y3:w5.cell? ⟨b,off+i*9+3,none⟩=some (.int .i64 r.length):=rg 3 _ rfl;have HIN:=hid hiN
  have i1:(0:Int)≤(i:Int):=by omega
  have i2:(i:Int)<(n:Int):=by have:=HN.out;omega
  have i3:¬ (i:Int)<0:=by omega
  have HRI:Hid (RdI w5 w2.heap.size (.slice ao6 r.rows.1 cap6) r.rows.1 r.rows.2):=by
   obtain ⟨_,e2,⟨h2,_⟩,_⟩:=r6
   cases e2
   exact h2
  have HR7:=hid r7;have HANS:Hid (∀ q,¬ r.length<0→RdItP d nm r q→∃ l,Cnt (recT d.tapes.2 2) (lenT d.tapes.2 2) l∧IbP d (fun i=>recT d.tapes.2 2 (l.getD i 0)) l.length nm q):=fun q hm hq=>⟨l,HL.out,.inr ⟨i,hiN,hi2,.inr ⟨by show ¬ (recT d.tapes.2 2 (l.getD i 0)).length<0;rw [← hr];exact hm,by show RdItP d nm (recT d.tapes.2 2 (l.getD i 0)) q;rw [← hr];exact hq⟩⟩⟩;clear hat hi2 hi3 hCt HC CN b5 hel hcell hr hiN hy r6 r7 r8
  by_cases hm:r.length<0
  ·have HM:=hid hm
   go_wp2
   go_ret2
   exact ⟨⟨4,(0,fun _=>0)⟩,none,0,rfl,⟨l,HL.out,.inr ⟨i,HIN.out,HLA.out,.inl ⟨(show (recT d.tapes.2 2 (l.getD i 0)).length<0 by rw [← HRR.out];exact HM.out),rfl⟩⟩⟩,zbs w5 4 (by decide) _ _ (Nat.le_refl _),HB5.out⟩
  ·have HM:=hid hm
   go_upto_region 6 with (first | (refine wpList_load_mid rfl 72 (.tmp 31) rfl b (off+i*9) (by simp [Act.eval,Act.put]) (rwR r ao6 cap6 ao7 cap7 ao8 cap8) _ rg Tryz.underlying72 rfl (zap rfl) ?_) | (refine zaI 72 8 (.tmp 32) _ _ 9 rfl rfl rfl rfl rfl rfl (by simp [Act.eval,Act.put]) (by simp [Act.eval,Act.put]) zcX rfl rfl zo ?_))
   have bA:=bAl w5 (.cells (rwR r ao6 cap6 ao7 cap7 ao8 cap8).toArray 72);have bx:=zas w5 (rwR r ao6 cap6 ao7 cap7 ao8 cap8).toArray 72;obtain ⟨w6,hw6⟩:∃ y,y=w5.alloc (.cells (rwR r ao6 cap6 ao7 cap7 ao8 cap8).toArray 72):=⟨_,rfl⟩;rw [← hw6] at bA bx ⊢;have HB6:Hid (Below w.heap.size w w6):=HB5.out.trans (bA.mono (by omega));have HI6:=hid bx;have HRI6:=hid (HRI.out.below bA z5);have HR76:=hid (zad.rd_below HR7.out bA z5);have z6:w5.heap.size<w6.heap.size:=bx.lt;have i_7:w6.cell? ⟨w5.heap.size,7,none⟩=some (.slice ao7 r.data.1 cap7):=bx.cell 7;clear bA bx hw6 HRI HR7 rg zo y3 HB5 hm
   by_cases hd:r.data.1=0
   case neg=>
    have HD0:=hid hd
    have t1:(0:Int)<(r.data.1:Int):=by omega
    have bL:=bAl w6 (.cells #[] 5);obtain ⟨v',wC,hrun,oC,bC⟩:=ziA 30 (w6.alloc (.cells #[] 5)) w6.heap.size (zoI w6 5) (m:=r.data.1) (f:=r.data.2) (zad.rd_below HR76.out bL (by omega)) (by have:=zg8 HOK.out.shape HK.out HK1.out;omega);obtain ⟨aC,cC,hv⟩:=zch oC;obtain rfl:=zby hv;have OO:Hid (OwnT zay wC w6.heap.size wC.heap.size ⟨0,r.data⟩ [.int .i64 0,.slice aC r.data.1 cC]):=zi2 (p:=r.data) oC 0 (by decide);have HBC:Hid (Below w.heap.size w wC):=HB6.out.trans ((bL.mono HB6.out.size).trans (bC.mono HB6.out.size));have zC:w6.heap.size≤wC.heap.size:=Nat.le_trans bL.size bC.size;have i_7':(w6.alloc (.cells #[] 5)).cell? ⟨w5.heap.size,7,none⟩=some (.slice ao7 r.data.1 cap7):=(bL.cell (p:=⟨w5.heap.size,7,none⟩) z6).trans i_7;clear hd hv oC bC bL
    go_wp2_with (at_builtin;refine zez rfl (.tmp 37) (.tmp 39) rfl (by simp [Act.eval]) (by simp [Act.eval]) hrun ?_)
    go_ret2
    exact ⟨⟨0,r.data⟩,aC,cC,rfl,HANS.out _ (by have:=HM.out;omega) (.inl ⟨HD0.out,rfl⟩),OO.out.weaken HB6.out.size (Nat.le_refl _),HBC.out⟩
   have HD0:=hid hd
   have t1:¬ (0:Int)<(r.data.1:Int):=by omega
   obtain ⟨hh1,hh2,hh3⟩:=znw HOK.out nm;have CH:=zjD d.shape nm HON.out.2.1 (okB HOK.out.shape).1 (by have:=okB HOK.out.shape;omega) w6;rw [show (zbv nm nm.size:Int)%d.shape 0=((zei d nm:Nat):Int) from hh1.symm] at CH;unfold zah at CH;obtain ⟨G,hG⟩:∃ G,G=zei d nm:=⟨_,rfl⟩;have HG:=hid hG;rw [← hG] at CH hh3;have x_0:w6.cell? ⟨B,0,none⟩=some (.int .i64 (d.shape 0)):=(HBX.out w6 HB6.out).cell 0;have x_1:w6.cell? ⟨B,1,none⟩=some (.int .i64 (d.shape 1)):=(HBX.out w6 HB6.out).cell 1;have x_2:w6.cell? ⟨B,2,none⟩=some (.int .i64 (d.shape 2)):=(HBX.out w6 HB6.out).cell 2;have x_3:w6.cell? ⟨B,3,none⟩=some (.int .i64 (d.shape 3)):=(HBX.out w6 HB6.out).cell 3;have x_4:w6.cell? ⟨B,4,none⟩=some (.int .i64 (d.shape 4)):=(HBX.out w6 HB6.out).cell 4;have x_5:w6.cell? ⟨B,5,none⟩=some (.int .i64 (d.shape 5)):=(HBX.out w6 HB6.out).cell 5;have x_6:w6.cell? ⟨B,6,none⟩=some (.int .i64 (d.shape 6)):=(HBX.out w6 HB6.out).cell 6;have x_7:w6.cell? ⟨B,7,none⟩=some (.int .i64 (d.shape 7)):=(HBX.out w6 HB6.out).cell 7;have x_8:w6.cell? ⟨B,8,none⟩=some (.int .i64 (d.shape 8)):=(HBX.out w6 HB6.out).cell 8;clear hh1 hh2 hG hd HR76
   go_wp2_with fail
   refine CH.mono ?_;rintro e w7 ⟨rfl,b7⟩;have H67:=hid b7;have HB7:=hid (HB6.out.trans (b7.mono HB6.out.size));have z7:w6.heap.size≤w7.heap.size:=b7.size;obtain ⟨t3,ht3⟩:=exB (HasP d.on.1 d.on.2 (G:Int));have CO:=zbG (zir _ d.on.1 d.on.2 hi G w7 (HG2.out.below HB7.out hhi)) ht3;have H3:=hid ht3;have x10:w7.cell? ⟨B,10,none⟩=some (.slice ao2 d.on.1 cap2):=(HBX.out w7 HB7.out).cell 10;clear CH b7 ht3 i_7 x_0 x_1 x_2 x_3 x_4 x_5 x_6 x_7 x_8
   go_wp2_with fail
   refine CO.mono ?_;rintro e w8 ⟨rfl,b8⟩;have H68:=hid (H67.out.trans (b8.mono z7));have HB8:=hid (HB7.out.trans (b8.mono HB7.out.size));have z8:w7.heap.size≤w8.heap.size:=b8.size;clear CO b8 x10 H67 HB7
   cases t3 with
   | false=>
    have HNO:Hid (LivC d (zei d nm) 8):=.inl ⟨fun h=>(by rw [← HG.out] at h;have:=H3.out.2 h;simp at this),rfl⟩;go_wp2
    go_ret2
    exact ⟨⟨8,(0,fun _=>0)⟩,none,0,rfl,HANS.out _ (by have:=HM.out;omega) (.inr ⟨HD0.out,.inl ⟨8,by decide,HNO.out,rfl⟩⟩),zbs w8 8 (by decide) _ _ (Nat.le_refl _),HB8.out⟩
   | true=>
   have HON3:Hid (HasP d.on.1 d.on.2 (G:Int)):=H3.out.1 (by simp);have HINR:Hid (InRows d.shape r):=zkm HK.out HK1.out (by have:=HM.out;omega) HD0.out;have hfew:=HINR.out.few HOK.out.shape;obtain ⟨D,hD⟩:∃ D,D=4*(d.shape 2).toNat:=⟨_,rfl⟩;have HD:=hid hD;obtain ⟨nR,hnR⟩:∃ n,n=r.rows.1:=⟨_,rfl⟩;have HNR:=hid hnR
   have hnr:nR≤3∧1≤nR:=by rw [hnR];exact ⟨hfew.2,hfew.1⟩
   obtain ⟨_,_,e9,hm9,hc9⟩:=HRI6.out
   cases e9
   obtain ⟨b6,off6,rfl,hb6,hcell6⟩:=hc9 (by omega);have HC6:=hid hcell6;clear hD hnR hfew hm9 hc9 hcell6 H3 HRI6;have BQ0:BldQ (w8.alloc (.cells #[] 30)) w6.heap.size (w8.alloc (.cells #[] 30)).heap.size (.slice (some ⟨w8.heap.size,0,none⟩) 0 0) 0 (fun _=>D) (fun k=>rowB d G (r.rows.2 k).toNat) (fun _=>nilS):=BldQ.lit w8 _ (by omega) _ _ _;have B69:Below w6.heap.size w6 (w8.alloc (.cells #[] 30)):=H68.out.trans ((Below.refl _ _).alloc (by omega) _)
   go_upto_region 12 with fail
   obtain ⟨w9,hw9⟩:∃ y,y=w8.alloc (.cells #[] 30):=⟨_,rfl⟩;rw [← hw9] at BQ0 B69 ⊢;have HQ0:=hid BQ0;have H69:=hid B69;clear hw9 BQ0 B69 HB8 H68;go_wp2
   go_loopw [10,11] (fun v i wr=>∃ (k:Nat) (e:Nat→Value),k≤nR∧i=.int .i64 k∧(k≠0→¬ zd2 d G)∧BldQ wr w6.heap.size wr.heap.size v k (fun _=>D) (fun k=>rowB d G (r.rows.2 k).toNat) e∧Below w6.heap.size w6 wr) (fun _ i _=>nR-(intOf i).toNat)
   case atStart=>exact ⟨0,fun _=>nilS,Nat.zero_le _,rfl,fun h=>absurd rfl h,HQ0.out,H69.out⟩
   case round=>
    clear HQ0 H69;obtain ⟨k,ee,hk,rfl,hkd,hQ,b6r⟩:=hrel;obtain ⟨wx,rfl⟩:∃ y,y=wr:=⟨_,rfl⟩;have H6:=hid b6r;have HBW:=hid (HB6.out.trans (b6r.mono HB6.out.size));have zx:w6.heap.size≤wx.heap.size:=b6r.size;have HQ:=hid hQ;have HKD:=hid hkd;have HIX:=hid (HI6.out.below b6r z6)
    have i_6:wx.cell? ⟨w5.heap.size,6,none⟩=some (.slice (some ⟨b6,off6,none⟩) nR cap6):=by rw [HNR.out];exact HIX.out.cell 6
    clear hQ hkd
    by_cases hlt:k<nR
    ·have t2:(k:Int)<(nR:Int):=by omega
     have hkr:k<r.rows.1:=by rw [← HNR.out];exact hlt
     have hA:=(HINR.out.apart k hkr).1;obtain ⟨R,hR⟩:∃ R:Nat,r.rows.2 k=(R:Int):=⟨(r.rows.2 k).toNat,by have:=hA.1;omega⟩
     have hRs:(R:Int)≤d.shape 4-1:=by rw [← hR];exact hA.2
     have ck:wx.cell? ⟨b6,off6+k,none⟩=some (.int .i64 (R:Int)):=(b6r.cell (p:=⟨b6,off6+k,none⟩) (by show b6<_;omega)).trans (by rw [← hR];exact HC6.out k hkr);have CB:=HL7.out G R wx hh3 hRs HBW.out
     have HRR2:Hid ((r.rows.2 k).toNat=R):=by show (r.rows.2 k).toNat=R;rw [hR];rfl
     have k1:(0:Int)≤(k:Int):=by omega
     clear b6r hA hR hRs
     go_wp2_with fail
     refine CB.mono ?_;rintro e w10 ⟨vb,tb,rfl,htb,ob,b10⟩;have HTB:=hid htb;have z10:wx.heap.size≤w10.heap.size:=b10.size;have HB10:=hid (HBW.out.trans (b10.mono HBW.out.size));have H610:=hid (H6.out.trans (b10.mono zx));have HO:=hid ob;have HQ5:Hid (BldQ w10 w6.heap.size wx.heap.size u10 k (fun _=>D) (fun k=>rowB d G (r.rows.2 k).toNat) ee):=HQ.out.kept (fun b h1 h2=>b10.block b h2) z10;clear CB htb ob b10 HQ ck i_6 HIX
     cases tb with
     | false=>
      have HDK:Hid (LivC d (zei d nm) 10):=by
       have hdd:zd2 d G:=Classical.byContradiction fun h=>absurd (HTB.out.2 h) (by simp);exact .inr ⟨by rw [← HG.out];exact HON3.out,.inl ⟨by rw [← HG.out];exact hdd,rfl⟩⟩
      go_wp2
      go_ret2
      exact ⟨⟨10,(0,fun _=>0)⟩,none,0,rfl,HANS.out _ (by have:=HM.out;omega) (.inr ⟨HD0.out,.inl ⟨10,by decide,HDK.out,rfl⟩⟩),zbs w10 10 (by decide) _ _ (Nat.le_refl _),HB10.out⟩
     | true=>
      have HNK:Hid (¬ zd2 d G):=HTB.out.1 (by simp)
      have HO5:Hid (Own w10 wx.heap.size w10.heap.size vb D (rowB d G (r.rows.2 k).toNat)):=by show Own w10 wx.heap.size w10.heap.size vb D (rowB d G (r.rows.2 k).toNat);rw [HD.out,HRR2.out];have:=HO.out;simpa using this
      obtain ⟨aob,capb,hvb⟩:=HO5.out.slice;subst hvb;clear HO HTB
      go_wp2_with (at_builtin;refine zfg rfl (.tmp 75) (.tmp 77) rfl w6.heap.size u10 k ee ?_ ?_ w10.heap.size 1 (.slice aob D capb) ?_ ?_ rfl (by omega) ?_ ?_;(simp [Act.eval]);exact HQ5.out.row.alloc _;(simp [Act.eval]);simp;(simp;omega);intro v7 w11 hr7 hg7 hn7)
      have HQ7:Hid (BldQ w11 w6.heap.size w11.heap.size v7 (k+1) (fun _=>D) (fun k=>rowB d G (r.rows.2 k).toNat) _):=HQ5.out.next HO5.out (Nat.le_refl _) (fun _ _=>rfl) (fun _ _=>rfl) hr7 hg7 hn7;have b11:Below w6.heap.size w10 w11:=((Below.refl w6.heap.size w10).alloc (by omega) _).trans ((Below.refl _ _).grown hg7 (by simp;omega) (fun b hb=>(HQ5.out.row.lt b hb).1));have H611:=hid (H610.out.trans b11);clear hr7 hg7 hn7 b11 HQ5 HO5 HB10 H610;go_wp2
      go_roundw
      case rel=>exact ⟨k+1,_,by omega,by go_num,fun _=>HNK.out,HQ7.out,H611.out⟩
      case measure=>simp [intOf];omega
    ·obtain rfl:k=nR:=by omega
     obtain ⟨hrd,aF,cF,hvF,hcF⟩:=HQ.out.rd (by omega);subst hvF;have HLV:Hid (LivC d (zei d nm) 0):=.inr ⟨by rw [← HG.out];exact HON3.out,.inr ⟨by rw [← HG.out];exact HKD.out (by omega),rfl⟩⟩;obtain ⟨Lr,hLr⟩:∃ Lr:Nat,r.length=(Lr:Int):=⟨r.length.toNat,by have:=HINR.out.len;omega⟩;have HLR:=hid hLr
     have hD12:1≤D∧D≤100:=by have:=okB HOK.out.shape;rw [HD.out];omega
     have hLD:Lr≤D*k∧1≤Lr:=by
      have h1:=HINR.out.count;have h2:=HINR.out.len;have hb:=okB HOK.out.shape
      have c:(D:Int)=d.shape 2*4:=by rw [HD.out];omega
      rw [← HNR.out,← c,hLr] at h1;rw [hLr] at h2;have h3:=Int.mul_ediv_add_emod ((Lr:Int)+D-1) D;have h4:=Int.emod_lt_of_pos ((Lr:Int)+D-1) (show (0:Int)<D by omega);rw [← h1] at h3
      have h5:((D*k:Nat):Int)=(D:Int)*(k:Int):=by simp
      omega
     have i_3:wx.cell? ⟨w5.heap.size,3,none⟩=some (.int .i64 (Lr:Int)):=by rw [← hLr];exact HIX.out.cell 3
     obtain ⟨Dx,hDx⟩:∃ y,y=wx.drew:=⟨_,rfl⟩;have HDX:=hid hDx
     have bD:Below wx.heap.size wx Dx:=by rw [hDx];exact ⟨rfl,rfl,rfl,Nat.le_refl _,fun _ _=>rfl⟩
     have HBD:=hid (HBW.out.trans (bD.mono HBW.out.size));have zD:wx.heap.size≤Dx.heap.size:=bD.size;have CJ:=zkk (.slice aF k cF) k D (fun _=>D) (fun k=>rowB d G (r.rows.2 k).toNat) wx.heap.size Dx (hrd.below bD (Nat.le_refl _)) zD (by omega) hD12.1 hD12.2 (fun _ _=>rfl);have HS:Hid (∀ w',Below wx.heap.size wx w'→w'.cell? ⟨w5.heap.size,3,none⟩=some (.int .i64 (Lr:Int))):=fun w' hb=>(hb.cell (p:=⟨w5.heap.size,3,none⟩) (by show w5.heap.size<_;omega)).trans i_3;have HBDx:=hid bD
     have t2:¬ (k:Int)<(k:Int):=by omega
     clear b6r hlt hrd bD hLr hDx
     go_upto_region 19 with fail
     refine zaz 4 (fun w'=>w'.cell? ⟨w5.heap.size,3,none⟩=some (.int .i64 (Lr:Int))) zoZ (by rw [← HDX.out];exact HS.out _ HBDx.out) (fun hHeld=>?_);rw [← HDX.out] at hHeld ⊢;refine zpi 0 rfl ?_
     try simp only [Act.put,SL]
     refine zpi 2 rfl ?_
     try simp only [Act.put,SL]
     refine zpj 3 rfl ?_
     try simp only [Act.put,SL]
     refine zko (i:=1) (o:=_) rfl (by kernel_rfl) (fun KC hKC=>?_);refine zbn (by kernel_rfl) (.func 65) 65 #[] _ _ rfl (by simp [Act.eval,Act.put]) #[.slice aF k cF] (by simp [Act.eval,Act.put]) Tryz.func65 (by kernel_rfl) (by kernel_rfl) (zl8 (CJ)) ?_;rintro e w12 ⟨v12,rfl,o12,b12⟩;refine ⟨_,rfl,?_⟩;have b12x:Below wx.heap.size wx w12:=HBDx.out.trans (b12.mono zD);have hHeld2:=HS.out w12 b12x
     have hk0:D*k≠0:=by omega
     obtain ⟨g6,c12,hg6,q1,q2,q3,q4⟩:=o12.form hk0;subst hg6;refine hKC _ _ hHeld2 ?_;clear hKC KC
     try simp only [Act.put,SL]
     have hLc:(Lr:Int)≤(c12:Int):=by have:=hLD.1;omega
     have hL0:Lr≠0:=by omega
     have HO12:=hid (o12.cut hLD.1);have HB12:=hid (HBD.out.trans (b12.mono HBD.out.size));have zz1:=HBD.out.size;obtain ⟨Tk,hT⟩:∃ T,T=D*k:=⟨_,rfl⟩;rw [← hT];clear o12 b12 b12x CJ;refine zaw (i:=4) (o:=_) rfl (by kernel_rfl) (by kernel_rfl) (fun KC hKC=>?_);go_simp;refine hKC _ _ ?_;clear hKC KC
     try simp only [Act.put,SL]
     refine zo0 5 (v:=?_) rfl ?_ ?_
     rotate_left
     ·intro w' hSw;go_simp;try with_reducible rfl
     try simp only [Act.put,SL]
     refine zo0 6 (v:=?_) rfl ?_ ?_
     rotate_left
     ·intro w' hSw;go_simp;try with_reducible rfl
     try simp only [Act.put,SL]
     refine zat (by kernel_rfl) ?_ _;go_wp2
     go_ret2
     have OO:=zhU HO12.out (Nat.le_refl _) (fun i=>zkY d G _ _) 0 (by decide);refine ⟨⟨0,(Lr,zfq D (fun k=>rowB d G (r.rows.2 k).toNat))⟩,some ⟨g6,0,none⟩,c12,rfl,HANS.out _ (by have:=HM.out;omega) (.inr ⟨HD0.out,.inr ⟨HLV.out,?_⟩⟩),OO.weaken zz1 (Nat.le_refl _),HB12.out⟩;rw [HLR.out,← HG.out];unfold zkl;rw [HD.out];rfl
set_option maxRecDepth 20000 in
theorem zl9 (d:WorldD) (nm:ByteArray) (cs:List Value) (hi:Nat) (w:World) (h:zaf.rd w hi d cs) (hhi:hi≤w.heap.size) (hsz:za6 d≤1048576) (hnm:nm.size≤1048576) :
 Calls Tryz.prog 7 #[.agg cs.toArray,.string nm] w (zoU (IbAns d nm) w):=by
 have h':=h;obtain ⟨ao1,cap1,ao2,cap2,ao3,cap3,rfl,g1,g2,g3,k0,k4,k5⟩:=zaE h';have HRD:=hid h;clear h h' g1 g2 g3 k0 k4 k5;have T0:=zaJ w (rwW d ao1 cap1 ao2 cap2 ao3 cap3).toArray #[.int .i64 0,.slice none 0 0] 38 32
 go_enter Tryz.func7,Tryz.ntmps7
 go_wp2_with (refine zaq 38 (.tmp 2) rfl rfl (w.heap.size) rfl (T0.b1) Tryz.underlying38 zcf rfl ?_)
 refine (zj9 d _ hi _ (zaf.rd_below HRD.out T0.bel hhi) (Nat.le_trans hhi T0.bel.size) hsz).mono ?_;rintro e w1 ⟨x,rfl,hx,b1⟩;have HT1:=hid (T0.call b1);have HX:=hid hx;have z1:w.heap.size+1<w1.heap.size:=HT1.out.b2.lt;clear b1 T0 hx
 by_cases hx0:x=0
 case neg=>
  have hne:(x != 0)=true:=by simp [hx0]
  have HC:Hid (NfC d nm x):=.inl ⟨hx0,HX.out⟩
  go_wp2_with (refine zaV 32 _ _ rfl rfl (w.heap.size+1) rfl (cs:=[.int .i64 x,.slice none 0 0]) rfl (HT1.out.b2) zcc rfl rfl ((zbs w1 x (zdx HC.out) 0 0 (Nat.zero_le _)).one) ?_;intro w9 X9 C9 z9)
  refine zcb Tryz.results7 rfl X9 Tryz.underlying32 zcc rfl rfl ?_;have zz:=C9.size;exact ⟨⟨x,(0,fun _=>0)⟩,_,rfl,.inl ⟨x,hx0,HC.out,rfl⟩,zbs w9 x (zdx HC.out) _ _ (Nat.le_refl _),HT1.out.bel.trans (C9.bel (fun b hb=>by simp at hb;omega) HT1.out.bel.size)⟩
 subst hx0
 go_wp2_with fail
 refine (zfu nm hnm w1).mono ?_;rintro e w2 ⟨x,rfl,hx,rfl⟩;have HC:Hid (NfC d nm x):=.inr ⟨HX.out,hx⟩;clear hx
 by_cases hx0:x=0
 case neg=>
  have hne:(x != 0)=true:=by simp [hx0]
  go_wp2_with (refine zaV 32 _ _ rfl rfl (w.heap.size+1) rfl (cs:=[.int .i64 x,.slice none 0 0]) rfl (HT1.out.b2) zcc rfl rfl ((zbs w2 x (zdx HC.out) 0 0 (Nat.zero_le _)).one) ?_;intro w9 X9 C9 z9)
  refine zcb Tryz.results7 rfl X9 Tryz.underlying32 zcc rfl rfl ?_;have zz:=C9.size;exact ⟨⟨x,(0,fun _=>0)⟩,_,rfl,.inl ⟨x,hx0,HC.out,rfl⟩,zbs w9 x (zdx HC.out) _ _ (Nat.le_refl _),HT1.out.bel.trans (C9.bel (fun b hb=>by simp at hb;omega) HT1.out.bel.size)⟩
 subst hx0;have CL:=zkp d nm _ hi w.heap.size w2 (zaf.rd_below HRD.out HT1.out.bel hhi) (Nat.le_trans hhi HT1.out.bel.size) HT1.out.b1 (zhW HX.out).ok (zhV HC.out).2
 go_wp2_with fail
 refine CL.mono ?_;rintro e w3 ⟨q,a3,c3,rfl,hq,o3,b3⟩;have HT3:=hid (HT1.out.call b3);have HO:=hid o3;have HQ:=hid hq;have z3:w2.heap.size≤w3.heap.size:=b3.size;clear CL hq o3 b3 HT1
 go_wp2_with (refine zaV 32 _ _ rfl rfl (w.heap.size+1) rfl (cs:=[.int .i64 q.code,.slice a3 q.bytes.1 c3]) rfl (HT3.out.b2) zcc rfl rfl (HO.out.one) ?_;intro w9 X9 C9 z9)
 refine zcb Tryz.results7 rfl X9 Tryz.underlying32 zcc rfl rfl ?_;have zz:=C9.size;exact ⟨q,_,rfl,.inr ⟨HC.out,HQ.out⟩,(HO.out.chgk C9 (fun b hb=>by simp at hb;omega)).weaken (by omega) zz,HT3.out.bel.trans (C9.bel (fun b hb=>by simp at hb;omega) HT3.out.bel.size)⟩
theorem zpB (d:WorldD):∃ x,AskAns d x:=by
 obtain ⟨x,hx⟩:=znG d
 by_cases h:x=0
 ·subst h
  cases hd:d.down with
  | true=>exact ⟨9,.inr ⟨hx,.inl ⟨hd,rfl⟩⟩⟩
  | false=>exact ⟨0,.inr ⟨hx,.inr ⟨hd,rfl⟩⟩⟩
 ·exact ⟨x,.inl ⟨h,hx⟩⟩
end Go.Proofs.YtclclojenogpbaaGreat
namespace Go.Proofs.YtclclojenogpbaaGreat
open Go.RowKit
section
variable {ops:Array Oper} {Q:Exit→Act→World→Prop} {md:Region.Mode} {S:World→Prop} {L:Nat}
theorem zg9 {o:Oper} {a:Act} (T:TypeId) (x:Operand) (ho:o.op=.load T x) (hg:o.guard=none) (b:Nat) (hx:a.eval x=.pointer (some ⟨b,0,none⟩)) {cs:List Value} (hB:∀ w,S w→Box w b cs.toArray T) {fs:Array Field} (hu:Tryz.prog.underlying T=some (.struct fs)) {n:Nat} (hi:(Tryz.prog.info? T).map (·.size)=some n) (hl:cs.length=n):YieldsIf Tryz.prog ops S o (.agg cs.toArray) a:=by
 refine .inl ⟨by simp [Region.wanted,hg],fun w hS=>?_⟩;unfold execOp
 simp only [ho,hx,Instr.loadAt,Instr.sureAddr,Sem.run_bind,Sem.run_pure,Result.andThen_ok,run_loadVar_row w b T T cs.toArray (0,0) (.struct fs) (hB w hS) hu rfl (by rw [hi];simp [hl])]
end
theorem zma (w:World):Below w.heap.size w w.drew:=⟨rfl,rfl,rfl,Nat.le_refl _,fun _ _=>rfl⟩
end Go.Proofs.YtclclojenogpbaaGreat
namespace Go.Proofs.YtclclojenogpbaaGreat
open Go.RowKit F256
set_option maxRecDepth 20000 in
theorem zfJ:EqV zay 10:=fun c1 c2 d h1 h2 w r1 r2 u1 u2=>by
 obtain ⟨ao1,cap1,rfl,g1,-⟩:=zcq r1;obtain ⟨bao1,bcap1,rfl,q1,-⟩:=zcq r2;clear r1 r2;have G1:=hid g1;have E1:=hid q1;clear g1 q1
 go_enter Tryz.func10,Tryz.ntmps10
 go_wp2_with fail
 have T0:=zaJ w #[.int .i64 d.code,.slice ao1 d.bytes.1 cap1] #[.int .i64 d.code,.slice bao1 d.bytes.1 bcap1] 32 32;refine (zd7 _ _ d.bytes h1 h2 _ (zad.rd_below G1.out T0.bel u1) (zad.rd_below E1.out T0.bel u2) (Nat.le_trans u1 T0.bel.size) (Nat.le_trans u2 T0.bel.size)).mono ?_;rintro e w1 ⟨rfl,b1⟩;have T1:Two w w1 #[.int .i64 d.code,.slice ao1 d.bytes.1 cap1] #[.int .i64 d.code,.slice bao1 d.bytes.1 bcap1] 32 32:=T0.call b1;clear T0 b1;have B:=hid T1.bel;clear T1;go_wp2;go_ret;exact ⟨rfl,B.out⟩
theorem ze3:MkV zay zbk zb7 13:=fun cs d L j w h nd hj=>by
 obtain ⟨ao1,cap1,K1,rfl,hLL,o1,k0⟩:=zgo h;clear h;have hLM:=hLL.symm;subst hLM;unfold zbk at hj ⊢;have Z1:=zad.own_lt o1;have bz:=bAl w (.cells #[.int .i64 d.code,.slice ao1 d.bytes.1 cap1] 32);have B0:Hid (Box (w.alloc (.cells #[.int .i64 d.code,.slice ao1 d.bytes.1 cap1] 32)) w.heap.size #[.int .i64 d.code,.slice ao1 d.bytes.1 cap1] 32):=zas _ _ _;have CH0:Hid (ChgL (K1) w (w.alloc (.cells #[.int .i64 d.code,.slice ao1 d.bytes.1 cap1] 32))):=ChgL.of_below bz;have O0_1:Hid (zad.own (w.alloc (.cells #[.int .i64 d.code,.slice ao1 d.bytes.1 cap1] 32)) d.bytes [.slice ao1 d.bytes.1 cap1] K1):=zad.own_kept o1 (fun b hb=>bz.block b (Z1 b hb));clear bz o1
 go_enter Tryz.func13,Tryz.ntmps13
 go_wp2_with fail
 refine (zc0 _ d.bytes K1 (j) _ O0_1.out nd (by omega)).mono ?_;rintro e w1 ⟨rfl,p1,q1⟩;have O1_1:=hid p1;have B1:Hid (Box w1 w.heap.size #[.int .i64 d.code,.slice ao1 d.bytes.1 cap1] 32):=(q1.block w.heap.size B0.out.lt (fun hb=>by have:=Z1 _ hb;omega)).trans B0.out;have CH1:Hid (ChgL (K1) w w1):=CH0.out.sub q1 (fun b hb=>hb);clear p1 q1;go_wp2;go_ret;exact ⟨zcF (by omega),zc5 (zb7 j d) O1_1.out k0,CH1.out⟩
theorem ze4:HdV zay zbk zb7 14:=fun cs d hi j w h hhi hj=>by
 obtain ⟨ao1,cap1,rfl,r1,-⟩:=zcq h;clear h;unfold zbk at hj ⊢;have R1:=hid r1;clear r1
 change Calls Tryz.prog 14 #[.agg #[.int .i64 d.code,.slice ao1 d.bytes.1 cap1],.int .i64 j] w _
 go_enter Tryz.func14,Tryz.ntmps14
 go_wp2_with fail
 have T0:=zaD w #[.int .i64 d.code,.slice ao1 d.bytes.1 cap1] 32;refine (zh6 _ d.bytes hi (j) _ (zad.rd_below R1.out T0.bel hhi) (Nat.le_trans hhi T0.bel.size) (by omega)).mono ?_;rintro e w1 ⟨rfl,b1⟩;have T1:One w w1 #[.int .i64 d.code,.slice ao1 d.bytes.1 cap1] 32:=T0.call b1
 have hz1:¬ (((j+lenD d.bytes:Nat):Int)<0):=by omega
 have HB:=hid T1.bel;clear b1 T1;go_wp2;go_ret;exact ⟨zcF (by omega),HB.out⟩
end Go.Proofs.YtclclojenogpbaaGreat
namespace Go.Proofs.YtclclojenogpbaaGreat
open Go.ChangeShapes Go.WideShapes Go.ChangeAt Go.RowKit F256
theorem zcD {w:World} {hi:Nat} {d:BytesResultD} {cs:List Value} (h:zay.rd w hi d cs):∃ v0 vp vl vq,cs=[.int .i64 v0,.slice vp vl vq]:=by
 obtain ⟨p1,pc1,rfl,-⟩:=zcq h;exact ⟨_,_,_,_,rfl⟩
theorem zcE:(Tryz.prog.info? 32).map (fun i=>(i.zero.map (·.cells),i.size))=some (some #[.int .i64 0,.slice none 0 0],2):=by kernel_rfl
theorem ib_ex (d:WorldD) (nm:ByteArray):∃ q,IbAns d nm q:=by
 obtain ⟨x,hx⟩:=zpB d
 by_cases h:x=0
 ·subst h
  by_cases hn:zbM nm
  ·obtain ⟨l,hl⟩:=zop (recT d.tapes.2 2) (lenT d.tapes.2 2)
   obtain ⟨q,hq⟩:=zpy d (fun i=>recT d.tapes.2 2 (l.getD i 0)) l.length nm;exact ⟨q,.inr ⟨.inr ⟨hx,.inr ⟨rfl,hn⟩⟩,l,hl,hq⟩⟩
  ·exact ⟨_,.inl ⟨5,by decide,.inr ⟨hx,.inl ⟨rfl,hn⟩⟩,rfl⟩⟩
 ·exact ⟨_,.inl ⟨x,h,.inl ⟨h,hx⟩,rfl⟩⟩
theorem ib_cv {d:WorldD} {nm:ByteArray} {q:BytesResultD} (hq:IbAns d nm q) (hsz:za6 d≤1048576):zbk q≤90000000:=by
 rcases hq with ⟨x,_,_,rfl⟩ | ⟨h0,l,hl,hp⟩
 ·exact Nat.zero_le _
 ·have hok:=(zhW (zhV h0).1).ok
  rcases hp with ⟨_,rfl⟩ | ⟨i,hi,hlast,h⟩
  ·exact Nat.zero_le _
  ·have hk:=zkS hok hl hi
   have hk1:(recT d.tapes.2 2 (l.getD i 0)).kind=1:=zi3 (x:=fun i=>recT d.tapes.2 2 (l.getD i 0)) hlast
   rcases h with ⟨_,rfl⟩ | ⟨hm,h⟩
   ·exact Nat.zero_le _
   ·rcases h with ⟨_,rfl⟩ | ⟨hd,⟨y,_,_,rfl⟩ | ⟨_,rfl⟩⟩
    ·have h1:=zg8 hok.shape hk hk1
     show (recT d.tapes.2 2 (l.getD i 0)).data.1≤_
     omega
    ·exact Nat.zero_le _
    ·have h1:=(zkm hk hk1 hm hd).most
     have h2:=okB hok.shape
     show (recT d.tapes.2 2 (l.getD i 0)).length.toNat≤_
     omega
theorem zot {d:WorldD} {nm:ByteArray} {q:BytesResultD} {w:World} {f:Nat} {args:Array Value} (hq:IbAns d nm q) (h:Calls Tryz.prog f args w (zoU (IbAns d nm) w)):Calls Tryz.prog f args w fun e w'=>∃ cs,e=.returned (.agg cs.toArray)∧OwnT zay w' w.heap.size w'.heap.size q cs∧Below w.heap.size w w':=
 h.mono fun e w' ⟨d',cs,h1,h2,h3,h4⟩=>⟨cs,h1,by rw [hq.one h2];exact h3,h4⟩
theorem zeD:(Tryz.prog.info? 32).map (·.size)=some 2:=by kernel_rfl
set_option maxRecDepth 20000 in
theorem zd3 (d:WorldD) (cs:List Value) (i0:ByteArray) (w:World) (rd0:zaf.rd w w.heap.size d cs) (hi0:i0.size≤maxLen) :
 Calls Tryz.prog 3 #[.agg cs.toArray,.string i0] w fun e w'=>e=.returned (.bool true)∧Below w.heap.size w w':=by
 obtain ⟨v0,v1,v2,v3,v4,v5,v6,v7,v8,vp0,vl0,vq0,vp1,vl1,vq1,vp2,vl2,vq2,v9,v10,vb,rfl⟩:=zm6 rd0;have HR:=hid rd0;clear rd0;unfold maxLen at hi0;have T0:=zaD w (rwV v0 v1 v2 v3 v4 v5 v6 v7 v8 vp0 vl0 vq0 vp1 vl1 vq1 vp2 vl2 vq2 v9 v10 vb).toArray 28
 by_cases hbig:1048576<i0.size
 ·have hb1:(1048576:Int)<(i0.size:Int):=by omega
  have HB0:=hid T0.bel;clear T0 hbig
  go_enter Tryz.func3,Tryz.ntmps3
  go_wp2;go_ret;exact ⟨rfl,HB0.out⟩
 have hb1:¬ (1048576:Int)<(i0.size:Int):=by omega
 have HHi0:Hid (i0.size≤1048576):=(by omega:i0.size≤1048576);clear hbig hi0
 go_enter Tryz.func3,Tryz.ntmps3
 go_wp2_with (refine zaq 28 (.tmp 2) rfl rfl (w.heap.size) rfl T0.b1 Tryz.underlying28 zf9 rfl ?_)
 refine (zl5 _ d w.heap.size 1048576 _ (zaf.rd_below HR.out T0.bel (Nat.le_refl _)) T0.bel.size (by omega)).mono ?_;rintro e w1 ⟨x,rfl,hx,b1⟩;have T1:=T0.call b1;have HT1:=hid T1;clear b1 T0
 rcases hx with rfl | ⟨hsz,hx⟩
 ·clear T1
  go_wp2;go_ret;exact ⟨rfl,HT1.out.bel⟩
 have hx0:¬ x<0:=by omega
 clear hx;obtain ⟨q,hq⟩:=ib_ex d i0;obtain ⟨N,hN⟩:∃ N,N=1+zbk q:=⟨_,rfl⟩
 have hj:1+zbk q≤100000000:=by have:=ib_cv hq hsz;omega
 obtain ⟨M,hM⟩:∃ M,M=1+zd8 d:=⟨_,rfl⟩
 have hk:1+zd8 d≤100000000:=by have:=zlm d;omega
 have CT:∀ w',Below w1.heap.size w1 w'→Calls Tryz.prog 8 #[.agg (rwV v0 v1 v2 v3 v4 v5 v6 v7 v8 vp0 vl0 vq0 vp1 vl1 vq1 vp2 vl2 vq2 v9 v10 vb).toArray] w' fun e w''=>∃ cs',e=.returned (.agg cs'.toArray)∧OwnT zaf w'' w'.heap.size w''.heap.size d cs'∧Below w'.heap.size w' w'':=fun w' hb=>
  zlX _ d w.heap.size w' (zaf.rd_below (zaf.rd_below HR.out HT1.out.bel (Nat.le_refl _)) hb HT1.out.bel.size) (Nat.le_trans HT1.out.bel.size hb.size) hsz
 have CS:=fun (cs':List Value) (hi:Nat) (w':World) (h1:zaf.rd w' hi d cs') (h2:hi≤w'.heap.size)=>zot hq (zl9 d i0 cs' hi w' h1 h2 hsz HHi0.out);have CI:=fun (cs':List Value) (hi:Nat) (w':World) (h1:zaf.rd w' hi d cs') (h2:hi≤w'.heap.size)=>zot hq (zl7 d i0 cs' hi w' h1 h2 hsz HHi0.out);have CE:=fun c1 c2 h1 h2 w'=>zfJ c1 c2 q h1 h2 w';have CW:=fun c1 c2 h1 h2 w'=>zl1 c1 c2 d h1 h2 w';have CM:=fun {w':World} {lo hi:Nat} {cs:List Value} (h:OwnT zay w' lo hi q cs)=>zom ze3 h 1 hj;have CK:=fun {w':World} {lo hi:Nat} {cs:List Value} (h:OwnT zaf w' lo hi d cs)=>zom ziY h 1 hk;have CH:=fun (cs:List Value) (hi:Nat) (w':World) (h:zay.rd w' hi (zb7 1 q) cs) (hh:hi≤w'.heap.size)=>ze4 cs q hi 1 w' h hh hj;rw [← hN] at CM CH;rw [← hM] at CK;clear hN hM hj hk hq hsz
 go_wp2_with (refine zaq 28 (.tmp 2) rfl rfl (w.heap.size) rfl T1.b1 Tryz.underlying28 zf9 rfl ?_)
 refine (CT _ (Below.refl _ _)).mono ?_;rintro e w2 ⟨c2,rfl,o2,b2⟩;have z1:w.heap.size<w1.heap.size:=T1.b1.lt;clear T1
 go_wp2_with fail
 refine (CS _ _ _ o2.rd (Nat.le_refl _)).mono ?_;rintro e w3 ⟨cS,rfl,oS,b3⟩;obtain ⟨s0,sp,sl,sq,rfl⟩:=zcD oS.rd;have z2:w1.heap.size≤w2.heap.size:=b2.size;have z3:w2.heap.size≤w3.heap.size:=b3.size;have B3:Below w1.heap.size w1 w3:=b2.trans (b3.mono b2.size);clear o2 b2 b3
 go_upto_region 8 with (refine zaI 32 6 (.tmp 24) _ _ 2 rfl rfl rfl rfl rfl rfl rfl rfl zcE rfl rfl oS.one ?_)
 have bA:=bAl w3 (.cells #[.int .i64 s0,.slice sp sl sq] 32);have S4:=zas w3 #[.int .i64 s0,.slice sp sl sq] 32;obtain ⟨W4,hW4⟩:∃ x,x=w3.alloc (.cells #[.int .i64 s0,.slice sp sl sq] 32):=⟨_,rfl⟩;rw [← hW4] at bA S4 ⊢;have B4:=B3.trans (bA.mono (by omega));have P4:=HT1.out.call B4;have OS4:=oS.call bA;have z4:w3.heap.size<W4.heap.size:=S4.lt;clear bA hW4 oS B3
 go_wp2_with (refine zaq 28 (.tmp 2) rfl rfl (w.heap.size) rfl P4.b1 Tryz.underlying28 zf9 rfl ?_)
 refine (CT _ B4).mono ?_;rintro e w5 ⟨cX,rfl,oX,b5⟩;obtain ⟨x0,x1,x2,x3,x4,x5,x6,x7,x8,xp0,xl0,xq0,xp1,xl1,xq1,xp2,xl2,xq2,x9,x10,xb,rfl⟩:=znZ oX;have z5:W4.heap.size≤w5.heap.size:=b5.size;have B5:=B4.trans (b5.mono (by omega));have S5:=S4.call b5;have OS5:=OS4.call b5;clear P4 b5 B4 S4 OS4
 go_upto_region 9 with (refine zaI 38 7 (.tmp 26) _ _ 15 rfl rfl rfl rfl rfl rfl rfl rfl zpd rfl rfl oX.one ?_)
 have bA:=bAl w5 (.cells (rwV x0 x1 x2 x3 x4 x5 x6 x7 x8 xp0 xl0 xq0 xp1 xl1 xq1 xp2 xl2 xq2 x9 x10 xb).toArray 38);have X6:=zas w5 (rwV x0 x1 x2 x3 x4 x5 x6 x7 x8 xp0 xl0 xq0 xp1 xl1 xq1 xp2 xl2 xq2 x9 x10 xb).toArray 38;obtain ⟨W6,hW6⟩:∃ x,x=w5.alloc (.cells (rwV x0 x1 x2 x3 x4 x5 x6 x7 x8 xp0 xl0 xq0 xp1 xl1 xq1 xp2 xl2 xq2 x9 x10 xb).toArray 38):=⟨_,rfl⟩;rw [← hW6] at bA X6 ⊢;have B6:=B5.trans (bA.mono (by omega));have S6:=S5.call bA;have OS6:=OS5.call bA;have OX6:=oX.call bA;have z6:w5.heap.size<W6.heap.size:=X6.lt;clear bA hW6 oX B5 S5 OS5
 go_wp2_with (refine zaq 38 (.tmp 7) rfl rfl (w5.heap.size) rfl X6 Tryz.underlying38 zcf rfl ?_)
 refine (CI _ _ _ OX6.rd (by omega)).mono ?_;rintro e w7 ⟨cG,rfl,oG,b7⟩;obtain ⟨g0,gp,gl,gq,rfl⟩:=zcD oG.rd;have z7:W6.heap.size≤w7.heap.size:=b7.size;have B7:=B6.trans (b7.mono (by omega));have S7:=S6.call b7;have OS7:=OS6.call b7;have X7:=X6.call b7;have OX7:=OX6.call b7;clear b7 B6 S6 OS6 X6 OX6
 go_upto_region 10 with (refine zaI 32 8 (.tmp 29) _ _ 2 rfl rfl rfl rfl rfl rfl rfl rfl zcE rfl rfl oG.one ?_)
 have bA:=bAl w7 (.cells #[.int .i64 g0,.slice gp gl gq] 32);have G8:=zas w7 #[.int .i64 g0,.slice gp gl gq] 32;obtain ⟨W8,hW8⟩:∃ x,x=w7.alloc (.cells #[.int .i64 g0,.slice gp gl gq] 32):=⟨_,rfl⟩;rw [← hW8] at bA G8 ⊢;have B8:=B7.trans (bA.mono (by omega));have S8:=S7.call bA;have OS8:=OS7.call bA;have X8:=X7.call bA;have OX8:=OX7.call bA;have OG8:=oG.call bA;have z8:w7.heap.size<W8.heap.size:=G8.lt;clear bA hW8 oG B7 S7 OS7 X7 OX7
 go_wp2_with (first | (refine zaq 32 (.tmp 8) rfl rfl (w7.heap.size) rfl G8 Tryz.underlying32 zeD rfl ?_) | (refine zaq 32 (.tmp 6) rfl rfl (w3.heap.size) rfl S8 Tryz.underlying32 zeD rfl ?_))
 refine (CE _ _ _ _ _ OG8.rd OS8.rd (by omega) (by omega)).mono ?_;rintro e w9 ⟨rfl,b9⟩;have z9:W8.heap.size≤w9.heap.size:=b9.size;have B9:=B8.trans (b9.mono (by omega));have S9:=hid (S8.call b9);have OS9:=hid (OS8.call b9);have X9:=hid (X8.call b9);have OX9:=hid (OX8.call b9);have G9:=hid (G8.call b9);have OG9:=hid (OG8.call b9);have HB9:=hid B9;have P9:=hid (HT1.out.call B9);have CTc:=fun w' (hb:Below w9.heap.size w9 w')=>CT w' (HB9.out.trans (hb.mono (by omega)));clear b9 B8 S8 OS8 X8 OX8 G8 OG8 B9
 go_upto_region 12 with fail
 go_cut [38] (fun v wx=>v=.bool false∧Below w9.heap.size w9 wx)
 case first=>
  have KS:∀ w',Below w9.heap.size w9 w'→(Box w' (w5.heap.size) (rwV x0 x1 x2 x3 x4 x5 x6 x7 x8 xp0 xl0 xq0 xp1 xl1 xq1 xp2 xl2 xq2 x9 x10 xb).toArray 38∧Box w' (w.heap.size) (rwV v0 v1 v2 v3 v4 v5 v6 v7 v8 vp0 vl0 vq0 vp1 vl1 vq1 vp2 vl2 vq2 v9 v10 vb).toArray 28):=fun w' hb=>⟨(X9.out).call hb,(P9.out.b1).call hb⟩;have B0:Below w9.heap.size w9 w9.drew:=zma _;refine zge 4 (fun w'=>Box w' (w5.heap.size) (rwV x0 x1 x2 x3 x4 x5 x6 x7 x8 xp0 xl0 xq0 xp1 xl1 xq1 xp2 xl2 xq2 x9 x10 xb).toArray 38∧Box w' (w.heap.size) (rwV v0 v1 v2 v3 v4 v5 v6 v7 v8 vp0 vl0 vq0 vp1 vl1 vq1 vp2 vl2 vq2 v9 v10 vb).toArray 28) (by kernel_rfl) (KS _ B0) (fun hHeld=>?_);refine zaM (i:=0) (oi:=_) 16 rfl (by kernel_rfl) (fun _ _ _ h=>h) (zg9 38 (.tmp 7) rfl rfl (w5.heap.size) rfl (cs:=(rwV x0 x1 x2 x3 x4 x5 x6 x7 x8 xp0 xl0 xq0 xp1 xl1 xq1 xp2 xl2 xq2 x9 x10 xb)) (fun w' h=>h.1) Tryz.underlying38 zcf rfl) (by assumption) ?_
  try simp only [Act.put,SL]
  refine zaM (i:=1) (oi:=_) 16 rfl (by kernel_rfl) (fun _ _ _ h=>h) (zg9 28 (.tmp 2) rfl rfl (w.heap.size) rfl (cs:=(rwV v0 v1 v2 v3 v4 v5 v6 v7 v8 vp0 vl0 vq0 vp1 vl1 vq1 vp2 vl2 vq2 v9 v10 vb)) (fun w' h=>h.2) Tryz.underlying28 zf9 rfl) (by assumption) ?_
  try simp only [Act.put,SL]
  refine zck (i:=2) (o:=_) rfl (by kernel_rfl) (fun KC hKC=>?_);refine zc6 rfl 8 _ _ rfl #[.agg (rwV v0 v1 v2 v3 v4 v5 v6 v7 v8 vp0 vl0 vq0 vp1 vl1 vq1 vp2 vl2 vq2 v9 v10 vb).toArray] ?_ Tryz.func8 (by kernel_rfl) (by kernel_rfl) (CTc _ B0) ?_
  ·simp [Act.eval,Act.put]
  rintro ee wb ⟨cs',rfl,oR,bb⟩;have bR:Below w9.heap.size w9 wb:=B0.trans (bb.mono B0.size);refine ⟨_,rfl,?_⟩;refine hKC.out _ _ (KS _ bR) (fun hHeld=>?_);clear hKC KC
  try simp only [Act.put,SL]
  refine zck (i:=3) (o:=_) rfl (by kernel_rfl) (fun KC hKC=>?_);refine zc6 rfl 11 _ _ rfl #[.agg (rwV x0 x1 x2 x3 x4 x5 x6 x7 x8 xp0 xl0 xq0 xp1 xl1 xq1 xp2 xl2 xq2 x9 x10 xb).toArray,.agg cs'.toArray] ?_ Tryz.func11 (by kernel_rfl) (by kernel_rfl) (CW _ _ _ _ _ ((OX9.out).call bR).rd oR.rd (Nat.le_trans (by omega) bR.size) (Nat.le_refl _)) ?_
  ·simp [Act.eval,Act.put]
  rintro ee wc' ⟨rfl,bc⟩;have bC:Below w9.heap.size w9 wc':=bR.trans (bc.mono bR.size);refine ⟨_,rfl,?_⟩;refine hKC.out _ _ (KS _ bC) (fun hHeld=>?_);clear hKC KC
  try simp only [Act.put,SL]
  refine zgc (o:=_) rfl (by kernel_rfl) (fun KC hKC=>?_);go_simp;refine hKC.out _ _ ?_;clear hKC KC
  try simp only [Act.put,SL]
  refine zgd (by kernel_rfl) ?_ _;go_wp2
  go_meet
  exact ⟨rfl,bC⟩
 case rest=>
  obtain ⟨rfl,b10⟩:=hcut;obtain ⟨w10,rfl⟩:∃ x,x=wc:=⟨_,rfl⟩;clear CTc;have z10:w9.heap.size≤w10.heap.size:=b10.size;have B10:=HB9.out.trans (b10.mono (by omega));have S10:=S9.out.call b10;have OS10:=OS9.out.call b10;have X10:=X9.out.call b10;have OX10:=OX9.out.call b10;have G10:=G9.out.call b10;have OG10:=OG9.out.call b10;clear b10 HB9 S9 OS9 X9 OX9 G9 OG9 P9
  have hm0:¬ (M:Int)<0:=by omega
  go_wp2_with (refine zaq 38 (.tmp 7) rfl rfl (w5.heap.size) rfl X10 Tryz.underlying38 zcf rfl ?_)
  refine (CK OX10).mono ?_;rintro e w11 ⟨rfl,OX11,c11⟩;have z11:w10.heap.size≤w11.heap.size:=c11.size;have B11:=B10.trans (c11.bel (B:=w1.heap.size) (by omega) (by omega));have S11:=S10.chg c11 (.inl (by omega));have OS11:=OS10.chg c11 (.inl (by omega));have G11:=G10.chg c11 (.inr (by omega));have OG11:=OG10.chg c11 (.inr (by omega));have u_0:w11.cell? ⟨w7.heap.size,0,none⟩=some (.int .i64 g0):=G11.cell 0;have u_1:w11.cell? ⟨w7.heap.size,1,none⟩=some (.slice gp gl gq):=G11.cell 1;have y_0:w11.cell? ⟨w3.heap.size,0,none⟩=some (.int .i64 s0):=S11.cell 0;have y_1:w11.cell? ⟨w3.heap.size,1,none⟩=some (.slice sp sl sq):=S11.cell 1;clear OX11 c11 B10 S10 OS10 X10 OX10 G10 OG10
  go_wp2_with fail
  refine (CE _ _ _ _ _ OG11.rd OS11.rd (by omega) (by omega)).mono ?_;rintro e w12 ⟨rfl,b12⟩;have z12:w11.heap.size≤w12.heap.size:=b12.size;have B12:=B11.trans (b12.mono (by omega));have S12:=S11.call b12;have OS12:=OS11.call b12;have G12:=G11.call b12;have OG12:=OG11.call b12;clear b12 B11 S11 OS11 G11 OG11 u_0 u_1 y_0 y_1
  go_wp2_with (refine zaq 32 (.tmp 8) rfl rfl (w7.heap.size) rfl G12 Tryz.underlying32 zeD rfl ?_)
  refine (CM OG12).mono ?_;rintro e w13 ⟨rfl,OG13,c13⟩;have z13:w12.heap.size≤w13.heap.size:=c13.size;have B13:=B12.trans (c13.bel (B:=w1.heap.size) (by omega) (by omega));have S13:=S12.chg c13 (.inl (by omega));have OS13:=OS12.chg c13 (.inl (by omega));have G13:=G12.chg c13 (.inr (by omega));clear c13 B12 S12 OS12 G12 OG12
  go_wp2_with (refine zaq 32 (.tmp 8) rfl rfl (w7.heap.size) rfl G13 Tryz.underlying32 zeD rfl ?_)
  refine (CH _ _ _ OG13.rd (by omega)).mono ?_;rintro e w14 ⟨rfl,b14⟩;have z14:w13.heap.size≤w14.heap.size:=b14.size;have B14:=B13.trans (b14.mono (by omega));have S14:=S13.call b14;have OS14:=OS13.call b14;have G14:=G13.call b14;have OG14:=OG13.call b14;have P14:=HT1.out.call B14;clear b14 B13 S13 OS13 G13 OG13
  have hn0:¬ (N:Int)<0:=by omega
  go_wp2_with (refine zaq 28 (.tmp 2) rfl rfl (w.heap.size) rfl P14.b1 Tryz.underlying28 zf9 rfl ?_)
  refine (CT _ B14).mono ?_;rintro e w15 ⟨c15,rfl,o15,b15⟩
  go_wp2_with fail
  refine (CI _ _ _ o15.rd (Nat.le_refl _)).mono ?_;rintro e w16 ⟨cH,rfl,oH,b16⟩;obtain ⟨h0,hp,hl,hq,rfl⟩:=zcD oH.rd;have z15:w14.heap.size≤w15.heap.size:=b15.size;have z16:w15.heap.size≤w16.heap.size:=b16.size;have B16:=(B14.trans (b15.mono (by omega))).trans (b16.mono (by omega));have S16:=(S14.call b15).call b16;have OS16:=(OS14.call b15).call b16;have G16:=(G14.call b15).call b16;have OG16:=(OG14.call b15).call b16;clear P14 o15 b15 b16 B14 S14 OS14 G14 OG14
  go_upto_region 27 with (refine zaI 32 12 (.tmp 64) _ _ 2 rfl rfl rfl rfl rfl rfl rfl rfl zcE rfl rfl oH.one ?_)
  have bA:=bAl w16 (.cells #[.int .i64 h0,.slice hp hl hq] 32);have H17:=zas w16 #[.int .i64 h0,.slice hp hl hq] 32;obtain ⟨W17,hW17⟩:∃ x,x=w16.alloc (.cells #[.int .i64 h0,.slice hp hl hq] 32):=⟨_,rfl⟩;rw [← hW17] at bA H17 ⊢;have B17:=B16.trans (bA.mono (by omega));have S17:=S16.call bA;have OS17:=OS16.call bA;have G17:=G16.call bA;have OG17:=OG16.call bA;have OH17:=oH.call bA;have z17:w16.heap.size<W17.heap.size:=H17.lt;clear bA hW17 oH B16 S16 OS16 G16 OG16
  go_wp2_with (first | (refine zaq 32 (.tmp 12) rfl rfl (w16.heap.size) rfl H17 Tryz.underlying32 zeD rfl ?_) | (refine zaq 32 (.tmp 6) rfl rfl (w3.heap.size) rfl S17 Tryz.underlying32 zeD rfl ?_))
  refine (CE _ _ _ _ _ OH17.rd OS17.rd (by omega) (by omega)).mono ?_;rintro e w18 ⟨rfl,b18⟩;have z18:W17.heap.size≤w18.heap.size:=b18.size;have B18:=B17.trans (b18.mono (by omega));have G18:=G17.call b18;have OG18:=OG17.call b18;clear b18 B17 S17 OS17 G17 OG17 OH17 H17
  go_wp2_with (refine zaq 32 (.tmp 8) rfl rfl (w7.heap.size) rfl G18 Tryz.underlying32 zeD rfl ?_)
  refine (CH _ _ _ OG18.rd (by omega)).mono ?_;rintro e w19 ⟨rfl,b19⟩;have HB:Hid (Below w.heap.size w w19):=(HT1.out.call (B18.trans (b19.mono (by omega)))).bel;clear b19 B18 G18 OG18;go_wp2;go_ret;exact ⟨rfl,HB.out⟩
set_option maxRecDepth 100000 in
theorem zdy (os:Os) (started:os.Started) (H:Type) (enc:TypeId×Value→H) :
 ReturnsInHanded {} Tryz.checked os 3 .any (Rows.fnExactItemBytesSpec.pre6 enc Tryz.prog Tryz.f3 Rows.fnExactItemBytesRow.domain false) (Rows.fnExactItemBytesSpec.post enc Tryz.prog Tryz.f3 false true false false):=by
 refine returnsInHanded_of_change (C:=Tryz.checked) zmb started (by kernel_rfl) Tryz.func3
  (ChangeSpec.witness6 (enc:=enc) (C:=Tryz.checked) false ⟨#[],#[.agg (rwV 0 0 0 0 0 0 0 0 0 none 0 0 none 0 0 none 0 0 0 0 false).toArray,.string ByteArray.empty],[]⟩ 8 (by kernel_rfl) (by kernel_rfl) (by kernel_rfl) (by kernel_rfl)) ?_
 intro W base args ds gs before hval0 hW hcnd _;have hval:∀ (j:Nat) t v,Tryz.f3.params[j]?=some t→args[j]?=some v→Value.okWide Tryz.prog W .any base t v:=hval0;have hW':=hW;obtain ⟨p,q,hA0,hV,rfl,hfz,hnd⟩:=hW;have hA:DataW.TrodAll enc Tryz.prog W 0 (fun _=>true) true Tryz.f3.params.toList args.toList ds p:=hA0;rw [Tryz.params3] at hA hval;obtain ⟨v0,vs0,d0,ds0,p0,q0,hargs,rfl,rfl,h0,r0⟩:=trodAll_cons hA;obtain ⟨v1,vs1,d1,ds1,p1,q1,rfl,rfl,rfl,h1,r1⟩:=trodAll_cons r0;obtain ⟨rfl,rfl,rfl⟩:=trodAll_nil r1
 obtain rfl:args=#[v0,v1]:=by cases args;simp_all
 obtain ⟨rfl,rfl⟩:=trodVars_none hV;have k0:=h0
 have lt0:∀ x∈p0,x.block<W.heap.size:=by obtain ⟨m,hm⟩:=k0;exact DataW.trod_lt m _ _ _ hm
 obtain ⟨cs0,a0,rfl,rd0⟩:=zgE zk4 Tryz.underlying28 (hval 0 28 v0 rfl rfl) h0;obtain ⟨n1,rfl,rfl,rfl,hn1⟩:=ChangeMaps.open_string Tryz.underlying9 (hval 1 9 v1 rfl rfl) h1;clear hA0 hval0;refine (zd3 a0 cs0 n1 W rd0 hn1).mono fun e W' ⟨he,bel⟩=>?_;subst he;exact ⟨_,rfl,_,_,_,[],_,[],hW',trodAll_mk1 (shut_bool Tryz.underlying4 _),(trodAll_cons_mk (Below.trod zkZ (by kernel_rfl) (of_decide_eq_true (by kernel_rfl)) k0 bel lt0) (trodAll_cons_mk (ChangeMaps.shut_string Tryz.underlying9 hn1) trodAll_mk0)),rfl,bel.frame _,fun h=>by cases h⟩
end Go.Proofs.YtclclojenogpbaaGreat
