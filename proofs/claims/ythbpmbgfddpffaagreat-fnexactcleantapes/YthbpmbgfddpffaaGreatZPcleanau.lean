/- CleanTapes: both faces. -/
import Derived.Test.YthbpmbgfddpffaaGreatRows
import Derived.Test.YthbpmbgfddpffaaGreatZPcleanat
set_option linter.unusedVariables false
set_option linter.unusedSimpArgs false
set_option maxHeartbeats 16000000
namespace Go.Proofs.YthbpmbgfddpffaaGreat
open Go.RowKit F256
def ClnAns (d:WorldD) (r:WorldResultD):Prop:=(∃ x,x≠0∧AskAns d x∧r=⟨x,zgS⟩)∨(AskAns d 0∧r=(za0 d).final)
theorem ClnAns.one {d:WorldD} {r q:WorldResultD} (h:ClnAns d r) (l:ClnAns d q):r=q:=by
 rcases h with ⟨x,h1,h2,rfl⟩ | ⟨h1,rfl⟩<;>rcases l with ⟨y,k1,k2,rfl⟩ | ⟨k1,rfl⟩
 ·rw [h2.one k2]
 ·exact absurd (h2.one k1) h1
 ·exact absurd (k2.one h1) k1
 ·rfl
theorem zgE {d d2:WorldD} {c:Int} (h:za0 d=.done c d2):c=0:=ziB (y:=clnR d) (m:=clnK d) (k:=0) (d:=d) h
set_option maxRecDepth 20000 in
theorem zjF (d:WorldD) (cs:List Value) (hi:Nat) (w:World) (h:zae.rd w hi d cs) (hhi:hi≤w.heap.size) (hsz:zbg d≤1048576) :
 Calls Tryz.prog 7 #[.agg cs.toArray] w (zfq (ClnAns d) w):=by
 have h':=h;obtain ⟨ao1,cap1,ao2,cap2,ao3,cap3,rfl,g1,g2,g3,k0,k4,k5⟩:=zaV h';have HRD:=hid h;have HSZ:=hid hsz;clear h h' hsz g1 g2 g3 k0 k4 k5;have T0:=zaz w (rwW d ao1 cap1 ao2 cap2 ao3 cap3).toArray rwZ.toArray 34 36
 go_enter Tryz.func7,Tryz.ntmps7
 go_wp2_with (refine zav 34 (.tmp 1) rfl rfl (w.heap.size) rfl (T0.b1) Tryz.underlying34 zbL rfl ?_)
 refine (zjA d _ hi _ (zae.rd_below HRD.out T0.bel hhi) (Nat.le_trans hhi T0.bel.size) HSZ.out).mono ?_;rintro e w1 ⟨x,rfl,hx,b1⟩;have HT1:=hid (T0.call b1);have HX:=hid hx;have z1:w.heap.size+1<w1.heap.size:=HT1.out.b2.lt;clear b1 T0 hx
 by_cases hx0:x=0
 case neg=>
  have hne:(x != 0)=true:=by simp [hx0]
  go_wp2_with (refine zbb 36 _ _ rfl rfl (w.heap.size+1) rfl (cs:=(.int .i64 x::rwY)) rfl (HT1.out.b2) za3 rfl rfl (ze6 _ (zey HX.out) w) ?_;intro w9 X9 C9 z9)
  refine zcz Tryz.results7 rfl X9 Tryz.underlying36 za3 rfl rfl ?_;exact zhU (zey HX.out) HT1.out.bel C9 (.inl ⟨x,hx0,HX.out,rfl⟩)
 subst hx0;have HOK:=hid (znj HX.out);have hf0:=zmn HOK.out (znk HX.out);have bN:Below w1.heap.size w1 (w1.alloc (.cells #[.func (.func 26) #[] #[]] 113)):=(Below.refl _ _).alloc (Nat.le_refl _) _;have XN:Box (w1.alloc (.cells #[.func (.func 26) #[] #[]] 113)) w1.heap.size #[.func (.func 26) #[] #[]] 113:=zaq _ _ _;have T6:=HT1.out.call bN;have z56:=XN.lt;have xN:(w1.alloc (.cells #[.func (.func 26) #[] #[]] 113)).cell? ⟨w1.heap.size,0+0,none⟩=some (.func (.func 26) #[] #[]):=XN.cell 0
 have CV:=ziA d (rwW d ao1 cap1 ao2 cap2 ao3 cap3) hi (fun _=>26) (fun _=>#[]) (fun _=>za0) (fun _=>FitC) 1 w1.heap.size 0 1 (w1.alloc (.cells #[.func (.func 26) #[] #[]] 113)) (zae.rd_below HRD.out T6.bel hhi) (Nat.le_trans hhi T6.bel.size) HSZ.out
  (fun i _=>zhn _ _) (fun i hi=>by
   have h0:i=0:=by omega
   subst h0
   exact xN) z56 (by decide) ⟨hf0,by unfold zfY;split<;>simp [zdN]⟩ (by
   rw [zml]
   cases e:za0 d with
   | cut x=>exact ⟨show (-9223372036854775808:Int)≤0 by decide,show (0:Int)≤9223372036854775807 by decide⟩
   | done c x=>
    rw [zgE e]
    exact ⟨show (-9223372036854775808:Int)≤0 by decide,show (0:Int)≤9223372036854775807 by decide⟩)
 rw [zml] at CV
 have CW:=CV.mono (R':=fun e w'=>∃ sc s0 s1 s2 s3 s4 s5 s6 s7 s8 sp0 sl0 sq0 sp1 sl1 sq1 sp2 sl2 sq2 s9 s10 sb,e=.returned (.agg (.int .i64 sc::rwV s0 s1 s2 s3 s4 s5 s6 s7 s8 sp0 sl0 sq0 sp1 sl1 sq1 sp2 sl2 sq2 s9 s10 sb).toArray)∧OwnT zaC w' (w1.alloc (.cells #[.func (.func 26) #[] #[]] 113)).heap.size w'.heap.size (za0 d).final (.int .i64 sc::rwV s0 s1 s2 s3 s4 s5 s6 s7 s8 sp0 sl0 sq0 sp1 sl1 sq1 sp2 sl2 sq2 s9 s10 sb)∧Below (w1.alloc (.cells #[.func (.func 26) #[] #[]] 113)).heap.size (w1.alloc (.cells #[.func (.func 26) #[] #[]] 113)) w') (fun e w' ⟨cs',he,ho,hb⟩=>by
  obtain ⟨sc,s0,s1,s2,s3,s4,s5,s6,s7,s8,sp0,sl0,sq0,sp1,sl1,sq1,sp2,sl2,sq2,s9,s10,sb,rfl⟩:=zjX ho.rd
  exact ⟨sc,s0,s1,s2,s3,s4,s5,s6,s7,s8,sp0,sl0,sq0,sp1,sl1,sq1,sp2,sl2,sq2,s9,s10,sb,he,ho,hb⟩)
 have zN:=bN.size;clear CV hf0 bN XN xN
 go_wp2_with (refine zav 34 (.tmp 1) rfl rfl (w.heap.size) rfl (HT1.out.b1) Tryz.underlying34 zbL rfl ?_)
 refine CW.mono ?_;rintro ee w7 ⟨sc,s0,s1,s2,s3,s4,s5,s6,s7,s8,sp0,sl0,sq0,sp1,sl1,sq1,sp2,sl2,sq2,s9,s10,sb,rfl,o7,b7⟩;have T7:=T6.call b7;have z7:=b7.size;clear CW
 go_wp2_with (refine zbb 36 _ _ rfl rfl (w.heap.size+1) rfl (cs:=(.int .i64 sc::rwV s0 s1 s2 s3 s4 s5 s6 s7 s8 sp0 sl0 sq0 sp1 sl1 sq1 sp2 sl2 sq2 s9 s10 sb)) rfl (T7.b2) za3 rfl rfl (o7.one) ?_;intro w9 X9 C9 z9)
 refine zcz Tryz.results7 rfl X9 Tryz.underlying36 za3 rfl rfl ?_;exact ⟨_,(.int .i64 sc::rwV s0 s1 s2 s3 s4 s5 s6 s7 s8 sp0 sl0 sq0 sp1 sl1 sq1 sp2 sl2 sq2 s9 s10 sb),rfl,.inr ⟨HX.out,rfl⟩,(o7.chgk C9 (fun b hb=>by simp at hb;omega)).weaken (by omega) C9.size,T7.bel.trans (C9.bel (fun b hb=>by simp at hb;omega) T7.bel.size)⟩
set_option maxRecDepth 20000 in
theorem zjG (d:WorldD) (cs:List Value) (hi:Nat) (w:World) (h:zae.rd w hi d cs) (hhi:hi≤w.heap.size) (hsz:zbg d≤1048576) :
 Calls Tryz.prog 5 #[.agg cs.toArray] w (zfq (ClnAns d) w):=by
 have h':=h;obtain ⟨ao1,cap1,ao2,cap2,ao3,cap3,rfl,g1,g2,g3,k0,k4,k5⟩:=zaV h';have HRD:=hid h;have HSZ:=hid hsz;clear h h' hsz g1 g2 g3 k0 k4 k5;have T0:=zaz w (rwW d ao1 cap1 ao2 cap2 ao3 cap3).toArray rwZ.toArray 34 36
 go_enter Tryz.func5,Tryz.ntmps5
 go_wp2_with (refine zav 34 (.tmp 1) rfl rfl (w.heap.size) rfl (T0.b1) Tryz.underlying34 zbL rfl ?_)
 refine (zjz d _ hi _ (zae.rd_below HRD.out T0.bel hhi) (Nat.le_trans hhi T0.bel.size) HSZ.out).mono ?_;rintro e w1 ⟨x,rfl,hx,b1⟩;have HT1:=hid (T0.call b1);have HX:=hid hx;have z1:w.heap.size+1<w1.heap.size:=HT1.out.b2.lt;clear b1 T0 hx
 by_cases hx0:x=0
 case neg=>
  have hne:(x != 0)=true:=by simp [hx0]
  go_wp2_with (refine zbb 36 _ _ rfl rfl (w.heap.size+1) rfl (cs:=(.int .i64 x::rwY)) rfl (HT1.out.b2) za3 rfl rfl (ze6 _ (zey HX.out) w) ?_;intro w9 X9 C9 z9)
  refine zcz Tryz.results5 rfl X9 Tryz.underlying36 za3 rfl rfl ?_;exact zhU (zey HX.out) HT1.out.bel C9 (.inl ⟨x,hx0,HX.out,rfl⟩)
 subst hx0;have HOK:=hid (znj HX.out)
 go_wp2_with (refine zav 34 (.tmp 1) rfl rfl (w.heap.size) rfl (HT1.out.b1) Tryz.underlying34 zbL rfl ?_)
 refine (zmr _ d hi _ (zae.rd_below HRD.out HT1.out.bel hhi) (Nat.le_trans hhi HT1.out.bel.size) HSZ.out).mono ?_;rintro e w2 ⟨c2,rfl,o2,b2⟩;obtain ⟨p1,c1,p2,c2,p3,c3,K1,K2,K3,rfl,WO2⟩:=zkA o2;have z2:w1.heap.size≤w2.heap.size:=b2.size
 go_upto_region 5 with (refine zbd 34 4 (.tmp 13) _ _ 15 rfl rfl rfl rfl rfl rfl rfl rfl znb rfl rfl o2.one ?_)
 have bA:=bAl w2 (.cells (rwW d p1 c1 p2 c2 p3 c3).toArray 34);have X3:=zaq w2 (rwW d p1 c1 p2 c2 p3 c3).toArray 34;obtain ⟨W3,hW3⟩:∃ x,x=w2.alloc (.cells (rwW d p1 c1 p2 c2 p3 c3).toArray 34):=⟨_,rfl⟩;rw [← hW3] at bA X3 ⊢;have T3:=(HT1.out.call b2).call bA;have WO:=WO2.below bA (Nat.le_refl _);have z3:w2.heap.size<W3.heap.size:=X3.lt;clear bA hW3 o2 b2 WO2;have hf0:=zmn HOK.out (znk HX.out);have hin:∀ b,b∈K1++(K2++(K3++[]))→w1.heap.size≤b∧b<w2.heap.size:=fun b hb=>WO.inn b (by simpa using hb);have S3:SpB W3 w2.heap.size d (K1++(K2++(K3++[]))):=⟨_,X3,WO.encO (fun hm=>by have:=WO.inn _ hm;omega)⟩;have CS:=zjE w2.heap.size d _ W3 S3 hf0;obtain ⟨oc,hoc⟩:∃ x,x=za0 d:=⟨_,rfl⟩;have HOC:=hid hoc;rw [← hoc] at CS;clear hf0 hoc S3 X3 WO
 cases oc with
 | cut d2=>
  have HQ:Hid (ClnAns d ⟨9,cutW d2⟩):=.inr ⟨HX.out,by rw [← HOC.out];rfl⟩
  go_wp2_with fail
  refine CS.mono ?_;rintro e w5 ⟨rfl,K5,S5,s5,C5⟩;clear CS;obtain ⟨cs5,X5,O5⟩:=S5;obtain ⟨y0,y1,y2,y3,y4,y5,y6,y7,y8,yp0,yl0,yq0,yp1,yl1,yq1,yp2,yl2,yq2,y9,y10,yb,rfl⟩:=zcu O5.own;have z5:=C5.size
  have T5:=T3.chgK C5 (fun b hb=>by
   rcases List.mem_cons.1 hb with h | h
   ·omega
   ·have:=hin b h;omega)
  have OO:OwnT zae w5 w1.heap.size w5.heap.size (cutW d2) (rwV y0 y1 y2 y3 y4 y5 y6 y7 y8 yp0 yl0 yq0 yp1 yl1 yq1 yp2 yl2 yq2 y9 y10 yb):=⟨K5,O5.own,O5.nd,fun b hb=>⟨by
   rcases s5 b hb with h | h
   ·exact (hin b h).1
   ·omega,zae.own_lt O5.own b hb⟩⟩
  have CL:=ziC y0 y1 y2 y3 y4 y5 y6 y7 y8 yp0 yl0 yq0 yp1 yl1 yq1 yp2 yl2 yq2 y9 y10 yb false w5 OO.one;clear T3 C5 s5 O5
  go_wp2_with (first | (refine zav 34 (.tmp 4) rfl rfl (w2.heap.size) rfl (X5) Tryz.underlying34 zbL rfl ?_) | (go_at_call 19;refine CL.mono ?_;rintro e w6 ⟨rfl,b6⟩;have T6:=T5.call b6;have O6:=OO.below b6 (Nat.le_refl _)) | (refine zbb 36 _ _ rfl rfl (w.heap.size+1) rfl (cs:=(.int .i64 9::rwV y0 y1 y2 y3 y4 y5 y6 y7 y8 yp0 yl0 yq0 yp1 yl1 yq1 yp2 yl2 yq2 y9 y10 yb)) rfl T6.b2 za3 rfl rfl (zcY 9 (by decide) O6).one ?_;intro w9 X9 C9 z9))
  refine zcz Tryz.results5 rfl X9 Tryz.underlying36 za3 rfl rfl ?_;exact zgo (by decide) T6.bel C9 O6 (by omega) b6.size (HQ.out)
 | done c d2=>
  have c0:c=0:=zgE HOC.out.symm;subst c0;have HQ:Hid (ClnAns d ⟨0,d2⟩):=.inr ⟨HX.out,by rw [← HOC.out];simp [Outc.final]⟩
  go_wp2_with fail
  refine CS.mono ?_;rintro e w5 ⟨rfl,K5,S5,s5,C5⟩;clear CS;obtain ⟨cs5,X5,O5⟩:=S5;obtain ⟨y0,y1,y2,y3,y4,y5,y6,y7,y8,yp0,yl0,yq0,yp1,yl1,yq1,yp2,yl2,yq2,y9,y10,yb,rfl⟩:=zcu O5.own;have z5:=C5.size
  have T5:=T3.chgK C5 (fun b hb=>by
   rcases List.mem_cons.1 hb with h | h
   ·omega
   ·have:=hin b h;omega)
  have OO:OwnT zae w5 w1.heap.size w5.heap.size d2 (rwV y0 y1 y2 y3 y4 y5 y6 y7 y8 yp0 yl0 yq0 yp1 yl1 yq1 yp2 yl2 yq2 y9 y10 yb):=⟨K5,O5.own,O5.nd,fun b hb=>⟨by
   rcases s5 b hb with h | h
   ·exact (hin b h).1
   ·omega,zae.own_lt O5.own b hb⟩⟩
  have CL:=ziC y0 y1 y2 y3 y4 y5 y6 y7 y8 yp0 yl0 yq0 yp1 yl1 yq1 yp2 yl2 yq2 y9 y10 yb true w5 OO.one;clear T3 C5 s5 O5
  go_wp2_with (first | (refine zav 34 (.tmp 4) rfl rfl (w2.heap.size) rfl (X5) Tryz.underlying34 zbL rfl ?_) | (go_at_call 19;refine CL.mono ?_;rintro e w6 ⟨rfl,b6⟩;have T6:=T5.call b6;have O6:=OO.below b6 (Nat.le_refl _)) | (refine zbb 36 _ _ rfl rfl (w.heap.size+1) rfl (cs:=(.int .i64 0::rwV y0 y1 y2 y3 y4 y5 y6 y7 y8 yp0 yl0 yq0 yp1 yl1 yq1 yp2 yl2 yq2 y9 y10 yb)) rfl T6.b2 za3 rfl rfl (zcY 0 (by decide) O6).one ?_;intro w9 X9 C9 z9))
  refine zcz Tryz.results5 rfl X9 Tryz.underlying36 za3 rfl rfl ?_;exact zgo (by decide) T6.bel C9 O6 (by omega) b6.size (HQ.out)
theorem zol (d:WorldD):∃ x,AskAns d x:=by
 obtain ⟨x,hx⟩:=zmA d
 by_cases h:x=0
 ·subst h
  cases hd:d.down with
  | true=>exact ⟨9,.inr ⟨hx,.inl ⟨hd,rfl⟩⟩⟩
  | false=>exact ⟨0,.inr ⟨hx,.inr ⟨hd,rfl⟩⟩⟩
 ·exact ⟨x,.inl ⟨h,hx⟩⟩
end Go.Proofs.YthbpmbgfddpffaaGreat
namespace Go.Proofs.YthbpmbgfddpffaaGreat
open Go.ChangeShapes Go.WideShapes Go.ChangeAt Go.RowKit F256
theorem znO {α:Type} (c:α→Nat) (x:Nat→α) (k:Nat) (a:α):∀ n:Nat,sumN (fun i=>c (upd x k a i)) n≤sumN (fun i=>c (x i)) n+(if k<n then c a else 0)
 | 0=>by simp [sumN]
 | n+1=>by
  have ih:=znO c x k a n;rw [zaI,zaI]
  by_cases h:n=k
  ·subst h
   rw [zaZ,if_pos (by omega)];rw [if_neg (by omega)] at ih;omega
  ·rw [za5 x a h]
   by_cases h2:k<n
   ·rw [if_pos h2] at ih;rw [if_pos (by omega)];omega
   ·rw [if_neg h2] at ih;rw [if_neg (by omega)];omega
theorem zmt (c:Nat→Nat) (p:Nat→Bool):∀ n:Nat,sumN (fun i=>c (selF p n i)) (zai p n).length≤sumN c n
 | 0=>by simp [zai,sumN]
 | n+1=>by
  have ih:=zmt c p n;rw [zaI]
  cases h:p n with
  | true=>
   have e:(zai p (n+1)).length=(zai p n).length+1:=by rw [zbm,if_pos h];simp
   rw [e,zaI,zfv h];have h2:sumN (fun i=>c (selF p (n+1) i)) (zai p n).length≤sumN (fun i=>c (selF p n i)) (zai p n).length:=zdT (fun i hi=>by rw [zcZ hi];exact Nat.le_refl _);omega
  | false=>
   rw [zbM h];have h2:sumN (fun i=>c (selF p (n+1) i)) (zai p n).length≤sumN (fun i=>c (selF p n i)) (zai p n).length:=zdT (fun i hi=>by rw [zcZ hi];exact Nat.le_refl _);omega
theorem ziD (x:TapeD) (kd sq:Int):zaO (zdC x kd sq)≤zaO x:=by
 have:=zmt (fun i=>za8 (x.recs.2 i)) (fun i=>zaM kd sq (x.recs.2 i)) x.recs.1;unfold zaO cSl
 show 1+sumN (fun i=>za8 (x.recs.2 (selF (fun i=>zaM kd sq (x.recs.2 i)) x.recs.1 i))) (zai (fun i=>zaM kd sq (x.recs.2 i)) x.recs.1).length≤_
 omega
theorem zm5 {n:Nat} {f g:Nat→Nat} (h:∀ i,i<n→f i≤g i):sumN f n≤sumN g n:=by
 induction n with
 | zero=>exact Nat.le_refl _
 | succ n ih=>
  rw [zaI,zaI];exact Nat.add_le_add (ih (fun i hi=>h i (by omega))) (h n (by omega))
theorem zlb (d:WorldD) (k:Nat) (kd sq n:Int):zaN { zcP d k kd sq with writes:=n }≤zaN d:=by
 have h3:=ziD (d.tapes.2 k) kd sq
 have h4:(cSl zaO) (d.tapes.1,upd d.tapes.2 k (zdC (d.tapes.2 k) kd sq))≤(cSl zaO) d.tapes:=by
  have h5:∀ i,i<d.tapes.1→zaO (upd d.tapes.2 k (zdC (d.tapes.2 k) kd sq) i)≤zaO (d.tapes.2 i):=fun i _=>by
   unfold upd
   by_cases c:i=k
   ·subst c;simp;exact h3
   ·simp [c]
  have h6:=zm5 h5;unfold cSl
  simp only
  omega
 unfold zaN
 show (cSl (cSl zah)) d.groups+lenD d.on+(cSl zaO) (d.tapes.1,upd d.tapes.2 k (zdC (d.tapes.2 k) kd sq))≤_
 omega
theorem znP (d:WorldD):zaN (cutW d)≤zaN d:=by
 unfold zaN lenD
 show (cSl (cSl zah)) d.groups+0+(cSl zaO) d.tapes≤_
 omega
def Outc.wld:Outc→WorldD
 | .done _ d=>d
 | .cut d=>d
theorem znQ (kd sq:Int) (k:Nat) (d:WorldD):zaN (zaE kd sq k d).wld≤zaN d:=by
 unfold zaE rawO
 split
 ·exact Nat.le_refl _
 ·exact zlb d k kd sq _
theorem zm6 {o:Outc} {f:WorldD→Outc} {n:Nat} (ho:zaN o.wld≤n) (hf:∀ d,zaN d≤n→zaN (f d).wld≤n):zaN (o.next f).wld≤n:=by
 cases o with
 | cut d=>exact ho
 | done c d=>
  show zaN (if c=0 then f d else .done c d).wld≤n
  split
  ·exact hf d ho
  ·exact ho
theorem zjH {f:Nat→WorldD→Outc} {n:Nat} (hf:∀ k d,zaN d≤n→zaN (f k d).wld≤n):∀ (m k:Nat) (d:WorldD),zaN d≤n→zaN (runO f m k d).wld≤n
 | 0,_,_,h=>h
 | m+1,k,d,h=>zm6 (hf k d h) (fun d2 h2=>zjH hf m (k+1) d2 h2)
theorem znR (o:Outc) (n:Nat) (h:zaN o.wld≤n):zbc o.final≤n:=by
 cases o with
 | cut d=>exact Nat.le_trans (znP d) h
 | done c d=>
  show zbc (if c=0 then ⟨0,d⟩ else ⟨c,zgS⟩)≤n
  split
  ·exact h
  ·exact Nat.zero_le _
theorem zom {d:WorldD} {q:WorldResultD} (hq:ClnAns d q) (hsz:zbg d≤1048576):zbc q≤90000000:=by
 have h1:=zgn d
 rcases hq with ⟨x,_,_,rfl⟩ | ⟨h0,rfl⟩
 ·exact Nat.zero_le _
 ·have h2:zaN (za0 d).wld≤zaN d:=zjH (f:=stkF (clnR d)) (fun k d' h=>zjH (f:=zaE ((clnR d) k).kind ((clnR d) k).seq) (fun k2 d2 h2=>Nat.le_trans (znQ _ _ k2 d2) h2) 2 0 d' h) (clnK d) 0 d (Nat.le_refl _)
  have h3:=znR (za0 d) _ h2;omega
theorem zon (d:WorldD):∃ q,ClnAns d q:=by
 obtain ⟨x,hx⟩:=zol d
 by_cases h:x=0
 ·subst h;exact ⟨_,.inr ⟨hx,rfl⟩⟩
 ·exact ⟨_,.inl ⟨x,h,hx,rfl⟩⟩
theorem zmu {d:WorldD} {q:WorldResultD} {w:World} {f:Nat} {args:Array Value} (hq:ClnAns d q) (h:Calls Tryz.prog f args w (zfq (ClnAns d) w)):Calls Tryz.prog f args w fun e w'=>∃ cs,e=.returned (.agg cs.toArray)∧OwnT zaC w' w.heap.size w'.heap.size q cs∧Below w.heap.size w w':=
 h.mono fun e w' ⟨d',cs,h1,h2,h3,h4⟩=>⟨cs,h1,by rw [hq.one h2];exact h3,h4⟩
set_option maxRecDepth 20000 in
theorem zdp (d:WorldD) (cs:List Value)  (w:World) (rd0:zae.rd w w.heap.size d cs)  :
 Calls Tryz.prog 3 #[.agg cs.toArray] w fun e w'=>e=.returned (.bool true)∧Below w.heap.size w w':=by
 obtain ⟨v0,v1,v2,v3,v4,v5,v6,v7,v8,vp0,vl0,vq0,vp1,vl1,vq1,vp2,vl2,vq2,v9,v10,vb,rfl⟩:=zg2 rd0;have HR:=hid rd0
 skip
 clear rd0 ;have T0:=zaK w (rwV v0 v1 v2 v3 v4 v5 v6 v7 v8 vp0 vl0 vq0 vp1 vl1 vq1 vp2 vl2 vq2 v9 v10 vb).toArray 28
 go_enter Tryz.func3,Tryz.ntmps3
 go_wp2_with (refine zav 28 (.tmp 1) rfl rfl (w.heap.size) rfl T0.b1 Tryz.underlying28 zfr rfl ?_)
 refine (zks _ d w.heap.size 1048576 _ (zae.rd_below HR.out T0.bel (Nat.le_refl _)) T0.bel.size (by omega)).mono ?_;rintro e w1 ⟨x,rfl,hx,b1⟩;have T1:=T0.call b1;have HT1:=hid T1;clear b1 T0
 rcases hx with rfl | ⟨hsz,hx⟩
 ·clear T1
  go_wp2;go_ret;exact ⟨rfl,HT1.out.bel⟩
 have hx0:¬ x<0:=by omega
 clear hx;obtain ⟨q,hq⟩:=zon d;obtain ⟨N,hN⟩:∃ N,N=1+zbc q:=⟨_,rfl⟩
 have hj:1+zbc q≤100000000:=by have:=zom hq hsz;omega
 obtain ⟨M,hM⟩:∃ M,M=1+zaN d:=⟨_,rfl⟩
 have hk:1+zaN d≤100000000:=by have:=zgn d;omega
 have CT:∀ w',Below w1.heap.size w1 w'→Calls Tryz.prog 6 #[.agg (rwV v0 v1 v2 v3 v4 v5 v6 v7 v8 vp0 vl0 vq0 vp1 vl1 vq1 vp2 vl2 vq2 v9 v10 vb).toArray] w' fun e w''=>∃ cs',e=.returned (.agg cs'.toArray)∧OwnT zae w'' w'.heap.size w''.heap.size d cs'∧Below w'.heap.size w' w'':=fun w' hb=>
  zkl _ d w.heap.size w' (zae.rd_below (zae.rd_below HR.out HT1.out.bel (Nat.le_refl _)) hb HT1.out.bel.size) (Nat.le_trans HT1.out.bel.size hb.size) hsz
 have CS:=fun (cs':List Value) (hi:Nat) (w':World) (h1:zae.rd w' hi d cs') (h2:hi≤w'.heap.size)=>zmu hq (zjG d  cs' hi w' h1 h2 hsz);have CI:=fun (cs':List Value) (hi:Nat) (w':World) (h1:zae.rd w' hi d cs') (h2:hi≤w'.heap.size)=>zmu hq (zjF d  cs' hi w' h1 h2 hsz);have CE:=fun c1 c2 h1 h2 w'=>ze1 c1 c2 q h1 h2 w';have CW:=fun c1 c2 h1 h2 w'=>zgk c1 c2 d h1 h2 w';have CM:=fun {w':World} {lo hi:Nat} {cs:List Value} (h:OwnT zaC w' lo hi q cs)=>zna zei h 1 hj;have CK:=fun {w':World} {lo hi:Nat} {cs:List Value} (h:OwnT zae w' lo hi d cs)=>zna zeO h 1 hk;have CH:=fun (cs:List Value) (hi:Nat) (w':World) (h:zaC.rd w' hi (zcc 1 q) cs) (hh:hi≤w'.heap.size)=>zej cs q hi 1 w' h hh hj;rw [← hN] at CM CH;rw [← hM] at CK;clear hN hM hj hk hq hsz
 go_wp2_with (refine zav 28 (.tmp 1) rfl rfl (w.heap.size) rfl T1.b1 Tryz.underlying28 zfr rfl ?_)
 refine (CT _ (Below.refl _ _)).mono ?_;rintro e w2 ⟨c2,rfl,o2,b2⟩;have z1:w.heap.size<w1.heap.size:=T1.b1.lt;clear T1
 go_wp2_with fail
 refine (CS _ _ _ o2.rd (Nat.le_refl _)).mono ?_;rintro e w3 ⟨cS,rfl,oS,b3⟩;obtain ⟨sc,s0,s1,s2,s3,s4,s5,s6,s7,s8,sp0,sl0,sq0,sp1,sl1,sq1,sp2,sl2,sq2,s9,s10,sb,rfl⟩:=zjX oS.rd;have z2:w1.heap.size≤w2.heap.size:=b2.size;have z3:w2.heap.size≤w3.heap.size:=b3.size;have B3:Below w1.heap.size w1 w3:=b2.trans (b3.mono b2.size);clear o2 b2 b3
 go_upto_region 6 with (refine zbd 36 4 (.tmp 18) _ _ 16 rfl rfl rfl rfl rfl rfl rfl rfl zi6 rfl rfl oS.one ?_)
 have bA:=bAl w3 (.cells (.int .i64 sc::rwV s0 s1 s2 s3 s4 s5 s6 s7 s8 sp0 sl0 sq0 sp1 sl1 sq1 sp2 sl2 sq2 s9 s10 sb).toArray 36);have S4:=zaq w3 (.int .i64 sc::rwV s0 s1 s2 s3 s4 s5 s6 s7 s8 sp0 sl0 sq0 sp1 sl1 sq1 sp2 sl2 sq2 s9 s10 sb).toArray 36;obtain ⟨W4,hW4⟩:∃ x,x=w3.alloc (.cells (.int .i64 sc::rwV s0 s1 s2 s3 s4 s5 s6 s7 s8 sp0 sl0 sq0 sp1 sl1 sq1 sp2 sl2 sq2 s9 s10 sb).toArray 36):=⟨_,rfl⟩;rw [← hW4] at bA S4 ⊢;have B4:=B3.trans (bA.mono (by omega));have P4:=HT1.out.call B4;have OS4:=oS.call bA;have z4:w3.heap.size<W4.heap.size:=S4.lt;clear bA hW4 oS B3
 go_wp2_with (refine zav 28 (.tmp 1) rfl rfl (w.heap.size) rfl P4.b1 Tryz.underlying28 zfr rfl ?_)
 refine (CT _ B4).mono ?_;rintro e w5 ⟨cX,rfl,oX,b5⟩;obtain ⟨x0,x1,x2,x3,x4,x5,x6,x7,x8,xp0,xl0,xq0,xp1,xl1,xq1,xp2,xl2,xq2,x9,x10,xb,rfl⟩:=zjY oX;have z5:W4.heap.size≤w5.heap.size:=b5.size;have B5:=B4.trans (b5.mono (by omega));have S5:=S4.call b5;have OS5:=OS4.call b5;clear P4 b5 B4 S4 OS4
 go_upto_region 7 with (refine zbd 34 5 (.tmp 20) _ _ 15 rfl rfl rfl rfl rfl rfl rfl rfl znb rfl rfl oX.one ?_)
 have bA:=bAl w5 (.cells (rwV x0 x1 x2 x3 x4 x5 x6 x7 x8 xp0 xl0 xq0 xp1 xl1 xq1 xp2 xl2 xq2 x9 x10 xb).toArray 34);have X6:=zaq w5 (rwV x0 x1 x2 x3 x4 x5 x6 x7 x8 xp0 xl0 xq0 xp1 xl1 xq1 xp2 xl2 xq2 x9 x10 xb).toArray 34;obtain ⟨W6,hW6⟩:∃ x,x=w5.alloc (.cells (rwV x0 x1 x2 x3 x4 x5 x6 x7 x8 xp0 xl0 xq0 xp1 xl1 xq1 xp2 xl2 xq2 x9 x10 xb).toArray 34):=⟨_,rfl⟩;rw [← hW6] at bA X6 ⊢;have B6:=B5.trans (bA.mono (by omega));have S6:=S5.call bA;have OS6:=OS5.call bA;have OX6:=oX.call bA;have z6:w5.heap.size<W6.heap.size:=X6.lt;clear bA hW6 oX B5 S5 OS5
 go_wp2_with (refine zav 34 (.tmp 5) rfl rfl (w5.heap.size) rfl X6 Tryz.underlying34 zbL rfl ?_)
 refine (CI _ _ _ OX6.rd (by omega)).mono ?_;rintro e w7 ⟨cG,rfl,oG,b7⟩;obtain ⟨gc,g0,g1,g2,g3,g4,g5,g6,g7,g8,gp0,gl0,gq0,gp1,gl1,gq1,gp2,gl2,gq2,g9,g10,gb,rfl⟩:=zjX oG.rd;have z7:W6.heap.size≤w7.heap.size:=b7.size;have B7:=B6.trans (b7.mono (by omega));have S7:=S6.call b7;have OS7:=OS6.call b7;have X7:=X6.call b7;have OX7:=OX6.call b7;clear b7 B6 S6 OS6 X6 OX6
 go_upto_region 8 with (refine zbd 36 6 (.tmp 22) _ _ 16 rfl rfl rfl rfl rfl rfl rfl rfl zi6 rfl rfl oG.one ?_)
 have bA:=bAl w7 (.cells (.int .i64 gc::rwV g0 g1 g2 g3 g4 g5 g6 g7 g8 gp0 gl0 gq0 gp1 gl1 gq1 gp2 gl2 gq2 g9 g10 gb).toArray 36);have G8:=zaq w7 (.int .i64 gc::rwV g0 g1 g2 g3 g4 g5 g6 g7 g8 gp0 gl0 gq0 gp1 gl1 gq1 gp2 gl2 gq2 g9 g10 gb).toArray 36;obtain ⟨W8,hW8⟩:∃ x,x=w7.alloc (.cells (.int .i64 gc::rwV g0 g1 g2 g3 g4 g5 g6 g7 g8 gp0 gl0 gq0 gp1 gl1 gq1 gp2 gl2 gq2 g9 g10 gb).toArray 36):=⟨_,rfl⟩;rw [← hW8] at bA G8 ⊢;have B8:=B7.trans (bA.mono (by omega));have S8:=S7.call bA;have OS8:=OS7.call bA;have X8:=X7.call bA;have OX8:=OX7.call bA;have OG8:=oG.call bA;have z8:w7.heap.size<W8.heap.size:=G8.lt;clear bA hW8 oG B7 S7 OS7 X7 OX7
 go_wp2_with (first | (refine zav 36 (.tmp 6) rfl rfl (w7.heap.size) rfl G8 Tryz.underlying36 za3 rfl ?_) | (refine zav 36 (.tmp 4) rfl rfl (w3.heap.size) rfl S8 Tryz.underlying36 za3 rfl ?_))
 refine (CE _ _ _ _ _ OG8.rd OS8.rd (by omega) (by omega)).mono ?_;rintro e w9 ⟨rfl,b9⟩;have z9:W8.heap.size≤w9.heap.size:=b9.size;have B9:=B8.trans (b9.mono (by omega));have S9:=hid (S8.call b9);have OS9:=hid (OS8.call b9);have X9:=hid (X8.call b9);have OX9:=hid (OX8.call b9);have G9:=hid (G8.call b9);have OG9:=hid (OG8.call b9);have HB9:=hid B9;have P9:=hid (HT1.out.call B9);have CTc:=fun w' (hb:Below w9.heap.size w9 w')=>CT w' (HB9.out.trans (hb.mono (by omega)));clear b9 B8 S8 OS8 X8 OX8 G8 OG8 B9
 go_upto_region 10 with fail
 go_cut [31] (fun v wx=>v=.bool false∧Below w9.heap.size w9 wx)
 case first=>
  have KS:∀ w',Below w9.heap.size w9 w'→(Box w' (w5.heap.size) (rwV x0 x1 x2 x3 x4 x5 x6 x7 x8 xp0 xl0 xq0 xp1 xl1 xq1 xp2 xl2 xq2 x9 x10 xb).toArray 34∧Box w' (w.heap.size) (rwV v0 v1 v2 v3 v4 v5 v6 v7 v8 vp0 vl0 vq0 vp1 vl1 vq1 vp2 vl2 vq2 v9 v10 vb).toArray 28):=fun w' hb=>⟨(X9.out).call hb,(P9.out.b1).call hb⟩;have B0:Below w9.heap.size w9 w9.drew:=zla _;refine zb0 4 (fun w'=>Box w' (w5.heap.size) (rwV x0 x1 x2 x3 x4 x5 x6 x7 x8 xp0 xl0 xq0 xp1 xl1 xq1 xp2 xl2 xq2 x9 x10 xb).toArray 34∧Box w' (w.heap.size) (rwV v0 v1 v2 v3 v4 v5 v6 v7 v8 vp0 vl0 vq0 vp1 vl1 vq1 vp2 vl2 vq2 v9 v10 vb).toArray 28) (by kernel_rfl) (KS _ B0) (fun hHeld=>?_);refine zac (i:=0) (oi:=_) 16 rfl (by kernel_rfl) (fun _ _ _ h=>h) (zgC 34 (.tmp 5) rfl rfl (w5.heap.size) rfl (cs:=(rwV x0 x1 x2 x3 x4 x5 x6 x7 x8 xp0 xl0 xq0 xp1 xl1 xq1 xp2 xl2 xq2 x9 x10 xb)) (fun w' h=>h.1) Tryz.underlying34 zbL rfl) (by assumption) ?_
  try simp only [Act.put,SL]
  refine zac (i:=1) (oi:=_) 16 rfl (by kernel_rfl) (fun _ _ _ h=>h) (zgC 28 (.tmp 1) rfl rfl (w.heap.size) rfl (cs:=(rwV v0 v1 v2 v3 v4 v5 v6 v7 v8 vp0 vl0 vq0 vp1 vl1 vq1 vp2 vl2 vq2 v9 v10 vb)) (fun w' h=>h.2) Tryz.underlying28 zfr rfl) (by assumption) ?_
  try simp only [Act.put,SL]
  refine zaX (i:=2) (o:=_) rfl (by kernel_rfl) (fun KC hKC=>?_);refine zbJ rfl 6 _ _ rfl #[.agg (rwV v0 v1 v2 v3 v4 v5 v6 v7 v8 vp0 vl0 vq0 vp1 vl1 vq1 vp2 vl2 vq2 v9 v10 vb).toArray] ?_ Tryz.func6 (by kernel_rfl) (by kernel_rfl) (CTc _ B0) ?_
  ·simp [Act.eval,Act.put]
  rintro ee wb ⟨cs',rfl,oR,bb⟩;have bR:Below w9.heap.size w9 wb:=B0.trans (bb.mono B0.size);refine ⟨_,rfl,?_⟩;refine hKC.out _ _ (KS _ bR) (fun hHeld=>?_);clear hKC KC
  try simp only [Act.put,SL]
  refine zaX (i:=3) (o:=_) rfl (by kernel_rfl) (fun KC hKC=>?_);refine zbJ rfl 9 _ _ rfl #[.agg (rwV x0 x1 x2 x3 x4 x5 x6 x7 x8 xp0 xl0 xq0 xp1 xl1 xq1 xp2 xl2 xq2 x9 x10 xb).toArray,.agg cs'.toArray] ?_ Tryz.func9 (by kernel_rfl) (by kernel_rfl) (CW _ _ _ _ _ ((OX9.out).call bR).rd oR.rd (Nat.le_trans (by omega) bR.size) (Nat.le_refl _)) ?_
  ·simp [Act.eval,Act.put]
  rintro ee wc' ⟨rfl,bc⟩;have bC:Below w9.heap.size w9 wc':=bR.trans (bc.mono bR.size);refine ⟨_,rfl,?_⟩;refine hKC.out _ _ (KS _ bC) (fun hHeld=>?_);clear hKC KC
  try simp only [Act.put,SL]
  refine zbY (o:=_) rfl (by kernel_rfl) (fun KC hKC=>?_);go_simp;refine hKC.out _ _ ?_;clear hKC KC
  try simp only [Act.put,SL]
  refine zbZ (by kernel_rfl) ?_ _;go_wp2
  go_meet
  exact ⟨rfl,bC⟩
 case rest=>
  obtain ⟨rfl,b10⟩:=hcut;obtain ⟨w10,rfl⟩:∃ x,x=wc:=⟨_,rfl⟩;clear CTc;have z10:w9.heap.size≤w10.heap.size:=b10.size;have B10:=HB9.out.trans (b10.mono (by omega));have S10:=S9.out.call b10;have OS10:=OS9.out.call b10;have X10:=X9.out.call b10;have OX10:=OX9.out.call b10;have G10:=G9.out.call b10;have OG10:=OG9.out.call b10;clear b10 HB9 S9 OS9 X9 OX9 G9 OG9 P9
  have hm0:¬ (M:Int)<0:=by omega
  go_wp2_with (refine zav 34 (.tmp 5) rfl rfl (w5.heap.size) rfl X10 Tryz.underlying34 zbL rfl ?_)
  refine (CK OX10).mono ?_;rintro e w11 ⟨rfl,OX11,c11⟩;have z11:w10.heap.size≤w11.heap.size:=c11.size;have B11:=B10.trans (c11.bel (B:=w1.heap.size) (by omega) (by omega));have S11:=S10.chg c11 (.inl (by omega));have OS11:=OS10.chg c11 (.inl (by omega));have G11:=G10.chg c11 (.inr (by omega));have OG11:=OG10.chg c11 (.inr (by omega));have u_0:w11.cell? ⟨w7.heap.size,0,none⟩=some (.int .i64 gc):=G11.cell 0;have u_1:w11.cell? ⟨w7.heap.size,1,none⟩=some (.int .i64 g0):=G11.cell 1;have u_2:w11.cell? ⟨w7.heap.size,2,none⟩=some (.int .i64 g1):=G11.cell 2;have u_3:w11.cell? ⟨w7.heap.size,3,none⟩=some (.int .i64 g2):=G11.cell 3;have u_4:w11.cell? ⟨w7.heap.size,4,none⟩=some (.int .i64 g3):=G11.cell 4;have u_5:w11.cell? ⟨w7.heap.size,5,none⟩=some (.int .i64 g4):=G11.cell 5;have u_6:w11.cell? ⟨w7.heap.size,6,none⟩=some (.int .i64 g5):=G11.cell 6;have u_7:w11.cell? ⟨w7.heap.size,7,none⟩=some (.int .i64 g6):=G11.cell 7;have u_8:w11.cell? ⟨w7.heap.size,8,none⟩=some (.int .i64 g7):=G11.cell 8;have u_9:w11.cell? ⟨w7.heap.size,9,none⟩=some (.int .i64 g8):=G11.cell 9;have u_10:w11.cell? ⟨w7.heap.size,10,none⟩=some (.slice gp0 gl0 gq0):=G11.cell 10;have u_11:w11.cell? ⟨w7.heap.size,11,none⟩=some (.slice gp1 gl1 gq1):=G11.cell 11;have u_12:w11.cell? ⟨w7.heap.size,12,none⟩=some (.slice gp2 gl2 gq2):=G11.cell 12;have u_13:w11.cell? ⟨w7.heap.size,13,none⟩=some (.int .i64 g9):=G11.cell 13;have u_14:w11.cell? ⟨w7.heap.size,14,none⟩=some (.int .i64 g10):=G11.cell 14;have u_15:w11.cell? ⟨w7.heap.size,15,none⟩=some (.bool gb):=G11.cell 15;have y_0:w11.cell? ⟨w3.heap.size,0,none⟩=some (.int .i64 sc):=S11.cell 0;have y_1:w11.cell? ⟨w3.heap.size,1,none⟩=some (.int .i64 s0):=S11.cell 1;have y_2:w11.cell? ⟨w3.heap.size,2,none⟩=some (.int .i64 s1):=S11.cell 2;have y_3:w11.cell? ⟨w3.heap.size,3,none⟩=some (.int .i64 s2):=S11.cell 3;have y_4:w11.cell? ⟨w3.heap.size,4,none⟩=some (.int .i64 s3):=S11.cell 4;have y_5:w11.cell? ⟨w3.heap.size,5,none⟩=some (.int .i64 s4):=S11.cell 5;have y_6:w11.cell? ⟨w3.heap.size,6,none⟩=some (.int .i64 s5):=S11.cell 6;have y_7:w11.cell? ⟨w3.heap.size,7,none⟩=some (.int .i64 s6):=S11.cell 7;have y_8:w11.cell? ⟨w3.heap.size,8,none⟩=some (.int .i64 s7):=S11.cell 8;have y_9:w11.cell? ⟨w3.heap.size,9,none⟩=some (.int .i64 s8):=S11.cell 9;have y_10:w11.cell? ⟨w3.heap.size,10,none⟩=some (.slice sp0 sl0 sq0):=S11.cell 10;have y_11:w11.cell? ⟨w3.heap.size,11,none⟩=some (.slice sp1 sl1 sq1):=S11.cell 11;have y_12:w11.cell? ⟨w3.heap.size,12,none⟩=some (.slice sp2 sl2 sq2):=S11.cell 12;have y_13:w11.cell? ⟨w3.heap.size,13,none⟩=some (.int .i64 s9):=S11.cell 13;have y_14:w11.cell? ⟨w3.heap.size,14,none⟩=some (.int .i64 s10):=S11.cell 14;have y_15:w11.cell? ⟨w3.heap.size,15,none⟩=some (.bool sb):=S11.cell 15
  clear OX11 c11 B10 S10 OS10 X10 OX10 G10 OG10
  go_wp2_with fail
  refine (CE _ _ _ _ _ OG11.rd OS11.rd (by omega) (by omega)).mono ?_;rintro e w12 ⟨rfl,b12⟩;have z12:w11.heap.size≤w12.heap.size:=b12.size;have B12:=B11.trans (b12.mono (by omega));have S12:=S11.call b12;have OS12:=OS11.call b12;have G12:=G11.call b12;have OG12:=OG11.call b12;clear b12 B11 S11 OS11 G11 OG11 u_0 u_1 u_2 u_3 u_4 u_5 u_6 u_7 u_8 u_9 u_10 u_11 u_12 u_13 u_14 u_15 y_0 y_1 y_2 y_3 y_4 y_5 y_6 y_7 y_8 y_9 y_10 y_11 y_12 y_13 y_14 y_15
  go_wp2_with (refine zav 36 (.tmp 6) rfl rfl (w7.heap.size) rfl G12 Tryz.underlying36 za3 rfl ?_)
  refine (CM OG12).mono ?_;rintro e w13 ⟨rfl,OG13,c13⟩;have z13:w12.heap.size≤w13.heap.size:=c13.size;have B13:=B12.trans (c13.bel (B:=w1.heap.size) (by omega) (by omega));have S13:=S12.chg c13 (.inl (by omega));have OS13:=OS12.chg c13 (.inl (by omega));have G13:=G12.chg c13 (.inr (by omega));clear c13 B12 S12 OS12 G12 OG12
  go_wp2_with (refine zav 36 (.tmp 6) rfl rfl (w7.heap.size) rfl G13 Tryz.underlying36 za3 rfl ?_)
  refine (CH _ _ _ OG13.rd (by omega)).mono ?_;rintro e w14 ⟨rfl,b14⟩;have z14:w13.heap.size≤w14.heap.size:=b14.size;have B14:=B13.trans (b14.mono (by omega));have S14:=S13.call b14;have OS14:=OS13.call b14;have G14:=G13.call b14;have OG14:=OG13.call b14;have P14:=HT1.out.call B14;clear b14 B13 S13 OS13 G13 OG13
  have hn0:¬ (N:Int)<0:=by omega
  go_wp2_with (refine zav 28 (.tmp 1) rfl rfl (w.heap.size) rfl P14.b1 Tryz.underlying28 zfr rfl ?_)
  refine (CT _ B14).mono ?_;rintro e w15 ⟨c15,rfl,o15,b15⟩
  go_wp2_with fail
  refine (CI _ _ _ o15.rd (Nat.le_refl _)).mono ?_;rintro e w16 ⟨cH,rfl,oH,b16⟩;obtain ⟨hc,h0,h1,h2,h3,h4,h5,h6,h7,h8,hp0,hl0,hq0,hp1,hl1,hq1,hp2,hl2,hq2,h9,h10,hb,rfl⟩:=zjX oH.rd;have z15:w14.heap.size≤w15.heap.size:=b15.size;have z16:w15.heap.size≤w16.heap.size:=b16.size;have B16:=(B14.trans (b15.mono (by omega))).trans (b16.mono (by omega));have S16:=(S14.call b15).call b16;have OS16:=(OS14.call b15).call b16;have G16:=(G14.call b15).call b16;have OG16:=(OG14.call b15).call b16;clear P14 o15 b15 b16 B14 S14 OS14 G14 OG14
  go_upto_region 25 with (refine zbd 36 10 (.tmp 56) _ _ 16 rfl rfl rfl rfl rfl rfl rfl rfl zi6 rfl rfl oH.one ?_)
  have bA:=bAl w16 (.cells (.int .i64 hc::rwV h0 h1 h2 h3 h4 h5 h6 h7 h8 hp0 hl0 hq0 hp1 hl1 hq1 hp2 hl2 hq2 h9 h10 hb).toArray 36);have H17:=zaq w16 (.int .i64 hc::rwV h0 h1 h2 h3 h4 h5 h6 h7 h8 hp0 hl0 hq0 hp1 hl1 hq1 hp2 hl2 hq2 h9 h10 hb).toArray 36;obtain ⟨W17,hW17⟩:∃ x,x=w16.alloc (.cells (.int .i64 hc::rwV h0 h1 h2 h3 h4 h5 h6 h7 h8 hp0 hl0 hq0 hp1 hl1 hq1 hp2 hl2 hq2 h9 h10 hb).toArray 36):=⟨_,rfl⟩;rw [← hW17] at bA H17 ⊢;have B17:=B16.trans (bA.mono (by omega));have S17:=S16.call bA;have OS17:=OS16.call bA;have G17:=G16.call bA;have OG17:=OG16.call bA;have OH17:=oH.call bA;have z17:w16.heap.size<W17.heap.size:=H17.lt;clear bA hW17 oH B16 S16 OS16 G16 OG16
  go_wp2_with (first | (refine zav 36 (.tmp 10) rfl rfl (w16.heap.size) rfl H17 Tryz.underlying36 za3 rfl ?_) | (refine zav 36 (.tmp 4) rfl rfl (w3.heap.size) rfl S17 Tryz.underlying36 za3 rfl ?_))
  refine (CE _ _ _ _ _ OH17.rd OS17.rd (by omega) (by omega)).mono ?_;rintro e w18 ⟨rfl,b18⟩;have z18:W17.heap.size≤w18.heap.size:=b18.size;have B18:=B17.trans (b18.mono (by omega));have G18:=G17.call b18;have OG18:=OG17.call b18;clear b18 B17 S17 OS17 G17 OG17 OH17 H17
  go_wp2_with (refine zav 36 (.tmp 6) rfl rfl (w7.heap.size) rfl G18 Tryz.underlying36 za3 rfl ?_)
  refine (CH _ _ _ OG18.rd (by omega)).mono ?_;rintro e w19 ⟨rfl,b19⟩;have HB:Hid (Below w.heap.size w w19):=(HT1.out.call (B18.trans (b19.mono (by omega)))).bel;clear b19 B18 G18 OG18;go_wp2;go_ret;exact ⟨rfl,HB.out⟩
set_option maxRecDepth 100000 in
theorem zc3 (os:Os) (started:os.Started) (H:Type) (enc:TypeId×Value→H) :
 ReturnsInHanded {} Tryz.checked os 3 .any (Rows.fnExactCleanTapesSpec.pre6 enc Tryz.prog Tryz.f3 Rows.fnExactCleanTapesRow.domain false) (Rows.fnExactCleanTapesSpec.post enc Tryz.prog Tryz.f3 false true false false):=by
 refine returnsInHanded_of_change (C:=Tryz.checked) zlc started (by kernel_rfl) Tryz.func3
  (ChangeSpec.witness6 (enc:=enc) (C:=Tryz.checked) false ⟨#[],#[.agg (rwV 0 0 0 0 0 0 0 0 0 none 0 0 none 0 0 none 0 0 0 0 false).toArray],[]⟩ 8 (by kernel_rfl) (by kernel_rfl) (by kernel_rfl) (by kernel_rfl)) ?_
 intro W base args ds gs before hval0 hW hcnd _;have hval:∀ (j:Nat) t v,Tryz.f3.params[j]?=some t→args[j]?=some v→Value.okWide Tryz.prog W .any base t v:=hval0;have hW':=hW;obtain ⟨p,q,hA0,hV,rfl,hfz,hnd⟩:=hW;have hA:DataW.TrodAll enc Tryz.prog W 0 (fun _=>true) true Tryz.f3.params.toList args.toList ds p:=hA0;rw [Tryz.params3] at hA hval;obtain ⟨v0,vs0,d0,ds0,p0,q0,hargs,rfl,rfl,h0,r0⟩:=trodAll_cons hA;obtain ⟨rfl,rfl,rfl⟩:=trodAll_nil r0
 obtain rfl:args=#[v0]:=by cases args;simp_all
 obtain ⟨rfl,rfl⟩:=trodVars_none hV;have k0:=h0
 have lt0:∀ x∈p0,x.block<W.heap.size:=by obtain ⟨m,hm⟩:=k0;exact DataW.trod_lt m _ _ _ hm
 obtain ⟨cs0,a0,rfl,rd0⟩:=zf0 zkd Tryz.underlying28 (hval 0 28 v0 rfl rfl) h0;clear hA0 hval0;refine (zdp a0 cs0 W rd0).mono fun e W' ⟨he,bel⟩=>?_;subst he;exact ⟨_,rfl,_,_,_,[],_,[],hW',trodAll_mk1 (shut_bool Tryz.underlying4 _),(trodAll_cons_mk (Below.trod zj8 (by kernel_rfl) (of_decide_eq_true (by kernel_rfl)) k0 bel lt0) trodAll_mk0),rfl,bel.frame _,fun h=>by cases h⟩
end Go.Proofs.YthbpmbgfddpffaaGreat
