/- Records in a row exchanged: swapRange. -/
import Derived.Test.YthbpmbgfddpffaaGreatZPcleanai
set_option linter.unusedVariables false
set_option linter.unusedSimpArgs false
set_option maxHeartbeats 16000000
namespace Go.Proofs.YthbpmbgfddpffaaGreat
open Go.RowKit F256
theorem zci:Tryz.prog.follows Departure.mixedOrders=true:=by kernel_rfl
theorem zam {cs:List Value} (h:cs.length=9):(Tryz.prog.info? 85).map (·.size)=some cs.length:=by rw [h];kernel_rfl
def RowsV (x0:Nat→RecD) (enc:Nat→List Value) (N blk cap lo hi:Nat) (w:World) (p:Nat→Nat):Prop:=View zab 85 w lo hi (.slice (some ⟨blk,0,none⟩) N cap) N (fun i=>x0 (p i)) (fun i=>enc (p i))
theorem RowsV.same {x0:Nat→RecD} {enc:Nat→List Value} {N blk cap lo hi:Nat} {w:World} {p q:Nat→Nat} (h:RowsV x0 enc N blk cap lo hi w p) (e:∀ i,i<N→p i=q i):RowsV x0 enc N blk cap lo hi w q:=View.congr2 h (fun i hi=>by rw [e i hi]) (fun i hi=>by rw [e i hi])
theorem zlK {β:Type} (f:Nat→β) (p:Nat→Nat) (A B i:Nat):upd (upd (fun k=>f (p k)) A (f (p B))) B (f (p A)) i=f (p (Sym.swp A B i)):=by
 unfold Sym.swp
 by_cases c1:i=B
 ·subst c1
  rw [zaZ]
  by_cases c2:i=A
  ·subst c2;simp
  ·rw [if_neg c2,if_pos rfl]
 ·rw [za5 _ _ c1]
  by_cases c2:i=A
  ·subst c2;rw [zaZ,if_pos rfl]
  ·rw [za5 _ _ c2,if_neg c2,if_neg c1]
theorem zer {x0:Nat→RecD} {enc:Nat→List Value} {p:Nat→Nat} {w:World} {lo hi N blk cap A B:Nat} (V:RowsV x0 enc N blk cap lo hi w p) (hlo:hi≤lo) (hA:A<N) (hB:B<N) :
 RowsV x0 enc N blk cap lo hi ((w.setCells blk (A*9) (enc (p B))).setCells blk (B*9) (enc (p A))) (fun k=>p (Sym.swp A B k))∧ChgL [blk] w ((w.setCells blk (A*9) (enc (p B))).setCells blk (B*9) (enc (p A))):=by
 unfold RowsV at V ⊢;have hg:=V.row.lt blk rfl;have C1:=zcg blk (enc (p B)) w (A*9);have V1:=V.put (by decide) hlo hA (V.each B hB);have V2:=V1.put (by decide) hlo hB (zab.rd_below (V.each A hA) (C1.bel (B:=hi) (fun b hb=>by simp at hb;omega) (by omega)) (Nat.le_refl _));refine ⟨V2.congr2 (fun i _=>?_) (fun i _=>?_),C1.trans (zcg blk _ _ _)⟩
 ·exact zlK x0 p A B i
 ·exact zlK enc p A B i
set_option maxRecDepth 1000000 in
theorem zdb (x0:Nat→RecD) (enc:Nat→List Value) (p:Nat→Nat) (N blk cap lo hi:Nat) (w:World) (V:RowsV x0 enc N blk cap lo hi w p) (hlo:hi≤lo) (hN:N<1000000000) (a b n:Nat) (fv:Value) (hab:a+n≤b) (hb:b+n≤N) :
 Calls Tryz.prog 214 #[.slice (some ⟨blk,0,none⟩) N cap,.int .i64 a,.int .i64 b,.int .i64 n,fv] w (fun e w'=>e=.returned (.tuple #[])∧RowsV x0 enc N blk cap lo hi w' (fun k=>p (Sym.swr a b n k))∧ChgL [blk] w w'):=by
 have HV0:=hid V;clear V
 go_enter Tryz.func214,Tryz.ntmps214
 go_wp2
 go_loopw [10] (fun i wr=>∃ t:Nat,t≤n∧i=.int .i64 t∧RowsV x0 enc N blk cap lo hi wr (fun k=>p (Sym.swr a b t k))∧ChgL [blk] w wr) (fun i _=>n-(intOf i).toNat)
 case atStart=>exact ⟨0,Nat.zero_le _,rfl,HV0.out.same (fun i _=>by rw [Sym.swr_zero]),ChgL.refl _ _⟩
 case round=>
  obtain ⟨t,ht,rfl,V,C⟩:=hrel;have HC:=hid C;clear C
  by_cases hlt:t<n
  ·have t1:(t:Int)<(n:Int):=by omega
   obtain ⟨q,hq⟩:∃ q:Nat→Nat,q=fun k=>p (Sym.swr a b t k):=⟨_,rfl⟩;have HQ:=hid hq
   have VQ:RowsV x0 enc N blk cap lo hi wr q:=by rw [hq];exact V
   obtain ⟨A,hA⟩:∃ A,A=a+t:=⟨_,rfl⟩;obtain ⟨B,hB⟩:∃ B,B=b+t:=⟨_,rfl⟩
   have hAN:A<N:=by omega
   have hBN:B<N:=by omega
   have HAB:Hid (A=a+t∧B=b+t):=⟨hA,hB⟩
   have w1:IntKind.i64.wrap ((a:Int)+(t:Int))=(A:Int):=by rw [IntKind.wrap_i64];omega
   have w2:IntKind.i64.wrap ((b:Int)+(t:Int))=(B:Int):=by rw [IntKind.wrap_i64];omega
   have i1:(A:Int)<(N:Int):=by omega
   have i2:(B:Int)<(N:Int):=by omega
   have i3:(0:Int)≤(A:Int):=by omega
   have i4:(0:Int)≤(B:Int):=by omega
   have VD:=View.drew VQ;have rgA:wr.drew.rangeAt blk (A*9) (enc (q A)):=VD.range hAN;have rgB:wr.drew.rangeAt blk (B*9) (enc (q B)):=VD.range hBN;have hsA:(enc (q A)).length=9:=VD.lens A hAN;have hsB:(enc (q B)).length=9:=VD.lens B hBN
   have th1:wr.drew.there blk (A*9) (enc (q B)).length:=by rw [hsB];exact VD.there hAN
   have th2:(wr.drew.setCells blk (A*9) (enc (q B))).there blk (B*9) (enc (q A)).length:=by rw [hsA];exact (VD.put (by decide) hlo hAN (VD.each B hBN)).there hBN
   have oneA:=zaT _ _ _ _ (VD.each A hAN);have oneB:=zaT _ _ _ _ (VD.each B hBN);have SW:=zer VD hlo hAN hBN;have HSW:=hid SW.1;have HSC:Hid (ChgL [blk] wr ((wr.drew.setCells blk (A*9) (enc (q B))).setCells blk (B*9) (enc (q A)))):=(ChgL.of_below ⟨rfl,rfl,rfl,Nat.le_refl _,fun _ _=>rfl⟩:ChgL [blk] wr wr.drew).trans SW.2;obtain ⟨cA,hcA⟩:∃ c,c=enc (q A):=⟨_,rfl⟩;obtain ⟨cB,hcB⟩:∃ c,c=enc (q B):=⟨_,rfl⟩;rw [← hcA] at rgA th2 hsA oneA HSW HSC;rw [← hcB] at rgB th1 th2 hsB oneB HSW HSC;clear hcA hcB VD SW;clear hq hA hB V VQ
   go_upto_region 3 with fail
   refine zay 21 (fun w'=>w'.rangeAt blk (A*9) cA∧w'.rangeAt blk (B*9) cB) zci ⟨rgA,rgB⟩ (fun hHeld=>?_);refine zaa (i:=0) (oi:=_) (v:=?_) rfl (by kernel_rfl) (fun _ _ _ h=>h) (Or.inl ⟨by rfl,?_⟩) (by assumption) ?_
   rotate_left
   ·intro w' hSw;go_simp;try with_reducible rfl
   try simp only [Act.put,SL]
   refine zaa (i:=1) (oi:=_) (v:=?_) rfl (by kernel_rfl) (fun _ _ _ h=>h) (Or.inl ⟨by rfl,?_⟩) (by assumption) ?_
   rotate_left
   ·intro w' hSw;go_simp;try with_reducible rfl
   try simp only [Act.put,SL]
   refine zaa (i:=2) (oi:=_) (v:=?_) rfl (by kernel_rfl) (fun _ _ _ h=>h) (Or.inl ⟨by rfl,?_⟩) (by assumption) ?_
   rotate_left
   ·intro w' hSw;go_simp;try with_reducible rfl
   try simp only [Act.put,SL]
   refine zaa (i:=3) (oi:=_) (v:=?_) rfl (by kernel_rfl) (fun _ _ _ h=>h) (Or.inl ⟨by rfl,?_⟩) (by assumption) ?_
   rotate_left
   ·intro w' hSw;go_simp;try with_reducible rfl
   try simp only [Act.put,SL]
   refine zaa (i:=4) (oi:=_) (v:=?_) rfl (by kernel_rfl) (fun _ _ _ h=>h) (Or.inl ⟨by rfl,?_⟩) (by assumption) ?_
   rotate_left
   ·intro w' hSw;go_simp;try with_reducible rfl
   try simp only [Act.put,SL]
   refine zaa (i:=5) (oi:=_) (v:=?_) rfl (by kernel_rfl) (fun _ _ _ h=>h) (Or.inl ⟨by rfl,?_⟩) (by assumption) ?_
   rotate_left
   ·intro w' hSw;go_simp;try with_reducible rfl
   try simp only [Act.put,SL]
   refine zaa (i:=6) (oi:=_) (v:=?_) rfl (by kernel_rfl) (fun _ _ _ h=>h) (Or.inl ⟨by rfl,?_⟩) (by assumption) ?_
   rotate_left
   ·intro w' hSw;go_simp;try with_reducible rfl
   try simp only [Act.put,SL]
   refine zaa (i:=7) (oi:=_) (v:=?_) rfl (by kernel_rfl) (fun _ _ _ h=>h) (Or.inl ⟨by rfl,?_⟩) (by assumption) ?_
   rotate_left
   ·intro w' hSw;go_simp;try with_reducible rfl
   try simp only [Act.put,SL]
   refine zaa (i:=8) (oi:=_) (v:=?_) rfl (by kernel_rfl) (fun _ _ _ h=>h) (Or.inl ⟨by rfl,?_⟩) (by assumption) ?_
   rotate_left
   ·intro w' hSw;go_simp;try with_reducible rfl
   try simp only [Act.put,SL]
   refine zaa (i:=9) (oi:=_) (v:=?_) rfl (by kernel_rfl) (fun _ _ _ h=>h) (Or.inl ⟨by rfl,?_⟩) (by assumption) ?_
   rotate_left
   ·intro w' hSw;go_simp;try with_reducible rfl
   try simp only [Act.put,SL]
   refine zaa (i:=10) (oi:=_) (v:=?_) rfl (by kernel_rfl) (fun _ _ _ h=>h) (Or.inl ⟨by rfl,?_⟩) (by assumption) ?_
   rotate_left
   ·intro w' hSw;go_simp;try with_reducible rfl
   try simp only [Act.put,SL]
   refine zaa (i:=11) (oi:=_) (v:=?_) rfl (by kernel_rfl) (fun _ _ _ h=>h) (Or.inl ⟨by rfl,?_⟩) (by assumption) ?_
   rotate_left
   ·intro w' hSw;go_simp;try with_reducible rfl
   try simp only [Act.put,SL]
   refine zaa (i:=12) (oi:=_) (v:=?_) rfl (by kernel_rfl) (fun _ _ _ h=>h) (Or.inl ⟨by rfl,?_⟩) (by assumption) ?_
   rotate_left
   ·intro w' hSw;go_simp;try with_reducible rfl
   try simp only [Act.put,SL]
   refine zaf (i:=13) (oi:=_) 16 rfl (by kernel_rfl) (fun _ _ _ h=>h) (yieldsIf_load_mid (by rfl) 85 (.tmp 28) rfl blk (B*9) (by simp [Act.eval,Act.put]) cB _ (fun w h=>h.2) Tryz.underlying85 rfl (zam hsB)) (by assumption) ?_
   try simp only [Act.put,SL]
   refine zaa (i:=14) (oi:=_) (v:=?_) rfl (by kernel_rfl) (fun _ _ _ h=>h) (Or.inl ⟨by rfl,?_⟩) (by assumption) ?_
   rotate_left
   ·intro w' hSw;go_simp;try with_reducible rfl
   try simp only [Act.put,SL]
   refine zaa (i:=15) (oi:=_) (v:=?_) rfl (by kernel_rfl) (fun _ _ _ h=>h) (Or.inl ⟨by rfl,?_⟩) (by assumption) ?_
   rotate_left
   ·intro w' hSw;go_simp;try with_reducible rfl
   try simp only [Act.put,SL]
   refine zaa (i:=16) (oi:=_) (v:=?_) rfl (by kernel_rfl) (fun _ _ _ h=>h) (Or.inl ⟨by rfl,?_⟩) (by assumption) ?_
   rotate_left
   ·intro w' hSw;go_simp;try with_reducible rfl
   try simp only [Act.put,SL]
   refine zaa (i:=17) (oi:=_) (v:=?_) rfl (by kernel_rfl) (fun _ _ _ h=>h) (Or.inl ⟨by rfl,?_⟩) (by assumption) ?_
   rotate_left
   ·intro w' hSw;go_simp;try with_reducible rfl
   try simp only [Act.put,SL]
   refine zaa (i:=18) (oi:=_) (v:=?_) rfl (by kernel_rfl) (fun _ _ _ h=>h) (Or.inl ⟨by rfl,?_⟩) (by assumption) ?_
   rotate_left
   ·intro w' hSw;go_simp;try with_reducible rfl
   try simp only [Act.put,SL]
   refine zaf (i:=19) (oi:=_) 16 rfl (by kernel_rfl) (fun _ _ _ h=>h) (yieldsIf_load_mid (by rfl) 85 (.tmp 34) rfl blk (A*9) (by simp [Act.eval,Act.put]) cA _ (fun w h=>h.1) Tryz.underlying85 rfl (zam hsA)) (by assumption) ?_
   try simp only [Act.put,SL]
   refine zaa (i:=20) (oi:=_) (v:=?_) rfl (by kernel_rfl) (fun _ _ _ h=>h) (Or.inl ⟨by rfl,?_⟩) (by assumption) ?_
   rotate_left
   ·intro w' hSw;go_simp;try with_reducible rfl
   try simp only [Act.put,SL]
   refine zbw (i:=21) rfl (by kernel_rfl) (by kernel_rfl) rfl rfl 85 (.tmp 36) (.tmp 29) rfl blk (A*9) cB (by simp [Act.eval]) (by simp [Act.eval]) th1 (zam hsB) oneB ?_;refine zak (i:=22) (oi:=_) (v:=?_) rfl (by kernel_rfl) (fun _ _ _ h=>h) (Or.inl ⟨by rfl,?_⟩) ?_
   rotate_left
   ·intro w' hSw;go_simp;try with_reducible rfl
   try simp only [Act.put,SL]
   refine zbw (i:=23) rfl (by kernel_rfl) (by kernel_rfl) rfl rfl 85 (.tmp 37) (.tmp 35) rfl blk (B*9) cA (by simp [Act.eval]) (by simp [Act.eval]) th2 (zam hsA) oneA ?_;refine zar (by kernel_rfl) ?_ _;go_wp2
   go_roundw
   case rel=>
    have e:∀ i,q (Sym.swp A B i)=p (Sym.swr a b (t+1) i):=fun i=>by
     rw [HQ.out,HAB.out.1,HAB.out.2]
     show p (Sym.swr a b t (Sym.swp (a+t) (b+t) i))=_
     rw [Sym.swr_succ (by omega)]
    exact ⟨t+1,by omega,by go_num,HSW.out.same (fun i _=>e i),HC.out.trans HSC.out⟩
   case measure=>simp [intOf];omega
  ·obtain rfl:t=n:=by omega
   have HV:=hid V;clear V;go_wp2
   go_end0
   exact ⟨rfl,HV.out,HC.out⟩
set_option maxRecDepth 1000000 in
theorem zkF (x0:Nat→RecD) (enc:Nat→List Value) (p:Nat→Nat) (N blk cap lo hi:Nat) (w:World) (V:RowsV x0 enc N blk cap lo hi w p) (hlo:hi≤lo) (hN:N<1000000000) (a m b:Nat) (fv:Value) (ham:a<m) (hmb:m<b) (hb:b≤N) :
 Calls Tryz.prog 203 #[.slice (some ⟨blk,0,none⟩) N cap,.int .i64 a,.int .i64 m,.int .i64 b,fv] w (fun e w'=>e=.returned (.tuple #[])∧RowsV x0 enc N blk cap lo hi w' (fun k=>p (Sym.rot a m b k))∧ChgL [blk] w w'):=by
 have HV0:=hid V;clear V
 go_enter Tryz.func203,Tryz.ntmps203
 go_wp2
 go_loopw [10,11] (fun vi vj wr=>∃ (i j:Nat) (q:Nat→Nat),0<i∧0<j∧i≤m-a∧j≤b-m∧vi=.int .i64 i∧vj=.int .i64 j∧(∀ k,q (Sym.rot (m-i) m (m+j) k)=p (Sym.rot a m b k))∧RowsV x0 enc N blk cap lo hi wr q∧ChgL [blk] w wr) (fun vi vj _=>(intOf vi).toNat+(intOf vj).toNat)
 case atStart=>exact ⟨m-a,b-m,p,by omega,by omega,by omega,by omega,by go_num,by go_num,fun k=>by rw [show m-(m-a)=a by omega,show m+(b-m)=b by omega],HV0.out,ChgL.refl _ _⟩
 case round=>
  obtain ⟨i,j,q,hi0,hj0,him,hjb,rfl,rfl,hq,V,C⟩:=hrel;have HC:=hid C;have HQ:=hid hq;clear C hq
  have w1:IntKind.i64.wrap ((m:Int)-(i:Int))=((m-i:Nat):Int):=by rw [IntKind.wrap_i64];omega
  obtain ⟨M,hM⟩:∃ M,M=m-i:=⟨_,rfl⟩;have HM:=hid hM;rw [← hM] at w1
  by_cases hij:i=j
  ·subst hij
   have hne:((i:Int) != (i:Int))=false:=by simp
   have CS:=zdb x0 enc q N blk cap lo hi wr V hlo hN M m i fv (by omega) (by omega);clear V hM
   go_wp2_with fail
   refine CS.mono ?_;rintro e w2 ⟨rfl,V2,C2⟩;go_wp2
   go_end0
   refine ⟨rfl,V2.same (fun k _=>?_),HC.out.trans C2⟩
   show q (Sym.swr M m i k)=p (Sym.rot a m b k)
   rw [← HQ.out,HM.out,Sym.rot_same (by omega)]
  ·have hne:((i:Int) != (j:Int))=true:=by simp;omega
   by_cases hlt:j<i
   ·have hgt:(j:Int)<(i:Int):=by omega
    have w3:IntKind.i64.wrap ((i:Int)-(j:Int))=((i-j:Nat):Int):=by rw [IntKind.wrap_i64];omega
    have CS:=zdb x0 enc q N blk cap lo hi wr V hlo hN M m j fv (by omega) (by omega);clear V hM
    go_wp2_with fail
    refine CS.mono ?_;rintro e w2 ⟨rfl,V2,C2⟩;have HV2:=hid V2;clear V2 CS;go_wp2
    go_roundw
    case rel=>exact ⟨i-j,j,fun k=>q (Sym.swr M m j k),by omega,by omega,by omega,by omega,by go_num,by go_num,fun k=>by
     show q (Sym.swr M m j (Sym.rot (m-(i-j)) m (m+j) k))=_
     rw [HM.out,Sym.rot_more (by omega) (by omega),HQ.out],HV2.out,HC.out.trans C2⟩
    case measure=>simp [intOf];omega
   ·have hgt:decide ((j:Int)<(i:Int))=false:=decide_eq_false (by omega)
    have w3:IntKind.i64.wrap ((j:Int)-(i:Int))=((j-i:Nat):Int):=by rw [IntKind.wrap_i64];omega
    have w4:IntKind.i64.wrap ((m:Int)+(j:Int))=((m+j:Nat):Int):=by rw [IntKind.wrap_i64];omega
    have w5:IntKind.i64.wrap (((m+j:Nat):Int)-(i:Int))=((m+j-i:Nat):Int):=by rw [IntKind.wrap_i64];omega
    have CS:=zdb x0 enc q N blk cap lo hi wr V hlo hN M (m+j-i) i fv (by omega) (by omega);obtain ⟨MJ,hMJ⟩:∃ x,x=m+j:=⟨_,rfl⟩;obtain ⟨MI,hMI⟩:∃ x,x=m+j-i:=⟨_,rfl⟩;have HMI:=hid hMI;rw [← hMI] at CS w5;rw [← hMJ] at w4 w5;clear V hM hMI hMJ
    go_wp2_with fail
    refine CS.mono ?_;rintro e w2 ⟨rfl,V2,C2⟩;have HV2:=hid V2;clear V2 CS;go_wp2
    go_roundw
    case rel=>exact ⟨i,j-i,fun k=>q (Sym.swr M MI i k),by omega,by omega,by omega,by omega,by go_num,by go_num,fun k=>by
     show q (Sym.swr M MI i (Sym.rot (m-i) m (m+(j-i)) k))=_
     rw [HM.out,HMI.out,Sym.rot_less (by omega) (by omega),HQ.out],HV2.out,HC.out.trans C2⟩
    case measure=>simp [intOf];omega
end Go.Proofs.YthbpmbgfddpffaaGreat
namespace Go.Proofs.YthbpmbgfddpffaaGreat
open Go.RowKit
theorem zaQ {ops:Array Oper} {o:Oper} {a:Act} {w:World} {K:Act→World→Prop} {Q:Exit→Act→World→Prop} {E:Prop}
 (hw:Region.wanted o (yielded ops a.tmps)=true) (x:Operand) (n:Nat) (caps:Array Value) (args:Array Operand) (ty:Array TypeId) (hop:o.op=Op.call { callee:=Callee.value x,args:=args,argTypes:=ty }) (hx:a.eval x=.func (.func n) #[] caps) (vals:Array Value) (hv:args.map a.eval=vals)
 {fn : Func} (hfn : Tryz.prog.funcs[n]? = some fn) (hnm : (fn.name == "runtime.NumGoroutine") = false) (hbd : fn.body.isSome = true)
 {R:Ending→World→Prop} (hc:Calls Tryz.prog n (vals++caps) w R) (hK:∀ e w',R e w'→∃ v,e=.returned v∧K (a.put o.dst v) w') :
 if Region.wanted o (yielded ops a.tmps)=true then Oper.wp Tryz.prog o a w K Q else E:=by
 have hn' : ¬ fn.name = "runtime.NumGoroutine" := by simpa using hnm
 have hb':¬ fn.body=none:=by intro h;rw [h] at hbd;cases hbd
 rw [if_pos hw];unfold Oper.wp
 simp [execOp,hop,hx,resolve,invoke,Result.andThen,Deferred.ofValue,callFunc,Oper.upon,hv,hfn,hn',hb']
 refine hc.mono fun e w' h=>?_;obtain ⟨v,rfl,hk⟩:=hK e w' h;exact hk
end Go.Proofs.YthbpmbgfddpffaaGreat
namespace Go.Proofs.YthbpmbgfddpffaaGreat
open Go.RowKit F256
def cmpI (a b:Int):Int:=if a<b then -1 else if b<a then 1 else 0
def numC (r s:RecD):Int:=if cmpI r.seq s.seq≠0 then cmpI r.seq s.seq else if cmpI r.kind s.kind≠0 then cmpI r.kind s.kind else cmpI r.group s.group
theorem zj1 (a:Int) (w:World):Calls Tryz.prog 195 #[.int .i64 a] w fun e w'=>e=.returned (.bool false)∧w'=w:=by
 have h:(a != a)=false:=by simp
 go_enter Tryz.func195,Tryz.ntmps195
 go_wp2;go_ret;exact ⟨rfl,rfl⟩
theorem zeK (a b:Int) (w:World):Calls Tryz.prog 169 #[.int .i64 a,.int .i64 b] w fun e w'=>e=.returned (.int .i64 (cmpI a b))∧w'=w:=by
 have C1:=zj1 a w;have C2:=zj1 b w
 by_cases h1:a<b
 ·rw [show cmpI a b=-1 by unfold cmpI;rw [if_pos h1]]
  go_enter Tryz.func169,Tryz.ntmps169
  go_wp2_with fail
  refine C1.mono ?_;rintro e w1 ⟨rfl,e1⟩;obtain rfl:=e1.symm
  go_wp2_with fail
  refine C2.mono ?_;rintro e w1 ⟨rfl,e1⟩;obtain rfl:=e1.symm;clear C1 C2;go_wp2;go_ret;exact ⟨rfl,rfl⟩
 by_cases h2:b<a
 ·rw [show cmpI a b=1 by unfold cmpI;rw [if_neg h1,if_pos h2]]
  have h1:decide (a<b)=false:=decide_eq_false h1
  go_enter Tryz.func169,Tryz.ntmps169
  go_wp2_with fail
  refine C1.mono ?_;rintro e w1 ⟨rfl,e1⟩;obtain rfl:=e1.symm
  go_wp2_with fail
  refine C2.mono ?_;rintro e w1 ⟨rfl,e1⟩;obtain rfl:=e1.symm;clear C1 C2;go_wp2;go_ret;exact ⟨rfl,rfl⟩
 ·rw [show cmpI a b=0 by unfold cmpI;rw [if_neg h1,if_neg h2]]
  have h1:decide (a<b)=false:=decide_eq_false h1;have h2:decide (b<a)=false:=decide_eq_false h2
  go_enter Tryz.func169,Tryz.ntmps169
  go_wp2_with fail
  refine C1.mono ?_;rintro e w1 ⟨rfl,e1⟩;obtain rfl:=e1.symm
  go_wp2_with fail
  refine C2.mono ?_;rintro e w1 ⟨rfl,e1⟩;obtain rfl:=e1.symm;clear C1 C2;go_wp2;go_ret;exact ⟨rfl,rfl⟩
def or3 (a b c:Int):Int:=if a≠0 then a else if b≠0 then b else c
theorem or_is (a b c:Int) (g cap:Nat) (w:World) (h0:w.cell? ⟨g,0,none⟩=some (.int .i64 a)) (h1:w.cell? ⟨g,1,none⟩=some (.int .i64 b)) (h2:w.cell? ⟨g,2,none⟩=some (.int .i64 c)) :
 Calls Tryz.prog 168 #[.slice (some ⟨g,0,none⟩) 3 cap] w fun e w'=>e=.returned (.int .i64 (or3 a b c))∧w'=w:=by
 by_cases ha:a≠0
 ·rw [show or3 a b c=a by unfold or3;rw [if_pos ha]]
  have:(a != 0)=true:=by simpa using ha
  go_enter Tryz.func168,Tryz.ntmps168
  go_wp2
  go_loopw [8] (fun i wr=>wr=w∧(i=.int .i64 0)) (fun i _=>3-(intOf i).toNat)
  case atStart=>simp
  case round=>
   obtain ⟨e,hrel⟩:=hrel;obtain rfl:=e.symm;subst hrel;go_wp2;go_ret;exact ⟨rfl,rfl⟩
 obtain rfl:a=0:=by omega
 by_cases hb:b≠0
 ·rw [show or3 0 b c=b by unfold or3;rw [if_neg (by simp),if_pos hb]]
  have:(b != 0)=true:=by simpa using hb
  go_enter Tryz.func168,Tryz.ntmps168
  go_wp2
  go_loopw [8] (fun i wr=>wr=w∧(i=.int .i64 0∨i=.int .i64 1)) (fun i _=>3-(intOf i).toNat)
  case atStart=>simp
  case round=>
   obtain ⟨e,hrel⟩:=hrel;obtain rfl:=e.symm
   rcases hrel with rfl | rfl
   ·go_wp2
    go_roundw
    case rel=>simp
    case measure=>simp [intOf]
   ·go_wp2
    go_ret;exact ⟨rfl,rfl⟩
 obtain rfl:b=0:=by omega
 rw [show or3 0 0 c=c by unfold or3;rw [if_neg (by simp),if_neg (by simp)]]
 by_cases hc:c≠0
 ·have:(c != 0)=true:=by simpa using hc
  go_enter Tryz.func168,Tryz.ntmps168
  go_wp2
  go_loopw [8] (fun i wr=>wr=w∧(i=.int .i64 0∨i=.int .i64 1∨i=.int .i64 2)) (fun i _=>3-(intOf i).toNat)
  case atStart=>simp
  case round=>
   obtain ⟨e,hrel⟩:=hrel;obtain rfl:=e.symm
   rcases hrel with rfl | rfl | rfl
   ·go_wp2
    go_roundw
    case rel=>simp
    case measure=>simp [intOf]
   ·go_wp2
    go_roundw
    case rel=>simp
    case measure=>simp [intOf]
   ·go_wp2
    go_ret;exact ⟨rfl,rfl⟩
 ·obtain rfl:c=0:=by omega
  go_enter Tryz.func168,Tryz.ntmps168
  go_wp2
  go_loopw [8] (fun i wr=>wr=w∧(i=.int .i64 0∨i=.int .i64 1∨i=.int .i64 2∨i=.int .i64 3)) (fun i _=>3-(intOf i).toNat)
  case atStart=>simp
  case round=>
   obtain ⟨e,hrel⟩:=hrel;obtain rfl:=e.symm
   rcases hrel with rfl | rfl | rfl | rfl
   ·go_wp2
    go_roundw
    case rel=>simp
    case measure=>simp [intOf]
   ·go_wp2
    go_roundw
    case rel=>simp
    case measure=>simp [intOf]
   ·go_wp2
    go_roundw
    case rel=>simp
    case measure=>simp [intOf]
   ·go_wp2
    go_ret;exact ⟨rfl,rfl⟩
set_option maxRecDepth 100000 in
theorem zcy (r s:RecD) (cr cs:List Value) (hi hj:Nat) (w:World) (hr:zab.rd w hi r cr) (hs:zab.rd w hj s cs) :
 Calls Tryz.prog 134 #[.agg cr.toArray,.agg cs.toArray] w fun e w'=>e=.returned (.int .i64 (numC r s))∧Below w.heap.size w w':=by
 obtain ⟨a6,ak6,a7,ak7,a8,ak8,rfl,-⟩:=zaD hr;obtain ⟨b6,bk6,b7,bk7,b8,bk8,rfl,-⟩:=zaD hs;have T0:=zaz w (rwR r a6 ak6 a7 ak7 a8 ak8).toArray (rwR s b6 bk6 b7 bk7 b8 bk8).toArray 85 85
 go_enter Tryz.func134,Tryz.ntmps134
 go_upto_region 1 with fail
 obtain ⟨W,hW⟩:∃ x,x=(w.alloc (.cells (rwR r a6 ak6 a7 ak7 a8 ak8).toArray 85)).alloc (.cells (rwR s b6 bk6 b7 bk7 b8 bk8).toArray 85):=⟨_,rfl⟩;rw [← hW] at T0 ⊢;clear hW hr hs;have HB:=hid T0.bel;have zW:w.heap.size+1<W.heap.size:=T0.b2.lt;have SW:∀ w',Below W.heap.size W w'→(w'.cell? ⟨w.heap.size,1,none⟩=some (.int .i64 r.seq)∧w'.cell? ⟨w.heap.size,0,none⟩=some (.int .i64 r.kind)∧w'.cell? ⟨w.heap.size,4,none⟩=some (.int .i64 r.group)∧w'.cell? ⟨(w.heap.size+1),1,none⟩=some (.int .i64 s.seq)∧w'.cell? ⟨(w.heap.size+1),0,none⟩=some (.int .i64 s.kind)∧w'.cell? ⟨(w.heap.size+1),4,none⟩=some (.int .i64 s.group)):=fun w' hb=>⟨(hb.cell (p:=⟨w.heap.size,1,none⟩) (by show w.heap.size<_;omega)).trans (T0.b1.cell 1),(hb.cell (p:=⟨w.heap.size,0,none⟩) (by show w.heap.size<_;omega)).trans (T0.b1.cell 0),(hb.cell (p:=⟨w.heap.size,4,none⟩) (by show w.heap.size<_;omega)).trans (T0.b1.cell 4),(hb.cell (p:=⟨w.heap.size+1,1,none⟩) (by show w.heap.size+1<_;omega)).trans (T0.b2.cell 1),(hb.cell (p:=⟨w.heap.size+1,0,none⟩) (by show w.heap.size+1<_;omega)).trans (T0.b2.cell 0),(hb.cell (p:=⟨w.heap.size+1,4,none⟩) (by show w.heap.size+1<_;omega)).trans (T0.b2.cell 4)⟩;have bA:Below W.heap.size W (W.drew.alloc (.cells #[.int .i64 (cmpI r.seq s.seq),.int .i64 (cmpI r.kind s.kind),.int .i64 (cmpI r.group s.group)] 3)):=((⟨rfl,rfl,rfl,Nat.le_refl _,fun _ _=>rfl⟩:Below W.heap.size W W.drew)).alloc (Nat.le_refl _) _;have CC0:=zeK r.seq s.seq W.drew;have CC1:=zeK r.kind s.kind W.drew;have CC2:=zeK r.group s.group W.drew;have XA:Box (W.drew.alloc (.cells #[.int .i64 (cmpI r.seq s.seq),.int .i64 (cmpI r.kind s.kind),.int .i64 (cmpI r.group s.group)] 3)) W.heap.size #[.int .i64 (cmpI r.seq s.seq),.int .i64 (cmpI r.kind s.kind),.int .i64 (cmpI r.group s.group)] 3:=zaq W.drew _ _;have CO:=or_is (cmpI r.seq s.seq) (cmpI r.kind s.kind) (cmpI r.group s.group) W.heap.size 3 (W.drew.alloc (.cells #[.int .i64 (cmpI r.seq s.seq),.int .i64 (cmpI r.kind s.kind),.int .i64 (cmpI r.group s.group)] 3)) (XA.cell 0) (XA.cell 1) (XA.cell 2);clear T0;refine zb0 17 (fun w'=>w'.cell? ⟨w.heap.size,1,none⟩=some (.int .i64 r.seq)∧w'.cell? ⟨w.heap.size,0,none⟩=some (.int .i64 r.kind)∧w'.cell? ⟨w.heap.size,4,none⟩=some (.int .i64 r.group)∧w'.cell? ⟨(w.heap.size+1),1,none⟩=some (.int .i64 s.seq)∧w'.cell? ⟨(w.heap.size+1),0,none⟩=some (.int .i64 s.kind)∧w'.cell? ⟨(w.heap.size+1),4,none⟩=some (.int .i64 s.group)) (by kernel_rfl) (SW _ ⟨rfl,rfl,rfl,Nat.le_refl _,fun _ _=>rfl⟩) (fun hHeld=>?_)
 refine zn6 0 rfl ?_
 try simp only [Act.put,SL]
 refine zn6 1 rfl ?_
 try simp only [Act.put,SL]
 refine zn6 2 rfl ?_
 try simp only [Act.put,SL]
 refine zn6 3 rfl ?_
 try simp only [Act.put,SL]
 refine zn6 5 rfl ?_
 try simp only [Act.put,SL]
 refine zn6 6 rfl ?_
 try simp only [Act.put,SL]
 refine zn6 7 rfl ?_
 try simp only [Act.put,SL]
 refine zn6 8 rfl ?_
 try simp only [Act.put,SL]
 refine zn6 10 rfl ?_
 try simp only [Act.put,SL]
 refine zn6 11 rfl ?_
 try simp only [Act.put,SL]
 refine zn6 12 rfl ?_
 try simp only [Act.put,SL]
 refine zn6 13 rfl ?_
 try simp only [Act.put,SL]
 refine zaX (i:=4) (o:=_) rfl (by kernel_rfl) (fun KC hKC=>?_)
 refine zbJ rfl 169 _ _ rfl #[.int .i64 r.seq,.int .i64 s.seq] ?_ Tryz.func169 (by kernel_rfl) (by kernel_rfl) CC0 ?_;(simp [Act.eval,Act.put]);rintro ee w5 ⟨rfl,e5⟩;subst e5;refine ⟨_,rfl,?_⟩
 refine hKC.out _ _ (hHeld) (fun hHeld=>?_);clear hKC KC
 try simp only [Act.put,SL]
 refine zaX (i:=9) (o:=_) rfl (by kernel_rfl) (fun KC hKC=>?_)
 refine zbJ rfl 169 _ _ rfl #[.int .i64 r.kind,.int .i64 s.kind] ?_ Tryz.func169 (by kernel_rfl) (by kernel_rfl) CC1 ?_;(simp [Act.eval,Act.put]);rintro ee w5 ⟨rfl,e5⟩;subst e5;refine ⟨_,rfl,?_⟩
 refine hKC.out _ _ (hHeld) (fun hHeld=>?_);clear hKC KC
 try simp only [Act.put,SL]
 refine zaX (i:=14) (o:=_) rfl (by kernel_rfl) (fun KC hKC=>?_)
 refine zbJ rfl 169 _ _ rfl #[.int .i64 r.group,.int .i64 s.group] ?_ Tryz.func169 (by kernel_rfl) (by kernel_rfl) CC2 ?_;(simp [Act.eval,Act.put]);rintro ee w5 ⟨rfl,e5⟩;subst e5;refine ⟨_,rfl,?_⟩
 refine hKC.out _ _ (hHeld) (fun hHeld=>?_);clear hKC KC
 try simp only [Act.put,SL]
 refine zaX (i:=15) (o:=_) rfl (by kernel_rfl) (fun KC hKC=>?_);go_simp;refine hKC.out _ _ (SW _ bA) (fun hHeld=>?_);clear hKC KC
 try simp only [Act.put,SL]
 refine zaX (i:=16) (o:=_) rfl (by kernel_rfl) (fun KC hKC=>?_)
 refine zbJ rfl 168 _ _ rfl #[.slice (some ⟨W.heap.size,0,none⟩) 3 3] ?_ Tryz.func168 (by kernel_rfl) (by kernel_rfl) CO ?_;(simp [Act.eval,Act.put]);rintro ee w5 ⟨rfl,e5⟩;subst e5;refine ⟨_,rfl,?_⟩
 refine hKC.out _ _ (SW _ bA) (fun hHeld=>?_);clear hKC KC
 try simp only [Act.put,SL]
 refine zbY (o:=_) rfl (by kernel_rfl) (fun KC hKC=>?_);go_simp;refine hKC.out _ _ ?_;clear hKC KC
 try simp only [Act.put,SL]
 refine zbZ (by kernel_rfl) ?_ _;go_wp2;go_ret;exact ⟨rfl,HB.out.trans (bA.mono (by omega))⟩
def numL (x0:Nat→RecD) (i j:Nat):Prop:=numC (x0 i) (x0 j)<0∨(numC (x0 i) (x0 j)=0∧i<j)
theorem zjl {a b:Int}:cmpI a b<0↔a<b:=by unfold cmpI;split<;>(try split)<;>omega
theorem zfG {a b:Int}:cmpI a b=0↔a=b:=by unfold cmpI;split<;>(try split)<;>omega
theorem zdG {r s:RecD}:numC r s<0↔r.seq<s.seq∨(r.seq=s.seq∧(r.kind<s.kind∨(r.kind=s.kind∧r.group<s.group))):=by
 unfold numC;have h1:=@zjl r.seq s.seq;have h2:=@zfG r.seq s.seq;have h3:=@zjl r.kind s.kind;have h4:=@zfG r.kind s.kind;have h5:=@zjl r.group s.group
 split
 ·omega
 ·split<;>omega
theorem zdc {r s:RecD}:numC r s=0↔r.seq=s.seq∧r.kind=s.kind∧r.group=s.group:=by
 unfold numC;have h2:=@zfG r.seq s.seq;have h4:=@zfG r.kind s.kind;have h5:=@zfG r.group s.group
 split
 ·omega
 ·split<;>omega
theorem zbH (x0:Nat→RecD):Sym.Ord (numL x0) where
 trans:=fun {i j k} h1 h2=>by
  unfold numL at *
  rw [zdG,zdc] at *
  omega
 irr:=fun i h=>by
  unfold numL at h;rw [zdG] at h;omega
theorem zfH {x0:Nat→RecD} {i j:Nat} (h:numC (x0 j) (x0 i)<0):numL x0 j i:=.inl h
theorem zib {x0:Nat→RecD} {i j:Nat} (hij:i<j) (h:¬ numC (x0 j) (x0 i)<0):numL x0 i j:=by
 unfold numL;rw [zdG] at h ⊢;rw [zdc];omega
structure Ins (lt:Nat→Nat→Prop) (q:Nat→Nat) (a i j e:Nat):Prop where
 at_:q j=e
 rest:∀ k1 k2,a≤k1→k1<k2→k2≤i→k1≠j→k2≠j→lt (q k1) (q k2)
 behind:∀ k,j<k→k≤i→lt e (q k)
theorem Ins.start {lt:Nat→Nat→Prop} {q:Nat→Nat} {a i:Nat} (h:Sym.Srt lt q a i):Ins lt q a i i (q i):=⟨rfl,fun k1 k2 h1 h2 h3 h4 h5=>h k1 k2 h1 h2 (by omega),fun k h1 h2=>by omega⟩
theorem Ins.stop {lt:Nat→Nat→Prop} {q:Nat→Nat} {a i j e:Nat} (O:Sym.Ord lt) (h:Ins lt q a i j e) (haj:a≤j) (hji:j≤i) (hs:j=a∨lt (q (j-1)) e):Sym.Srt lt q a (i+1):=fun k1 k2 h1 h2 h3=>by
 by_cases c1:k1=j
 ·subst c1
  rw [h.at_];exact h.behind k2 h2 (by omega)
 ·by_cases c2:k2=j
  ·subst c2
   rw [h.at_]
   rcases hs with hs | hs
   ·omega
   ·by_cases c3:k1=k2-1
    ·rw [c3];exact hs
    ·exact O.trans (h.rest k1 (k2-1) h1 (by omega) (by omega) c1 (by omega)) hs
  ·exact h.rest k1 k2 h1 h2 (by omega) c1 c2
theorem Ins.step {lt:Nat→Nat→Prop} {q:Nat→Nat} {a i j e:Nat} (h:Ins lt q a i (j+1) e) (haj:a≤j) (hji:j+1≤i) (hl:lt e (q j)):Ins lt (fun k=>q (Sym.swp (j+1) j k)) a i j e:=by
 have s1:Sym.swp (j+1) j j=j+1:=by unfold Sym.swp;rw [if_neg (by omega),if_pos rfl]
 have s2:Sym.swp (j+1) j (j+1)=j:=by unfold Sym.swp;rw [if_pos rfl]
 have s3:∀ k,k≠j→k≠j+1→Sym.swp (j+1) j k=k:=fun k h1 h2=>by unfold Sym.swp;rw [if_neg h2,if_neg h1]
 refine ⟨?_,fun k1 k2 h1 h2 h3 h4 h5=>?_,fun k h1 h2=>?_⟩
 ·show q (Sym.swp (j+1) j j)=e
  rw [s1,h.at_]
 ·show lt (q (Sym.swp (j+1) j k1)) (q (Sym.swp (j+1) j k2))
  by_cases c1:k1=j+1
  ·rw [c1,s2,s3 k2 h5 (by omega)]
   exact h.rest j k2 haj (by omega) h3 (by omega) (by omega)
  ·by_cases c2:k2=j+1
   ·rw [c2,s2,s3 k1 h4 c1]
    exact h.rest k1 j h1 (by omega) (by omega) (by omega) (by omega)
   ·rw [s3 k1 h4 c1,s3 k2 h5 c2]
    exact h.rest k1 k2 h1 h2 h3 c1 c2
 ·show lt e (q (Sym.swp (j+1) j k))
  by_cases c1:k=j+1
  ·rw [c1,s2];exact hl
  ·rw [s3 k (by omega) c1]
   exact h.behind k (by omega) h2
def zkG (n m:Nat) (f g:Nat→Int):Prop:=n=m∧∀ i,i<n→f i=g i
theorem zkH (v1 v2:Value) (n m:Nat) (f g:Nat→Int) (h1 h2:Nat) (w:World) (r1:RdI w h1 v1 n f) (r2:RdI w h2 v2 m g) :
 Calls Tryz.prog 152 #[v1,v2] w (zba (zkG n m f g) w):=by
 obtain ⟨ao,cap,rfl,hm,hc⟩:=r1;obtain ⟨ao2,cap2,rfl,hm2,hc2⟩:=r2;unfold maxLen at hm hm2
 by_cases hnm:n=m
 ·subst hnm
  go_enter Tryz.func152,Tryz.ntmps152
  go_wp2
  go_loopw [5] (fun i wr=>∃ k:Nat,k≤n∧i=.int .i64 k∧(∀ i,i<k→f i=g i)∧∃ m,wr=w.drewN m) (fun i _=>n-(intOf i).toNat)
  case atStart=>exact ⟨0,Nat.zero_le _,rfl,fun i hi=>by omega,0,rfl⟩
  case round=>
   obtain ⟨k,hk,rfl,hall,q,rfl⟩:=hrel;have HALL:=hid hall;clear hall
   by_cases hlt:k<n
   ·obtain ⟨b,off,rfl,hblt,hcell⟩:=hc (by omega)
    obtain ⟨b2,off2,rfl,hblt2,hcell2⟩:=hc2 (by omega);have hck:w.cell? ⟨b,off+k,none⟩=some (.int .i64 (f k)):=hcell k hlt;have hck2:w.cell? ⟨b2,off2+k,none⟩=some (.int .i64 (g k)):=hcell2 k hlt;obtain ⟨x,hx⟩:∃ x,x=f k:=⟨_,rfl⟩;obtain ⟨y,hy⟩:∃ y,y=g k:=⟨_,rfl⟩;have HX:=hid hx;have HY:=hid hy;rw [← hx] at hck;rw [← hy] at hck2;clear hc hc2 hcell hcell2 hx hy
    by_cases heq:x=y
    ·subst heq
     go_wp2
     go_quiet (fail)
     go_wp2
     go_roundw
     case rel=>exact ⟨k+1,by omega,by go_num,fun i hi=>by
      by_cases c:i=k
      ·rw [c,← HX.out,← HY.out]
      ·exact HALL.out i (by omega),_,rfl⟩
     case measure=>simp [intOf];omega
    ·have tn:(x != y)=true:=by simp;omega
     go_wp2
     go_quiet (fail)
     go_wp2;go_ret;exact zau rfl (fun h=>absurd (h.2 k hlt) (by rw [← HX.out,← HY.out];exact heq)) (below_drewN (below_drewN (Below.refl _ _) _) _)
   ·have hkn:k=n:=by omega
    subst hkn;go_wp2;go_ret;exact zaL rfl ⟨rfl,HALL.out⟩ (below_drewN (Below.refl _ _) _)
 ·have tn:((n:Int) != (m:Int))=true:=by simp;omega
  clear hc hc2
  go_enter Tryz.func152,Tryz.ntmps152
  go_wp2;go_ret;exact zau rfl (fun h=>hnm h.1) (Below.refl _ _)
theorem zgu (v1 v2:Value) (n m:Nat) (f g:Nat→Nat) (h1 h2:Nat) (w:World) (r1:Rd w h1 v1 n f) (r2:Rd w h2 v2 m g) :
 Calls Tryz.prog 173 #[v1,v2] w (zba (zf3 n m f g) w):=by
 obtain ⟨ao,cap,rfl,hm,hc⟩:=r1;obtain ⟨ao2,cap2,rfl,hm2,hc2⟩:=r2;unfold maxLen at hm hm2
 by_cases hnm:n=m
 ·subst hnm
  go_enter Tryz.func173,Tryz.ntmps173
  go_wp2
  go_loopw [13] (fun i wr=>∃ k:Nat,k≤n∧i=.int .i64 k∧(∀ i,i<k→f i=g i)∧∃ m,wr=w.drewN m) (fun i _=>n-(intOf i).toNat)
  case atStart=>exact ⟨0,Nat.zero_le _,rfl,fun i hi=>by omega,0,rfl⟩
  case round=>
   obtain ⟨k,hk,rfl,hall,q,rfl⟩:=hrel;have HALL:=hid hall;clear hall
   by_cases hlt:k<n
   ·obtain ⟨b,off,rfl,hblt,hcell⟩:=hc (by omega)
    obtain ⟨b2,off2,rfl,hblt2,hcell2⟩:=hc2 (by omega);have hck:w.cell? ⟨b,off+k,none⟩=some (.int .u8 (f k)):=hcell k hlt;have hck2:w.cell? ⟨b2,off2+k,none⟩=some (.int .u8 (g k)):=hcell2 k hlt;obtain ⟨x,hx⟩:∃ x,x=f k:=⟨_,rfl⟩;obtain ⟨y,hy⟩:∃ y,y=g k:=⟨_,rfl⟩;have HX:=hid hx;have HY:=hid hy;rw [← hx] at hck;rw [← hy] at hck2;clear hc hc2 hcell hcell2 hx hy
    by_cases heq:x=y
    ·subst heq
     go_wp2
     go_quiet (fail)
     go_wp2
     go_roundw
     case rel=>exact ⟨k+1,by omega,by go_num,fun i hi=>by
      by_cases c:i=k
      ·rw [c,← HX.out,← HY.out]
      ·exact HALL.out i (by omega),_,rfl⟩
     case measure=>simp [intOf];omega
    ·have tn:((x:Int) != (y:Int))=true:=by simp;omega
     go_wp2
     go_quiet (fail)
     go_wp2;go_ret;exact zau rfl (fun h=>absurd (h.2 k hlt) (by rw [← HX.out,← HY.out];exact heq)) (below_drewN (below_drewN (Below.refl _ _) _) _)
   ·have hkn:k=n:=by omega
    subst hkn;go_wp2;go_ret;exact zaL rfl ⟨rfl,HALL.out⟩ (below_drewN (Below.refl _ _) _)
 ·have tn:((n:Int) != (m:Int))=true:=by simp;omega
  clear hc hc2
  go_enter Tryz.func173,Tryz.ntmps173
  go_wp2;go_ret;exact zau rfl (fun h=>hnm h.1) (Below.refl _ _)
theorem zkI (v1 v2:Value) (n m:Nat) (f g:Nat→Int) (h1 h2:Nat) (w:World) (r1:RdI w h1 v1 n f) (r2:RdI w h2 v2 m g) :
 Calls Tryz.prog 172 #[v1,v2] w (zba (zkG n m f g) w):=by
 obtain ⟨ao,cap,rfl,hm,hc⟩:=r1;obtain ⟨ao2,cap2,rfl,hm2,hc2⟩:=r2;unfold maxLen at hm hm2
 by_cases hnm:n=m
 ·subst hnm
  go_enter Tryz.func172,Tryz.ntmps172
  go_wp2
  go_loopw [13] (fun i wr=>∃ k:Nat,k≤n∧i=.int .i64 k∧(∀ i,i<k→f i=g i)∧∃ m,wr=w.drewN m) (fun i _=>n-(intOf i).toNat)
  case atStart=>exact ⟨0,Nat.zero_le _,rfl,fun i hi=>by omega,0,rfl⟩
  case round=>
   obtain ⟨k,hk,rfl,hall,q,rfl⟩:=hrel;have HALL:=hid hall;clear hall
   by_cases hlt:k<n
   ·obtain ⟨b,off,rfl,hblt,hcell⟩:=hc (by omega)
    obtain ⟨b2,off2,rfl,hblt2,hcell2⟩:=hc2 (by omega);have hck:w.cell? ⟨b,off+k,none⟩=some (.int .i64 (f k)):=hcell k hlt;have hck2:w.cell? ⟨b2,off2+k,none⟩=some (.int .i64 (g k)):=hcell2 k hlt;obtain ⟨x,hx⟩:∃ x,x=f k:=⟨_,rfl⟩;obtain ⟨y,hy⟩:∃ y,y=g k:=⟨_,rfl⟩;have HX:=hid hx;have HY:=hid hy;rw [← hx] at hck;rw [← hy] at hck2;clear hc hc2 hcell hcell2 hx hy
    by_cases heq:x=y
    ·subst heq
     go_wp2
     go_quiet (fail)
     go_wp2
     go_roundw
     case rel=>exact ⟨k+1,by omega,by go_num,fun i hi=>by
      by_cases c:i=k
      ·rw [c,← HX.out,← HY.out]
      ·exact HALL.out i (by omega),_,rfl⟩
     case measure=>simp [intOf];omega
    ·have tn:(x != y)=true:=by simp;omega
     go_wp2
     go_quiet (fail)
     go_wp2;go_ret;exact zau rfl (fun h=>absurd (h.2 k hlt) (by rw [← HX.out,← HY.out];exact heq)) (below_drewN (below_drewN (Below.refl _ _) _) _)
   ·have hkn:k=n:=by omega
    subst hkn;go_wp2;go_ret;exact zaL rfl ⟨rfl,HALL.out⟩ (below_drewN (Below.refl _ _) _)
 ·have tn:((n:Int) != (m:Int))=true:=by simp;omega
  clear hc hc2
  go_enter Tryz.func172,Tryz.ntmps172
  go_wp2;go_ret;exact zau rfl (fun h=>hnm h.1) (Below.refl _ _)
theorem toList_inj {a b:ByteArray}:a.toList=b.toList↔a=b:=by
 constructor
 ·intro h
  rw [ByteArray.toList_eq,ByteArray.toList_eq] at h
  cases a
  cases b
  congr
  exact Array.toList_inj.1 h
 ·intro h;rw [h]
structure SameR (a b:RecD):Prop where
 kind:a.kind=b.kind
 seq:a.seq=b.seq
 name:a.name=b.name
 length:a.length=b.length
 group:a.group=b.group
 row:a.row=b.row
 rows:zkG a.rows.1 b.rows.1 a.rows.2 b.rows.2
 data:zf3 a.data.1 b.data.1 a.data.2 b.data.2
 delta:zf3 a.delta.1 b.delta.1 a.delta.2 b.delta.2
set_option maxRecDepth 20000 in
theorem zic (a b:RecD) (c1 c2:List Value) (h1 h2:Nat) (w:World) (r1:zab.rd w h1 a c1) (r2:zab.rd w h2 b c2) (u1:h1≤w.heap.size) (u2:h2≤w.heap.size) :
 Calls Tryz.prog 118 #[.agg c1.toArray,.agg c2.toArray] w (zba (SameR a b) w):=by
 obtain ⟨xo6,xc6,xo7,xc7,xo8,xc8,rfl,p6,p7,p8,-⟩:=zaD r1;obtain ⟨yo6,yc6,yo7,yc7,yo8,yc8,rfl,q6,q7,q8,-⟩:=zaD r2;obtain ⟨_,e,⟨p6,_⟩,_⟩:=p6
 cases e
 obtain ⟨_,e,⟨q6,_⟩,_⟩:=q6
 cases e
 obtain ⟨_,e,p7,_⟩:=p7
 cases e
 obtain ⟨_,e,q7,_⟩:=q7
 cases e
 obtain ⟨_,e,p8,_⟩:=p8
 cases e
 obtain ⟨_,e,q8,_⟩:=q8
 cases e
 clear r1 r2;have T0:=zaz w (rwR a xo6 xc6 xo7 xc7 xo8 xc8).toArray (rwR b yo6 yc6 yo7 yc7 yo8 yc8).toArray 85 85;have HT0:=hid T0;obtain ⟨e0,he0⟩:∃ t,(a.kind==b.kind)=t:=⟨_,rfl⟩
 have HE0:Hid (e0=true↔a.kind=b.kind):=by show _↔_;rw [← he0];exact beq_iff_eq
 obtain ⟨e1,he1⟩:∃ t,(a.seq==b.seq)=t:=⟨_,rfl⟩
 have HE1:Hid (e1=true↔a.seq=b.seq):=by show _↔_;rw [← he1];exact beq_iff_eq
 obtain ⟨e2,he2⟩:∃ t,(a.name.toList==b.name.toList)=t:=⟨_,rfl⟩
 have HE2:Hid (e2=true↔a.name=b.name):=by show _↔_;rw [← he2,beq_iff_eq];exact toList_inj
 have he2':decide (a.name.toList=b.name.toList)=e2:=by rw [← he2,Bool.eq_iff_iff];simp
 obtain ⟨e3,he3⟩:∃ t,(a.length==b.length)=t:=⟨_,rfl⟩
 have HE3:Hid (e3=true↔a.length=b.length):=by show _↔_;rw [← he3];exact beq_iff_eq
 obtain ⟨e4,he4⟩:∃ t,(a.group==b.group)=t:=⟨_,rfl⟩
 have HE4:Hid (e4=true↔a.group=b.group):=by show _↔_;rw [← he4];exact beq_iff_eq
 obtain ⟨e5,he5⟩:∃ t,(a.row==b.row)=t:=⟨_,rfl⟩
 have HE5:Hid (e5=true↔a.row=b.row):=by show _↔_;rw [← he5];exact beq_iff_eq
 obtain ⟨t6,ht6⟩:=exB (zkG a.rows.1 b.rows.1 a.rows.2 b.rows.2);obtain ⟨t7,ht7⟩:=exB (zf3 a.data.1 b.data.1 a.data.2 b.data.2);obtain ⟨t8,ht8⟩:=exB (zf3 a.delta.1 b.delta.1 a.delta.2 b.delta.2);have C6:=fun (w':World) (hb:Below w.heap.size w w')=>zbv (zkH _ _ a.rows.1 b.rows.1 a.rows.2 b.rows.2 h1 h2 w' (p6.below hb u1) (q6.below hb u2)) ht6;have C7:=fun (w':World) (hb:Below w.heap.size w w')=>zbv (zgj _ _ a.data.1 b.data.1 a.data.2 b.data.2 h1 h2 w' (p7.below hb u1) (q7.below hb u2)) ht7;have C8:=fun (w':World) (hb:Below w.heap.size w w')=>zbv (zgj _ _ a.delta.1 b.delta.1 a.delta.2 b.delta.2 h1 h2 w' (p8.below hb u1) (q8.below hb u2)) ht8;have HT6:=hid ht6;have HT7:=hid ht7;have HT8:=hid ht8;clear p6 p7 p8 q6 q7 q8 ht6 ht7 ht8
 go_enter Tryz.func118,Tryz.ntmps118
 cases e0 with
 | false=>
  go_wp2;go_ret;exact zau rfl (fun h=>by have:=HE0.out.2 h.kind;simp at this) HT0.out.bel
 | true=>
 cases e1 with
 | false=>
  go_wp2;go_ret;exact zau rfl (fun h=>by have:=HE1.out.2 h.seq;simp at this) HT0.out.bel
 | true=>
 cases e2 with
 | false=>
  go_wp2;go_ret;exact zau rfl (fun h=>by have:=HE2.out.2 h.name;simp at this) HT0.out.bel
 | true=>
 cases e3 with
 | false=>
  go_wp2;go_ret;exact zau rfl (fun h=>by have:=HE3.out.2 h.length;simp at this) HT0.out.bel
 | true=>
 cases e4 with
 | false=>
  go_wp2;go_ret;exact zau rfl (fun h=>by have:=HE4.out.2 h.group;simp at this) HT0.out.bel
 | true=>
 cases e5 with
 | false=>
  go_wp2;go_ret;exact zau rfl (fun h=>by have:=HE5.out.2 h.row;simp at this) HT0.out.bel
 | true=>
 go_wp2_with fail
 refine (C6 _ HT0.out.bel).mono ?_;rintro e w6 ⟨rfl,b6⟩;have T6:=HT0.out.call b6
 cases t6 with
 | false=>
  have HB:=hid T6.bel;clear T6 b6;go_wp2;go_ret;exact zau rfl (fun h=>by have:=HT6.out.2 h.rows;simp at this) HB.out
 | true=>
 have x7:w6.cell? ⟨w.heap.size,7,none⟩=some (.slice xo7 a.data.1 xc7):=T6.b1.cell 7;have y7:w6.cell? ⟨w.heap.size+1,7,none⟩=some (.slice yo7 b.data.1 yc7):=T6.b2.cell 7
 go_wp2_with fail
 refine (C7 _ T6.bel).mono ?_;rintro e w7 ⟨rfl,b7⟩;have T7:=T6.call b7
 cases t7 with
 | false=>
  have HB:=hid T7.bel;clear T7 b7;go_wp2;go_ret;exact zau rfl (fun h=>by have:=HT7.out.2 h.data;simp at this) HB.out
 | true=>
 have x8:w7.cell? ⟨w.heap.size,8,none⟩=some (.slice xo8 a.delta.1 xc8):=T7.b1.cell 8;have y8:w7.cell? ⟨w.heap.size+1,8,none⟩=some (.slice yo8 b.delta.1 yc8):=T7.b2.cell 8
 go_wp2_with fail
 refine (C8 _ T7.bel).mono ?_;rintro e w8 ⟨rfl,b8⟩;have T8:=T7.call b8
 cases t8 with
 | false=>
  have HB:=hid T8.bel;clear T8 b8;go_wp2;go_ret;exact zau rfl (fun h=>by have:=HT8.out.2 h.delta;simp at this) HB.out
 | true=>
 have HB:=hid T8.bel;clear T6 T7 T8 b6 b7 b8;go_wp2;go_ret;exact zaL rfl ⟨HE0.out.1 (by simp),HE1.out.1 (by simp),HE2.out.1 (by simp),HE3.out.1 (by simp),HE4.out.1 (by simp),HE5.out.1 (by simp),HT6.out.1 (by simp),HT7.out.1 (by simp),HT8.out.1 (by simp)⟩ HB.out
set_option maxRecDepth 20000 in
theorem zeW (a b:RecD) (c1 c2:List Value) (h1 h2:Nat) (w:World) (r1:zab.rd w h1 a c1) (r2:zab.rd w h2 b c2) (u1:h1≤w.heap.size) (u2:h2≤w.heap.size) :
 Calls Tryz.prog 136 #[.agg c1.toArray,.agg c2.toArray] w (zba (SameR a b) w):=by
 obtain ⟨xo6,xc6,xo7,xc7,xo8,xc8,rfl,p6,p7,p8,-⟩:=zaD r1;obtain ⟨yo6,yc6,yo7,yc7,yo8,yc8,rfl,q6,q7,q8,-⟩:=zaD r2;obtain ⟨_,e,⟨p6,_⟩,_⟩:=p6
 cases e
 obtain ⟨_,e,⟨q6,_⟩,_⟩:=q6
 cases e
 obtain ⟨_,e,p7,_⟩:=p7
 cases e
 obtain ⟨_,e,q7,_⟩:=q7
 cases e
 obtain ⟨_,e,p8,_⟩:=p8
 cases e
 obtain ⟨_,e,q8,_⟩:=q8
 cases e
 clear r1 r2;have T0:=zaz w (rwR a xo6 xc6 xo7 xc7 xo8 xc8).toArray (rwR b yo6 yc6 yo7 yc7 yo8 yc8).toArray 85 85;have HT0:=hid T0;obtain ⟨e0,he0⟩:∃ t,(a.kind==b.kind)=t:=⟨_,rfl⟩
 have HE0:Hid (e0=true↔a.kind=b.kind):=by show _↔_;rw [← he0];exact beq_iff_eq
 obtain ⟨e1,he1⟩:∃ t,(a.seq==b.seq)=t:=⟨_,rfl⟩
 have HE1:Hid (e1=true↔a.seq=b.seq):=by show _↔_;rw [← he1];exact beq_iff_eq
 obtain ⟨e2,he2⟩:∃ t,(a.name.toList==b.name.toList)=t:=⟨_,rfl⟩
 have HE2:Hid (e2=true↔a.name=b.name):=by show _↔_;rw [← he2,beq_iff_eq];exact toList_inj
 have he2':decide (a.name.toList=b.name.toList)=e2:=by rw [← he2,Bool.eq_iff_iff];simp
 obtain ⟨e3,he3⟩:∃ t,(a.length==b.length)=t:=⟨_,rfl⟩
 have HE3:Hid (e3=true↔a.length=b.length):=by show _↔_;rw [← he3];exact beq_iff_eq
 obtain ⟨e4,he4⟩:∃ t,(a.group==b.group)=t:=⟨_,rfl⟩
 have HE4:Hid (e4=true↔a.group=b.group):=by show _↔_;rw [← he4];exact beq_iff_eq
 obtain ⟨e5,he5⟩:∃ t,(a.row==b.row)=t:=⟨_,rfl⟩
 have HE5:Hid (e5=true↔a.row=b.row):=by show _↔_;rw [← he5];exact beq_iff_eq
 obtain ⟨t6,ht6⟩:=exB (zkG a.rows.1 b.rows.1 a.rows.2 b.rows.2);obtain ⟨t7,ht7⟩:=exB (zf3 a.data.1 b.data.1 a.data.2 b.data.2);obtain ⟨t8,ht8⟩:=exB (zf3 a.delta.1 b.delta.1 a.delta.2 b.delta.2);have C6:=fun (w':World) (hb:Below w.heap.size w w')=>zbv (zkI _ _ a.rows.1 b.rows.1 a.rows.2 b.rows.2 h1 h2 w' (p6.below hb u1) (q6.below hb u2)) ht6;have C7:=fun (w':World) (hb:Below w.heap.size w w')=>zbv (zgu _ _ a.data.1 b.data.1 a.data.2 b.data.2 h1 h2 w' (p7.below hb u1) (q7.below hb u2)) ht7;have C8:=fun (w':World) (hb:Below w.heap.size w w')=>zbv (zgu _ _ a.delta.1 b.delta.1 a.delta.2 b.delta.2 h1 h2 w' (p8.below hb u1) (q8.below hb u2)) ht8;have HT6:=hid ht6;have HT7:=hid ht7;have HT8:=hid ht8;clear p6 p7 p8 q6 q7 q8 ht6 ht7 ht8;obtain ⟨nb,hnb⟩:∃ t,t=(e0&&(e1&&(e3&&(e4&&e5)))):=⟨_,rfl⟩;have HNB:=hid hnb;obtain ⟨lb,hlb⟩:∃ t,t=(t6&&(t7&&t8)):=⟨_,rfl⟩;have HLB:=hid hlb
 have HN:Hid (nb=true↔(a.kind=b.kind∧a.seq=b.seq∧a.length=b.length∧a.group=b.group∧a.row=b.row)):=by
  show _↔_
  rw [HNB.out,Bool.and_eq_true,Bool.and_eq_true,Bool.and_eq_true,Bool.and_eq_true,HE0.out,HE1.out,HE3.out,HE4.out,HE5.out]
 have HL:Hid (lb=true↔(zkG a.rows.1 b.rows.1 a.rows.2 b.rows.2∧zf3 a.data.1 b.data.1 a.data.2 b.data.2∧zf3 a.delta.1 b.delta.1 a.delta.2 b.delta.2)):=by
  show _↔_
  rw [HLB.out,Bool.and_eq_true,Bool.and_eq_true,HT6.out,HT7.out,HT8.out]
 clear hnb hlb
 go_enter Tryz.func136,Tryz.ntmps136
 go_upto_region 1 with fail
 obtain ⟨W0,hW0⟩:∃ x,x=(w.alloc (.cells (rwR a xo6 xc6 xo7 xc7 xo8 xc8).toArray 85)).alloc (.cells (rwR b yo6 yc6 yo7 yc7 yo8 yc8).toArray 85):=⟨_,rfl⟩;rw [← hW0] at T0 HT0 ⊢;clear hW0;have x_0:W0.cell? ⟨w.heap.size,0,none⟩=some (.int .i64 a.kind):=T0.b1.cell 0;have x_1:W0.cell? ⟨w.heap.size,1,none⟩=some (.int .i64 a.seq):=T0.b1.cell 1;have x_2:W0.cell? ⟨w.heap.size,2,none⟩=some (.string a.name):=T0.b1.cell 2;have x_3:W0.cell? ⟨w.heap.size,3,none⟩=some (.int .i64 a.length):=T0.b1.cell 3;have x_4:W0.cell? ⟨w.heap.size,4,none⟩=some (.int .i64 a.group):=T0.b1.cell 4;have x_5:W0.cell? ⟨w.heap.size,5,none⟩=some (.int .i64 a.row):=T0.b1.cell 5;have x_6:W0.cell? ⟨w.heap.size,6,none⟩=some (.slice xo6 a.rows.1 xc6):=T0.b1.cell 6;have x_7:W0.cell? ⟨w.heap.size,7,none⟩=some (.slice xo7 a.data.1 xc7):=T0.b1.cell 7;have x_8:W0.cell? ⟨w.heap.size,8,none⟩=some (.slice xo8 a.delta.1 xc8):=T0.b1.cell 8;have y_0:W0.cell? ⟨w.heap.size+1,0,none⟩=some (.int .i64 b.kind):=T0.b2.cell 0;have y_1:W0.cell? ⟨w.heap.size+1,1,none⟩=some (.int .i64 b.seq):=T0.b2.cell 1;have y_2:W0.cell? ⟨w.heap.size+1,2,none⟩=some (.string b.name):=T0.b2.cell 2;have y_3:W0.cell? ⟨w.heap.size+1,3,none⟩=some (.int .i64 b.length):=T0.b2.cell 3;have y_4:W0.cell? ⟨w.heap.size+1,4,none⟩=some (.int .i64 b.group):=T0.b2.cell 4;have y_5:W0.cell? ⟨w.heap.size+1,5,none⟩=some (.int .i64 b.row):=T0.b2.cell 5;have y_6:W0.cell? ⟨w.heap.size+1,6,none⟩=some (.slice yo6 b.rows.1 yc6):=T0.b2.cell 6;have y_7:W0.cell? ⟨w.heap.size+1,7,none⟩=some (.slice yo7 b.data.1 yc7):=T0.b2.cell 7;have y_8:W0.cell? ⟨w.heap.size+1,8,none⟩=some (.slice yo8 b.delta.1 yc8):=T0.b2.cell 8;clear T0
 go_cut [5] (fun v wx=>v=.bool nb∧wx=W0)
 case first=>
  cases e0 with
  | false=>
   go_wp2
   go_meet
   exact ⟨by rw [HNB.out];simp,rfl⟩
  | true=>
  cases e1 with
  | false=>
   go_wp2
   go_meet
   exact ⟨by rw [HNB.out];simp,rfl⟩
  | true=>
  cases e3 with
  | false=>
   go_wp2
   go_meet
   exact ⟨by rw [HNB.out];simp,rfl⟩
  | true=>
  cases e4 with
  | false=>
   go_wp2
   go_meet
   exact ⟨by rw [HNB.out];simp,rfl⟩
  | true=>
  cases e5 with
  | false=>
   go_wp2
   go_meet
   exact ⟨by rw [HNB.out];simp,rfl⟩
  | true=>
  go_wp2
  go_meet
  exact ⟨by rw [HNB.out];simp,rfl⟩
 case rest=>
  obtain ⟨rfl,rfl⟩:=hcut;clear he0 he1 he3 he4 he5
  go_upto_region 2 with fail
  go_cut [6] (fun v wx=>v=.bool lb∧Below wc.heap.size wc wx)
  case first=>
   go_wp2_with fail
   refine (C6 _ HT0.out.bel).mono ?_;rintro e w6 ⟨rfl,b6⟩;have T6:=HT0.out.call b6;have B6:=hid b6
   cases t6 with
   | false=>
    clear T6 b6;go_wp2
    go_meet
    exact ⟨by rw [HLB.out];simp,B6.out⟩
   | true=>
   have x7':w6.cell? ⟨w.heap.size,7,none⟩=some (.slice xo7 a.data.1 xc7):=T6.b1.cell 7;have y7':w6.cell? ⟨w.heap.size+1,7,none⟩=some (.slice yo7 b.data.1 yc7):=T6.b2.cell 7
   go_wp2_with fail
   refine (C7 _ T6.bel).mono ?_;rintro e w7 ⟨rfl,b7⟩;have T7:=T6.call b7;have B7:=hid (B6.out.trans (b7.mono B6.out.size))
   cases t7 with
   | false=>
    clear T7 b7;go_wp2
    go_meet
    exact ⟨by rw [HLB.out];simp,B7.out⟩
   | true=>
   have x8':w7.cell? ⟨w.heap.size,8,none⟩=some (.slice xo8 a.delta.1 xc8):=T7.b1.cell 8;have y8':w7.cell? ⟨w.heap.size+1,8,none⟩=some (.slice yo8 b.delta.1 yc8):=T7.b2.cell 8
   go_wp2_with fail
   refine (C8 _ T7.bel).mono ?_;rintro e w8 ⟨rfl,b8⟩;have T8:=T7.call b8;have B8:=hid (B7.out.trans (b8.mono B7.out.size))
   cases t8 with
   | false=>
    clear T8 b8;go_wp2
    go_meet
    exact ⟨by rw [HLB.out];simp,B8.out⟩
   | true=>
   clear T6 T7 T8 b6 b7 b8;go_wp2
   go_meet
   exact ⟨by rw [HLB.out];simp,B8.out⟩
  case rest=>
   obtain ⟨rfl,b9⟩:=hcut;obtain ⟨w9,rfl⟩:∃ x,x=wc:=⟨_,rfl⟩;have T9:=HT0.out.call b9;have x2':w9.cell? ⟨w.heap.size,2,none⟩=some (.string a.name):=T9.b1.cell 2;have y2':w9.cell? ⟨w.heap.size+1,2,none⟩=some (.string b.name):=T9.b2.cell 2;have HB:=hid T9.bel;clear T9 b9
   cases nb with
   | false=>
    go_wp2;go_ret;exact zau rfl (fun h=>by have:=HN.out.2 ⟨h.kind,h.seq,h.length,h.group,h.row⟩;simp at this) HB.out
   | true=>
   cases e2 with
   | false=>
    go_wp2;go_ret;exact zau rfl (fun h=>by have:=HE2.out.2 h.name;simp at this) HB.out
   | true=>
   cases lb with
   | false=>
    go_wp2;go_ret;exact zau rfl (fun h=>by have:=HL.out.2 ⟨h.rows,h.data,h.delta⟩;simp at this) HB.out
   | true=>
    have N:=HN.out.1 (by simp);have M:=HL.out.1 (by simp);have HY:Hid (SameR a b):=⟨N.1,N.2.1,HE2.out.1 (by simp),N.2.2.1,N.2.2.2.1,N.2.2.2.2,M.1,M.2.1,M.2.2⟩;clear N M;go_wp2;go_ret;exact zaL rfl HY.out HB.out
theorem zdH {l:List Nat} {i:Nat} (h:i<l.length):l.getD i 0=l[i]:=by rw [List.getD_eq_getElem?_getD,List.getElem?_eq_getElem h];rfl
theorem SameR.symm {a b:RecD} (h:SameR a b):SameR b a:=by
 obtain ⟨h1,h2,h3,h4,h5,h6,⟨e7,h7⟩,⟨e8,h8⟩,⟨e9,h9⟩⟩:=h;exact ⟨h1.symm,h2.symm,h3.symm,h4.symm,h5.symm,h6.symm,⟨e7.symm,fun i hi=>(h7 i (by omega)).symm⟩,⟨e8.symm,fun i hi=>(h8 i (by omega)).symm⟩,⟨e9.symm,fun i hi=>(h9 i (by omega)).symm⟩⟩
theorem SameR.trans {a b c:RecD} (h:SameR a b) (k:SameR b c):SameR a c:=by
 obtain ⟨h1,h2,h3,h4,h5,h6,⟨e7,h7⟩,⟨e8,h8⟩,⟨e9,h9⟩⟩:=h;obtain ⟨k1,k2,k3,k4,k5,k6,⟨f7,k7⟩,⟨f8,k8⟩,⟨f9,k9⟩⟩:=k;exact ⟨h1.trans k1,h2.trans k2,h3.trans k3,h4.trans k4,h5.trans k5,h6.trans k6,⟨e7.trans f7,fun i hi=>(h7 i hi).trans (k7 i (by omega))⟩,⟨e8.trans f8,fun i hi=>(h8 i hi).trans (k8 i (by omega))⟩,⟨e9.trans f9,fun i hi=>(h9 i hi).trans (k9 i (by omega))⟩⟩
theorem SameR.num {a b:RecD} (h:SameR a b):numC a b=0:=zdc.2 ⟨h.seq,h.kind,h.group⟩
def Fst (x0:Nat→RecD) (i:Nat):Prop:=∀ j,j<i→¬ SameR (x0 j) (x0 i)
theorem zlL {x0:Nat→RecD}:∀ {i j:Nat},j<i→SameR (x0 j) (x0 i)→∃ j0,j0<i∧SameR (x0 j0) (x0 i)∧Fst x0 j0:=by
 intro i j
 induction j using Nat.strongRecOn with
 | _ j ih=>
  intro hj hs
  by_cases c:Fst x0 j
  ·exact ⟨j,hj,hs,c⟩
  ·obtain ⟨k,hk⟩:∃ k,¬ (k<j→¬ SameR (x0 k) (x0 j)):=Classical.not_forall.1 c
   have h1:k<j:=Classical.byContradiction fun h=>hk (fun h'=>absurd h' h);have h2:SameR (x0 k) (x0 j):=Classical.byContradiction fun h=>hk (fun _=>h);exact ih k h1 (by omega) (h2.trans hs)
theorem zoc {lt:Nat→Nat→Prop} (O:Sym.Ord lt):∀ l l':List Nat,l.Pairwise lt→l'.Pairwise lt→(∀ i,i∈l↔i∈l')→l=l'
 | [],[],_,_,_=>rfl
 | [],b::t,_,_,h=>absurd ((h b).2 (by simp)) (by simp)
 | a::t,[],_,_,h=>absurd ((h a).1 (by simp)) (by simp)
 | a::s,b::t,h1,h2,h=>by
  obtain ⟨p1,p2⟩:=List.pairwise_cons.1 h1;obtain ⟨q1,q2⟩:=List.pairwise_cons.1 h2
  have e:a=b:=by
   rcases List.mem_cons.1 ((h a).1 (by simp)) with e | m
   ·exact e
   ·rcases List.mem_cons.1 ((h b).2 (by simp)) with e | m'
    ·exact e.symm
    ·exact absurd (O.trans (q1 a m) (p1 b m')) (O.irr _)
  subst e;rw [zoc O s t p2 q2 (fun i=>⟨fun m=>?_,fun m=>?_⟩)]
  ·rcases List.mem_cons.1 ((h i).1 (List.mem_cons_of_mem _ m)) with e | m'
   ·subst e;exact absurd (p1 _ m) (O.irr _)
   ·exact m'
  ·rcases List.mem_cons.1 ((h i).2 (List.mem_cons_of_mem _ m)) with e | m'
   ·subst e;exact absurd (q1 _ m) (O.irr _)
   ·exact m'
structure Cnt (x0:Nat→RecD) (N:Nat) (l:List Nat):Prop where
 srt:l.Pairwise (numL x0)
 mem:∀ i,i∈l↔(i<N∧Fst x0 i)
theorem Cnt.uniq {x0:Nat→RecD} {N:Nat} {l l':List Nat} (h:Cnt x0 N l) (h':Cnt x0 N l'):l=l':=zoc (zbH x0) l l' h.srt h'.srt fun i=>by rw [h.mem,h'.mem]
theorem Cnt.nil (x0:Nat→RecD):Cnt x0 0 []:=⟨List.Pairwise.nil,fun i=>by simp⟩
theorem Cnt.has {x0:Nat→RecD} {N:Nat} {l:List Nat} (h:Cnt x0 N l):(∃ o,o∈l∧SameR (x0 o) (x0 N))↔¬ Fst x0 N:=by
 constructor
 ·rintro ⟨o,ho,hs⟩ hf
  exact hf o ((h.mem o).1 ho).1 hs
 ·intro hf
  obtain ⟨k,hk⟩:∃ k,¬ (k<N→¬ SameR (x0 k) (x0 N)):=Classical.not_forall.1 hf;have h1:k<N:=Classical.byContradiction fun h=>hk (fun h'=>absurd h' h);have h2:SameR (x0 k) (x0 N):=Classical.byContradiction fun h=>hk (fun _=>h);obtain ⟨j0,a,b,c⟩:=zlL h1 h2;exact ⟨j0,(h.mem j0).2 ⟨a,c⟩,b⟩
theorem Cnt.skip {x0:Nat→RecD} {N:Nat} {l:List Nat} (h:Cnt x0 N l) (hf:¬ Fst x0 N):Cnt x0 (N+1) l:=⟨h.srt,fun i=>by
 rw [h.mem]
 constructor
 ·rintro ⟨a,b⟩;exact ⟨by omega,b⟩
 ·rintro ⟨a,b⟩
  refine ⟨?_,b⟩
  by_cases c:i=N
  ·subst c;exact absurd b hf
  ·omega⟩
theorem Cnt.ins {x0:Nat→RecD} {N:Nat} {l:List Nat} (h:Cnt x0 N l) (hf:Fst x0 N) (at_:Nat) (ha:at_≤l.length)
 (hb:∀ k,at_≤k→k<l.length→numC (x0 N) (x0 (l.getD k 0))<0) (hs:at_=0∨¬ numC (x0 N) (x0 (l.getD (at_-1) 0))<0):Cnt x0 (N+1) (l.take at_++N::l.drop at_):=by
 have hD:∀ o,o∈l.drop at_→numL x0 N o:=fun o ho=>by
  obtain ⟨k,hk,rfl⟩:=List.mem_iff_getElem.1 ho;rw [List.getElem_drop]
  have hk':at_+k<l.length:=by rw [List.length_drop] at hk;omega
  have:=hb (at_+k) (by omega) hk';rw [zdH hk'] at this;exact zfH this
 have hT:∀ o,o∈l.take at_→numL x0 o N:=fun o ho=>by
  obtain ⟨k,hk,rfl⟩:=List.mem_iff_getElem.1 ho;rw [List.getElem_take];rw [List.length_take] at hk
  have h1:at_-1<l.length:=by omega
  rcases hs with hs | hs
  ·omega
  ·rw [zdH h1] at hs
   have hlt:l[at_-1]<N:=((h.mem _).1 (List.getElem_mem h1)).1;have hl:=zib hlt hs
   by_cases c:k=at_-1
   ·subst c;exact hl
   ·exact (zbH x0).trans (List.pairwise_iff_getElem.1 h.srt k (at_-1) (by omega) h1 (by omega)) hl
 refine ⟨?_,fun i=>?_⟩
 ·rw [List.pairwise_append]
  refine ⟨h.srt.sublist (List.take_sublist _ _),List.pairwise_cons.2 ⟨hD,h.srt.sublist (List.drop_sublist _ _)⟩,fun a ha b hb=>?_⟩
  rcases List.mem_cons.1 hb with rfl | hb
  ·exact hT a ha
  ·exact (zbH x0).trans (hT a ha) (hD b hb)
 ·rw [List.mem_append,List.mem_cons]
  have e:i∈l↔(i∈l.take at_∨i∈l.drop at_):=by
   conv=>lhs;rw [← List.take_append_drop at_ l]
   exact List.mem_append
  have hm:=h.mem i;rw [e] at hm
  constructor
  ·rintro (a | rfl | a)
   ·have:=hm.1 (.inl a);exact ⟨by omega,this.2⟩
   ·exact ⟨by omega,hf⟩
   ·have:=hm.1 (.inr a);exact ⟨by omega,this.2⟩
  ·rintro ⟨a,b⟩
   by_cases c:i=N
   ·exact .inr (.inl c)
   ·rcases hm.2 ⟨by omega,b⟩ with a | a
    ·exact .inl a
    ·exact .inr (.inr a)
structure CntQ (x0:Nat→RecD) (q:Nat→Nat) (k:Nat) (l:List Nat):Prop where
 srt:l.Pairwise (numL x0)
 mem:∀ i,i∈l↔((∃ j,j<k∧q j=i)∧Fst x0 i)
theorem CntQ.nil (x0:Nat→RecD) (q:Nat→Nat):CntQ x0 q 0 []:=⟨List.Pairwise.nil,fun i=>by simp⟩
theorem zlM {N:Nat} {q:Nat→Nat} (h:Sym.Re 0 N (fun i=>i) q) {i:Nat} (hi:i<N):∃ j,j<N∧q j=i:=by
 obtain ⟨s,t,h1,h2,h3,h4⟩:=h;refine ⟨t i,?_,by rw [h1,h3]⟩
 by_cases c:t i<N
 ·exact c
 ·have:=h4 (t i) (by omega)
  rw [h3] at this;omega
theorem zlN {N:Nat} {q:Nat→Nat} (h:Sym.Re 0 N (fun i=>i) q) {i:Nat} (hi:i<N):q i<N:=by
 obtain ⟨j,⟨_,hj⟩,e⟩:=h.from (i:=i) ⟨by omega,hi⟩
 rw [e];exact hj
theorem CntQ.all {x0:Nat→RecD} {q:Nat→Nat} {N:Nat} {l:List Nat} (h:CntQ x0 q N l) (hR:Sym.Re 0 N (fun i=>i) q):Cnt x0 N l:=⟨h.srt,fun i=>by
 rw [h.mem]
 constructor
 ·rintro ⟨⟨j,hj,rfl⟩,b⟩;exact ⟨zlN hR hj,b⟩
 ·rintro ⟨a,b⟩;exact ⟨zlM hR a,b⟩⟩
structure Alk (x0:Nat→RecD) (l:List Nat) (al:Nat):Prop where
 nil:l=[]→al=0
 lt:l≠[]→al<l.length
 before:∀ e,e∈l.take al→∀ f,f∈l.drop al→numC (x0 e) (x0 f)<0
 after:∀ e,e∈l.drop al→∀ f,f∈l.drop al→numC (x0 e) (x0 f)=0
theorem Alk.start (x0:Nat→RecD):Alk x0 [] 0:=⟨fun _=>rfl,fun h=>absurd rfl h,fun e he=>by simp at he,fun e he=>by simp at he⟩
theorem zkJ {a b c:RecD} (h:numC a b<0) (k:numC b c=0):numC a c<0:=by rw [zdG] at *;rw [zdc] at k;omega
theorem zkK {a b c:RecD} (h:numC a b=0) (k:numC b c<0):numC a c<0:=by rw [zdG] at *;rw [zdc] at h;omega
theorem zkL {a b c:RecD} (h:numC a b<0) (k:numC b c<0):numC a c<0:=by rw [zdG] at *;omega
theorem zkM {a b c:RecD} (h:numC a b=0) (k:numC b c=0):numC a c=0:=by rw [zdc] at *;omega
theorem zid (a:RecD):numC a a=0:=zdc.2 ⟨rfl,rfl,rfl⟩
theorem zmN {a b:RecD} (h:numC a b=0):numC b a=0:=by rw [zdc] at *;omega
section
variable {x0:Nat→RecD} {q:Nat→Nat} {N k:Nat} {l:List Nat} {al:Nat}
theorem CntQ.behind (h:CntQ x0 q k l) (hS:Sym.Srt (numL x0) q 0 N) (hk:k<N) {o:Nat} (ho:o∈l):numL x0 o (q k):=by
 obtain ⟨⟨j,hj,rfl⟩,_⟩:=(h.mem o).1 ho;exact hS j k (by omega) hj hk
theorem Alk.here (a:Alk x0 l al) (hne:l≠[]):l.getD al 0∈l.drop al:=by
 have:=a.lt hne;rw [zdH this];exact List.mem_iff_getElem.2 ⟨0,by rw [List.length_drop];omega,by rw [List.getElem_drop];simp⟩
theorem Alk.fresh (a:Alk x0 l al) (h:CntQ x0 q k l) (hS:Sym.Srt (numL x0) q 0 N) (hk:k<N) (hne:l≠[]) (hn:numC (x0 (l.getD al 0)) (x0 (q k))≠0):∀ e,e∈l→numC (x0 e) (x0 (q k))<0:=by
 have hh:=a.here hne;have h1:=h.behind hS hk (List.mem_of_mem_drop hh)
 have h2:numC (x0 (l.getD al 0)) (x0 (q k))<0:=by
  rcases h1 with h1 | h1
  ·exact h1
  ·exact absurd h1.1 hn
 intro e he;rw [← List.take_append_drop al l] at he
 rcases List.mem_append.1 he with he | he
 ·exact zkL (a.before e he _ hh) h2
 ·exact zkK (a.after e he _ hh) h2
theorem CntQ.has (h:CntQ x0 q k l) (hS:Sym.Srt (numL x0) q 0 N) (hR:Sym.Re 0 N (fun i=>i) q) (hk:k<N) (hb:∀ e,e∈l.take al→numC (x0 e) (x0 (q k))<0):(∃ o,o∈l.drop al∧SameR (x0 o) (x0 (q k)))↔¬ Fst x0 (q k):=by
 constructor
 ·rintro ⟨o,ho,hs⟩ hf
  have:=h.behind hS hk (List.mem_of_mem_drop ho)
  rcases this with h1 | h1
  ·rw [hs.num] at h1;omega
  ·exact hf o h1.2 hs
 ·intro hf
  obtain ⟨m,hm⟩:∃ m,¬ (m<q k→¬ SameR (x0 m) (x0 (q k))):=Classical.not_forall.1 hf;have h1:m<q k:=Classical.byContradiction fun h=>hm (fun h'=>absurd h' h);have h2:SameR (x0 m) (x0 (q k)):=Classical.byContradiction fun h=>hm (fun _=>h);obtain ⟨j0,a,b,c⟩:=zlL h1 h2;have hqk:=zlN hR hk;obtain ⟨k0,hk0,e0⟩:=zlM hR (i:=j0) (by omega)
  have hlt:k0<k:=by
   by_cases c1:k0<k
   ·exact c1
   ·exfalso
    by_cases c2:k0=k
    ·subst c2;omega
    ·have h3:=hS k k0 (by omega) (by omega) hk0
     rw [e0] at h3;have h4:numL x0 j0 (q k):=.inr ⟨b.num,a⟩;exact (zbH x0).irr _ ((zbH x0).trans h3 h4)
  have hin:j0∈l:=(h.mem j0).2 ⟨⟨k0,hlt,e0⟩,c⟩;rw [← List.take_append_drop al l] at hin
  rcases List.mem_append.1 hin with hin | hin
  ·have:=hb j0 hin
   rw [b.num] at this;omega
  ·exact ⟨j0,hin,b⟩
theorem CntQ.skip (h:CntQ x0 q k l) (hf:¬ Fst x0 (q k)):CntQ x0 q (k+1) l:=⟨h.srt,fun i=>by
 rw [h.mem]
 constructor
 ·rintro ⟨⟨j,hj,e⟩,b⟩;exact ⟨⟨j,by omega,e⟩,b⟩
 ·rintro ⟨⟨j,hj,e⟩,b⟩
  refine ⟨⟨j,?_,e⟩,b⟩
  by_cases c:j=k
  ·subst c;rw [e] at hf;exact absurd b hf
  ·omega⟩
theorem CntQ.more (h:CntQ x0 q k l) (hS:Sym.Srt (numL x0) q 0 N) (hk:k<N) (hf:Fst x0 (q k)):CntQ x0 q (k+1) (l++[q k]):=⟨by
 rw [List.pairwise_append];refine ⟨h.srt,List.pairwise_singleton _ _,fun a ha b hb=>?_⟩;rw [List.mem_singleton] at hb;subst hb
 exact h.behind hS hk ha,fun i=>by
 rw [List.mem_append,List.mem_singleton,h.mem]
 constructor
 ·rintro (⟨⟨j,hj,e⟩,b⟩ | rfl)
  ·exact ⟨⟨j,by omega,e⟩,b⟩
  ·exact ⟨⟨k,by omega,rfl⟩,hf⟩
 ·rintro ⟨⟨j,hj,e⟩,b⟩
  by_cases c:j=k
  ·subst c;exact .inr e.symm
  ·exact .inl ⟨⟨j,by omega,e⟩,b⟩⟩
theorem Alk.stay (a:Alk x0 l al) (hne:l≠[]) {r:Nat} (hn:numC (x0 (l.getD al 0)) (x0 r)=0):(∀ e,e∈l.take al→numC (x0 e) (x0 r)<0)∧Alk x0 (l++[r]) al:=by
 have hh:=a.here hne;have h0:=a.lt hne;have hB:∀ e,e∈l.take al→numC (x0 e) (x0 r)<0:=fun e he=>zkJ (a.before e he _ hh) hn;have hA:∀ e,e∈l.drop al→numC (x0 e) (x0 r)=0:=fun e he=>zkM (a.after e he _ hh) hn;refine ⟨hB,⟨fun h=>by simp at h,fun _=>by rw [List.length_append];omega,fun e he f hf=>?_,fun e he f hf=>?_⟩⟩
 ·rw [List.take_append_of_le_length (by omega)] at he
  rw [List.drop_append_of_le_length (by omega),List.mem_append,List.mem_singleton] at hf
  rcases hf with hf | rfl
  ·exact a.before e he f hf
  ·exact hB e he
 ·rw [List.drop_append_of_le_length (by omega),List.mem_append,List.mem_singleton] at he hf
  rcases he with he | rfl
  ·rcases hf with hf | rfl
   ·exact a.after e he f hf
   ·exact hA e he
  ·rcases hf with hf | rfl
   ·exact zmN (hA f hf)
   ·exact zid _
theorem Alk.open_ {r:Nat} (hB:∀ e,e∈l→numC (x0 e) (x0 r)<0):Alk x0 (l++[r]) l.length:=by
 refine ⟨fun h=>by simp at h,fun _=>by rw [List.length_append];simp,fun e he f hf=>?_,fun e he f hf=>?_⟩
 ·rw [List.take_append_of_le_length (by omega),List.take_length] at he
  rw [List.drop_append_of_le_length (by omega),List.drop_length,List.nil_append,List.mem_singleton] at hf;subst hf;exact hB e he
 ·rw [List.drop_append_of_le_length (by omega),List.drop_length,List.nil_append,List.mem_singleton] at he hf
  subst he hf;exact zid _
end
theorem zg6 {l:List Nat} {r i:Nat} (c:i<l.length):(l++[r]).getD i 0=l.getD i 0:=by rw [List.getD_eq_getElem?_getD,List.getElem?_append_left c,← List.getD_eq_getElem?_getD]
theorem zes {l:List Nat} {r:Nat}:(l++[r]).getD l.length 0=r:=by rw [List.getD_eq_getElem?_getD,List.getElem?_append_right (Nat.le_refl _)];simp
theorem zcF {l:List Nat} {al:Nat} {P:Nat→Prop}:(∃ o,o∈l.drop al∧P o)↔∃ j,j<l.length-al∧P (l.getD (al+j) 0):=by
 constructor
 ·rintro ⟨o,ho,hp⟩
  obtain ⟨k,hk,rfl⟩:=List.mem_iff_getElem.1 ho;rw [List.length_drop] at hk;refine ⟨k,hk,?_⟩;rw [List.getElem_drop] at hp;rw [zdH (show al+k<l.length by omega)];exact hp
 ·rintro ⟨j,hj,hp⟩
  rw [zdH (show al+j<l.length by omega)] at hp;exact ⟨_,List.mem_iff_getElem.2 ⟨j,by rw [List.length_drop];omega,by rw [List.getElem_drop]⟩,hp⟩
theorem zfI (g n cap m:Nat) (hm:m≤n) (w:World):(Instr.slice 78 (.slice (some ⟨g,0,none⟩) n cap) (some (.int .i64 (m:Int))) none none).run Tryz.prog w=.ok (.slice (if cap=m then some ⟨g,0,none⟩ else some ⟨g,m*9,none⟩) (n-m) (cap-m)) w:=by
 have e1:(m:Int)≤(n:Int):=by omega
 by_cases h:cap=m
 ·subst h
  simp [Instr.slice,run_underlying Tryz.underlying78,Instr.sliceBounds,Instr.sliceBound,asIntOf,go_sem,e1,hm]
 ·simp [Instr.slice,run_underlying Tryz.underlying78,Instr.sliceBounds,Instr.sliceBound,asIntOf,go_sem,e1,hm,h]
theorem zfJ (g n cap m:Nat) (hm:m≤n) (hc:n≤cap) (w:World):(Instr.slice 78 (.slice (some ⟨g,0,none⟩) n cap) none (some (.int .i64 (m:Int))) none).run Tryz.prog w=.ok (.slice (some ⟨g,0,none⟩) m cap) w:=by
 have e1:(m:Int)≤(cap:Int):=by omega
 have e2:m≤cap:=by omega
 simp [Instr.slice,run_underlying Tryz.underlying78,Instr.sliceBounds,Instr.sliceBound,asIntOf,go_sem,e1,e2]
theorem zfK (w:World):(Instr.slice 78 (.slice none 0 0) (some (.int .i64 ((0:Nat):Int))) none none).run Tryz.prog w=.ok (.slice none 0 0) w:=by
 simp [Instr.slice,run_underlying Tryz.underlying78,Instr.sliceBounds,Instr.sliceBound,asIntOf,go_sem]
theorem zfL (w:World):(Instr.slice 78 (.slice none 0 0) none (some (.int .i64 ((0:Nat):Int))) none).run Tryz.prog w=.ok (.slice none 0 0) w:=by
 simp [Instr.slice,run_underlying Tryz.underlying78,Instr.sliceBounds,Instr.sliceBound,asIntOf,go_sem]
section
variable {w:World} {lo hi n:Nat} {v:Value} {x:Nat→RecD} {ce:Nat→List Value}
theorem View.form2 (h:View zab 85 w lo hi v n x ce):(v=.slice none 0 0∧n=0)∨∃ g cap,v=.slice (some ⟨g,0,none⟩) n cap∧n≤cap∧g<w.heap.size:=by
 have hlt:=fun b hb=>(h.row.lt b hb).2
 rcases h.row.2 with hn | ⟨g,cap,cur,rfl,hbg,hgg,hnc,hcm,rest⟩
 ·exact .inl hn
 ·exact .inr ⟨g,cap,rfl,hnc,hlt g rfl⟩
theorem znd {ao:Option Addr} {m c:Nat} {y:Nat→RecD} {cy:Nat→List Value} (hs:Src zab w hi ao m y cy) (hh:hi≤w.heap.size) (hm:m≤maxLen) (hb:∀ b off,ao=some ⟨b,off,none⟩→b<w.heap.size):(zab.slice 85).rd w w.heap.size (m,y) [.slice ao m c]:=by
 refine ⟨ao,c,rfl,hm,fun h0=>?_⟩;obtain ⟨b,off,e,hc⟩:=hs.1 h0;exact ⟨b,off,e,hb b off e,fun i hi=>⟨cy i,zab.rd_mono (hs.2 i hi) hh,hc i hi⟩⟩
theorem View.from_ (h:View zab 85 w lo hi v n x ce) (hh:hi≤w.heap.size) {al:Nat} (ha:al≤n):∃ ao c,(∀ w',(Instr.slice 78 v (some (.int .i64 (al:Int))) none none).run Tryz.prog w'=.ok (.slice ao (n-al) c) w')∧Src zab w hi ao (n-al) (fun j=>x (al+j)) (fun j=>ce (al+j))∧(zab.slice 85).rd w w.heap.size (n-al,fun j=>x (al+j)) [.slice ao (n-al) c]∧(ao=none→c=0∨n-al=0):=by
 have hl:=h.len
 rcases h.form2 with ⟨rfl,rfl⟩ | ⟨g,cap,rfl,hnc,hg⟩
 ·obtain rfl:al=0:=by omega
  have S:Src zab w hi none 0 (fun j=>x (0+j)) (fun j=>ce (0+j)):=⟨fun h=>absurd rfl h,fun j hj=>by omega⟩;exact ⟨none,0,zfK,S,znd S hh (by omega) (fun b off e=>by cases e),fun _=>.inl rfl⟩
 ·have S:Src zab w hi (if cap=al then some ⟨g,0,none⟩ else some ⟨g,al*9,none⟩) (n-al) (fun j=>x (al+j)) (fun j=>ce (al+j)):=⟨fun h0=>by
   rw [if_neg (by omega)];refine ⟨g,al*9,rfl,fun j hj k hk=>?_⟩;have:=h.cell (i:=al+j) (by omega) hk;rw [← this]
   congr 2
   show al*9+(j*9+k)=(al+j)*9+k
   omega,fun j hj=>h.each _ (by omega)⟩
  refine ⟨_,_,zfI g n cap al ha,S,znd S hh (by omega) (fun b off e=>?_),fun e=>?_⟩
  ·split at e<;>cases e<;>exact hg
  ·split at e<;>cases e
theorem View.upto_ (h:View zab 85 w lo hi v n x ce) (hh:hi≤w.heap.size) {al:Nat} (ha:al≤n):∃ ao c,(∀ w',(Instr.slice 78 v none (some (.int .i64 (al:Int))) none).run Tryz.prog w'=.ok (.slice ao al c) w')∧Src zab w hi ao al x ce∧(ao=none→c=0∨al=0):=by
 rcases h.form2 with ⟨rfl,rfl⟩ | ⟨g,cap,rfl,hnc,hg⟩
 ·obtain rfl:al=0:=by omega
  exact ⟨none,0,zfL,⟨fun h=>absurd rfl h,fun j hj=>by omega⟩,fun _=>.inl rfl⟩
 ·exact ⟨_,_,zfJ g n cap al ha hnc,⟨fun h0=>⟨g,0,rfl,fun j hj k hk=>by rw [Nat.zero_add];exact h.cell (by omega) hk⟩,fun j hj=>h.each _ (by omega)⟩,fun e=>by cases e⟩
theorem zne {ao:Option Addr} {m c:Nat} {y:Nat→RecD} (h:(zab.slice 85).rd w hi (m,y) [.slice ao m c]):∃ cy,Src zab w hi ao m y cy∧(ao=none→c=0∨m=0):=by
 obtain ⟨ao',cap',e,hm,hc⟩:=h
 simp only [List.cons.injEq,Value.slice.injEq,true_and,and_true] at e
 obtain ⟨rfl,rfl⟩:=e
 by_cases h0:m=0
 ·subst h0
  exact ⟨fun _=>[],⟨fun h=>absurd rfl h,fun j hj=>by omega⟩,fun _=>.inr rfl⟩
 ·obtain ⟨b,off,rfl,hb,hel⟩:=hc h0
  have ch:∀ i,∃ ce,i<m→(zab.rd w hi (y i) ce∧∀ j,j<zab.sz→w.cell? ⟨b,off+(i*zab.sz+j),none⟩=ce[j]?):=fun i=>by
   by_cases c:i<m
   ·obtain ⟨ce,h1,h2⟩:=hel i c
    exact ⟨ce,fun _=>⟨h1,h2⟩⟩
   ·exact ⟨[],fun h=>absurd h c⟩
  obtain ⟨cy,hcy⟩:=Classical.axiomOfChoice ch;exact ⟨cy,⟨fun _=>⟨b,off,rfl,fun j hj=>(hcy j hj).2⟩,fun j hj=>(hcy j hj).1⟩,fun e=>by cases e⟩
end
theorem znz {c:Bool} {X Y:Prop} (h:c=false) (y:Y):if c=true then X else Y:=by rw [h,if_neg (by decide)];exact y
set_option maxRecDepth 1000000 in
theorem zet (x0:Nat→RecD) (enc:Nat→List Value) (p:Nat→Nat) (N blk cap lo hi:Nat) (w:World) (V:RowsV x0 enc N blk cap lo hi w p) (hlo:hi≤lo) (hN:N<1000000000) (a b:Nat) (hab:a≤b) (hb:b≤N) (hinc:∀ i j,a≤i→i<j→j<b→p i<p j) :
 Calls Tryz.prog 193 #[.slice (some ⟨blk,0,none⟩) N cap,.int .i64 a,.int .i64 b,.func (.func 134) #[] #[]] w fun e w'=>e=.returned (.tuple #[])∧∃ q,RowsV x0 enc N blk cap lo hi w' q∧Sym.Re a b p q∧Sym.Srt (numL x0) q a b∧ChgL [blk] w w':=by
 have HV0:=hid V;have HI:=hid hinc;have hbl:=(V.row.lt blk rfl);clear V hinc
 have w1:IntKind.i64.wrap ((a:Int)+1)=((a+1:Nat):Int):=by rw [IntKind.wrap_i64];omega
 go_enter Tryz.func193,Tryz.ntmps193
 go_wp2
 go_loopw [8] (fun vi wr=>∃ (i:Nat) (q:Nat→Nat),a+1≤i∧(i≤b∨(i=a+1∧q=p))∧vi=.int .i64 i∧RowsV x0 enc N blk cap lo hi wr q∧Sym.Re a i p q∧Sym.Srt (numL x0) q a i∧ChgL [blk] w wr) (fun vi _=>b-(intOf vi).toNat)
 case atStart=>exact ⟨a+1,p,Nat.le_refl _,.inr ⟨rfl,rfl⟩,by go_num,HV0.out,Sym.Re.refl _ _ _,fun i j h1 h2 h3=>by omega,ChgL.refl _ _⟩
 case round=>
  obtain ⟨i,q,hai,hib,rfl,V,hRe,hSrt,C⟩:=hrel;have HV:=hid V;have HC:=hid C;have HRe:=hid hRe;have HSrt:=hid hSrt;clear V C hRe hSrt w1
  by_cases hlt:i<b
  ·have t1:(i:Int)<(b:Int):=by omega
   go_wp2
   go_loopw [9] (fun vj wr=>∃ (j:Nat) (q1:Nat→Nat),a≤j∧j≤i∧vj=.int .i64 j∧RowsV x0 enc N blk cap lo hi wr q1∧Sym.Re a (i+1) p q1∧Ins (numL x0) q1 a i j (p i)∧(∀ k,a≤k→k≤i→k≠j→q1 k<p i)∧ChgL [blk] w wr) (fun vj _=>(intOf vj).toNat)
   case atStart=>exact ⟨i,q,by omega,Nat.le_refl _,rfl,HV.out,HRe.out.mono (Nat.le_refl _) (by omega),by
    have:=Ins.start HSrt.out;rw [HRe.out.out (.inr (Nat.le_refl _))] at this
    exact this,fun k h1 h2 h3=>by
    obtain ⟨k',hk',e⟩:=HRe.out.from (i:=k) ⟨h1,by omega⟩
    rw [e]
    exact HI.out k' i hk'.1 hk'.2 hlt,HC.out⟩
   case round=>
    obtain ⟨j,q1,haj,hji,rfl,V,hRe,hIns,hTag,C⟩:=hrel;have HV1:=hid V;have HC1:=hid C;have HRe1:=hid hRe;have HIns:=hid hIns;have HTag:=hid hTag;clear C hRe hIns hTag HV HC HRe HSrt
    by_cases hja:j=a
    ·have d1:decide (a<j)=false:=decide_eq_false (by omega)
     have HJA:=hid hja;have HW:=hid (View.drew V);clear V
     go_upto_region 4 with fail
     refine zay 14 (fun w'=>True) zci trivial (fun hHeld=>?_);refine zn9 0 rfl ?_
     try simp only [Act.put,SL]
     refine zn9 1 rfl ?_
     try simp only [Act.put,SL]
     refine zn9 2 rfl ?_
     try simp only [Act.put,SL]
     try rw [d1]
     refine zn9 3 rfl ?_
     try simp only [Act.put,SL]
     refine zob 4 rfl ?_
     try simp only [Act.put,SL]
     refine zob 5 rfl ?_
     try simp only [Act.put,SL]
     refine zob 6 rfl ?_
     try simp only [Act.put,SL]
     refine zob 7 rfl ?_
     try simp only [Act.put,SL]
     refine zob 8 rfl ?_
     try simp only [Act.put,SL]
     refine zob 9 rfl ?_
     try simp only [Act.put,SL]
     refine zob 10 rfl ?_
     try simp only [Act.put,SL]
     refine zob 11 rfl ?_
     try simp only [Act.put,SL]
     refine zob 12 rfl ?_
     try simp only [Act.put,SL]
     refine zob 13 rfl ?_
     try simp only [Act.put,SL]
     refine zas (i:=14) (o:=_) rfl (by kernel_rfl) (by kernel_rfl) (fun KC hKC=>?_);refine znz (by kernel_rfl) (hKC _ _ ?_);clear hKC KC
     try simp only [Act.put,SL]
     refine zak (i:=15) (oi:=_) (v:=undef) rfl (by kernel_rfl) (fun _ _ _ h=>h) (Or.inr ⟨by kernel_rfl,rfl⟩) ?_
     try simp only [Act.put,SL]
     refine znS 16 (v:=?_) rfl ?_ ?_
     rotate_left
     ·intro w' hSw;go_simp;try with_reducible rfl
     try simp only [Act.put,SL]
     refine zar (by kernel_rfl) ?_ _;go_wp2
     go_roundw
     case rel=>exact ⟨i+1,q1,by omega,.inl (by omega),by go_num,HW.out,HRe1.out,HIns.out.stop (zbH x0) haj hji (.inl HJA.out),HC1.out.trans (ChgL.of_below ⟨rfl,rfl,rfl,Nat.le_refl _,fun _ _=>rfl⟩)⟩
     case measure=>simp [intOf];omega
    ·obtain ⟨A,hA⟩:∃ A,A=j:=⟨_,rfl⟩
     subst hA;obtain ⟨B,hB⟩:∃ B,A=B+1:=⟨A-1,by omega⟩;have HAB:=hid hB;have d1:decide (a<A)=true:=decide_eq_true (by omega)
     have w2:IntKind.i64.wrap ((A:Int)-1)=(B:Int):=by rw [IntKind.wrap_i64];omega
     have hAN:A<N:=by omega
     have hBN:B<N:=by omega
     have i1:(A:Int)<(N:Int):=by omega
     have i2:(B:Int)<(N:Int):=by omega
     have i3:(0:Int)≤(A:Int):=by omega
     have i4:(0:Int)≤(B:Int):=by omega
     have hsz:=(V.row.lt blk rfl);have VD:=View.drew V;have rgA:wr.drew.rangeAt blk (A*9) (enc (q1 A)):=VD.range hAN;have rgB:wr.drew.rangeAt blk (B*9) (enc (q1 B)):=VD.range hBN;have hsA:(enc (q1 A)).length=9:=VD.lens A hAN;have hsB:(enc (q1 B)).length=9:=VD.lens B hBN;have rdA:=VD.each A hAN;have rdB:=VD.each B hBN;obtain ⟨cA,hcA⟩:∃ c,c=enc (q1 A):=⟨_,rfl⟩;obtain ⟨cB,hcB⟩:∃ c,c=enc (q1 B):=⟨_,rfl⟩;rw [← hcA] at rgA hsA;rw [← hcB] at rgB hsB;have CC0:=zcy _ _ _ _ hi hi wr.drew rdA rdB;rw [← hcA,← hcB] at CC0;obtain ⟨c,hc⟩:∃ c:Int,c=numC (x0 (q1 A)) (x0 (q1 B)):=⟨_,rfl⟩;rw [← hc] at CC0;have HCN:=hid hc
     have CC:Calls Tryz.prog 134 (#[.agg cA.toArray,.agg cB.toArray]++#[]) wr.drew fun e w'=>e=.returned (.int .i64 c)∧Below wr.drew.heap.size wr.drew w':=by rw [Array.append_empty];exact CC0
     clear CC0 hc hcA hcB rdA rdB hB;have HVD:=hid VD;clear VD V
     go_upto_region 4 with fail
     refine zay 14 (fun w'=>w'.rangeAt blk (A*9) cA∧w'.rangeAt blk (B*9) cB) zci ⟨rgA,rgB⟩ (fun hHeld=>?_);refine zn9 0 rfl ?_
     try simp only [Act.put,SL]
     refine zn9 1 rfl ?_
     try simp only [Act.put,SL]
     refine zn9 2 rfl ?_
     try simp only [Act.put,SL]
     try rw [d1]
     refine zn9 3 rfl ?_
     try simp only [Act.put,SL]
     refine zn9 4 rfl ?_
     try simp only [Act.put,SL]
     refine zn9 5 rfl ?_
     try simp only [Act.put,SL]
     refine zn9 6 rfl ?_
     try simp only [Act.put,SL]
     refine zn9 7 rfl ?_
     try simp only [Act.put,SL]
     refine zaf (i:=8) (oi:=_) 16 rfl (by kernel_rfl) (fun _ _ _ h=>h) (yieldsIf_load_mid (by kernel_rfl) 85 (.tmp 25) rfl blk (A*9) (by simp [Act.eval,Act.put]) cA _ (fun w h=>h.1) Tryz.underlying85 rfl (zam hsA)) (by assumption) ?_
     try simp only [Act.put,SL]
     refine zn9 9 rfl ?_
     try simp only [Act.put,SL]
     refine zn9 10 rfl ?_
     try simp only [Act.put,SL]
     refine zn9 11 rfl ?_
     try simp only [Act.put,SL]
     refine zn9 12 rfl ?_
     try simp only [Act.put,SL]
     refine zaf (i:=13) (oi:=_) 16 rfl (by kernel_rfl) (fun _ _ _ h=>h) (yieldsIf_load_mid (by kernel_rfl) 85 (.tmp 30) rfl blk (B*9) (by simp [Act.eval,Act.put]) cB _ (fun w h=>h.2) Tryz.underlying85 rfl (zam hsB)) (by assumption) ?_
     try simp only [Act.put,SL]
     refine zas (i:=14) (o:=_) rfl (by kernel_rfl) (by kernel_rfl) (fun KC hKC=>?_);refine zaQ (by kernel_rfl) (.tmp 22) 134 #[] _ _ rfl (by simp [Act.eval,Act.put]) #[.agg cA.toArray,.agg cB.toArray] (by simp [Act.eval,Act.put]) Tryz.func134 (by kernel_rfl) (by kernel_rfl) CC ?_;rintro ee w5 ⟨rfl,b5⟩;refine ⟨_,rfl,?_⟩;refine hKC _ _ ?_;clear hKC KC
     try simp only [Act.put,SL]
     refine znS 15 (v:=?_) rfl ?_ ?_
     rotate_left
     ·intro w' hSw;go_simp;try with_reducible rfl
     try simp only [Act.put,SL]
     refine znS 16 (v:=?_) rfl ?_ ?_
     rotate_left
     ·intro w' hSw;go_simp;try with_reducible rfl
     try simp only [Act.put,SL]
     refine zar (by kernel_rfl) ?_ _;have HV5:Hid (RowsV x0 enc N blk cap lo hi w5 q1):=View.below HVD.out b5 (by show hi≤wr.heap.size;omega);have HC5:Hid (ChgL [blk] w w5):=HC1.out.trans ((ChgL.of_below ⟨rfl,rfl,rfl,Nat.le_refl _,fun _ _=>rfl⟩:ChgL [blk] wr wr.drew).trans (ChgL.of_below b5));clear HVD HC1 HV1 rgA rgB hsA hsB b5 hHeld CC hsz;obtain ⟨dd,hdd⟩:∃ d:Bool,d=decide (c<0):=⟨_,rfl⟩;have HDD:=hid hdd
     try rw [← hdd]
     clear hdd
     cases dd
     ·go_wp2
      go_roundw
      case rel=>exact ⟨i+1,q1,by omega,.inl (by omega),by go_num,HV5.out,HRe1.out,HIns.out.stop (zbH x0) haj hji (.inr (by
       have h1:=HDD.out
       have h2:¬ c<0:=by simpa using h1
       rw [HCN.out] at h2;have h3:=HTag.out B (by have:=HAB.out;omega) (by have:=HAB.out;omega) (by have:=HAB.out;omega);have h4:=HIns.out.at_;rw [show A-1=B by have:=HAB.out;omega,← h4]
       exact zib (by rw [h4];exact h3) h2)),HC5.out⟩
      case measure=>simp [intOf];omega
     ·have V5:=HV5.out
      have VD:=View.drew V5;have rgA:w5.drew.rangeAt blk (A*9) (enc (q1 A)):=VD.range hAN;have rgB:w5.drew.rangeAt blk (B*9) (enc (q1 B)):=VD.range hBN;have hsA:(enc (q1 A)).length=9:=VD.lens A hAN;have hsB:(enc (q1 B)).length=9:=VD.lens B hBN
      have th1:w5.drew.there blk (A*9) (enc (q1 B)).length:=by rw [hsB];exact VD.there hAN
      have th2:(w5.drew.setCells blk (A*9) (enc (q1 B))).there blk (B*9) (enc (q1 A)).length:=by rw [hsA];exact (VD.put (by decide) hlo hAN (VD.each B hBN)).there hBN
      have oneA:=zaT _ _ _ _ (VD.each A hAN);have oneB:=zaT _ _ _ _ (VD.each B hBN);have SW:=zer VD hlo hAN hBN;have HSW:=hid SW.1;have HSC:Hid (ChgL [blk] w5 ((w5.drew.setCells blk (A*9) (enc (q1 B))).setCells blk (B*9) (enc (q1 A)))):=(ChgL.of_below ⟨rfl,rfl,rfl,Nat.le_refl _,fun _ _=>rfl⟩:ChgL [blk] w5 w5.drew).trans SW.2;obtain ⟨cA,hcA⟩:∃ c,c=enc (q1 A):=⟨_,rfl⟩;obtain ⟨cB,hcB⟩:∃ c,c=enc (q1 B):=⟨_,rfl⟩;rw [← hcA] at rgA th2 hsA oneA HSW HSC;rw [← hcB] at rgB th1 th2 hsB oneB HSW HSC;clear hcA hcB VD SW;clear V5
      go_upto_region 6 with fail
      refine zay 15 (fun w'=>w'.rangeAt blk (A*9) cA∧w'.rangeAt blk (B*9) cB) zci ⟨rgA,rgB⟩ (fun hHeld=>?_);refine zaa (i:=0) (oi:=_) (v:=?_) rfl (by kernel_rfl) (fun _ _ _ h=>h) (Or.inl ⟨by rfl,?_⟩) (by assumption) ?_
      rotate_left
      ·intro w' hSw;go_simp;try with_reducible rfl
      try simp only [Act.put,SL]
      refine zaa (i:=1) (oi:=_) (v:=?_) rfl (by kernel_rfl) (fun _ _ _ h=>h) (Or.inl ⟨by rfl,?_⟩) (by assumption) ?_
      rotate_left
      ·intro w' hSw;go_simp;try with_reducible rfl
      try simp only [Act.put,SL]
      refine zaa (i:=2) (oi:=_) (v:=?_) rfl (by kernel_rfl) (fun _ _ _ h=>h) (Or.inl ⟨by rfl,?_⟩) (by assumption) ?_
      rotate_left
      ·intro w' hSw;go_simp;try with_reducible rfl
      try simp only [Act.put,SL]
      refine zaa (i:=3) (oi:=_) (v:=?_) rfl (by kernel_rfl) (fun _ _ _ h=>h) (Or.inl ⟨by rfl,?_⟩) (by assumption) ?_
      rotate_left
      ·intro w' hSw;go_simp;try with_reducible rfl
      try simp only [Act.put,SL]
      refine zaa (i:=4) (oi:=_) (v:=?_) rfl (by kernel_rfl) (fun _ _ _ h=>h) (Or.inl ⟨by rfl,?_⟩) (by assumption) ?_
      rotate_left
      ·intro w' hSw;go_simp;try with_reducible rfl
      try simp only [Act.put,SL]
      refine zaa (i:=5) (oi:=_) (v:=?_) rfl (by kernel_rfl) (fun _ _ _ h=>h) (Or.inl ⟨by rfl,?_⟩) (by assumption) ?_
      rotate_left
      ·intro w' hSw;go_simp;try with_reducible rfl
      try simp only [Act.put,SL]
      refine zaa (i:=6) (oi:=_) (v:=?_) rfl (by kernel_rfl) (fun _ _ _ h=>h) (Or.inl ⟨by rfl,?_⟩) (by assumption) ?_
      rotate_left
      ·intro w' hSw;go_simp;try with_reducible rfl
      try simp only [Act.put,SL]
      refine zaa (i:=7) (oi:=_) (v:=?_) rfl (by kernel_rfl) (fun _ _ _ h=>h) (Or.inl ⟨by rfl,?_⟩) (by assumption) ?_
      rotate_left
      ·intro w' hSw;go_simp;try with_reducible rfl
      try simp only [Act.put,SL]
      refine zaa (i:=8) (oi:=_) (v:=?_) rfl (by kernel_rfl) (fun _ _ _ h=>h) (Or.inl ⟨by rfl,?_⟩) (by assumption) ?_
      rotate_left
      ·intro w' hSw;go_simp;try with_reducible rfl
      try simp only [Act.put,SL]
      refine zaf (i:=9) (oi:=_) 16 rfl (by kernel_rfl) (fun _ _ _ h=>h) (yieldsIf_load_mid (by rfl) 85 (.tmp 45) rfl blk (B*9) (by simp [Act.eval,Act.put]) cB _ (fun w h=>h.2) Tryz.underlying85 rfl (zam hsB)) (by assumption) ?_
      try simp only [Act.put,SL]
      refine zaa (i:=10) (oi:=_) (v:=?_) rfl (by kernel_rfl) (fun _ _ _ h=>h) (Or.inl ⟨by rfl,?_⟩) (by assumption) ?_
      rotate_left
      ·intro w' hSw;go_simp;try with_reducible rfl
      try simp only [Act.put,SL]
      refine zaa (i:=11) (oi:=_) (v:=?_) rfl (by kernel_rfl) (fun _ _ _ h=>h) (Or.inl ⟨by rfl,?_⟩) (by assumption) ?_
      rotate_left
      ·intro w' hSw;go_simp;try with_reducible rfl
      try simp only [Act.put,SL]
      refine zaa (i:=12) (oi:=_) (v:=?_) rfl (by kernel_rfl) (fun _ _ _ h=>h) (Or.inl ⟨by rfl,?_⟩) (by assumption) ?_
      rotate_left
      ·intro w' hSw;go_simp;try with_reducible rfl
      try simp only [Act.put,SL]
      refine zaf (i:=13) (oi:=_) 16 rfl (by kernel_rfl) (fun _ _ _ h=>h) (yieldsIf_load_mid (by rfl) 85 (.tmp 49) rfl blk (A*9) (by simp [Act.eval,Act.put]) cA _ (fun w h=>h.1) Tryz.underlying85 rfl (zam hsA)) (by assumption) ?_
      try simp only [Act.put,SL]
      refine zaa (i:=14) (oi:=_) (v:=?_) rfl (by kernel_rfl) (fun _ _ _ h=>h) (Or.inl ⟨by rfl,?_⟩) (by assumption) ?_
      rotate_left
      ·intro w' hSw;go_simp;try with_reducible rfl
      try simp only [Act.put,SL]
      refine zbw (i:=15) rfl (by kernel_rfl) (by kernel_rfl) rfl rfl 85 (.tmp 51) (.tmp 46) rfl blk (A*9) cB (by simp [Act.eval]) (by simp [Act.eval]) th1 (zam hsB) oneB ?_;refine zak (i:=16) (oi:=_) (v:=?_) rfl (by kernel_rfl) (fun _ _ _ h=>h) (Or.inl ⟨by rfl,?_⟩) ?_
      rotate_left
      ·intro w' hSw;go_simp;try with_reducible rfl
      try simp only [Act.put,SL]
      refine zbw (i:=17) rfl (by kernel_rfl) (by kernel_rfl) rfl rfl 85 (.tmp 52) (.tmp 50) rfl blk (B*9) cA (by simp [Act.eval]) (by simp [Act.eval]) th2 (zam hsA) oneA ?_;refine zar (by kernel_rfl) ?_ _;go_wp2
      go_roundw
      case rel=>
       have hAB:=HAB.out;refine ⟨B,(fun k=>q1 (Sym.swp A B k)),by omega,by omega,by go_num,HSW.out,HRe1.out.trans (Sym.Re.swaps q1 ⟨by omega,by omega⟩ ⟨by omega,by omega⟩),?_,?_,HC5.out.trans HSC.out⟩
       ·have h1:=HDD.out
        have h2:c<0:=by simpa using h1
        rw [HCN.out] at h2;have h4:=HIns.out;have h5:=zfH h2;rw [h4.at_] at h5;rw [hAB] at h4 ⊢;exact h4.step (by omega) (by omega) h5
       ·intro k k1 k2 k3
        show q1 (Sym.swp A B k)<p i
        unfold Sym.swp
        by_cases c1:k=A
        ·rw [if_pos c1]
         exact HTag.out B (by omega) (by omega) (by omega)
        ·rw [if_neg c1,if_neg k3]
         exact HTag.out k k1 k2 c1
      case measure=>have hAB:=HAB.out;simp [intOf];omega
  ·have HNL:=hid hlt
   have d0:decide ((i:Int)<(b:Int))=false:=decide_eq_false (by omega);clear hlt;go_wp2
   go_end0
   refine ⟨rfl,q,HV.out,?_,?_,HC.out⟩
   ·rcases hib with h | h
    ·exact HRe.out.mono (Nat.le_refl _) (by have:=HNL.out;omega)
    ·obtain ⟨h1,rfl⟩:=h
     exact Sym.Re.refl _ _ _
   ·exact HSrt.out.sub (Nat.le_refl _) (by have:=HNL.out;omega)
theorem zlO (a k x:Nat) (h:a≤k):Sym.rot a (a+1) (k+1) (Sym.swp k (k+1) x)=Sym.rot a (a+1) (k+2) x:=by
 unfold Sym.rot Sym.swp
 repeat' split
 all_goals omega
theorem zlP (a x:Nat):Sym.rot a (a+1) (a+1) x=x:=by
 unfold Sym.rot
 repeat' split
 all_goals omega
theorem zod {lt:Nat→Nat→Prop} (O:Sym.Ord lt) {p:Nat→Nat} {a b i:Nat} (hai:a+1≤i) (hib:i≤b) (h2:Sym.Srt lt p (a+1) b) (hl:∀ k,a+1≤k→k<i→lt (p k) (p a)) (hr:∀ k,i≤k→k<b→lt (p a) (p k)) :
 Sym.Srt lt (fun k=>p (Sym.rot a (a+1) i k)) a b∧Sym.Re a b p (fun k=>p (Sym.rot a (a+1) i k)):=by
 have r1:∀ k,a≤k→k<i-1→Sym.rot a (a+1) i k=k+1:=fun k h3 h4=>by
  unfold Sym.rot;repeat' split
  all_goals omega
 have r2:Sym.rot a (a+1) i (i-1)=a:=by
  unfold Sym.rot;repeat' split
  all_goals omega
 have r3:∀ k,i≤k→Sym.rot a (a+1) i k=k:=fun k h3=>by
  unfold Sym.rot;repeat' split
  all_goals omega
 refine ⟨fun x y h3 h4 h5=>?_,(Sym.Re.rots p (by omega) hai).mono (Nat.le_refl _) hib⟩
 show lt (p (Sym.rot a (a+1) i x)) (p (Sym.rot a (a+1) i y))
 by_cases c1:x<i-1
 ·rw [r1 x h3 c1]
  by_cases c2:y<i-1
  ·rw [r1 y (by omega) c2];exact h2 _ _ (by omega) (by omega) (by omega)
  ·by_cases c3:y=i-1
   ·rw [c3,r2];exact hl _ (by omega) (by omega)
   ·rw [r3 y (by omega)];exact h2 _ _ (by omega) (by omega) (by omega)
 ·by_cases c3:x=i-1
  ·rw [c3,r2,r3 y (by omega)];exact hr _ (by omega) h5
  ·rw [r3 x (by omega),r3 y (by omega)];exact h2 _ _ (by omega) h4 h5
set_option maxRecDepth 1000000 in
theorem zkN (x0:Nat→RecD) (enc:Nat→List Value) (p:Nat→Nat) (N blk cap lo hi:Nat) (w:World) (V:RowsV x0 enc N blk cap lo hi w p) (hlo:hi≤lo) (hN:N<1000000000) (a m b:Nat) (ham:a<m) (hmb:m<b) (hb:b≤N) (htag:∀ i j,a≤i→i<m→m≤j→j<b→p i<p j) (hs1:Sym.Srt (numL x0) p a m) (hs2:Sym.Srt (numL x0) p m b) (h1:m=a+1) :
 Calls Tryz.prog 194 #[.slice (some ⟨blk,0,none⟩) N cap,.int .i64 a,.int .i64 m,.int .i64 b,.func (.func 134) #[] #[]] w (fun e w'=>e=.returned (.tuple #[])∧∃ q,RowsV x0 enc N blk cap lo hi w' q∧Sym.Re a b p q∧Sym.Srt (numL x0) q a b∧ChgL [blk] w w'):=by
 have HV0:=hid V;have HT:=hid htag;have HS2:=hid hs2;have HM:=hid h1
 have w0:IntKind.i64.wrap ((m:Int)-(a:Int))=1:=by rw [IntKind.wrap_i64];omega
 clear V htag hs1 hs2
 go_enter Tryz.func194,Tryz.ntmps194
 go_wp2;clear h1
 go_loopw [10,11] (fun vi vj wr=>∃ (i j:Nat),m≤i∧i≤j∧j≤b∧vi=.int .i64 i∧vj=.int .i64 j∧RowsV x0 enc N blk cap lo hi wr p∧(∀ k,m≤k→k<i→numL x0 (p k) (p a))∧(∀ k,j≤k→k<b→numL x0 (p a) (p k))∧ChgL [blk] w wr) (fun vi vj _=>(intOf vj).toNat-(intOf vi).toNat)
 case atStart=>exact ⟨m,b,Nat.le_refl _,by omega,Nat.le_refl _,by go_num,by go_num,HV0.out,fun k h1 h2=>by omega,fun k h1 h2=>by omega,ChgL.refl _ _⟩
 case round=>
  obtain ⟨i,j,hmi,hij,hjb,rfl,rfl,V,hL,hR,C⟩:=hrel;have HC:=hid C;have HL:=hid hL;have HR:=hid hR;have HV:=hid V;clear C hL hR w0
  by_cases hlt:i<j
  ·have t1:(i:Int)<(j:Int):=by omega
   obtain ⟨A,hA⟩:∃ A,A=(i+j)/2:=⟨_,rfl⟩
   have w1:IntKind.i64.wrap ((i:Int)+(j:Int))=((i+j:Nat):Int):=by rw [IntKind.wrap_i64];omega
   have e1:((i:Int)+(j:Int))/2=(A:Int):=by omega
   have hAi:i≤A:=by omega
   have hAj:A<j:=by omega
   have hAN:A<N:=by omega
   have hBN:a<N:=by omega
   have i1:(A:Int)<(N:Int):=by omega
   have i2:(a:Int)<(N:Int):=by omega
   have i3:(0:Int)≤(A:Int):=by omega
   have i4:(0:Int)≤(a:Int):=by omega
   have hsz:=(V.row.lt blk rfl);have VD:=View.drew V;have rgA:wr.drew.rangeAt blk (A*9) (enc (p A)):=VD.range hAN;have rgB:wr.drew.rangeAt blk (a*9) (enc (p a)):=VD.range hBN;have hsA:(enc (p A)).length=9:=VD.lens A hAN;have hsB:(enc (p a)).length=9:=VD.lens a hBN;have rdA:=VD.each A hAN;have rdB:=VD.each a hBN;obtain ⟨cA,hcA⟩:∃ c,c=enc (p A):=⟨_,rfl⟩;obtain ⟨cB,hcB⟩:∃ c,c=enc (p a):=⟨_,rfl⟩;rw [← hcA] at rgA hsA;rw [← hcB] at rgB hsB;have CC0:=zcy _ _ _ _ hi hi wr.drew rdA rdB;rw [← hcA,← hcB] at CC0;obtain ⟨c,hc⟩:∃ c:Int,c=numC (x0 (p A)) (x0 (p a)):=⟨_,rfl⟩;rw [← hc] at CC0;have HCN:=hid hc
   have CC:Calls Tryz.prog 134 (#[.agg cA.toArray,.agg cB.toArray]++#[]) wr.drew fun e w'=>e=.returned (.int .i64 c)∧Below wr.drew.heap.size wr.drew w':=by rw [Array.append_empty];exact CC0
   have HVD:=hid VD;clear CC0 hc hcA hcB rdA rdB hA VD V HV
   go_upto_region 5 with fail
   try rw [e1]
   refine zay 9 (fun w'=>w'.rangeAt blk (A*9) cA∧w'.rangeAt blk (a*9) cB) zci ⟨rgA,rgB⟩ (fun hHeld=>?_);refine zn9 0 rfl ?_
   try simp only [Act.put,SL]
   refine zn9 1 rfl ?_
   try simp only [Act.put,SL]
   refine zn9 2 rfl ?_
   try simp only [Act.put,SL]
   refine zn9 3 rfl ?_
   try simp only [Act.put,SL]
   refine zaf (i:=4) (oi:=_) 16 rfl (by kernel_rfl) (fun _ _ _ h=>h) (yieldsIf_load_mid (by kernel_rfl) 85 (.tmp 43) rfl blk (A*9) (by simp [Act.eval,Act.put]) cA _ (fun w h=>h.1) Tryz.underlying85 rfl (zam hsA)) (by assumption) ?_
   try simp only [Act.put,SL]
   refine zn9 5 rfl ?_
   try simp only [Act.put,SL]
   refine zn9 6 rfl ?_
   try simp only [Act.put,SL]
   refine zn9 7 rfl ?_
   try simp only [Act.put,SL]
   refine zaf (i:=8) (oi:=_) 16 rfl (by kernel_rfl) (fun _ _ _ h=>h) (yieldsIf_load_mid (by kernel_rfl) 85 (.tmp 47) rfl blk (a*9) (by simp [Act.eval,Act.put]) cB _ (fun w h=>h.2) Tryz.underlying85 rfl (zam hsB)) (by assumption) ?_
   try simp only [Act.put,SL]
   refine zas (i:=9) (o:=_) rfl (by kernel_rfl) (by kernel_rfl) (fun KC hKC=>?_);refine zaQ (by kernel_rfl) (.tmp 40) 134 #[] _ _ rfl (by simp [Act.eval,Act.put]) #[.agg cA.toArray,.agg cB.toArray] (by simp [Act.eval,Act.put]) Tryz.func134 (by kernel_rfl) (by kernel_rfl) CC ?_;rintro ee w5 ⟨rfl,b5⟩;refine ⟨_,rfl,?_⟩;refine hKC _ _ ?_;clear hKC KC
   try simp only [Act.put,SL]
   refine znS 10 (v:=?_) rfl ?_ ?_
   rotate_left
   ·intro w' hSw;go_simp;try with_reducible rfl
   try simp only [Act.put,SL]
   refine zar (by kernel_rfl) ?_ _;have HV5:Hid (RowsV x0 enc N blk cap lo hi w5 p):=View.below HVD.out b5 (by show hi≤wr.heap.size;omega);have HC5:Hid (ChgL [blk] w w5):=HC.out.trans ((ChgL.of_below ⟨rfl,rfl,rfl,Nat.le_refl _,fun _ _=>rfl⟩:ChgL [blk] wr wr.drew).trans (ChgL.of_below b5));clear HVD HC rgA rgB hsA hsB b5 hHeld CC hsz;obtain ⟨dd,hdd⟩:∃ d:Bool,d=decide (c<0):=⟨_,rfl⟩;have HDD:=hid hdd
   try rw [← hdd]
   clear hdd
   cases dd
   ·go_wp2
    go_roundw
    case rel=>
     refine ⟨i,A,hmi,hAi,by omega,rfl,by go_num,HV5.out,HL.out,fun k k1 k2=>?_,HC5.out⟩
     have h2:¬ c<0:=by simpa using HDD.out
     rw [HCN.out] at h2;have h3:=zib (HT.out a A (Nat.le_refl _) (by have:=HM.out;omega) (by omega) (by omega)) h2
     by_cases ck:k=A
     ·rw [ck];exact h3
     ·exact (zbH x0).trans h3 (HS2.out A k (by omega) (by omega) k2)
    case measure=>simp [intOf];omega
   ·go_wp2
    go_roundw
    case rel=>
     refine ⟨A+1,j,by omega,by omega,by omega,by go_num,rfl,HV5.out,fun k k1 k2=>?_,HR.out,HC5.out⟩
     have h2:c<0:=by simpa using HDD.out
     rw [HCN.out] at h2;have h3:=zfH h2
     by_cases ck:k=A
     ·rw [ck];exact h3
     ·exact (zbH x0).trans (HS2.out k A k1 (by omega) (by omega)) h3
    case measure=>simp [intOf];omega
  ·obtain rfl:i=j:=by omega
   obtain ⟨e,he⟩:∃ e,i=e+1:=⟨i-1,by omega⟩;have HE:=hid he
   have w3:IntKind.i64.wrap ((i:Int)-1)=(e:Int):=by rw [IntKind.wrap_i64];omega
   clear V he hij;go_wp2
   go_loopw [13] (fun vk wr=>∃ k:Nat,a≤k∧k≤e∧vk=.int .i64 k∧RowsV x0 enc N blk cap lo hi wr (fun x=>p (Sym.rot a (a+1) (k+1) x))∧ChgL [blk] w wr) (fun vk _=>e-(intOf vk).toNat)
   case atStart=>exact ⟨a,Nat.le_refl _,by have h1:=HE.out;have h2:=HM.out;omega,by go_num,HV.out.same (fun x _=>by rw [zlP]),HC.out⟩
   case round=>
    obtain ⟨A,haA,hAe,rfl,V,C⟩:=hrel;have HCr:=hid C;clear C
    by_cases hlt:A<e
    ·have t2:(A:Int)<(e:Int):=by omega
     obtain ⟨q,hq⟩:∃ q:Nat→Nat,q=fun x=>p (Sym.rot a (a+1) (A+1) x):=⟨_,rfl⟩;have HQ:=hid hq
     have VQ:RowsV x0 enc N blk cap lo hi wr q:=by rw [hq];exact V
     obtain ⟨B,hB⟩:∃ B,B=A+1:=⟨_,rfl⟩;have HAB:=hid hB
     have hAN:A<N:=by have:=HE.out;omega
     have hBN:B<N:=by have:=HE.out;omega
     have w4:IntKind.i64.wrap ((A:Int)+1)=(B:Int):=by rw [IntKind.wrap_i64];omega
     have i1:(A:Int)<(N:Int):=by omega
     have i2:(B:Int)<(N:Int):=by omega
     have i3:(0:Int)≤(A:Int):=by omega
     have i4:(0:Int)≤(B:Int):=by omega
     have VD:=View.drew VQ;have rgA:wr.drew.rangeAt blk (A*9) (enc (q A)):=VD.range hAN;have rgB:wr.drew.rangeAt blk (B*9) (enc (q B)):=VD.range hBN;have hsA:(enc (q A)).length=9:=VD.lens A hAN;have hsB:(enc (q B)).length=9:=VD.lens B hBN
     have th1:wr.drew.there blk (A*9) (enc (q B)).length:=by rw [hsB];exact VD.there hAN
     have th2:(wr.drew.setCells blk (A*9) (enc (q B))).there blk (B*9) (enc (q A)).length:=by rw [hsA];exact (VD.put (by decide) hlo hAN (VD.each B hBN)).there hBN
     have oneA:=zaT _ _ _ _ (VD.each A hAN);have oneB:=zaT _ _ _ _ (VD.each B hBN);have SW:=zer VD hlo hAN hBN;have HSW:=hid SW.1;have HSC:Hid (ChgL [blk] wr ((wr.drew.setCells blk (A*9) (enc (q B))).setCells blk (B*9) (enc (q A)))):=(ChgL.of_below ⟨rfl,rfl,rfl,Nat.le_refl _,fun _ _=>rfl⟩:ChgL [blk] wr wr.drew).trans SW.2;obtain ⟨cA,hcA⟩:∃ c,c=enc (q A):=⟨_,rfl⟩;obtain ⟨cB,hcB⟩:∃ c,c=enc (q B):=⟨_,rfl⟩;rw [← hcA] at rgA th2 hsA oneA HSW HSC;rw [← hcB] at rgB th1 th2 hsB oneB HSW HSC;clear hcA hcB VD SW;clear hq hB V VQ
     go_upto_region 11 with fail
     refine zay 15 (fun w'=>w'.rangeAt blk (A*9) cA∧w'.rangeAt blk (B*9) cB) zci ⟨rgA,rgB⟩ (fun hHeld=>?_);refine zaa (i:=0) (oi:=_) (v:=?_) rfl (by kernel_rfl) (fun _ _ _ h=>h) (Or.inl ⟨by rfl,?_⟩) (by assumption) ?_
     rotate_left
     ·intro w' hSw;go_simp;try with_reducible rfl
     try simp only [Act.put,SL]
     refine zaa (i:=1) (oi:=_) (v:=?_) rfl (by kernel_rfl) (fun _ _ _ h=>h) (Or.inl ⟨by rfl,?_⟩) (by assumption) ?_
     rotate_left
     ·intro w' hSw;go_simp;try with_reducible rfl
     try simp only [Act.put,SL]
     refine zaa (i:=2) (oi:=_) (v:=?_) rfl (by kernel_rfl) (fun _ _ _ h=>h) (Or.inl ⟨by rfl,?_⟩) (by assumption) ?_
     rotate_left
     ·intro w' hSw;go_simp;try with_reducible rfl
     try simp only [Act.put,SL]
     refine zaa (i:=3) (oi:=_) (v:=?_) rfl (by kernel_rfl) (fun _ _ _ h=>h) (Or.inl ⟨by rfl,?_⟩) (by assumption) ?_
     rotate_left
     ·intro w' hSw;go_simp;try with_reducible rfl
     try simp only [Act.put,SL]
     refine zaa (i:=4) (oi:=_) (v:=?_) rfl (by kernel_rfl) (fun _ _ _ h=>h) (Or.inl ⟨by rfl,?_⟩) (by assumption) ?_
     rotate_left
     ·intro w' hSw;go_simp;try with_reducible rfl
     try simp only [Act.put,SL]
     refine zaa (i:=5) (oi:=_) (v:=?_) rfl (by kernel_rfl) (fun _ _ _ h=>h) (Or.inl ⟨by rfl,?_⟩) (by assumption) ?_
     rotate_left
     ·intro w' hSw;go_simp;try with_reducible rfl
     try simp only [Act.put,SL]
     refine zaa (i:=6) (oi:=_) (v:=?_) rfl (by kernel_rfl) (fun _ _ _ h=>h) (Or.inl ⟨by rfl,?_⟩) (by assumption) ?_
     rotate_left
     ·intro w' hSw;go_simp;try with_reducible rfl
     try simp only [Act.put,SL]
     refine zaa (i:=7) (oi:=_) (v:=?_) rfl (by kernel_rfl) (fun _ _ _ h=>h) (Or.inl ⟨by rfl,?_⟩) (by assumption) ?_
     rotate_left
     ·intro w' hSw;go_simp;try with_reducible rfl
     try simp only [Act.put,SL]
     refine zaa (i:=8) (oi:=_) (v:=?_) rfl (by kernel_rfl) (fun _ _ _ h=>h) (Or.inl ⟨by rfl,?_⟩) (by assumption) ?_
     rotate_left
     ·intro w' hSw;go_simp;try with_reducible rfl
     try simp only [Act.put,SL]
     refine zaf (i:=9) (oi:=_) 16 rfl (by kernel_rfl) (fun _ _ _ h=>h) (yieldsIf_load_mid (by rfl) 85 (.tmp 69) rfl blk (B*9) (by simp [Act.eval,Act.put]) cB _ (fun w h=>h.2) Tryz.underlying85 rfl (zam hsB)) (by assumption) ?_
     try simp only [Act.put,SL]
     refine zaa (i:=10) (oi:=_) (v:=?_) rfl (by kernel_rfl) (fun _ _ _ h=>h) (Or.inl ⟨by rfl,?_⟩) (by assumption) ?_
     rotate_left
     ·intro w' hSw;go_simp;try with_reducible rfl
     try simp only [Act.put,SL]
     refine zaa (i:=11) (oi:=_) (v:=?_) rfl (by kernel_rfl) (fun _ _ _ h=>h) (Or.inl ⟨by rfl,?_⟩) (by assumption) ?_
     rotate_left
     ·intro w' hSw;go_simp;try with_reducible rfl
     try simp only [Act.put,SL]
     refine zaa (i:=12) (oi:=_) (v:=?_) rfl (by kernel_rfl) (fun _ _ _ h=>h) (Or.inl ⟨by rfl,?_⟩) (by assumption) ?_
     rotate_left
     ·intro w' hSw;go_simp;try with_reducible rfl
     try simp only [Act.put,SL]
     refine zaf (i:=13) (oi:=_) 16 rfl (by kernel_rfl) (fun _ _ _ h=>h) (yieldsIf_load_mid (by rfl) 85 (.tmp 73) rfl blk (A*9) (by simp [Act.eval,Act.put]) cA _ (fun w h=>h.1) Tryz.underlying85 rfl (zam hsA)) (by assumption) ?_
     try simp only [Act.put,SL]
     refine zaa (i:=14) (oi:=_) (v:=?_) rfl (by kernel_rfl) (fun _ _ _ h=>h) (Or.inl ⟨by rfl,?_⟩) (by assumption) ?_
     rotate_left
     ·intro w' hSw;go_simp;try with_reducible rfl
     try simp only [Act.put,SL]
     refine zbw (i:=15) rfl (by kernel_rfl) (by kernel_rfl) rfl rfl 85 (.tmp 75) (.tmp 70) rfl blk (A*9) cB (by simp [Act.eval]) (by simp [Act.eval]) th1 (zam hsB) oneB ?_;refine zak (i:=16) (oi:=_) (v:=?_) rfl (by kernel_rfl) (fun _ _ _ h=>h) (Or.inl ⟨by rfl,?_⟩) ?_
     rotate_left
     ·intro w' hSw;go_simp;try with_reducible rfl
     try simp only [Act.put,SL]
     refine zbw (i:=17) rfl (by kernel_rfl) (by kernel_rfl) rfl rfl 85 (.tmp 76) (.tmp 74) rfl blk (B*9) cA (by simp [Act.eval]) (by simp [Act.eval]) th2 (zam hsA) oneA ?_;refine zar (by kernel_rfl) ?_ _;go_wp2
     go_roundw
     case rel=>
      have hAB:=HAB.out
      have e9:∀ x,q (Sym.swp A B x)=p (Sym.rot a (a+1) (B+1) x):=fun x=>by
       rw [HQ.out,hAB]
       show p (Sym.rot a (a+1) (A+1) (Sym.swp A (A+1) x))=_
       rw [zlO a A x haA]
      exact ⟨B,by omega,by omega,by go_num,HSW.out.same (fun x _=>e9 x),HCr.out.trans HSC.out⟩
     case measure=>have hAB:=HAB.out;simp [intOf];omega
    ·obtain rfl:A=e:=by omega
     have HVA:=hid V;clear V;go_wp2;refine bodyPost_ret (results_none rfl _ _ _) rfl ?_;have hm:=HM.out;have he:=HE.out;have h2:=HS2.out;rw [hm] at h2;have M:=zod (zbH x0) (p:=p) (a:=a) (b:=b) (i:=A+1) (by omega) (by omega) h2 (fun k h3 h4=>HL.out k (by omega) (by omega)) (fun k h3 h4=>HR.out k (by omega) h4);exact ⟨rfl,_,HVA.out,M.2,M.1,HCr.out⟩
end Go.Proofs.YthbpmbgfddpffaaGreat
