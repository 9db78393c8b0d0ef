/- Records in a row exchanged: swapRange. -/
import Derived.Test.YtmehgpcmoejfcaaGreatZPnextdaf
set_option linter.unusedVariables false
set_option linter.unusedSimpArgs false
set_option maxHeartbeats 16000000
namespace Go.Proofs.YtmehgpcmoejfcaaGreat
open Go.RowKit F256
theorem zbb:Tryz.prog.follows Departure.mixedOrders=true:=by kernel_rfl
theorem zae {cs:List Value} (h:cs.length=9):(Tryz.prog.info? 52).map (·.size)=some cs.length:=by rw [h];kernel_rfl
def RowsV (x0:Nat→RecD) (enc:Nat→List Value) (N blk cap lo hi:Nat) (w:World) (p:Nat→Nat):Prop:=View zab 52 w lo hi (.slice (some ⟨blk,0,none⟩) N cap) N (fun i=>x0 (p i)) (fun i=>enc (p i))
theorem RowsV.same {x0:Nat→RecD} {enc:Nat→List Value} {N blk cap lo hi:Nat} {w:World} {p q:Nat→Nat} (h:RowsV x0 enc N blk cap lo hi w p) (e:∀ i,i<N→p i=q i):RowsV x0 enc N blk cap lo hi w q:=View.congr2 h (fun i hi=>by rw [e i hi]) (fun i hi=>by rw [e i hi])
theorem zkN {β:Type} (f:Nat→β) (p:Nat→Nat) (A B i:Nat):upd (upd (fun k=>f (p k)) A (f (p B))) B (f (p A)) i=f (p (Sym.swp A B i)):=by
 unfold Sym.swp
 by_cases c1:i=B
 ·subst c1
  rw [zbh]
  by_cases c2:i=A
  ·subst c2;simp
  ·rw [if_neg c2,if_pos rfl]
 ·rw [zbI _ _ c1]
  by_cases c2:i=A
  ·subst c2;rw [zbh,if_pos rfl]
  ·rw [zbI _ _ c2,if_neg c2,if_neg c1]
theorem zcv {x0:Nat→RecD} {enc:Nat→List Value} {p:Nat→Nat} {w:World} {lo hi N blk cap A B:Nat} (V:RowsV x0 enc N blk cap lo hi w p) (hlo:hi≤lo) (hA:A<N) (hB:B<N) :
 RowsV x0 enc N blk cap lo hi ((w.setCells blk (A*9) (enc (p B))).setCells blk (B*9) (enc (p A))) (fun k=>p (Sym.swp A B k))∧ChgL [blk] w ((w.setCells blk (A*9) (enc (p B))).setCells blk (B*9) (enc (p A))):=by
 unfold RowsV at V ⊢;have hg:=V.row.lt blk rfl;have C1:=zbY blk (enc (p B)) w (A*9);have V1:=V.put (by decide) hlo hA (V.each B hB);have V2:=V1.put (by decide) hlo hB (zab.rd_below (V.each A hA) (C1.bel (B:=hi) (fun b hb=>by simp at hb;omega) (by omega)) (Nat.le_refl _));refine ⟨V2.congr2 (fun i _=>?_) (fun i _=>?_),C1.trans (zbY blk _ _ _)⟩
 ·exact zkN x0 p A B i
 ·exact zkN enc p A B i
set_option maxRecDepth 1000000 in
theorem zcZ (x0:Nat→RecD) (enc:Nat→List Value) (p:Nat→Nat) (N blk cap lo hi:Nat) (w:World) (V:RowsV x0 enc N blk cap lo hi w p) (hlo:hi≤lo) (hN:N<1000000000) (a b n:Nat) (fv:Value) (hab:a+n≤b) (hb:b+n≤N) :
 Calls Tryz.prog 169 #[.slice (some ⟨blk,0,none⟩) N cap,.int .i64 a,.int .i64 b,.int .i64 n,fv] w (fun e w'=>e=.returned (.tuple #[])∧RowsV x0 enc N blk cap lo hi w' (fun k=>p (Sym.swr a b n k))∧ChgL [blk] w w'):=by
 have HV0:=hid V;clear V
 go_enter Tryz.func169,Tryz.ntmps169
 go_wp2
 go_loopw [10] (fun i wr=>∃ t:Nat,t≤n∧i=.int .i64 t∧RowsV x0 enc N blk cap lo hi wr (fun k=>p (Sym.swr a b t k))∧ChgL [blk] w wr) (fun i _=>n-(intOf i).toNat)
 case atStart=>exact ⟨0,Nat.zero_le _,rfl,HV0.out.same (fun i _=>by rw [Sym.swr_zero]),ChgL.refl _ _⟩
 case round=>
  obtain ⟨t,ht,rfl,V,C⟩:=hrel;have HC:=hid C;clear C
  by_cases hlt:t<n
  ·have t1:(t:Int)<(n:Int):=by omega
   obtain ⟨q,hq⟩:∃ q:Nat→Nat,q=fun k=>p (Sym.swr a b t k):=⟨_,rfl⟩;have HQ:=hid hq
   have VQ:RowsV x0 enc N blk cap lo hi wr q:=by rw [hq];exact V
   obtain ⟨A,hA⟩:∃ A,A=a+t:=⟨_,rfl⟩;obtain ⟨B,hB⟩:∃ B,B=b+t:=⟨_,rfl⟩
   have hAN:A<N:=by omega
   have hBN:B<N:=by omega
   have HAB:Hid (A=a+t∧B=b+t):=⟨hA,hB⟩
   have w1:IntKind.i64.wrap ((a:Int)+(t:Int))=(A:Int):=by rw [IntKind.wrap_i64];omega
   have w2:IntKind.i64.wrap ((b:Int)+(t:Int))=(B:Int):=by rw [IntKind.wrap_i64];omega
   have i1:(A:Int)<(N:Int):=by omega
   have i2:(B:Int)<(N:Int):=by omega
   have i3:(0:Int)≤(A:Int):=by omega
   have i4:(0:Int)≤(B:Int):=by omega
   have VD:=View.drew VQ;have rgA:wr.drew.rangeAt blk (A*9) (enc (q A)):=VD.range hAN;have rgB:wr.drew.rangeAt blk (B*9) (enc (q B)):=VD.range hBN;have hsA:(enc (q A)).length=9:=VD.lens A hAN;have hsB:(enc (q B)).length=9:=VD.lens B hBN
   have th1:wr.drew.there blk (A*9) (enc (q B)).length:=by rw [hsB];exact VD.there hAN
   have th2:(wr.drew.setCells blk (A*9) (enc (q B))).there blk (B*9) (enc (q A)).length:=by rw [hsA];exact (VD.put (by decide) hlo hAN (VD.each B hBN)).there hBN
   have oneA:=zaA _ _ _ _ (VD.each A hAN);have oneB:=zaA _ _ _ _ (VD.each B hBN);have SW:=zcv VD hlo hAN hBN;have HSW:=hid SW.1;have HSC:Hid (ChgL [blk] wr ((wr.drew.setCells blk (A*9) (enc (q B))).setCells blk (B*9) (enc (q A)))):=(ChgL.of_below ⟨rfl,rfl,rfl,Nat.le_refl _,fun _ _=>rfl⟩:ChgL [blk] wr wr.drew).trans SW.2;obtain ⟨cA,hcA⟩:∃ c,c=enc (q A):=⟨_,rfl⟩;obtain ⟨cB,hcB⟩:∃ c,c=enc (q B):=⟨_,rfl⟩;rw [← hcA] at rgA th2 hsA oneA HSW HSC;rw [← hcB] at rgB th1 th2 hsB oneB HSW HSC;clear hcA hcB VD SW;clear hq hA hB V VQ
   go_upto_region 3 with fail
   refine zai 21 (fun w'=>w'.rangeAt blk (A*9) cA∧w'.rangeAt blk (B*9) cB) zbb ⟨rgA,rgB⟩ (fun hHeld=>?_);refine zaa (i:=0) (oi:=_) (v:=?_) rfl (by kernel_rfl) (fun _ _ _ h=>h) (Or.inl ⟨by rfl,?_⟩) (by assumption) ?_
   rotate_left
   ·intro w' hSw;go_simp;try with_reducible rfl
   try simp only [Act.put,SL]
   refine zaa (i:=1) (oi:=_) (v:=?_) rfl (by kernel_rfl) (fun _ _ _ h=>h) (Or.inl ⟨by rfl,?_⟩) (by assumption) ?_
   rotate_left
   ·intro w' hSw;go_simp;try with_reducible rfl
   try simp only [Act.put,SL]
   refine zaa (i:=2) (oi:=_) (v:=?_) rfl (by kernel_rfl) (fun _ _ _ h=>h) (Or.inl ⟨by rfl,?_⟩) (by assumption) ?_
   rotate_left
   ·intro w' hSw;go_simp;try with_reducible rfl
   try simp only [Act.put,SL]
   refine zaa (i:=3) (oi:=_) (v:=?_) rfl (by kernel_rfl) (fun _ _ _ h=>h) (Or.inl ⟨by rfl,?_⟩) (by assumption) ?_
   rotate_left
   ·intro w' hSw;go_simp;try with_reducible rfl
   try simp only [Act.put,SL]
   refine zaa (i:=4) (oi:=_) (v:=?_) rfl (by kernel_rfl) (fun _ _ _ h=>h) (Or.inl ⟨by rfl,?_⟩) (by assumption) ?_
   rotate_left
   ·intro w' hSw;go_simp;try with_reducible rfl
   try simp only [Act.put,SL]
   refine zaa (i:=5) (oi:=_) (v:=?_) rfl (by kernel_rfl) (fun _ _ _ h=>h) (Or.inl ⟨by rfl,?_⟩) (by assumption) ?_
   rotate_left
   ·intro w' hSw;go_simp;try with_reducible rfl
   try simp only [Act.put,SL]
   refine zaa (i:=6) (oi:=_) (v:=?_) rfl (by kernel_rfl) (fun _ _ _ h=>h) (Or.inl ⟨by rfl,?_⟩) (by assumption) ?_
   rotate_left
   ·intro w' hSw;go_simp;try with_reducible rfl
   try simp only [Act.put,SL]
   refine zaa (i:=7) (oi:=_) (v:=?_) rfl (by kernel_rfl) (fun _ _ _ h=>h) (Or.inl ⟨by rfl,?_⟩) (by assumption) ?_
   rotate_left
   ·intro w' hSw;go_simp;try with_reducible rfl
   try simp only [Act.put,SL]
   refine zaa (i:=8) (oi:=_) (v:=?_) rfl (by kernel_rfl) (fun _ _ _ h=>h) (Or.inl ⟨by rfl,?_⟩) (by assumption) ?_
   rotate_left
   ·intro w' hSw;go_simp;try with_reducible rfl
   try simp only [Act.put,SL]
   refine zaa (i:=9) (oi:=_) (v:=?_) rfl (by kernel_rfl) (fun _ _ _ h=>h) (Or.inl ⟨by rfl,?_⟩) (by assumption) ?_
   rotate_left
   ·intro w' hSw;go_simp;try with_reducible rfl
   try simp only [Act.put,SL]
   refine zaa (i:=10) (oi:=_) (v:=?_) rfl (by kernel_rfl) (fun _ _ _ h=>h) (Or.inl ⟨by rfl,?_⟩) (by assumption) ?_
   rotate_left
   ·intro w' hSw;go_simp;try with_reducible rfl
   try simp only [Act.put,SL]
   refine zaa (i:=11) (oi:=_) (v:=?_) rfl (by kernel_rfl) (fun _ _ _ h=>h) (Or.inl ⟨by rfl,?_⟩) (by assumption) ?_
   rotate_left
   ·intro w' hSw;go_simp;try with_reducible rfl
   try simp only [Act.put,SL]
   refine zaa (i:=12) (oi:=_) (v:=?_) rfl (by kernel_rfl) (fun _ _ _ h=>h) (Or.inl ⟨by rfl,?_⟩) (by assumption) ?_
   rotate_left
   ·intro w' hSw;go_simp;try with_reducible rfl
   try simp only [Act.put,SL]
   refine zac (i:=13) (oi:=_) 16 rfl (by kernel_rfl) (fun _ _ _ h=>h) (yieldsIf_load_mid (by rfl) 52 (.tmp 28) rfl blk (B*9) (by simp [Act.eval,Act.put]) cB _ (fun w h=>h.2) Tryz.underlying52 rfl (zae hsB)) (by assumption) ?_
   try simp only [Act.put,SL]
   refine zaa (i:=14) (oi:=_) (v:=?_) rfl (by kernel_rfl) (fun _ _ _ h=>h) (Or.inl ⟨by rfl,?_⟩) (by assumption) ?_
   rotate_left
   ·intro w' hSw;go_simp;try with_reducible rfl
   try simp only [Act.put,SL]
   refine zaa (i:=15) (oi:=_) (v:=?_) rfl (by kernel_rfl) (fun _ _ _ h=>h) (Or.inl ⟨by rfl,?_⟩) (by assumption) ?_
   rotate_left
   ·intro w' hSw;go_simp;try with_reducible rfl
   try simp only [Act.put,SL]
   refine zaa (i:=16) (oi:=_) (v:=?_) rfl (by kernel_rfl) (fun _ _ _ h=>h) (Or.inl ⟨by rfl,?_⟩) (by assumption) ?_
   rotate_left
   ·intro w' hSw;go_simp;try with_reducible rfl
   try simp only [Act.put,SL]
   refine zaa (i:=17) (oi:=_) (v:=?_) rfl (by kernel_rfl) (fun _ _ _ h=>h) (Or.inl ⟨by rfl,?_⟩) (by assumption) ?_
   rotate_left
   ·intro w' hSw;go_simp;try with_reducible rfl
   try simp only [Act.put,SL]
   refine zaa (i:=18) (oi:=_) (v:=?_) rfl (by kernel_rfl) (fun _ _ _ h=>h) (Or.inl ⟨by rfl,?_⟩) (by assumption) ?_
   rotate_left
   ·intro w' hSw;go_simp;try with_reducible rfl
   try simp only [Act.put,SL]
   refine zac (i:=19) (oi:=_) 16 rfl (by kernel_rfl) (fun _ _ _ h=>h) (yieldsIf_load_mid (by rfl) 52 (.tmp 34) rfl blk (A*9) (by simp [Act.eval,Act.put]) cA _ (fun w h=>h.1) Tryz.underlying52 rfl (zae hsA)) (by assumption) ?_
   try simp only [Act.put,SL]
   refine zaa (i:=20) (oi:=_) (v:=?_) rfl (by kernel_rfl) (fun _ _ _ h=>h) (Or.inl ⟨by rfl,?_⟩) (by assumption) ?_
   rotate_left
   ·intro w' hSw;go_simp;try with_reducible rfl
   try simp only [Act.put,SL]
   refine zaR (i:=21) rfl (by kernel_rfl) (by kernel_rfl) rfl rfl 52 (.tmp 36) (.tmp 29) rfl blk (A*9) cB (by simp [Act.eval]) (by simp [Act.eval]) th1 (zae hsB) oneB ?_;refine zad (i:=22) (oi:=_) (v:=?_) rfl (by kernel_rfl) (fun _ _ _ h=>h) (Or.inl ⟨by rfl,?_⟩) ?_
   rotate_left
   ·intro w' hSw;go_simp;try with_reducible rfl
   try simp only [Act.put,SL]
   refine zaR (i:=23) rfl (by kernel_rfl) (by kernel_rfl) rfl rfl 52 (.tmp 37) (.tmp 35) rfl blk (B*9) cA (by simp [Act.eval]) (by simp [Act.eval]) th2 (zae hsA) oneA ?_;refine zaf (by kernel_rfl) ?_ _;go_wp2
   go_roundw
   case rel=>
    have e:∀ i,q (Sym.swp A B i)=p (Sym.swr a b (t+1) i):=fun i=>by
     rw [HQ.out,HAB.out.1,HAB.out.2]
     show p (Sym.swr a b t (Sym.swp (a+t) (b+t) i))=_
     rw [Sym.swr_succ (by omega)]
    exact ⟨t+1,by omega,by go_num,HSW.out.same (fun i _=>e i),HC.out.trans HSC.out⟩
   case measure=>simp [intOf];omega
  ·obtain rfl:t=n:=by omega
   have HV:=hid V;clear V;go_wp2
   go_end0
   exact ⟨rfl,HV.out,HC.out⟩
set_option maxRecDepth 1000000 in
theorem zfP (x0:Nat→RecD) (enc:Nat→List Value) (p:Nat→Nat) (N blk cap lo hi:Nat) (w:World) (V:RowsV x0 enc N blk cap lo hi w p) (hlo:hi≤lo) (hN:N<1000000000) (a m b:Nat) (fv:Value) (ham:a<m) (hmb:m<b) (hb:b≤N) :
 Calls Tryz.prog 163 #[.slice (some ⟨blk,0,none⟩) N cap,.int .i64 a,.int .i64 m,.int .i64 b,fv] w (fun e w'=>e=.returned (.tuple #[])∧RowsV x0 enc N blk cap lo hi w' (fun k=>p (Sym.rot a m b k))∧ChgL [blk] w w'):=by
 have HV0:=hid V;clear V
 go_enter Tryz.func163,Tryz.ntmps163
 go_wp2
 go_loopw [10,11] (fun vi vj wr=>∃ (i j:Nat) (q:Nat→Nat),0<i∧0<j∧i≤m-a∧j≤b-m∧vi=.int .i64 i∧vj=.int .i64 j∧(∀ k,q (Sym.rot (m-i) m (m+j) k)=p (Sym.rot a m b k))∧RowsV x0 enc N blk cap lo hi wr q∧ChgL [blk] w wr) (fun vi vj _=>(intOf vi).toNat+(intOf vj).toNat)
 case atStart=>exact ⟨m-a,b-m,p,by omega,by omega,by omega,by omega,by go_num,by go_num,fun k=>by rw [show m-(m-a)=a by omega,show m+(b-m)=b by omega],HV0.out,ChgL.refl _ _⟩
 case round=>
  obtain ⟨i,j,q,hi0,hj0,him,hjb,rfl,rfl,hq,V,C⟩:=hrel;have HC:=hid C;have HQ:=hid hq;clear C hq
  have w1:IntKind.i64.wrap ((m:Int)-(i:Int))=((m-i:Nat):Int):=by rw [IntKind.wrap_i64];omega
  obtain ⟨M,hM⟩:∃ M,M=m-i:=⟨_,rfl⟩;have HM:=hid hM;rw [← hM] at w1
  by_cases hij:i=j
  ·subst hij
   have hne:((i:Int) != (i:Int))=false:=by simp
   have CS:=zcZ x0 enc q N blk cap lo hi wr V hlo hN M m i fv (by omega) (by omega);clear V hM
   go_wp2_with fail
   refine CS.mono ?_;rintro e w2 ⟨rfl,V2,C2⟩;go_wp2
   go_end0
   refine ⟨rfl,V2.same (fun k _=>?_),HC.out.trans C2⟩
   show q (Sym.swr M m i k)=p (Sym.rot a m b k)
   rw [← HQ.out,HM.out,Sym.rot_same (by omega)]
  ·have hne:((i:Int) != (j:Int))=true:=by simp;omega
   by_cases hlt:j<i
   ·have hgt:(j:Int)<(i:Int):=by omega
    have w3:IntKind.i64.wrap ((i:Int)-(j:Int))=((i-j:Nat):Int):=by rw [IntKind.wrap_i64];omega
    have CS:=zcZ x0 enc q N blk cap lo hi wr V hlo hN M m j fv (by omega) (by omega);clear V hM
    go_wp2_with fail
    refine CS.mono ?_;rintro e w2 ⟨rfl,V2,C2⟩;have HV2:=hid V2;clear V2 CS;go_wp2
    go_roundw
    case rel=>exact ⟨i-j,j,fun k=>q (Sym.swr M m j k),by omega,by omega,by omega,by omega,by go_num,by go_num,fun k=>by
     show q (Sym.swr M m j (Sym.rot (m-(i-j)) m (m+j) k))=_
     rw [HM.out,Sym.rot_more (by omega) (by omega),HQ.out],HV2.out,HC.out.trans C2⟩
    case measure=>simp [intOf];omega
   ·have hgt:decide ((j:Int)<(i:Int))=false:=decide_eq_false (by omega)
    have w3:IntKind.i64.wrap ((j:Int)-(i:Int))=((j-i:Nat):Int):=by rw [IntKind.wrap_i64];omega
    have w4:IntKind.i64.wrap ((m:Int)+(j:Int))=((m+j:Nat):Int):=by rw [IntKind.wrap_i64];omega
    have w5:IntKind.i64.wrap (((m+j:Nat):Int)-(i:Int))=((m+j-i:Nat):Int):=by rw [IntKind.wrap_i64];omega
    have CS:=zcZ x0 enc q N blk cap lo hi wr V hlo hN M (m+j-i) i fv (by omega) (by omega);obtain ⟨MJ,hMJ⟩:∃ x,x=m+j:=⟨_,rfl⟩;obtain ⟨MI,hMI⟩:∃ x,x=m+j-i:=⟨_,rfl⟩;have HMI:=hid hMI;rw [← hMI] at CS w5;rw [← hMJ] at w4 w5;clear V hM hMI hMJ
    go_wp2_with fail
    refine CS.mono ?_;rintro e w2 ⟨rfl,V2,C2⟩;have HV2:=hid V2;clear V2 CS;go_wp2
    go_roundw
    case rel=>exact ⟨i,j-i,fun k=>q (Sym.swr M MI i k),by omega,by omega,by omega,by omega,by go_num,by go_num,fun k=>by
     show q (Sym.swr M MI i (Sym.rot (m-i) m (m+(j-i)) k))=_
     rw [HM.out,HMI.out,Sym.rot_less (by omega) (by omega),HQ.out],HV2.out,HC.out.trans C2⟩
    case measure=>simp [intOf];omega
end Go.Proofs.YtmehgpcmoejfcaaGreat
namespace Go.Proofs.YtmehgpcmoejfcaaGreat
open Go.RowKit
theorem zaH {ops:Array Oper} {o:Oper} {a:Act} {w:World} {K:Act→World→Prop} {Q:Exit→Act→World→Prop} {E:Prop}
 (hw:Region.wanted o (yielded ops a.tmps)=true) (x:Operand) (n:Nat) (caps:Array Value) (args:Array Operand) (ty:Array TypeId) (hop:o.op=Op.call { callee:=Callee.value x,args:=args,argTypes:=ty }) (hx:a.eval x=.func (.func n) #[] caps) (vals:Array Value) (hv:args.map a.eval=vals)
 {fn : Func} (hfn : Tryz.prog.funcs[n]? = some fn) (hnm : (fn.name == "runtime.NumGoroutine") = false) (hbd : fn.body.isSome = true)
 {R:Ending→World→Prop} (hc:Calls Tryz.prog n (vals++caps) w R) (hK:∀ e w',R e w'→∃ v,e=.returned v∧K (a.put o.dst v) w') :
 if Region.wanted o (yielded ops a.tmps)=true then Oper.wp Tryz.prog o a w K Q else E:=by
 have hn' : ¬ fn.name = "runtime.NumGoroutine" := by simpa using hnm
 have hb':¬ fn.body=none:=by intro h;rw [h] at hbd;cases hbd
 rw [if_pos hw];unfold Oper.wp
 simp [execOp,hop,hx,resolve,invoke,Result.andThen,Deferred.ofValue,callFunc,Oper.upon,hv,hfn,hn',hb']
 refine hc.mono fun e w' h=>?_;obtain ⟨v,rfl,hk⟩:=hK e w' h;exact hk
end Go.Proofs.YtmehgpcmoejfcaaGreat
namespace Go.Proofs.YtmehgpcmoejfcaaGreat
open Go.RowKit F256
def cmpI (a b:Int):Int:=if a<b then -1 else if b<a then 1 else 0
def numC (r s:RecD):Int:=if cmpI r.seq s.seq≠0 then cmpI r.seq s.seq else if cmpI r.kind s.kind≠0 then cmpI r.kind s.kind else cmpI r.group s.group
theorem ziU (a:Int) (w:World):Calls Tryz.prog 133 #[.int .i64 a] w fun e w'=>e=.returned (.bool false)∧w'=w:=by
 have h:(a != a)=false:=by simp
 go_enter Tryz.func133,Tryz.ntmps133
 go_wp2;go_ret;exact ⟨rfl,rfl⟩
theorem zdC (a b:Int) (w:World):Calls Tryz.prog 106 #[.int .i64 a,.int .i64 b] w fun e w'=>e=.returned (.int .i64 (cmpI a b))∧w'=w:=by
 have C1:=ziU a w;have C2:=ziU b w
 by_cases h1:a<b
 ·rw [show cmpI a b=-1 by unfold cmpI;rw [if_pos h1]]
  go_enter Tryz.func106,Tryz.ntmps106
  go_wp2_with fail
  refine C1.mono ?_;rintro e w1 ⟨rfl,e1⟩;obtain rfl:=e1.symm
  go_wp2_with fail
  refine C2.mono ?_;rintro e w1 ⟨rfl,e1⟩;obtain rfl:=e1.symm;clear C1 C2;go_wp2;go_ret;exact ⟨rfl,rfl⟩
 by_cases h2:b<a
 ·rw [show cmpI a b=1 by unfold cmpI;rw [if_neg h1,if_pos h2]]
  have h1:decide (a<b)=false:=decide_eq_false h1
  go_enter Tryz.func106,Tryz.ntmps106
  go_wp2_with fail
  refine C1.mono ?_;rintro e w1 ⟨rfl,e1⟩;obtain rfl:=e1.symm
  go_wp2_with fail
  refine C2.mono ?_;rintro e w1 ⟨rfl,e1⟩;obtain rfl:=e1.symm;clear C1 C2;go_wp2;go_ret;exact ⟨rfl,rfl⟩
 ·rw [show cmpI a b=0 by unfold cmpI;rw [if_neg h1,if_neg h2]]
  have h1:decide (a<b)=false:=decide_eq_false h1;have h2:decide (b<a)=false:=decide_eq_false h2
  go_enter Tryz.func106,Tryz.ntmps106
  go_wp2_with fail
  refine C1.mono ?_;rintro e w1 ⟨rfl,e1⟩;obtain rfl:=e1.symm
  go_wp2_with fail
  refine C2.mono ?_;rintro e w1 ⟨rfl,e1⟩;obtain rfl:=e1.symm;clear C1 C2;go_wp2;go_ret;exact ⟨rfl,rfl⟩
def or3 (a b c:Int):Int:=if a≠0 then a else if b≠0 then b else c
theorem or_is (a b c:Int) (g cap:Nat) (w:World) (h0:w.cell? ⟨g,0,none⟩=some (.int .i64 a)) (h1:w.cell? ⟨g,1,none⟩=some (.int .i64 b)) (h2:w.cell? ⟨g,2,none⟩=some (.int .i64 c)) :
 Calls Tryz.prog 156 #[.slice (some ⟨g,0,none⟩) 3 cap] w fun e w'=>e=.returned (.int .i64 (or3 a b c))∧w'=w:=by
 by_cases ha:a≠0
 ·rw [show or3 a b c=a by unfold or3;rw [if_pos ha]]
  have:(a != 0)=true:=by simpa using ha
  go_enter Tryz.func156,Tryz.ntmps156
  go_wp2
  go_loopw [8] (fun i wr=>wr=w∧(i=.int .i64 0)) (fun i _=>3-(intOf i).toNat)
  case atStart=>simp
  case round=>
   obtain ⟨e,hrel⟩:=hrel;obtain rfl:=e.symm;subst hrel;go_wp2;go_ret;exact ⟨rfl,rfl⟩
 obtain rfl:a=0:=by omega
 by_cases hb:b≠0
 ·rw [show or3 0 b c=b by unfold or3;rw [if_neg (by simp),if_pos hb]]
  have:(b != 0)=true:=by simpa using hb
  go_enter Tryz.func156,Tryz.ntmps156
  go_wp2
  go_loopw [8] (fun i wr=>wr=w∧(i=.int .i64 0∨i=.int .i64 1)) (fun i _=>3-(intOf i).toNat)
  case atStart=>simp
  case round=>
   obtain ⟨e,hrel⟩:=hrel;obtain rfl:=e.symm
   rcases hrel with rfl | rfl
   ·go_wp2
    go_roundw
    case rel=>simp
    case measure=>simp [intOf]
   ·go_wp2
    go_ret;exact ⟨rfl,rfl⟩
 obtain rfl:b=0:=by omega
 rw [show or3 0 0 c=c by unfold or3;rw [if_neg (by simp),if_neg (by simp)]]
 by_cases hc:c≠0
 ·have:(c != 0)=true:=by simpa using hc
  go_enter Tryz.func156,Tryz.ntmps156
  go_wp2
  go_loopw [8] (fun i wr=>wr=w∧(i=.int .i64 0∨i=.int .i64 1∨i=.int .i64 2)) (fun i _=>3-(intOf i).toNat)
  case atStart=>simp
  case round=>
   obtain ⟨e,hrel⟩:=hrel;obtain rfl:=e.symm
   rcases hrel with rfl | rfl | rfl
   ·go_wp2
    go_roundw
    case rel=>simp
    case measure=>simp [intOf]
   ·go_wp2
    go_roundw
    case rel=>simp
    case measure=>simp [intOf]
   ·go_wp2
    go_ret;exact ⟨rfl,rfl⟩
 ·obtain rfl:c=0:=by omega
  go_enter Tryz.func156,Tryz.ntmps156
  go_wp2
  go_loopw [8] (fun i wr=>wr=w∧(i=.int .i64 0∨i=.int .i64 1∨i=.int .i64 2∨i=.int .i64 3)) (fun i _=>3-(intOf i).toNat)
  case atStart=>simp
  case round=>
   obtain ⟨e,hrel⟩:=hrel;obtain rfl:=e.symm
   rcases hrel with rfl | rfl | rfl | rfl
   ·go_wp2
    go_roundw
    case rel=>simp
    case measure=>simp [intOf]
   ·go_wp2
    go_roundw
    case rel=>simp
    case measure=>simp [intOf]
   ·go_wp2
    go_roundw
    case rel=>simp
    case measure=>simp [intOf]
   ·go_wp2
    go_ret;exact ⟨rfl,rfl⟩
set_option maxRecDepth 100000 in
theorem zcf (r s:RecD) (cr cs:List Value) (hi hj:Nat) (w:World) (hr:zab.rd w hi r cr) (hs:zab.rd w hj s cs) :
 Calls Tryz.prog 148 #[.agg cr.toArray,.agg cs.toArray] w fun e w'=>e=.returned (.int .i64 (numC r s))∧Below w.heap.size w w':=by
 obtain ⟨a6,ak6,a7,ak7,a8,ak8,rfl,-⟩:=zaF hr;obtain ⟨b6,bk6,b7,bk7,b8,bk8,rfl,-⟩:=zaF hs;have T0:=zaN w (rwR r a6 ak6 a7 ak7 a8 ak8).toArray (rwR s b6 bk6 b7 bk7 b8 bk8).toArray 52 52
 go_enter Tryz.func148,Tryz.ntmps148
 go_upto_region 1 with fail
 obtain ⟨W,hW⟩:∃ x,x=(w.alloc (.cells (rwR r a6 ak6 a7 ak7 a8 ak8).toArray 52)).alloc (.cells (rwR s b6 bk6 b7 bk7 b8 bk8).toArray 52):=⟨_,rfl⟩;rw [← hW] at T0 ⊢;clear hW hr hs;have HB:=hid T0.bel;have zW:w.heap.size+1<W.heap.size:=T0.b2.lt;have SW:∀ w',Below W.heap.size W w'→(w'.cell? ⟨w.heap.size,1,none⟩=some (.int .i64 r.seq)∧w'.cell? ⟨w.heap.size,0,none⟩=some (.int .i64 r.kind)∧w'.cell? ⟨w.heap.size,4,none⟩=some (.int .i64 r.group)∧w'.cell? ⟨(w.heap.size+1),1,none⟩=some (.int .i64 s.seq)∧w'.cell? ⟨(w.heap.size+1),0,none⟩=some (.int .i64 s.kind)∧w'.cell? ⟨(w.heap.size+1),4,none⟩=some (.int .i64 s.group)):=fun w' hb=>⟨(hb.cell (p:=⟨w.heap.size,1,none⟩) (by show w.heap.size<_;omega)).trans (T0.b1.cell 1),(hb.cell (p:=⟨w.heap.size,0,none⟩) (by show w.heap.size<_;omega)).trans (T0.b1.cell 0),(hb.cell (p:=⟨w.heap.size,4,none⟩) (by show w.heap.size<_;omega)).trans (T0.b1.cell 4),(hb.cell (p:=⟨w.heap.size+1,1,none⟩) (by show w.heap.size+1<_;omega)).trans (T0.b2.cell 1),(hb.cell (p:=⟨w.heap.size+1,0,none⟩) (by show w.heap.size+1<_;omega)).trans (T0.b2.cell 0),(hb.cell (p:=⟨w.heap.size+1,4,none⟩) (by show w.heap.size+1<_;omega)).trans (T0.b2.cell 4)⟩;have bA:Below W.heap.size W (W.drew.alloc (.cells #[.int .i64 (cmpI r.seq s.seq),.int .i64 (cmpI r.kind s.kind),.int .i64 (cmpI r.group s.group)] 3)):=((⟨rfl,rfl,rfl,Nat.le_refl _,fun _ _=>rfl⟩:Below W.heap.size W W.drew)).alloc (Nat.le_refl _) _;have CC0:=zdC r.seq s.seq W.drew;have CC1:=zdC r.kind s.kind W.drew;have CC2:=zdC r.group s.group W.drew;have XA:Box (W.drew.alloc (.cells #[.int .i64 (cmpI r.seq s.seq),.int .i64 (cmpI r.kind s.kind),.int .i64 (cmpI r.group s.group)] 3)) W.heap.size #[.int .i64 (cmpI r.seq s.seq),.int .i64 (cmpI r.kind s.kind),.int .i64 (cmpI r.group s.group)] 3:=zan W.drew _ _;have CO:=or_is (cmpI r.seq s.seq) (cmpI r.kind s.kind) (cmpI r.group s.group) W.heap.size 3 (W.drew.alloc (.cells #[.int .i64 (cmpI r.seq s.seq),.int .i64 (cmpI r.kind s.kind),.int .i64 (cmpI r.group s.group)] 3)) (XA.cell 0) (XA.cell 1) (XA.cell 2);clear T0;refine zfb 17 (fun w'=>w'.cell? ⟨w.heap.size,1,none⟩=some (.int .i64 r.seq)∧w'.cell? ⟨w.heap.size,0,none⟩=some (.int .i64 r.kind)∧w'.cell? ⟨w.heap.size,4,none⟩=some (.int .i64 r.group)∧w'.cell? ⟨(w.heap.size+1),1,none⟩=some (.int .i64 s.seq)∧w'.cell? ⟨(w.heap.size+1),0,none⟩=some (.int .i64 s.kind)∧w'.cell? ⟨(w.heap.size+1),4,none⟩=some (.int .i64 s.group)) (by kernel_rfl) (SW _ ⟨rfl,rfl,rfl,Nat.le_refl _,fun _ _=>rfl⟩) (fun hHeld=>?_)
 refine zmP 0 rfl ?_
 try simp only [Act.put,SL]
 refine zmP 1 rfl ?_
 try simp only [Act.put,SL]
 refine zmP 2 rfl ?_
 try simp only [Act.put,SL]
 refine zmP 3 rfl ?_
 try simp only [Act.put,SL]
 refine zmP 5 rfl ?_
 try simp only [Act.put,SL]
 refine zmP 6 rfl ?_
 try simp only [Act.put,SL]
 refine zmP 7 rfl ?_
 try simp only [Act.put,SL]
 refine zmP 8 rfl ?_
 try simp only [Act.put,SL]
 refine zmP 10 rfl ?_
 try simp only [Act.put,SL]
 refine zmP 11 rfl ?_
 try simp only [Act.put,SL]
 refine zmP 12 rfl ?_
 try simp only [Act.put,SL]
 refine zmP 13 rfl ?_
 try simp only [Act.put,SL]
 refine zb3 (i:=4) (o:=_) rfl (by kernel_rfl) (fun KC hKC=>?_)
 refine zcN rfl 106 _ _ rfl #[.int .i64 r.seq,.int .i64 s.seq] ?_ Tryz.func106 (by kernel_rfl) (by kernel_rfl) CC0 ?_;(simp [Act.eval,Act.put]);rintro ee w5 ⟨rfl,e5⟩;subst e5;refine ⟨_,rfl,?_⟩
 refine hKC.out _ _ (hHeld) (fun hHeld=>?_);clear hKC KC
 try simp only [Act.put,SL]
 refine zb3 (i:=9) (o:=_) rfl (by kernel_rfl) (fun KC hKC=>?_)
 refine zcN rfl 106 _ _ rfl #[.int .i64 r.kind,.int .i64 s.kind] ?_ Tryz.func106 (by kernel_rfl) (by kernel_rfl) CC1 ?_;(simp [Act.eval,Act.put]);rintro ee w5 ⟨rfl,e5⟩;subst e5;refine ⟨_,rfl,?_⟩
 refine hKC.out _ _ (hHeld) (fun hHeld=>?_);clear hKC KC
 try simp only [Act.put,SL]
 refine zb3 (i:=14) (o:=_) rfl (by kernel_rfl) (fun KC hKC=>?_)
 refine zcN rfl 106 _ _ rfl #[.int .i64 r.group,.int .i64 s.group] ?_ Tryz.func106 (by kernel_rfl) (by kernel_rfl) CC2 ?_;(simp [Act.eval,Act.put]);rintro ee w5 ⟨rfl,e5⟩;subst e5;refine ⟨_,rfl,?_⟩
 refine hKC.out _ _ (hHeld) (fun hHeld=>?_);clear hKC KC
 try simp only [Act.put,SL]
 refine zb3 (i:=15) (o:=_) rfl (by kernel_rfl) (fun KC hKC=>?_);go_simp;refine hKC.out _ _ (SW _ bA) (fun hHeld=>?_);clear hKC KC
 try simp only [Act.put,SL]
 refine zb3 (i:=16) (o:=_) rfl (by kernel_rfl) (fun KC hKC=>?_)
 refine zcN rfl 156 _ _ rfl #[.slice (some ⟨W.heap.size,0,none⟩) 3 3] ?_ Tryz.func156 (by kernel_rfl) (by kernel_rfl) CO ?_;(simp [Act.eval,Act.put]);rintro ee w5 ⟨rfl,e5⟩;subst e5;refine ⟨_,rfl,?_⟩
 refine hKC.out _ _ (SW _ bA) (fun hHeld=>?_);clear hKC KC
 try simp only [Act.put,SL]
 refine ze9 (o:=_) rfl (by kernel_rfl) (fun KC hKC=>?_);go_simp;refine hKC.out _ _ ?_;clear hKC KC
 try simp only [Act.put,SL]
 refine zfa (by kernel_rfl) ?_ _;go_wp2;go_ret;exact ⟨rfl,HB.out.trans (bA.mono (by omega))⟩
def numL (x0:Nat→RecD) (i j:Nat):Prop:=numC (x0 i) (x0 j)<0∨(numC (x0 i) (x0 j)=0∧i<j)
theorem zf9 {a b:Int}:cmpI a b<0↔a<b:=by unfold cmpI;split<;>(try split)<;>omega
theorem zen {a b:Int}:cmpI a b=0↔a=b:=by unfold cmpI;split<;>(try split)<;>omega
theorem zdP {r s:RecD}:numC r s<0↔r.seq<s.seq∨(r.seq=s.seq∧(r.kind<s.kind∨(r.kind=s.kind∧r.group<s.group))):=by
 unfold numC;have h1:=@zf9 r.seq s.seq;have h2:=@zen r.seq s.seq;have h3:=@zf9 r.kind s.kind;have h4:=@zen r.kind s.kind;have h5:=@zf9 r.group s.group
 split
 ·omega
 ·split<;>omega
theorem zdl {r s:RecD}:numC r s=0↔r.seq=s.seq∧r.kind=s.kind∧r.group=s.group:=by
 unfold numC;have h2:=@zen r.seq s.seq;have h4:=@zen r.kind s.kind;have h5:=@zen r.group s.group
 split
 ·omega
 ·split<;>omega
theorem zbA (x0:Nat→RecD):Sym.Ord (numL x0) where
 trans:=fun {i j k} h1 h2=>by
  unfold numL at *
  rw [zdP,zdl] at *
  omega
 irr:=fun i h=>by
  unfold numL at h;rw [zdP] at h;omega
theorem zfc {x0:Nat→RecD} {i j:Nat} (h:numC (x0 j) (x0 i)<0):numL x0 j i:=.inl h
theorem zhe {x0:Nat→RecD} {i j:Nat} (hij:i<j) (h:¬ numC (x0 j) (x0 i)<0):numL x0 i j:=by
 unfold numL;rw [zdP] at h ⊢;rw [zdl];omega
structure Ins (lt:Nat→Nat→Prop) (q:Nat→Nat) (a i j e:Nat):Prop where
 at_:q j=e
 rest:∀ k1 k2,a≤k1→k1<k2→k2≤i→k1≠j→k2≠j→lt (q k1) (q k2)
 behind:∀ k,j<k→k≤i→lt e (q k)
theorem Ins.start {lt:Nat→Nat→Prop} {q:Nat→Nat} {a i:Nat} (h:Sym.Srt lt q a i):Ins lt q a i i (q i):=⟨rfl,fun k1 k2 h1 h2 h3 h4 h5=>h k1 k2 h1 h2 (by omega),fun k h1 h2=>by omega⟩
theorem Ins.stop {lt:Nat→Nat→Prop} {q:Nat→Nat} {a i j e:Nat} (O:Sym.Ord lt) (h:Ins lt q a i j e) (haj:a≤j) (hji:j≤i) (hs:j=a∨lt (q (j-1)) e):Sym.Srt lt q a (i+1):=fun k1 k2 h1 h2 h3=>by
 by_cases c1:k1=j
 ·subst c1
  rw [h.at_];exact h.behind k2 h2 (by omega)
 ·by_cases c2:k2=j
  ·subst c2
   rw [h.at_]
   rcases hs with hs | hs
   ·omega
   ·by_cases c3:k1=k2-1
    ·rw [c3];exact hs
    ·exact O.trans (h.rest k1 (k2-1) h1 (by omega) (by omega) c1 (by omega)) hs
  ·exact h.rest k1 k2 h1 h2 (by omega) c1 c2
theorem Ins.step {lt:Nat→Nat→Prop} {q:Nat→Nat} {a i j e:Nat} (h:Ins lt q a i (j+1) e) (haj:a≤j) (hji:j+1≤i) (hl:lt e (q j)):Ins lt (fun k=>q (Sym.swp (j+1) j k)) a i j e:=by
 have s1:Sym.swp (j+1) j j=j+1:=by unfold Sym.swp;rw [if_neg (by omega),if_pos rfl]
 have s2:Sym.swp (j+1) j (j+1)=j:=by unfold Sym.swp;rw [if_pos rfl]
 have s3:∀ k,k≠j→k≠j+1→Sym.swp (j+1) j k=k:=fun k h1 h2=>by unfold Sym.swp;rw [if_neg h2,if_neg h1]
 refine ⟨?_,fun k1 k2 h1 h2 h3 h4 h5=>?_,fun k h1 h2=>?_⟩
 ·show q (Sym.swp (j+1) j j)=e
  rw [s1,h.at_]
 ·show lt (q (Sym.swp (j+1) j k1)) (q (Sym.swp (j+1) j k2))
  by_cases c1:k1=j+1
  ·rw [c1,s2,s3 k2 h5 (by omega)]
   exact h.rest j k2 haj (by omega) h3 (by omega) (by omega)
  ·by_cases c2:k2=j+1
   ·rw [c2,s2,s3 k1 h4 c1]
    exact h.rest k1 j h1 (by omega) (by omega) (by omega) (by omega)
   ·rw [s3 k1 h4 c1,s3 k2 h5 c2]
    exact h.rest k1 k2 h1 h2 h3 c1 c2
 ·show lt e (q (Sym.swp (j+1) j k))
  by_cases c1:k=j+1
  ·rw [c1,s2];exact hl
  ·rw [s3 k (by omega) c1]
   exact h.behind k (by omega) h2
theorem zlD {c:Bool} {X Y:Prop} (h:c=false) (y:Y):if c=true then X else Y:=by rw [h,if_neg (by decide)];exact y
set_option maxRecDepth 1000000 in
theorem zd4 (x0:Nat→RecD) (enc:Nat→List Value) (p:Nat→Nat) (N blk cap lo hi:Nat) (w:World) (V:RowsV x0 enc N blk cap lo hi w p) (hlo:hi≤lo) (hN:N<1000000000) (a b:Nat) (hab:a≤b) (hb:b≤N) (hinc:∀ i j,a≤i→i<j→j<b→p i<p j) :
 Calls Tryz.prog 152 #[.slice (some ⟨blk,0,none⟩) N cap,.int .i64 a,.int .i64 b,.func (.func 148) #[] #[]] w fun e w'=>e=.returned (.tuple #[])∧∃ q,RowsV x0 enc N blk cap lo hi w' q∧Sym.Re a b p q∧Sym.Srt (numL x0) q a b∧ChgL [blk] w w':=by
 have HV0:=hid V;have HI:=hid hinc;have hbl:=(V.row.lt blk rfl);clear V hinc
 have w1:IntKind.i64.wrap ((a:Int)+1)=((a+1:Nat):Int):=by rw [IntKind.wrap_i64];omega
 go_enter Tryz.func152,Tryz.ntmps152
 go_wp2
 go_loopw [8] (fun vi wr=>∃ (i:Nat) (q:Nat→Nat),a+1≤i∧(i≤b∨(i=a+1∧q=p))∧vi=.int .i64 i∧RowsV x0 enc N blk cap lo hi wr q∧Sym.Re a i p q∧Sym.Srt (numL x0) q a i∧ChgL [blk] w wr) (fun vi _=>b-(intOf vi).toNat)
 case atStart=>exact ⟨a+1,p,Nat.le_refl _,.inr ⟨rfl,rfl⟩,by go_num,HV0.out,Sym.Re.refl _ _ _,fun i j h1 h2 h3=>by omega,ChgL.refl _ _⟩
 case round=>
  obtain ⟨i,q,hai,hib,rfl,V,hRe,hSrt,C⟩:=hrel;have HV:=hid V;have HC:=hid C;have HRe:=hid hRe;have HSrt:=hid hSrt;clear V C hRe hSrt w1
  by_cases hlt:i<b
  ·have t1:(i:Int)<(b:Int):=by omega
   go_wp2
   go_loopw [9] (fun vj wr=>∃ (j:Nat) (q1:Nat→Nat),a≤j∧j≤i∧vj=.int .i64 j∧RowsV x0 enc N blk cap lo hi wr q1∧Sym.Re a (i+1) p q1∧Ins (numL x0) q1 a i j (p i)∧(∀ k,a≤k→k≤i→k≠j→q1 k<p i)∧ChgL [blk] w wr) (fun vj _=>(intOf vj).toNat)
   case atStart=>exact ⟨i,q,by omega,Nat.le_refl _,rfl,HV.out,HRe.out.mono (Nat.le_refl _) (by omega),by
    have:=Ins.start HSrt.out;rw [HRe.out.out (.inr (Nat.le_refl _))] at this
    exact this,fun k h1 h2 h3=>by
    obtain ⟨k',hk',e⟩:=HRe.out.from (i:=k) ⟨h1,by omega⟩
    rw [e]
    exact HI.out k' i hk'.1 hk'.2 hlt,HC.out⟩
   case round=>
    obtain ⟨j,q1,haj,hji,rfl,V,hRe,hIns,hTag,C⟩:=hrel;have HV1:=hid V;have HC1:=hid C;have HRe1:=hid hRe;have HIns:=hid hIns;have HTag:=hid hTag;clear C hRe hIns hTag HV HC HRe HSrt
    by_cases hja:j=a
    ·have d1:decide (a<j)=false:=decide_eq_false (by omega)
     have HJA:=hid hja;have HW:=hid (View.drew V);clear V
     go_upto_region 4 with fail
     refine zai 14 (fun w'=>True) zbb trivial (fun hHeld=>?_);refine zmS 0 rfl ?_
     try simp only [Act.put,SL]
     refine zmS 1 rfl ?_
     try simp only [Act.put,SL]
     refine zmS 2 rfl ?_
     try simp only [Act.put,SL]
     try rw [d1]
     refine zmS 3 rfl ?_
     try simp only [Act.put,SL]
     refine zmU 4 rfl ?_
     try simp only [Act.put,SL]
     refine zmU 5 rfl ?_
     try simp only [Act.put,SL]
     refine zmU 6 rfl ?_
     try simp only [Act.put,SL]
     refine zmU 7 rfl ?_
     try simp only [Act.put,SL]
     refine zmU 8 rfl ?_
     try simp only [Act.put,SL]
     refine zmU 9 rfl ?_
     try simp only [Act.put,SL]
     refine zmU 10 rfl ?_
     try simp only [Act.put,SL]
     refine zmU 11 rfl ?_
     try simp only [Act.put,SL]
     refine zmU 12 rfl ?_
     try simp only [Act.put,SL]
     refine zmU 13 rfl ?_
     try simp only [Act.put,SL]
     refine zaj (i:=14) (o:=_) rfl (by kernel_rfl) (by kernel_rfl) (fun KC hKC=>?_);refine zlD (by kernel_rfl) (hKC _ _ ?_);clear hKC KC
     try simp only [Act.put,SL]
     refine zad (i:=15) (oi:=_) (v:=undef) rfl (by kernel_rfl) (fun _ _ _ h=>h) (Or.inr ⟨by kernel_rfl,rfl⟩) ?_
     try simp only [Act.put,SL]
     refine zmD 16 (v:=?_) rfl ?_ ?_
     rotate_left
     ·intro w' hSw;go_simp;try with_reducible rfl
     try simp only [Act.put,SL]
     refine zaf (by kernel_rfl) ?_ _;go_wp2
     go_roundw
     case rel=>exact ⟨i+1,q1,by omega,.inl (by omega),by go_num,HW.out,HRe1.out,HIns.out.stop (zbA x0) haj hji (.inl HJA.out),HC1.out.trans (ChgL.of_below ⟨rfl,rfl,rfl,Nat.le_refl _,fun _ _=>rfl⟩)⟩
     case measure=>simp [intOf];omega
    ·obtain ⟨A,hA⟩:∃ A,A=j:=⟨_,rfl⟩
     subst hA;obtain ⟨B,hB⟩:∃ B,A=B+1:=⟨A-1,by omega⟩;have HAB:=hid hB;have d1:decide (a<A)=true:=decide_eq_true (by omega)
     have w2:IntKind.i64.wrap ((A:Int)-1)=(B:Int):=by rw [IntKind.wrap_i64];omega
     have hAN:A<N:=by omega
     have hBN:B<N:=by omega
     have i1:(A:Int)<(N:Int):=by omega
     have i2:(B:Int)<(N:Int):=by omega
     have i3:(0:Int)≤(A:Int):=by omega
     have i4:(0:Int)≤(B:Int):=by omega
     have hsz:=(V.row.lt blk rfl);have VD:=View.drew V;have rgA:wr.drew.rangeAt blk (A*9) (enc (q1 A)):=VD.range hAN;have rgB:wr.drew.rangeAt blk (B*9) (enc (q1 B)):=VD.range hBN;have hsA:(enc (q1 A)).length=9:=VD.lens A hAN;have hsB:(enc (q1 B)).length=9:=VD.lens B hBN;have rdA:=VD.each A hAN;have rdB:=VD.each B hBN;obtain ⟨cA,hcA⟩:∃ c,c=enc (q1 A):=⟨_,rfl⟩;obtain ⟨cB,hcB⟩:∃ c,c=enc (q1 B):=⟨_,rfl⟩;rw [← hcA] at rgA hsA;rw [← hcB] at rgB hsB;have CC0:=zcf _ _ _ _ hi hi wr.drew rdA rdB;rw [← hcA,← hcB] at CC0;obtain ⟨c,hc⟩:∃ c:Int,c=numC (x0 (q1 A)) (x0 (q1 B)):=⟨_,rfl⟩;rw [← hc] at CC0;have HCN:=hid hc
     have CC:Calls Tryz.prog 148 (#[.agg cA.toArray,.agg cB.toArray]++#[]) wr.drew fun e w'=>e=.returned (.int .i64 c)∧Below wr.drew.heap.size wr.drew w':=by rw [Array.append_empty];exact CC0
     clear CC0 hc hcA hcB rdA rdB hB;have HVD:=hid VD;clear VD V
     go_upto_region 4 with fail
     refine zai 14 (fun w'=>w'.rangeAt blk (A*9) cA∧w'.rangeAt blk (B*9) cB) zbb ⟨rgA,rgB⟩ (fun hHeld=>?_);refine zmS 0 rfl ?_
     try simp only [Act.put,SL]
     refine zmS 1 rfl ?_
     try simp only [Act.put,SL]
     refine zmS 2 rfl ?_
     try simp only [Act.put,SL]
     try rw [d1]
     refine zmS 3 rfl ?_
     try simp only [Act.put,SL]
     refine zmS 4 rfl ?_
     try simp only [Act.put,SL]
     refine zmS 5 rfl ?_
     try simp only [Act.put,SL]
     refine zmS 6 rfl ?_
     try simp only [Act.put,SL]
     refine zmS 7 rfl ?_
     try simp only [Act.put,SL]
     refine zac (i:=8) (oi:=_) 16 rfl (by kernel_rfl) (fun _ _ _ h=>h) (yieldsIf_load_mid (by kernel_rfl) 52 (.tmp 25) rfl blk (A*9) (by simp [Act.eval,Act.put]) cA _ (fun w h=>h.1) Tryz.underlying52 rfl (zae hsA)) (by assumption) ?_
     try simp only [Act.put,SL]
     refine zmS 9 rfl ?_
     try simp only [Act.put,SL]
     refine zmS 10 rfl ?_
     try simp only [Act.put,SL]
     refine zmS 11 rfl ?_
     try simp only [Act.put,SL]
     refine zmS 12 rfl ?_
     try simp only [Act.put,SL]
     refine zac (i:=13) (oi:=_) 16 rfl (by kernel_rfl) (fun _ _ _ h=>h) (yieldsIf_load_mid (by kernel_rfl) 52 (.tmp 30) rfl blk (B*9) (by simp [Act.eval,Act.put]) cB _ (fun w h=>h.2) Tryz.underlying52 rfl (zae hsB)) (by assumption) ?_
     try simp only [Act.put,SL]
     refine zaj (i:=14) (o:=_) rfl (by kernel_rfl) (by kernel_rfl) (fun KC hKC=>?_);refine zaH (by kernel_rfl) (.tmp 22) 148 #[] _ _ rfl (by simp [Act.eval,Act.put]) #[.agg cA.toArray,.agg cB.toArray] (by simp [Act.eval,Act.put]) Tryz.func148 (by kernel_rfl) (by kernel_rfl) CC ?_;rintro ee w5 ⟨rfl,b5⟩;refine ⟨_,rfl,?_⟩;refine hKC _ _ ?_;clear hKC KC
     try simp only [Act.put,SL]
     refine zmD 15 (v:=?_) rfl ?_ ?_
     rotate_left
     ·intro w' hSw;go_simp;try with_reducible rfl
     try simp only [Act.put,SL]
     refine zmD 16 (v:=?_) rfl ?_ ?_
     rotate_left
     ·intro w' hSw;go_simp;try with_reducible rfl
     try simp only [Act.put,SL]
     refine zaf (by kernel_rfl) ?_ _;have HV5:Hid (RowsV x0 enc N blk cap lo hi w5 q1):=View.below HVD.out b5 (by show hi≤wr.heap.size;omega);have HC5:Hid (ChgL [blk] w w5):=HC1.out.trans ((ChgL.of_below ⟨rfl,rfl,rfl,Nat.le_refl _,fun _ _=>rfl⟩:ChgL [blk] wr wr.drew).trans (ChgL.of_below b5));clear HVD HC1 HV1 rgA rgB hsA hsB b5 hHeld CC hsz;obtain ⟨dd,hdd⟩:∃ d:Bool,d=decide (c<0):=⟨_,rfl⟩;have HDD:=hid hdd
     try rw [← hdd]
     clear hdd
     cases dd
     ·go_wp2
      go_roundw
      case rel=>exact ⟨i+1,q1,by omega,.inl (by omega),by go_num,HV5.out,HRe1.out,HIns.out.stop (zbA x0) haj hji (.inr (by
       have h1:=HDD.out
       have h2:¬ c<0:=by simpa using h1
       rw [HCN.out] at h2;have h3:=HTag.out B (by have:=HAB.out;omega) (by have:=HAB.out;omega) (by have:=HAB.out;omega);have h4:=HIns.out.at_;rw [show A-1=B by have:=HAB.out;omega,← h4]
       exact zhe (by rw [h4];exact h3) h2)),HC5.out⟩
      case measure=>simp [intOf];omega
     ·have V5:=HV5.out
      have VD:=View.drew V5;have rgA:w5.drew.rangeAt blk (A*9) (enc (q1 A)):=VD.range hAN;have rgB:w5.drew.rangeAt blk (B*9) (enc (q1 B)):=VD.range hBN;have hsA:(enc (q1 A)).length=9:=VD.lens A hAN;have hsB:(enc (q1 B)).length=9:=VD.lens B hBN
      have th1:w5.drew.there blk (A*9) (enc (q1 B)).length:=by rw [hsB];exact VD.there hAN
      have th2:(w5.drew.setCells blk (A*9) (enc (q1 B))).there blk (B*9) (enc (q1 A)).length:=by rw [hsA];exact (VD.put (by decide) hlo hAN (VD.each B hBN)).there hBN
      have oneA:=zaA _ _ _ _ (VD.each A hAN);have oneB:=zaA _ _ _ _ (VD.each B hBN);have SW:=zcv VD hlo hAN hBN;have HSW:=hid SW.1;have HSC:Hid (ChgL [blk] w5 ((w5.drew.setCells blk (A*9) (enc (q1 B))).setCells blk (B*9) (enc (q1 A)))):=(ChgL.of_below ⟨rfl,rfl,rfl,Nat.le_refl _,fun _ _=>rfl⟩:ChgL [blk] w5 w5.drew).trans SW.2;obtain ⟨cA,hcA⟩:∃ c,c=enc (q1 A):=⟨_,rfl⟩;obtain ⟨cB,hcB⟩:∃ c,c=enc (q1 B):=⟨_,rfl⟩;rw [← hcA] at rgA th2 hsA oneA HSW HSC;rw [← hcB] at rgB th1 th2 hsB oneB HSW HSC;clear hcA hcB VD SW;clear V5
      go_upto_region 6 with fail
      refine zai 15 (fun w'=>w'.rangeAt blk (A*9) cA∧w'.rangeAt blk (B*9) cB) zbb ⟨rgA,rgB⟩ (fun hHeld=>?_);refine zaa (i:=0) (oi:=_) (v:=?_) rfl (by kernel_rfl) (fun _ _ _ h=>h) (Or.inl ⟨by rfl,?_⟩) (by assumption) ?_
      rotate_left
      ·intro w' hSw;go_simp;try with_reducible rfl
      try simp only [Act.put,SL]
      refine zaa (i:=1) (oi:=_) (v:=?_) rfl (by kernel_rfl) (fun _ _ _ h=>h) (Or.inl ⟨by rfl,?_⟩) (by assumption) ?_
      rotate_left
      ·intro w' hSw;go_simp;try with_reducible rfl
      try simp only [Act.put,SL]
      refine zaa (i:=2) (oi:=_) (v:=?_) rfl (by kernel_rfl) (fun _ _ _ h=>h) (Or.inl ⟨by rfl,?_⟩) (by assumption) ?_
      rotate_left
      ·intro w' hSw;go_simp;try with_reducible rfl
      try simp only [Act.put,SL]
      refine zaa (i:=3) (oi:=_) (v:=?_) rfl (by kernel_rfl) (fun _ _ _ h=>h) (Or.inl ⟨by rfl,?_⟩) (by assumption) ?_
      rotate_left
      ·intro w' hSw;go_simp;try with_reducible rfl
      try simp only [Act.put,SL]
      refine zaa (i:=4) (oi:=_) (v:=?_) rfl (by kernel_rfl) (fun _ _ _ h=>h) (Or.inl ⟨by rfl,?_⟩) (by assumption) ?_
      rotate_left
      ·intro w' hSw;go_simp;try with_reducible rfl
      try simp only [Act.put,SL]
      refine zaa (i:=5) (oi:=_) (v:=?_) rfl (by kernel_rfl) (fun _ _ _ h=>h) (Or.inl ⟨by rfl,?_⟩) (by assumption) ?_
      rotate_left
      ·intro w' hSw;go_simp;try with_reducible rfl
      try simp only [Act.put,SL]
      refine zaa (i:=6) (oi:=_) (v:=?_) rfl (by kernel_rfl) (fun _ _ _ h=>h) (Or.inl ⟨by rfl,?_⟩) (by assumption) ?_
      rotate_left
      ·intro w' hSw;go_simp;try with_reducible rfl
      try simp only [Act.put,SL]
      refine zaa (i:=7) (oi:=_) (v:=?_) rfl (by kernel_rfl) (fun _ _ _ h=>h) (Or.inl ⟨by rfl,?_⟩) (by assumption) ?_
      rotate_left
      ·intro w' hSw;go_simp;try with_reducible rfl
      try simp only [Act.put,SL]
      refine zaa (i:=8) (oi:=_) (v:=?_) rfl (by kernel_rfl) (fun _ _ _ h=>h) (Or.inl ⟨by rfl,?_⟩) (by assumption) ?_
      rotate_left
      ·intro w' hSw;go_simp;try with_reducible rfl
      try simp only [Act.put,SL]
      refine zac (i:=9) (oi:=_) 16 rfl (by kernel_rfl) (fun _ _ _ h=>h) (yieldsIf_load_mid (by rfl) 52 (.tmp 45) rfl blk (B*9) (by simp [Act.eval,Act.put]) cB _ (fun w h=>h.2) Tryz.underlying52 rfl (zae hsB)) (by assumption) ?_
      try simp only [Act.put,SL]
      refine zaa (i:=10) (oi:=_) (v:=?_) rfl (by kernel_rfl) (fun _ _ _ h=>h) (Or.inl ⟨by rfl,?_⟩) (by assumption) ?_
      rotate_left
      ·intro w' hSw;go_simp;try with_reducible rfl
      try simp only [Act.put,SL]
      refine zaa (i:=11) (oi:=_) (v:=?_) rfl (by kernel_rfl) (fun _ _ _ h=>h) (Or.inl ⟨by rfl,?_⟩) (by assumption) ?_
      rotate_left
      ·intro w' hSw;go_simp;try with_reducible rfl
      try simp only [Act.put,SL]
      refine zaa (i:=12) (oi:=_) (v:=?_) rfl (by kernel_rfl) (fun _ _ _ h=>h) (Or.inl ⟨by rfl,?_⟩) (by assumption) ?_
      rotate_left
      ·intro w' hSw;go_simp;try with_reducible rfl
      try simp only [Act.put,SL]
      refine zac (i:=13) (oi:=_) 16 rfl (by kernel_rfl) (fun _ _ _ h=>h) (yieldsIf_load_mid (by rfl) 52 (.tmp 49) rfl blk (A*9) (by simp [Act.eval,Act.put]) cA _ (fun w h=>h.1) Tryz.underlying52 rfl (zae hsA)) (by assumption) ?_
      try simp only [Act.put,SL]
      refine zaa (i:=14) (oi:=_) (v:=?_) rfl (by kernel_rfl) (fun _ _ _ h=>h) (Or.inl ⟨by rfl,?_⟩) (by assumption) ?_
      rotate_left
      ·intro w' hSw;go_simp;try with_reducible rfl
      try simp only [Act.put,SL]
      refine zaR (i:=15) rfl (by kernel_rfl) (by kernel_rfl) rfl rfl 52 (.tmp 51) (.tmp 46) rfl blk (A*9) cB (by simp [Act.eval]) (by simp [Act.eval]) th1 (zae hsB) oneB ?_;refine zad (i:=16) (oi:=_) (v:=?_) rfl (by kernel_rfl) (fun _ _ _ h=>h) (Or.inl ⟨by rfl,?_⟩) ?_
      rotate_left
      ·intro w' hSw;go_simp;try with_reducible rfl
      try simp only [Act.put,SL]
      refine zaR (i:=17) rfl (by kernel_rfl) (by kernel_rfl) rfl rfl 52 (.tmp 52) (.tmp 50) rfl blk (B*9) cA (by simp [Act.eval]) (by simp [Act.eval]) th2 (zae hsA) oneA ?_;refine zaf (by kernel_rfl) ?_ _;go_wp2
      go_roundw
      case rel=>
       have hAB:=HAB.out;refine ⟨B,(fun k=>q1 (Sym.swp A B k)),by omega,by omega,by go_num,HSW.out,HRe1.out.trans (Sym.Re.swaps q1 ⟨by omega,by omega⟩ ⟨by omega,by omega⟩),?_,?_,HC5.out.trans HSC.out⟩
       ·have h1:=HDD.out
        have h2:c<0:=by simpa using h1
        rw [HCN.out] at h2;have h4:=HIns.out;have h5:=zfc h2;rw [h4.at_] at h5;rw [hAB] at h4 ⊢;exact h4.step (by omega) (by omega) h5
       ·intro k k1 k2 k3
        show q1 (Sym.swp A B k)<p i
        unfold Sym.swp
        by_cases c1:k=A
        ·rw [if_pos c1]
         exact HTag.out B (by omega) (by omega) (by omega)
        ·rw [if_neg c1,if_neg k3]
         exact HTag.out k k1 k2 c1
      case measure=>have hAB:=HAB.out;simp [intOf];omega
  ·have HNL:=hid hlt
   have d0:decide ((i:Int)<(b:Int))=false:=decide_eq_false (by omega);clear hlt;go_wp2
   go_end0
   refine ⟨rfl,q,HV.out,?_,?_,HC.out⟩
   ·rcases hib with h | h
    ·exact HRe.out.mono (Nat.le_refl _) (by have:=HNL.out;omega)
    ·obtain ⟨h1,rfl⟩:=h
     exact Sym.Re.refl _ _ _
   ·exact HSrt.out.sub (Nat.le_refl _) (by have:=HNL.out;omega)
theorem zhf (a k x:Nat) (h:a≤k):Sym.rot a (a+1) (k+1) (Sym.swp k (k+1) x)=Sym.rot a (a+1) (k+2) x:=by
 unfold Sym.rot Sym.swp
 repeat' split
 all_goals omega
theorem zhg (a x:Nat):Sym.rot a (a+1) (a+1) x=x:=by
 unfold Sym.rot
 repeat' split
 all_goals omega
theorem zl9 {lt:Nat→Nat→Prop} (O:Sym.Ord lt) {p:Nat→Nat} {a b i:Nat} (hai:a+1≤i) (hib:i≤b) (h2:Sym.Srt lt p (a+1) b) (hl:∀ k,a+1≤k→k<i→lt (p k) (p a)) (hr:∀ k,i≤k→k<b→lt (p a) (p k)) :
 Sym.Srt lt (fun k=>p (Sym.rot a (a+1) i k)) a b∧Sym.Re a b p (fun k=>p (Sym.rot a (a+1) i k)):=by
 have r1:∀ k,a≤k→k<i-1→Sym.rot a (a+1) i k=k+1:=fun k h3 h4=>by
  unfold Sym.rot;repeat' split
  all_goals omega
 have r2:Sym.rot a (a+1) i (i-1)=a:=by
  unfold Sym.rot;repeat' split
  all_goals omega
 have r3:∀ k,i≤k→Sym.rot a (a+1) i k=k:=fun k h3=>by
  unfold Sym.rot;repeat' split
  all_goals omega
 refine ⟨fun x y h3 h4 h5=>?_,(Sym.Re.rots p (by omega) hai).mono (Nat.le_refl _) hib⟩
 show lt (p (Sym.rot a (a+1) i x)) (p (Sym.rot a (a+1) i y))
 by_cases c1:x<i-1
 ·rw [r1 x h3 c1]
  by_cases c2:y<i-1
  ·rw [r1 y (by omega) c2];exact h2 _ _ (by omega) (by omega) (by omega)
  ·by_cases c3:y=i-1
   ·rw [c3,r2];exact hl _ (by omega) (by omega)
   ·rw [r3 y (by omega)];exact h2 _ _ (by omega) (by omega) (by omega)
 ·by_cases c3:x=i-1
  ·rw [c3,r2,r3 y (by omega)];exact hr _ (by omega) h5
  ·rw [r3 x (by omega),r3 y (by omega)];exact h2 _ _ (by omega) h4 h5
set_option maxRecDepth 1000000 in
theorem zjG (x0:Nat→RecD) (enc:Nat→List Value) (p:Nat→Nat) (N blk cap lo hi:Nat) (w:World) (V:RowsV x0 enc N blk cap lo hi w p) (hlo:hi≤lo) (hN:N<1000000000) (a m b:Nat) (ham:a<m) (hmb:m<b) (hb:b≤N) (htag:∀ i j,a≤i→i<m→m≤j→j<b→p i<p j) (hs1:Sym.Srt (numL x0) p a m) (hs2:Sym.Srt (numL x0) p m b) (h1:m=a+1) :
 Calls Tryz.prog 153 #[.slice (some ⟨blk,0,none⟩) N cap,.int .i64 a,.int .i64 m,.int .i64 b,.func (.func 148) #[] #[]] w (fun e w'=>e=.returned (.tuple #[])∧∃ q,RowsV x0 enc N blk cap lo hi w' q∧Sym.Re a b p q∧Sym.Srt (numL x0) q a b∧ChgL [blk] w w'):=by
 have HV0:=hid V;have HT:=hid htag;have HS2:=hid hs2;have HM:=hid h1
 have w0:IntKind.i64.wrap ((m:Int)-(a:Int))=1:=by rw [IntKind.wrap_i64];omega
 clear V htag hs1 hs2
 go_enter Tryz.func153,Tryz.ntmps153
 go_wp2;clear h1
 go_loopw [10,11] (fun vi vj wr=>∃ (i j:Nat),m≤i∧i≤j∧j≤b∧vi=.int .i64 i∧vj=.int .i64 j∧RowsV x0 enc N blk cap lo hi wr p∧(∀ k,m≤k→k<i→numL x0 (p k) (p a))∧(∀ k,j≤k→k<b→numL x0 (p a) (p k))∧ChgL [blk] w wr) (fun vi vj _=>(intOf vj).toNat-(intOf vi).toNat)
 case atStart=>exact ⟨m,b,Nat.le_refl _,by omega,Nat.le_refl _,by go_num,by go_num,HV0.out,fun k h1 h2=>by omega,fun k h1 h2=>by omega,ChgL.refl _ _⟩
 case round=>
  obtain ⟨i,j,hmi,hij,hjb,rfl,rfl,V,hL,hR,C⟩:=hrel;have HC:=hid C;have HL:=hid hL;have HR:=hid hR;have HV:=hid V;clear C hL hR w0
  by_cases hlt:i<j
  ·have t1:(i:Int)<(j:Int):=by omega
   obtain ⟨A,hA⟩:∃ A,A=(i+j)/2:=⟨_,rfl⟩
   have w1:IntKind.i64.wrap ((i:Int)+(j:Int))=((i+j:Nat):Int):=by rw [IntKind.wrap_i64];omega
   have e1:((i:Int)+(j:Int))/2=(A:Int):=by omega
   have hAi:i≤A:=by omega
   have hAj:A<j:=by omega
   have hAN:A<N:=by omega
   have hBN:a<N:=by omega
   have i1:(A:Int)<(N:Int):=by omega
   have i2:(a:Int)<(N:Int):=by omega
   have i3:(0:Int)≤(A:Int):=by omega
   have i4:(0:Int)≤(a:Int):=by omega
   have hsz:=(V.row.lt blk rfl);have VD:=View.drew V;have rgA:wr.drew.rangeAt blk (A*9) (enc (p A)):=VD.range hAN;have rgB:wr.drew.rangeAt blk (a*9) (enc (p a)):=VD.range hBN;have hsA:(enc (p A)).length=9:=VD.lens A hAN;have hsB:(enc (p a)).length=9:=VD.lens a hBN;have rdA:=VD.each A hAN;have rdB:=VD.each a hBN;obtain ⟨cA,hcA⟩:∃ c,c=enc (p A):=⟨_,rfl⟩;obtain ⟨cB,hcB⟩:∃ c,c=enc (p a):=⟨_,rfl⟩;rw [← hcA] at rgA hsA;rw [← hcB] at rgB hsB;have CC0:=zcf _ _ _ _ hi hi wr.drew rdA rdB;rw [← hcA,← hcB] at CC0;obtain ⟨c,hc⟩:∃ c:Int,c=numC (x0 (p A)) (x0 (p a)):=⟨_,rfl⟩;rw [← hc] at CC0;have HCN:=hid hc
   have CC:Calls Tryz.prog 148 (#[.agg cA.toArray,.agg cB.toArray]++#[]) wr.drew fun e w'=>e=.returned (.int .i64 c)∧Below wr.drew.heap.size wr.drew w':=by rw [Array.append_empty];exact CC0
   have HVD:=hid VD;clear CC0 hc hcA hcB rdA rdB hA VD V HV
   go_upto_region 5 with fail
   try rw [e1]
   refine zai 9 (fun w'=>w'.rangeAt blk (A*9) cA∧w'.rangeAt blk (a*9) cB) zbb ⟨rgA,rgB⟩ (fun hHeld=>?_);refine zmS 0 rfl ?_
   try simp only [Act.put,SL]
   refine zmS 1 rfl ?_
   try simp only [Act.put,SL]
   refine zmS 2 rfl ?_
   try simp only [Act.put,SL]
   refine zmS 3 rfl ?_
   try simp only [Act.put,SL]
   refine zac (i:=4) (oi:=_) 16 rfl (by kernel_rfl) (fun _ _ _ h=>h) (yieldsIf_load_mid (by kernel_rfl) 52 (.tmp 43) rfl blk (A*9) (by simp [Act.eval,Act.put]) cA _ (fun w h=>h.1) Tryz.underlying52 rfl (zae hsA)) (by assumption) ?_
   try simp only [Act.put,SL]
   refine zmS 5 rfl ?_
   try simp only [Act.put,SL]
   refine zmS 6 rfl ?_
   try simp only [Act.put,SL]
   refine zmS 7 rfl ?_
   try simp only [Act.put,SL]
   refine zac (i:=8) (oi:=_) 16 rfl (by kernel_rfl) (fun _ _ _ h=>h) (yieldsIf_load_mid (by kernel_rfl) 52 (.tmp 47) rfl blk (a*9) (by simp [Act.eval,Act.put]) cB _ (fun w h=>h.2) Tryz.underlying52 rfl (zae hsB)) (by assumption) ?_
   try simp only [Act.put,SL]
   refine zaj (i:=9) (o:=_) rfl (by kernel_rfl) (by kernel_rfl) (fun KC hKC=>?_);refine zaH (by kernel_rfl) (.tmp 40) 148 #[] _ _ rfl (by simp [Act.eval,Act.put]) #[.agg cA.toArray,.agg cB.toArray] (by simp [Act.eval,Act.put]) Tryz.func148 (by kernel_rfl) (by kernel_rfl) CC ?_;rintro ee w5 ⟨rfl,b5⟩;refine ⟨_,rfl,?_⟩;refine hKC _ _ ?_;clear hKC KC
   try simp only [Act.put,SL]
   refine zmD 10 (v:=?_) rfl ?_ ?_
   rotate_left
   ·intro w' hSw;go_simp;try with_reducible rfl
   try simp only [Act.put,SL]
   refine zaf (by kernel_rfl) ?_ _;have HV5:Hid (RowsV x0 enc N blk cap lo hi w5 p):=View.below HVD.out b5 (by show hi≤wr.heap.size;omega);have HC5:Hid (ChgL [blk] w w5):=HC.out.trans ((ChgL.of_below ⟨rfl,rfl,rfl,Nat.le_refl _,fun _ _=>rfl⟩:ChgL [blk] wr wr.drew).trans (ChgL.of_below b5));clear HVD HC rgA rgB hsA hsB b5 hHeld CC hsz;obtain ⟨dd,hdd⟩:∃ d:Bool,d=decide (c<0):=⟨_,rfl⟩;have HDD:=hid hdd
   try rw [← hdd]
   clear hdd
   cases dd
   ·go_wp2
    go_roundw
    case rel=>
     refine ⟨i,A,hmi,hAi,by omega,rfl,by go_num,HV5.out,HL.out,fun k k1 k2=>?_,HC5.out⟩
     have h2:¬ c<0:=by simpa using HDD.out
     rw [HCN.out] at h2;have h3:=zhe (HT.out a A (Nat.le_refl _) (by have:=HM.out;omega) (by omega) (by omega)) h2
     by_cases ck:k=A
     ·rw [ck];exact h3
     ·exact (zbA x0).trans h3 (HS2.out A k (by omega) (by omega) k2)
    case measure=>simp [intOf];omega
   ·go_wp2
    go_roundw
    case rel=>
     refine ⟨A+1,j,by omega,by omega,by omega,by go_num,rfl,HV5.out,fun k k1 k2=>?_,HR.out,HC5.out⟩
     have h2:c<0:=by simpa using HDD.out
     rw [HCN.out] at h2;have h3:=zfc h2
     by_cases ck:k=A
     ·rw [ck];exact h3
     ·exact (zbA x0).trans (HS2.out k A k1 (by omega) (by omega)) h3
    case measure=>simp [intOf];omega
  ·obtain rfl:i=j:=by omega
   obtain ⟨e,he⟩:∃ e,i=e+1:=⟨i-1,by omega⟩;have HE:=hid he
   have w3:IntKind.i64.wrap ((i:Int)-1)=(e:Int):=by rw [IntKind.wrap_i64];omega
   clear V he hij;go_wp2
   go_loopw [13] (fun vk wr=>∃ k:Nat,a≤k∧k≤e∧vk=.int .i64 k∧RowsV x0 enc N blk cap lo hi wr (fun x=>p (Sym.rot a (a+1) (k+1) x))∧ChgL [blk] w wr) (fun vk _=>e-(intOf vk).toNat)
   case atStart=>exact ⟨a,Nat.le_refl _,by have h1:=HE.out;have h2:=HM.out;omega,by go_num,HV.out.same (fun x _=>by rw [zhg]),HC.out⟩
   case round=>
    obtain ⟨A,haA,hAe,rfl,V,C⟩:=hrel;have HCr:=hid C;clear C
    by_cases hlt:A<e
    ·have t2:(A:Int)<(e:Int):=by omega
     obtain ⟨q,hq⟩:∃ q:Nat→Nat,q=fun x=>p (Sym.rot a (a+1) (A+1) x):=⟨_,rfl⟩;have HQ:=hid hq
     have VQ:RowsV x0 enc N blk cap lo hi wr q:=by rw [hq];exact V
     obtain ⟨B,hB⟩:∃ B,B=A+1:=⟨_,rfl⟩;have HAB:=hid hB
     have hAN:A<N:=by have:=HE.out;omega
     have hBN:B<N:=by have:=HE.out;omega
     have w4:IntKind.i64.wrap ((A:Int)+1)=(B:Int):=by rw [IntKind.wrap_i64];omega
     have i1:(A:Int)<(N:Int):=by omega
     have i2:(B:Int)<(N:Int):=by omega
     have i3:(0:Int)≤(A:Int):=by omega
     have i4:(0:Int)≤(B:Int):=by omega
     have VD:=View.drew VQ;have rgA:wr.drew.rangeAt blk (A*9) (enc (q A)):=VD.range hAN;have rgB:wr.drew.rangeAt blk (B*9) (enc (q B)):=VD.range hBN;have hsA:(enc (q A)).length=9:=VD.lens A hAN;have hsB:(enc (q B)).length=9:=VD.lens B hBN
     have th1:wr.drew.there blk (A*9) (enc (q B)).length:=by rw [hsB];exact VD.there hAN
     have th2:(wr.drew.setCells blk (A*9) (enc (q B))).there blk (B*9) (enc (q A)).length:=by rw [hsA];exact (VD.put (by decide) hlo hAN (VD.each B hBN)).there hBN
     have oneA:=zaA _ _ _ _ (VD.each A hAN);have oneB:=zaA _ _ _ _ (VD.each B hBN);have SW:=zcv VD hlo hAN hBN;have HSW:=hid SW.1;have HSC:Hid (ChgL [blk] wr ((wr.drew.setCells blk (A*9) (enc (q B))).setCells blk (B*9) (enc (q A)))):=(ChgL.of_below ⟨rfl,rfl,rfl,Nat.le_refl _,fun _ _=>rfl⟩:ChgL [blk] wr wr.drew).trans SW.2;obtain ⟨cA,hcA⟩:∃ c,c=enc (q A):=⟨_,rfl⟩;obtain ⟨cB,hcB⟩:∃ c,c=enc (q B):=⟨_,rfl⟩;rw [← hcA] at rgA th2 hsA oneA HSW HSC;rw [← hcB] at rgB th1 th2 hsB oneB HSW HSC;clear hcA hcB VD SW;clear hq hB V VQ
     go_upto_region 11 with fail
     refine zai 15 (fun w'=>w'.rangeAt blk (A*9) cA∧w'.rangeAt blk (B*9) cB) zbb ⟨rgA,rgB⟩ (fun hHeld=>?_);refine zaa (i:=0) (oi:=_) (v:=?_) rfl (by kernel_rfl) (fun _ _ _ h=>h) (Or.inl ⟨by rfl,?_⟩) (by assumption) ?_
     rotate_left
     ·intro w' hSw;go_simp;try with_reducible rfl
     try simp only [Act.put,SL]
     refine zaa (i:=1) (oi:=_) (v:=?_) rfl (by kernel_rfl) (fun _ _ _ h=>h) (Or.inl ⟨by rfl,?_⟩) (by assumption) ?_
     rotate_left
     ·intro w' hSw;go_simp;try with_reducible rfl
     try simp only [Act.put,SL]
     refine zaa (i:=2) (oi:=_) (v:=?_) rfl (by kernel_rfl) (fun _ _ _ h=>h) (Or.inl ⟨by rfl,?_⟩) (by assumption) ?_
     rotate_left
     ·intro w' hSw;go_simp;try with_reducible rfl
     try simp only [Act.put,SL]
     refine zaa (i:=3) (oi:=_) (v:=?_) rfl (by kernel_rfl) (fun _ _ _ h=>h) (Or.inl ⟨by rfl,?_⟩) (by assumption) ?_
     rotate_left
     ·intro w' hSw;go_simp;try with_reducible rfl
     try simp only [Act.put,SL]
     refine zaa (i:=4) (oi:=_) (v:=?_) rfl (by kernel_rfl) (fun _ _ _ h=>h) (Or.inl ⟨by rfl,?_⟩) (by assumption) ?_
     rotate_left
     ·intro w' hSw;go_simp;try with_reducible rfl
     try simp only [Act.put,SL]
     refine zaa (i:=5) (oi:=_) (v:=?_) rfl (by kernel_rfl) (fun _ _ _ h=>h) (Or.inl ⟨by rfl,?_⟩) (by assumption) ?_
     rotate_left
     ·intro w' hSw;go_simp;try with_reducible rfl
     try simp only [Act.put,SL]
     refine zaa (i:=6) (oi:=_) (v:=?_) rfl (by kernel_rfl) (fun _ _ _ h=>h) (Or.inl ⟨by rfl,?_⟩) (by assumption) ?_
     rotate_left
     ·intro w' hSw;go_simp;try with_reducible rfl
     try simp only [Act.put,SL]
     refine zaa (i:=7) (oi:=_) (v:=?_) rfl (by kernel_rfl) (fun _ _ _ h=>h) (Or.inl ⟨by rfl,?_⟩) (by assumption) ?_
     rotate_left
     ·intro w' hSw;go_simp;try with_reducible rfl
     try simp only [Act.put,SL]
     refine zaa (i:=8) (oi:=_) (v:=?_) rfl (by kernel_rfl) (fun _ _ _ h=>h) (Or.inl ⟨by rfl,?_⟩) (by assumption) ?_
     rotate_left
     ·intro w' hSw;go_simp;try with_reducible rfl
     try simp only [Act.put,SL]
     refine zac (i:=9) (oi:=_) 16 rfl (by kernel_rfl) (fun _ _ _ h=>h) (yieldsIf_load_mid (by rfl) 52 (.tmp 69) rfl blk (B*9) (by simp [Act.eval,Act.put]) cB _ (fun w h=>h.2) Tryz.underlying52 rfl (zae hsB)) (by assumption) ?_
     try simp only [Act.put,SL]
     refine zaa (i:=10) (oi:=_) (v:=?_) rfl (by kernel_rfl) (fun _ _ _ h=>h) (Or.inl ⟨by rfl,?_⟩) (by assumption) ?_
     rotate_left
     ·intro w' hSw;go_simp;try with_reducible rfl
     try simp only [Act.put,SL]
     refine zaa (i:=11) (oi:=_) (v:=?_) rfl (by kernel_rfl) (fun _ _ _ h=>h) (Or.inl ⟨by rfl,?_⟩) (by assumption) ?_
     rotate_left
     ·intro w' hSw;go_simp;try with_reducible rfl
     try simp only [Act.put,SL]
     refine zaa (i:=12) (oi:=_) (v:=?_) rfl (by kernel_rfl) (fun _ _ _ h=>h) (Or.inl ⟨by rfl,?_⟩) (by assumption) ?_
     rotate_left
     ·intro w' hSw;go_simp;try with_reducible rfl
     try simp only [Act.put,SL]
     refine zac (i:=13) (oi:=_) 16 rfl (by kernel_rfl) (fun _ _ _ h=>h) (yieldsIf_load_mid (by rfl) 52 (.tmp 73) rfl blk (A*9) (by simp [Act.eval,Act.put]) cA _ (fun w h=>h.1) Tryz.underlying52 rfl (zae hsA)) (by assumption) ?_
     try simp only [Act.put,SL]
     refine zaa (i:=14) (oi:=_) (v:=?_) rfl (by kernel_rfl) (fun _ _ _ h=>h) (Or.inl ⟨by rfl,?_⟩) (by assumption) ?_
     rotate_left
     ·intro w' hSw;go_simp;try with_reducible rfl
     try simp only [Act.put,SL]
     refine zaR (i:=15) rfl (by kernel_rfl) (by kernel_rfl) rfl rfl 52 (.tmp 75) (.tmp 70) rfl blk (A*9) cB (by simp [Act.eval]) (by simp [Act.eval]) th1 (zae hsB) oneB ?_;refine zad (i:=16) (oi:=_) (v:=?_) rfl (by kernel_rfl) (fun _ _ _ h=>h) (Or.inl ⟨by rfl,?_⟩) ?_
     rotate_left
     ·intro w' hSw;go_simp;try with_reducible rfl
     try simp only [Act.put,SL]
     refine zaR (i:=17) rfl (by kernel_rfl) (by kernel_rfl) rfl rfl 52 (.tmp 76) (.tmp 74) rfl blk (B*9) cA (by simp [Act.eval]) (by simp [Act.eval]) th2 (zae hsA) oneA ?_;refine zaf (by kernel_rfl) ?_ _;go_wp2
     go_roundw
     case rel=>
      have hAB:=HAB.out
      have e9:∀ x,q (Sym.swp A B x)=p (Sym.rot a (a+1) (B+1) x):=fun x=>by
       rw [HQ.out,hAB]
       show p (Sym.rot a (a+1) (A+1) (Sym.swp A (A+1) x))=_
       rw [zhf a A x haA]
      exact ⟨B,by omega,by omega,by go_num,HSW.out.same (fun x _=>e9 x),HCr.out.trans HSC.out⟩
     case measure=>have hAB:=HAB.out;simp [intOf];omega
    ·obtain rfl:A=e:=by omega
     have HVA:=hid V;clear V;go_wp2;refine bodyPost_ret (results_none rfl _ _ _) rfl ?_;have hm:=HM.out;have he:=HE.out;have h2:=HS2.out;rw [hm] at h2;have M:=zl9 (zbA x0) (p:=p) (a:=a) (b:=b) (i:=A+1) (by omega) (by omega) h2 (fun k h3 h4=>HL.out k (by omega) (by omega)) (fun k h3 h4=>HR.out k (by omega) h4);exact ⟨rfl,_,HVA.out,M.2,M.1,HCr.out⟩
theorem zhh (m k x:Nat) (h:k+1≤m):Sym.rot (k+1) m (m+1) (Sym.swp (k+1) k x)=Sym.rot k m (m+1) x:=by
 unfold Sym.rot Sym.swp
 repeat' split
 all_goals omega
theorem zhi (m x:Nat):Sym.rot m m (m+1) x=x:=by
 unfold Sym.rot
 repeat' split
 all_goals omega
theorem zma {lt:Nat→Nat→Prop} {p:Nat→Nat} {a m i:Nat} (hai:a≤i) (
 him:i≤m) (h1:Sym.Srt lt p a m) (hl:∀ k,a≤k→k<i→lt (p k) (p m)) (hr:∀ k,i≤k→k<m→lt (p m) (p k)) :
 Sym.Srt lt (fun k=>p (Sym.rot i m (m+1) k)) a (m+1)∧Sym.Re a (m+1) p (fun k=>p (Sym.rot i m (m+1) k)):=by
 have r1:∀ k,i<k→k≤m→Sym.rot i m (m+1) k=k-1:=fun k h3 h4=>by
  unfold Sym.rot;repeat' split
  all_goals omega
 have r2:Sym.rot i m (m+1) i=m:=by
  unfold Sym.rot;repeat' split
  all_goals omega
 have r3:∀ k,k<i→Sym.rot i m (m+1) k=k:=fun k h3=>by
  unfold Sym.rot;repeat' split
  all_goals omega
 refine ⟨fun x y h3 h4 h5=>?_,(Sym.Re.rots p him (by omega)).mono hai (Nat.le_refl _)⟩
 show lt (p (Sym.rot i m (m+1) x)) (p (Sym.rot i m (m+1) y))
 by_cases c1:x<i
 ·rw [r3 x c1]
  by_cases c2:y<i
  ·rw [r3 y c2];exact h1 _ _ (by omega) (by omega) (by omega)
  ·by_cases c3:y=i
   ·rw [c3,r2];exact hl _ h3 c1
   ·rw [r1 y (by omega) (by omega)];exact h1 _ _ (by omega) (by omega) (by omega)
 ·by_cases c3:x=i
  ·rw [c3,r2,r1 y (by omega) (by omega)];exact hr _ (by omega) (by omega)
  ·rw [r1 x (by omega) (by omega),r1 y (by omega) (by omega)];exact h1 _ _ (by omega) (by omega) (by omega)
set_option maxRecDepth 1000000 in
theorem zjH (x0:Nat→RecD) (enc:Nat→List Value) (p:Nat→Nat) (N blk cap lo hi:Nat) (w:World) (V:RowsV x0 enc N blk cap lo hi w p) (hlo:hi≤lo) (hN:N<1000000000) (a m b:Nat) (ham:a<m) (hmb:m<b) (hb:b≤N) (htag:∀ i j,a≤i→i<m→m≤j→j<b→p i<p j) (hs1:Sym.Srt (numL x0) p a m) (hs2:Sym.Srt (numL x0) p m b) (h0:m≠a+1) (h1:b=m+1) :
 Calls Tryz.prog 153 #[.slice (some ⟨blk,0,none⟩) N cap,.int .i64 a,.int .i64 m,.int .i64 b,.func (.func 148) #[] #[]] w (fun e w'=>e=.returned (.tuple #[])∧∃ q,RowsV x0 enc N blk cap lo hi w' q∧Sym.Re a b p q∧Sym.Srt (numL x0) q a b∧ChgL [blk] w w'):=by
 have HV0:=hid V;have HT:=hid htag;have HS1:=hid hs1;have HM:=hid h1;obtain ⟨D,hD⟩:∃ D,D=m-a:=⟨_,rfl⟩
 have w0:IntKind.i64.wrap ((m:Int)-(a:Int))=(D:Int):=by rw [IntKind.wrap_i64];omega
 have d0:((D:Int)==1)=false:=by simp;omega
 have w9:IntKind.i64.wrap ((b:Int)-(m:Int))=1:=by rw [IntKind.wrap_i64];omega
 clear V htag hs1 hs2 h0 h1 hD
 go_enter Tryz.func153,Tryz.ntmps153
 go_wp2
 go_loopw [14,15] (fun vi vj wr=>∃ (i j:Nat),a≤i∧i≤j∧j≤m∧vi=.int .i64 i∧vj=.int .i64 j∧RowsV x0 enc N blk cap lo hi wr p∧(∀ k,a≤k→k<i→numL x0 (p k) (p m))∧(∀ k,j≤k→k<m→numL x0 (p m) (p k))∧ChgL [blk] w wr) (fun vi vj _=>(intOf vj).toNat-(intOf vi).toNat)
 case atStart=>exact ⟨a,m,Nat.le_refl _,by omega,Nat.le_refl _,by go_num,by go_num,HV0.out,fun k h1 h2=>by omega,fun k h1 h2=>by omega,ChgL.refl _ _⟩
 case round=>
  obtain ⟨i,j,hmi,hij,hjb,rfl,rfl,V,hL,hR,C⟩:=hrel;have HC:=hid C;have HL:=hid hL;have HR:=hid hR;have HV:=hid V;clear C hL hR w0 w9 d0
  by_cases hlt:i<j
  ·have t1:(i:Int)<(j:Int):=by omega
   obtain ⟨B,hB⟩:∃ B,B=(i+j)/2:=⟨_,rfl⟩
   have w1:IntKind.i64.wrap ((i:Int)+(j:Int))=((i+j:Nat):Int):=by rw [IntKind.wrap_i64];omega
   have e1:((i:Int)+(j:Int))/2=(B:Int):=by omega
   have hBi:i≤B:=by omega
   have hBj:B<j:=by omega
   have hAN:m<N:=by omega
   have hBN:B<N:=by omega
   have i1:(m:Int)<(N:Int):=by omega
   have i2:(B:Int)<(N:Int):=by omega
   have i3:(0:Int)≤(m:Int):=by omega
   have i4:(0:Int)≤(B:Int):=by omega
   have hsz:=(V.row.lt blk rfl);have VD:=View.drew V;have rgA:wr.drew.rangeAt blk (m*9) (enc (p m)):=VD.range hAN;have rgB:wr.drew.rangeAt blk (B*9) (enc (p B)):=VD.range hBN;have hsA:(enc (p m)).length=9:=VD.lens m hAN;have hsB:(enc (p B)).length=9:=VD.lens B hBN;have rdA:=VD.each m hAN;have rdB:=VD.each B hBN;obtain ⟨cA,hcA⟩:∃ c,c=enc (p m):=⟨_,rfl⟩;obtain ⟨cB,hcB⟩:∃ c,c=enc (p B):=⟨_,rfl⟩;rw [← hcA] at rgA hsA;rw [← hcB] at rgB hsB;have CC0:=zcf _ _ _ _ hi hi wr.drew rdA rdB;rw [← hcA,← hcB] at CC0;obtain ⟨c,hc⟩:∃ c:Int,c=numC (x0 (p m)) (x0 (p B)):=⟨_,rfl⟩;rw [← hc] at CC0;have HCN:=hid hc
   have CC:Calls Tryz.prog 148 (#[.agg cA.toArray,.agg cB.toArray]++#[]) wr.drew fun e w'=>e=.returned (.int .i64 c)∧Below wr.drew.heap.size wr.drew w':=by rw [Array.append_empty];exact CC0
   have HVD:=hid VD;clear CC0 hc hcA hcB rdA rdB hB VD V HV
   go_upto_region 17 with fail
   try rw [e1]
   refine zai 9 (fun w'=>w'.rangeAt blk (m*9) cA∧w'.rangeAt blk (B*9) cB) zbb ⟨rgA,rgB⟩ (fun hHeld=>?_);refine zmS 0 rfl ?_
   try simp only [Act.put,SL]
   refine zmS 1 rfl ?_
   try simp only [Act.put,SL]
   refine zmS 2 rfl ?_
   try simp only [Act.put,SL]
   refine zmS 3 rfl ?_
   try simp only [Act.put,SL]
   refine zac (i:=4) (oi:=_) 16 rfl (by kernel_rfl) (fun _ _ _ h=>h) (yieldsIf_load_mid (by kernel_rfl) 52 (.tmp 95) rfl blk (m*9) (by simp [Act.eval,Act.put]) cA _ (fun w h=>h.1) Tryz.underlying52 rfl (zae hsA)) (by assumption) ?_
   try simp only [Act.put,SL]
   refine zmS 5 rfl ?_
   try simp only [Act.put,SL]
   refine zmS 6 rfl ?_
   try simp only [Act.put,SL]
   refine zmS 7 rfl ?_
   try simp only [Act.put,SL]
   refine zac (i:=8) (oi:=_) 16 rfl (by kernel_rfl) (fun _ _ _ h=>h) (yieldsIf_load_mid (by kernel_rfl) 52 (.tmp 99) rfl blk (B*9) (by simp [Act.eval,Act.put]) cB _ (fun w h=>h.2) Tryz.underlying52 rfl (zae hsB)) (by assumption) ?_
   try simp only [Act.put,SL]
   refine zaj (i:=9) (o:=_) rfl (by kernel_rfl) (by kernel_rfl) (fun KC hKC=>?_);refine zaH (by kernel_rfl) (.tmp 92) 148 #[] _ _ rfl (by simp [Act.eval,Act.put]) #[.agg cA.toArray,.agg cB.toArray] (by simp [Act.eval,Act.put]) Tryz.func148 (by kernel_rfl) (by kernel_rfl) CC ?_;rintro ee w5 ⟨rfl,b5⟩;refine ⟨_,rfl,?_⟩;refine hKC _ _ ?_;clear hKC KC
   try simp only [Act.put,SL]
   refine zmD 10 (v:=?_) rfl ?_ ?_
   rotate_left
   ·intro w' hSw;go_simp;try with_reducible rfl
   try simp only [Act.put,SL]
   obtain ⟨dd,hdd⟩:∃ d:Bool,d=decide (c<0):=⟨_,rfl⟩;have HDD:=hid hdd;rw [← hdd];clear hdd;refine zmD 11 (v:=?_) rfl ?_ ?_
   rotate_left
   ·intro w' hSw;go_simp;try with_reducible rfl
   try simp only [Act.put,SL]
   refine zaf (by kernel_rfl) ?_ _;have HV5:Hid (RowsV x0 enc N blk cap lo hi w5 p):=View.below HVD.out b5 (by show hi≤wr.heap.size;omega);have HC5:Hid (ChgL [blk] w w5):=HC.out.trans ((ChgL.of_below ⟨rfl,rfl,rfl,Nat.le_refl _,fun _ _=>rfl⟩:ChgL [blk] wr wr.drew).trans (ChgL.of_below b5));clear HVD HC rgA rgB hsA hsB b5 hHeld CC hsz
   cases dd
   ·go_wp2
    go_roundw
    case rel=>
     refine ⟨B+1,j,by omega,by omega,by omega,by go_num,rfl,HV5.out,fun k k1 k2=>?_,HR.out,HC5.out⟩
     have h2:¬ c<0:=by simpa using HDD.out
     rw [HCN.out] at h2;have h3:=zhe (HT.out B m (by omega) (by omega) (Nat.le_refl _) (by omega)) h2
     by_cases ck:k=B
     ·rw [ck];exact h3
     ·exact (zbA x0).trans (HS1.out k B k1 (by omega) (by omega)) h3
    case measure=>simp [intOf];omega
   ·go_wp2
    go_roundw
    case rel=>
     refine ⟨i,B,hmi,hBi,by omega,rfl,by go_num,HV5.out,HL.out,fun k k1 k2=>?_,HC5.out⟩
     have h2:c<0:=by simpa using HDD.out
     rw [HCN.out] at h2;have h3:=zfc h2
     by_cases ck:k=B
     ·rw [ck];exact h3
     ·exact (zbA x0).trans h3 (HS1.out B k (by omega) (by omega) k2)
    case measure=>simp [intOf];omega
  ·obtain rfl:i=j:=by omega
   clear V hij;go_wp2
   go_loopw [17] (fun vk wr=>∃ k:Nat,i≤k∧k≤m∧vk=.int .i64 k∧RowsV x0 enc N blk cap lo hi wr (fun x=>p (Sym.rot k m (m+1) x))∧ChgL [blk] w wr) (fun vk _=>(intOf vk).toNat)
   case atStart=>exact ⟨m,hjb,Nat.le_refl _,by go_num,HV.out.same (fun x _=>by rw [zhi]),HC.out⟩
   case round=>
    obtain ⟨A,haA,hAe,rfl,V,C⟩:=hrel;have HCr:=hid C;clear C
    by_cases hlt:i<A
    ·have t2:(i:Int)<(A:Int):=by omega
     obtain ⟨q,hq⟩:∃ q:Nat→Nat,q=fun x=>p (Sym.rot A m (m+1) x):=⟨_,rfl⟩;have HQ:=hid hq
     have VQ:RowsV x0 enc N blk cap lo hi wr q:=by rw [hq];exact V
     obtain ⟨B,hB⟩:∃ B,A=B+1:=⟨A-1,by omega⟩;have HAB:=hid hB
     have hAN:A<N:=by omega
     have hBN:B<N:=by omega
     have w4:IntKind.i64.wrap ((A:Int)-1)=(B:Int):=by rw [IntKind.wrap_i64];omega
     have i1:(A:Int)<(N:Int):=by omega
     have i2:(B:Int)<(N:Int):=by omega
     have i3:(0:Int)≤(A:Int):=by omega
     have i4:(0:Int)≤(B:Int):=by omega
     have VD:=View.drew VQ;have rgA:wr.drew.rangeAt blk (A*9) (enc (q A)):=VD.range hAN;have rgB:wr.drew.rangeAt blk (B*9) (enc (q B)):=VD.range hBN;have hsA:(enc (q A)).length=9:=VD.lens A hAN;have hsB:(enc (q B)).length=9:=VD.lens B hBN
     have th1:wr.drew.there blk (A*9) (enc (q B)).length:=by rw [hsB];exact VD.there hAN
     have th2:(wr.drew.setCells blk (A*9) (enc (q B))).there blk (B*9) (enc (q A)).length:=by rw [hsA];exact (VD.put (by decide) hlo hAN (VD.each B hBN)).there hBN
     have oneA:=zaA _ _ _ _ (VD.each A hAN);have oneB:=zaA _ _ _ _ (VD.each B hBN);have SW:=zcv VD hlo hAN hBN;have HSW:=hid SW.1;have HSC:Hid (ChgL [blk] wr ((wr.drew.setCells blk (A*9) (enc (q B))).setCells blk (B*9) (enc (q A)))):=(ChgL.of_below ⟨rfl,rfl,rfl,Nat.le_refl _,fun _ _=>rfl⟩:ChgL [blk] wr wr.drew).trans SW.2;obtain ⟨cA,hcA⟩:∃ c,c=enc (q A):=⟨_,rfl⟩;obtain ⟨cB,hcB⟩:∃ c,c=enc (q B):=⟨_,rfl⟩;rw [← hcA] at rgA th2 hsA oneA HSW HSC;rw [← hcB] at rgB th1 th2 hsB oneB HSW HSC;clear hcA hcB VD SW;clear hq hB V VQ
     go_upto_region 23 with fail
     refine zai 15 (fun w'=>w'.rangeAt blk (A*9) cA∧w'.rangeAt blk (B*9) cB) zbb ⟨rgA,rgB⟩ (fun hHeld=>?_);refine zaa (i:=0) (oi:=_) (v:=?_) rfl (by kernel_rfl) (fun _ _ _ h=>h) (Or.inl ⟨by rfl,?_⟩) (by assumption) ?_
     rotate_left
     ·intro w' hSw;go_simp;try with_reducible rfl
     try simp only [Act.put,SL]
     refine zaa (i:=1) (oi:=_) (v:=?_) rfl (by kernel_rfl) (fun _ _ _ h=>h) (Or.inl ⟨by rfl,?_⟩) (by assumption) ?_
     rotate_left
     ·intro w' hSw;go_simp;try with_reducible rfl
     try simp only [Act.put,SL]
     refine zaa (i:=2) (oi:=_) (v:=?_) rfl (by kernel_rfl) (fun _ _ _ h=>h) (Or.inl ⟨by rfl,?_⟩) (by assumption) ?_
     rotate_left
     ·intro w' hSw;go_simp;try with_reducible rfl
     try simp only [Act.put,SL]
     refine zaa (i:=3) (oi:=_) (v:=?_) rfl (by kernel_rfl) (fun _ _ _ h=>h) (Or.inl ⟨by rfl,?_⟩) (by assumption) ?_
     rotate_left
     ·intro w' hSw;go_simp;try with_reducible rfl
     try simp only [Act.put,SL]
     refine zaa (i:=4) (oi:=_) (v:=?_) rfl (by kernel_rfl) (fun _ _ _ h=>h) (Or.inl ⟨by rfl,?_⟩) (by assumption) ?_
     rotate_left
     ·intro w' hSw;go_simp;try with_reducible rfl
     try simp only [Act.put,SL]
     refine zaa (i:=5) (oi:=_) (v:=?_) rfl (by kernel_rfl) (fun _ _ _ h=>h) (Or.inl ⟨by rfl,?_⟩) (by assumption) ?_
     rotate_left
     ·intro w' hSw;go_simp;try with_reducible rfl
     try simp only [Act.put,SL]
     refine zaa (i:=6) (oi:=_) (v:=?_) rfl (by kernel_rfl) (fun _ _ _ h=>h) (Or.inl ⟨by rfl,?_⟩) (by assumption) ?_
     rotate_left
     ·intro w' hSw;go_simp;try with_reducible rfl
     try simp only [Act.put,SL]
     refine zaa (i:=7) (oi:=_) (v:=?_) rfl (by kernel_rfl) (fun _ _ _ h=>h) (Or.inl ⟨by rfl,?_⟩) (by assumption) ?_
     rotate_left
     ·intro w' hSw;go_simp;try with_reducible rfl
     try simp only [Act.put,SL]
     refine zaa (i:=8) (oi:=_) (v:=?_) rfl (by kernel_rfl) (fun _ _ _ h=>h) (Or.inl ⟨by rfl,?_⟩) (by assumption) ?_
     rotate_left
     ·intro w' hSw;go_simp;try with_reducible rfl
     try simp only [Act.put,SL]
     refine zac (i:=9) (oi:=_) 16 rfl (by kernel_rfl) (fun _ _ _ h=>h) (yieldsIf_load_mid (by rfl) 52 (.tmp 121) rfl blk (B*9) (by simp [Act.eval,Act.put]) cB _ (fun w h=>h.2) Tryz.underlying52 rfl (zae hsB)) (by assumption) ?_
     try simp only [Act.put,SL]
     refine zaa (i:=10) (oi:=_) (v:=?_) rfl (by kernel_rfl) (fun _ _ _ h=>h) (Or.inl ⟨by rfl,?_⟩) (by assumption) ?_
     rotate_left
     ·intro w' hSw;go_simp;try with_reducible rfl
     try simp only [Act.put,SL]
     refine zaa (i:=11) (oi:=_) (v:=?_) rfl (by kernel_rfl) (fun _ _ _ h=>h) (Or.inl ⟨by rfl,?_⟩) (by assumption) ?_
     rotate_left
     ·intro w' hSw;go_simp;try with_reducible rfl
     try simp only [Act.put,SL]
     refine zaa (i:=12) (oi:=_) (v:=?_) rfl (by kernel_rfl) (fun _ _ _ h=>h) (Or.inl ⟨by rfl,?_⟩) (by assumption) ?_
     rotate_left
     ·intro w' hSw;go_simp;try with_reducible rfl
     try simp only [Act.put,SL]
     refine zac (i:=13) (oi:=_) 16 rfl (by kernel_rfl) (fun _ _ _ h=>h) (yieldsIf_load_mid (by rfl) 52 (.tmp 125) rfl blk (A*9) (by simp [Act.eval,Act.put]) cA _ (fun w h=>h.1) Tryz.underlying52 rfl (zae hsA)) (by assumption) ?_
     try simp only [Act.put,SL]
     refine zaa (i:=14) (oi:=_) (v:=?_) rfl (by kernel_rfl) (fun _ _ _ h=>h) (Or.inl ⟨by rfl,?_⟩) (by assumption) ?_
     rotate_left
     ·intro w' hSw;go_simp;try with_reducible rfl
     try simp only [Act.put,SL]
     refine zaR (i:=15) rfl (by kernel_rfl) (by kernel_rfl) rfl rfl 52 (.tmp 127) (.tmp 122) rfl blk (A*9) cB (by simp [Act.eval]) (by simp [Act.eval]) th1 (zae hsB) oneB ?_;refine zad (i:=16) (oi:=_) (v:=?_) rfl (by kernel_rfl) (fun _ _ _ h=>h) (Or.inl ⟨by rfl,?_⟩) ?_
     rotate_left
     ·intro w' hSw;go_simp;try with_reducible rfl
     try simp only [Act.put,SL]
     refine zaR (i:=17) rfl (by kernel_rfl) (by kernel_rfl) rfl rfl 52 (.tmp 128) (.tmp 126) rfl blk (B*9) cA (by simp [Act.eval]) (by simp [Act.eval]) th2 (zae hsA) oneA ?_;refine zaf (by kernel_rfl) ?_ _;go_wp2
     go_roundw
     case rel=>
      have hAB:=HAB.out
      have e9:∀ x,q (Sym.swp A B x)=p (Sym.rot B m (m+1) x):=fun x=>by
       rw [HQ.out,hAB]
       show p (Sym.rot (B+1) m (m+1) (Sym.swp (B+1) B x))=_
       rw [zhh m B x (by omega)]
      exact ⟨B,by omega,by omega,by go_num,HSW.out.same (fun x _=>e9 x),HCr.out.trans HSC.out⟩
     case measure=>have hAB:=HAB.out;simp [intOf];omega
    ·obtain rfl:A=i:=by omega
     have HVA:=hid V;clear V;go_wp2;refine bodyPost_ret (results_none rfl _ _ _) rfl ?_;have M:=zma (p:=p) (a:=a) (m:=m) (i:=A) hmi (by omega) HS1.out (fun k h3 h4=>HL.out k h3 h4) (fun k h3 h4=>HR.out k h3 h4);rw [← HM.out] at M;exact ⟨rfl,_,by rw [← HM.out] at HVA;exact HVA.out,M.2,M.1,HCr.out⟩
theorem zjI (p q:Prop) [Decidable p] [Decidable q]:(p∧q)∨(p∧¬ q)∨¬ p:=by
 by_cases h:p
 ·by_cases k:q
  ·exact .inl ⟨h,k⟩
  ·exact .inr (.inl ⟨h,k⟩)
 ·exact .inr (.inr h)
theorem dT {x y:Nat} (h:x<y):decide ((x:Int)<(y:Int))=true:=decide_eq_true (by omega)
theorem dN {x y:Nat} (h:x<y):decide (x<y)=true:=decide_eq_true h
theorem dF {x y:Nat} (h:¬ x<y):decide ((x:Int)<(y:Int))=false:=decide_eq_false (by omega)
theorem dM {x y:Nat} (h:¬ x<y):decide (x<y)=false:=decide_eq_false h
theorem zkO (m e x:Nat):Sym.rot m m e x=x:=by
 unfold Sym.rot
 repeat' split
 all_goals omega
theorem zkP (s m x:Nat):Sym.rot s m m x=x:=by
 unfold Sym.rot
 repeat' split
 all_goals omega
theorem zmV {s m e x:Nat} (h:x<s):Sym.rot s m e x=x:=by
 unfold Sym.rot
 repeat' split
 all_goals omega
theorem zmW {s m e x:Nat} (h:e≤x):Sym.rot s m e x=x:=by
 unfold Sym.rot
 repeat' split
 all_goals omega
theorem zmX {s m e mid x:Nat} (hm:mid+m=s+e) (h1:s≤m) (h2:m≤e) (h3:s≤x) (h4:x<mid):m≤Sym.rot s m e x∧Sym.rot s m e x<e:=by
 unfold Sym.rot
 repeat' split
 all_goals omega
theorem zmY {s m e mid x:Nat} (hm:mid+m=s+e) (h1:s≤m) (h2:m≤e) (h3:mid≤x) (h4:x<e):s≤Sym.rot s m e x∧Sym.rot s m e x<m:=by
 unfold Sym.rot
 repeat' split
 all_goals omega
set_option maxRecDepth 1000000 in
theorem zfQ (x0:Nat→RecD) (enc:Nat→List Value) (p:Nat→Nat) (N blk cap lo hi:Nat) (w:World) (V:RowsV x0 enc N blk cap lo hi w p) (hlo:hi≤lo) (hN:N<1000000000) (a m b mid:Nat) (ham:a<m) (hmb:m<b) (hb:b≤N) (htag:∀ i j,a≤i→i<m→m≤j→j<b→p i<p j) (hs1:Sym.Srt (numL x0) p a m) (hs2:Sym.Srt (numL x0) p m b) (h0:m≠a+1) (h1:b≠m+1) (hmid:mid=(a+b)/2) (hx:mid<m∨m≤mid) (IH:∀ (p':Nat→Nat) (w':World) (a' m' b':Nat),b'-a'<b-a→RowsV x0 enc N blk cap lo hi w' p'→a'<m'→m'<b'→b'≤N→(∀ i j,a'≤i→i<m'→m'≤j→j<b'→p' i<p' j)→Sym.Srt (numL x0) p' a' m'→Sym.Srt (numL x0) p' m' b'→Calls Tryz.prog 153 #[.slice (some ⟨blk,0,none⟩) N cap,.int .i64 a',.int .i64 m',.int .i64 b',.func (.func 148) #[] #[]] w' (fun e w''=>e=.returned (.tuple #[])∧∃ q,RowsV x0 enc N blk cap lo hi w'' q∧Sym.Re a' b' p' q∧Sym.Srt (numL x0) q a' b'∧ChgL [blk] w' w'')) :
 Calls Tryz.prog 153 #[.slice (some ⟨blk,0,none⟩) N cap,.int .i64 a,.int .i64 m,.int .i64 b,.func (.func 148) #[] #[]] w (fun e w'=>e=.returned (.tuple #[])∧∃ q,RowsV x0 enc N blk cap lo hi w' q∧Sym.Re a b p q∧Sym.Srt (numL x0) q a b∧ChgL [blk] w w'):=by
 have HV0:=hid V;have HT:=hid htag;have HS1:=hid hs1;have HS2:=hid hs2;have HIH:=hid IH;have HMID:=hid hmid;obtain ⟨D,hD⟩:∃ D,D=m-a:=⟨_,rfl⟩
 have w0:IntKind.i64.wrap ((m:Int)-(a:Int))=(D:Int):=by rw [IntKind.wrap_i64];omega
 have d0:((D:Int)==1)=false:=by simp;omega
 obtain ⟨E,hE⟩:∃ E,E=b-m:=⟨_,rfl⟩
 have w9:IntKind.i64.wrap ((b:Int)-(m:Int))=(E:Int):=by rw [IntKind.wrap_i64];omega
 have d9:((E:Int)==1)=false:=by simp;omega
 have w1:IntKind.i64.wrap ((a:Int)+(b:Int))=((a+b:Nat):Int):=by rw [IntKind.wrap_i64];omega
 have e1:((a:Int)+(b:Int))/2=(mid:Int):=by omega
 obtain ⟨n,hn⟩:∃ n,n=mid+m:=⟨_,rfl⟩
 have w2:IntKind.i64.wrap ((mid:Int)+(m:Int))=(n:Int):=by rw [IntKind.wrap_i64];omega
 obtain ⟨P,hP⟩:∃ P,n=P+1:=⟨n-1,by omega⟩
 have w3:IntKind.i64.wrap ((n:Int)-1)=(P:Int):=by rw [IntKind.wrap_i64];omega
 obtain ⟨S0,R0,hSR⟩:∃ S0 R0:Nat,(mid<m∧S0=n-b∧R0=mid)∨(¬ mid<m∧S0=a∧R0=m):=by
  rcases hx with h | h
  ·exact ⟨_,_,.inl ⟨h,rfl,rfl⟩⟩
  ·exact ⟨_,_,.inr ⟨by omega,rfl,rfl⟩⟩
 have F:a≤S0∧n≤S0+b∧(S0=a∨n=S0+b)∧S0≤R0∧R0≤m∧R0≤mid∧(R0=m∨R0=mid):=by omega
 have HF:=hid F;have HN:Hid (n=mid+m∧n=P+1):=⟨hn,hP⟩;have HSR:=hid hSR;clear V htag hs1 hs2 h0 h1 hD hE IH hmid hn hP F
 rcases hSR with ⟨hx1,hS0,hR0⟩ | ⟨hx1,hS0,hR0⟩
 all_goals
  first
  | (
   have x4:(mid:Int)<(m:Int):=by exact Int.ofNat_lt.mpr (hx1:mid<m)
   have x5:IntKind.i64.wrap ((n:Int)-(b:Int))=(S0:Int):=by rw [IntKind.wrap_i64];have:=HN.out;have:=HF.out;omega
   have HSX:Hid (S0=n-b∧R0=mid):=⟨hS0,hR0⟩)
  | (
   have x4:=dF (hx1:¬ mid<m);have x5:=dM (hx1:¬ mid<m)
   have HSX:Hid (S0=a∧R0=m):=⟨hS0,hR0⟩)
  clear hx1 hS0 hR0
  go_enter Tryz.func153,Tryz.ntmps153
  go_wp2
  go_loopw [20,21] (fun vi vj wr=>∃ (i j:Nat),S0≤i∧i≤j∧j≤R0∧vi=.int .i64 i∧vj=.int .i64 j∧RowsV x0 enc N blk cap lo hi wr p∧(i=S0∨numL x0 (p (i-1)) (p (n-i)))∧(j=R0∨numL x0 (p (P-j)) (p j))∧ChgL [blk] w wr) (fun vi vj _=>(intOf vj).toNat-(intOf vi).toNat)
  case atStart=>exact ⟨S0,R0,Nat.le_refl _,HF.out.2.2.2.1,Nat.le_refl _,by have:=HSX.out;go_num,by have:=HSX.out;go_num,HV0.out,.inl rfl,.inl rfl,ChgL.refl _ _⟩
  case round=>
   obtain ⟨i,j,hmi,hij,hjb,rfl,rfl,V,hL,hR,C⟩:=hrel;have HC:=hid C;have HL:=hid hL;have HR:=hid hR;have HV:=hid V;clear C hL hR w0 w9 d0 d9 w1 e1 w2 w3
   by_cases hlt:i<j
   ·have t1:(i:Int)<(j:Int):=by omega
    obtain ⟨B,hB⟩:∃ B,B=(i+j)/2:=⟨_,rfl⟩
    have w1:IntKind.i64.wrap ((i:Int)+(j:Int))=((i+j:Nat):Int):=by rw [IntKind.wrap_i64];have:=HF.out;omega
    have e1:((i:Int)+(j:Int))/2=(B:Int):=by omega
    have hBi:i≤B:=by omega
    have hBj:B<j:=by omega
    obtain ⟨A,hA⟩:∃ A,A=P-B:=⟨_,rfl⟩;have hF:=HF.out;have hNN:=HN.out;have hMID:=HMID.out
    have hAm:m≤A∧A<b:=by omega
    have HAP:Hid (A+B=P):=(by omega:A+B=P)
    have w4:IntKind.i64.wrap ((P:Int)-(B:Int))=(A:Int):=by rw [IntKind.wrap_i64];omega
    have hAN:A<N:=by omega
    have hBN:B<N:=by omega
    have i1:(A:Int)<(N:Int):=by omega
    have i2:(B:Int)<(N:Int):=by omega
    have i3:(0:Int)≤(A:Int):=by omega
    have i4:(0:Int)≤(B:Int):=by omega
    have hsz:=(V.row.lt blk rfl);have HTG:Hid (p B<p A):=HT.out B A (by omega) (by omega) (by omega) (by omega);have VD:=View.drew V;have rgA:wr.drew.rangeAt blk (A*9) (enc (p A)):=VD.range hAN;have rgB:wr.drew.rangeAt blk (B*9) (enc (p B)):=VD.range hBN;have hsA:(enc (p A)).length=9:=VD.lens A hAN;have hsB:(enc (p B)).length=9:=VD.lens B hBN;have rdA:=VD.each A hAN;have rdB:=VD.each B hBN;obtain ⟨cA,hcA⟩:∃ c,c=enc (p A):=⟨_,rfl⟩;obtain ⟨cB,hcB⟩:∃ c,c=enc (p B):=⟨_,rfl⟩;rw [← hcA] at rgA hsA;rw [← hcB] at rgB hsB;have CC0:=zcf _ _ _ _ hi hi wr.drew rdA rdB;rw [← hcA,← hcB] at CC0;obtain ⟨c,hc⟩:∃ c:Int,c=numC (x0 (p A)) (x0 (p B)):=⟨_,rfl⟩;rw [← hc] at CC0;have HCN:=hid hc
    have CC:Calls Tryz.prog 148 (#[.agg cA.toArray,.agg cB.toArray]++#[]) wr.drew fun e w'=>e=.returned (.int .i64 c)∧Below wr.drew.heap.size wr.drew w':=by rw [Array.append_empty];exact CC0
    have HVD:=hid VD;clear CC0 hc hcA hcB rdA rdB hB hA hF hNN hMID VD V HV
    go_upto_region 35 with fail
    try rw [e1]
    refine zai 11 (fun w'=>w'.rangeAt blk (A*9) cA∧w'.rangeAt blk (B*9) cB) zbb ⟨rgA,rgB⟩ (fun hHeld=>?_);refine zmS 0 rfl ?_
    try simp only [Act.put,SL]
    refine zmS 1 rfl ?_
    try simp only [Act.put,SL]
    refine zmS 2 rfl ?_
    try simp only [Act.put,SL]
    refine zmS 3 rfl ?_
    try simp only [Act.put,SL]
    refine zmS 4 rfl ?_
    try simp only [Act.put,SL]
    refine zmS 5 rfl ?_
    try simp only [Act.put,SL]
    refine zac (i:=6) (oi:=_) 16 rfl (by kernel_rfl) (fun _ _ _ h=>h) (yieldsIf_load_mid (by kernel_rfl) 52 (.tmp 163) rfl blk (A*9) (by simp [Act.eval,Act.put]) cA _ (fun w h=>h.1) Tryz.underlying52 rfl (zae hsA)) (by assumption) ?_
    try simp only [Act.put,SL]
    refine zmS 7 rfl ?_
    try simp only [Act.put,SL]
    refine zmS 8 rfl ?_
    try simp only [Act.put,SL]
    refine zmS 9 rfl ?_
    try simp only [Act.put,SL]
    refine zac (i:=10) (oi:=_) 16 rfl (by kernel_rfl) (fun _ _ _ h=>h) (yieldsIf_load_mid (by kernel_rfl) 52 (.tmp 167) rfl blk (B*9) (by simp [Act.eval,Act.put]) cB _ (fun w h=>h.2) Tryz.underlying52 rfl (zae hsB)) (by assumption) ?_
    try simp only [Act.put,SL]
    refine zaj (i:=11) (o:=_) rfl (by kernel_rfl) (by kernel_rfl) (fun KC hKC=>?_);refine zaH (by kernel_rfl) (.tmp 158) 148 #[] _ _ rfl (by simp [Act.eval,Act.put]) #[.agg cA.toArray,.agg cB.toArray] (by simp [Act.eval,Act.put]) Tryz.func148 (by kernel_rfl) (by kernel_rfl) CC ?_;rintro ee w5 ⟨rfl,b5⟩;refine ⟨_,rfl,?_⟩;refine hKC _ _ ?_;clear hKC KC
    try simp only [Act.put,SL]
    refine zmD 12 (v:=?_) rfl ?_ ?_
    rotate_left
    ·intro w' hSw;go_simp;try with_reducible rfl
    try simp only [Act.put,SL]
    obtain ⟨dd,hdd⟩:∃ d:Bool,d=decide (c<0):=⟨_,rfl⟩;have HDD:=hid hdd;rw [← hdd];clear hdd;refine zmD 13 (v:=?_) rfl ?_ ?_
    rotate_left
    ·intro w' hSw;go_simp;try with_reducible rfl
    try simp only [Act.put,SL]
    refine zaf (by kernel_rfl) ?_ _;have HV5:Hid (RowsV x0 enc N blk cap lo hi w5 p):=View.below HVD.out b5 (by show hi≤wr.heap.size;omega);have HC5:Hid (ChgL [blk] w w5):=HC.out.trans ((ChgL.of_below ⟨rfl,rfl,rfl,Nat.le_refl _,fun _ _=>rfl⟩:ChgL [blk] wr wr.drew).trans (ChgL.of_below b5));clear HVD HC rgA rgB hsA hsB b5 hHeld CC hsz
    cases dd
    ·go_wp2
     go_roundw
     case rel=>
      refine ⟨B+1,j,by omega,by omega,by omega,by go_num,rfl,HV5.out,.inr ?_,HR.out,HC5.out⟩
      have h2:¬ c<0:=by simpa using HDD.out
      rw [HCN.out] at h2;rw [show B+1-1=B by omega,show n-(B+1)=A by have h8:=HN.out;have h9:=HAP.out;omega];exact zhe HTG.out h2
     case measure=>simp [intOf];omega
    ·go_wp2
     go_roundw
     case rel=>
      refine ⟨i,B,hmi,hBi,by omega,rfl,by go_num,HV5.out,HL.out,.inr ?_,HC5.out⟩
      have h2:c<0:=by simpa using HDD.out
      rw [HCN.out] at h2;rw [show P-B=A by have h9:=HAP.out;omega];exact zfc h2
     case measure=>simp [intOf];omega
   ·obtain rfl:i=j:=by omega
    clear V hij;obtain ⟨e,he⟩:∃ e,e=n-i:=⟨_,rfl⟩;have hF:=HF.out;have hNN:=HN.out;have hMID:=HMID.out
    have hie:mid+m=i+e:=by omega
    have hae:a≤i∧i≤m∧m≤e∧e≤b∧i≤mid∧mid≤e:=by omega
    have w5:IntKind.i64.wrap ((n:Int)-(i:Int))=(e:Int):=by rw [IntKind.wrap_i64];omega
    have SP:=Sym.split (zbA x0) (p:=p) (a:=a) (m:=m) (b:=b) (s:=i) (e:=e) (mid:=mid) HS1.out HS2.out hie hae.1 hae.2.1 hae.2.2.1 hae.2.2.2.1 (fun h3 h4=>by
     rcases HL.out with h5 | h5
     ·omega
     ·rw [← he] at h5;exact h5) (fun h3 h4=>by
     rcases HR.out with h5 | h5
     ·omega
     ·rw [show P-i=e-1 by omega] at h5;exact h5)
    obtain ⟨q0,hq0⟩:∃ q0:Nat→Nat,q0=fun k=>p (Sym.rot i m e k):=⟨_,rfl⟩;have HQ0:=hid hq0;rw [← hq0] at SP;have HSa:=hid SP.1;have HSb:=hid SP.2.1;have HSc:=hid SP.2.2.1;have HSd:=hid SP.2.2.2.1;have HX:Hid (∀ x y,a≤x→x<mid→mid≤y→y<b→numL x0 (q0 x) (q0 y)):=(fun x y h3 h4 h5 h6=>by rw [hq0];exact SP.2.2.2.2 x y h3 h4 h5 h6:∀ x y,a≤x→x<mid→mid≤y→y<b→numL x0 (q0 x) (q0 y));have HRe0:Hid (Sym.Re a b p q0):=(by rw [hq0];exact (Sym.Re.rots p hae.2.1 hae.2.2.1).mono hae.1 hae.2.2.2.1:Sym.Re a b p q0);have HO:Hid (a≤mid∧mid≤b∧b≤N∧mid≤N∧a<mid∧mid<b∧e≤N):=⟨by omega,by omega,by omega,by omega,by omega,by omega,by omega⟩
    have HT2:Hid (∀ x y,a≤x→x<i→i≤y→y<mid→q0 x<q0 y):=(fun x y h3 h4 h5 h6=>by
     have h7:=zmX (e:=e) hie hae.2.1 hae.2.2.1 h5 h6;rw [hq0]
     show p (Sym.rot i m e x)<p (Sym.rot i m e y)
     rw [zmV h4]
     exact HT.out x _ h3 (by omega) h7.1 (by omega):∀ x y,a≤x→x<i→i≤y→y<mid→q0 x<q0 y)
    have HT3':Hid (∀ q1,Sym.Re a mid q0 q1→∀ x y,mid≤x→x<e→e≤y→y<b→q1 x<q1 y):=(fun q1 k x y h3 h4 h5 h6=>by
     have h7:=zmY (e:=e) hie hae.2.1 hae.2.2.1 h3 h4;rw [k.out (.inr h3),k.out (.inr (by omega)),hq0]
     show p (Sym.rot i m e x)<p (Sym.rot i m e y)
     rw [zmW h5]
     exact HT.out _ y (by omega) h7.2 (by omega) h6:∀ q1,Sym.Re a mid q0 q1→∀ x y,mid≤x→x<e→e≤y→y<b→q1 x<q1 y)
    have HT3:∀ {q1},Sym.Re a mid q0 q1→∀ x y,mid≤x→x<e→e≤y→y<b→q1 x<q1 y:=fun k=>HT3'.out _ k;have HL3:∀ {q1},Sym.Re a mid q0 q1→Sym.Srt (numL x0) q1 mid e:=fun k=>HSc.out.congr (fun x h3 h4=>k.out (.inr h3));have HL4:∀ {q1},Sym.Re a mid q0 q1→Sym.Srt (numL x0) q1 e b:=fun k=>HSd.out.congr (fun x h3 h4=>k.out (.inr (by omega)))
    have HN1:¬ (i<m∧m<e)→∀ x,p (Sym.rot i m e x)=p x:=fun h x=>by
     by_cases h3:i=m
     ·rw [h3,zkO]
     ·have h4:e=m:=by omega
      rw [h4,zkP]
    have HN2:¬ (a<i∧i<mid)→Sym.Srt (numL x0) q0 a mid:=fun h=>by
     by_cases h3:a=i
     ·rw [h3];exact HSb.out
     ·have h4:mid=i:=by omega
      rw [h4];exact HSa.out
    have HN3:∀ {q1},Sym.Re a mid q0 q1→¬ (mid<e∧e<b)→Sym.Srt (numL x0) q1 mid b:=fun k h=>by
     by_cases h3:mid=e
     ·rw [h3];rw [h3] at k;exact HSd.out.congr (fun x h3 h4=>k.out (.inr h3))
     ·have h4:b=e:=by omega
      rw [h4];exact HL3 k
    clear hF hNN hMID SP hq0 he
    rcases zjI (i<m) (m<e) with h | h | h
    all_goals first
     | (
      have HK1:=hid h;have f1:=dT h.1;have g1:=dN h.1;have u1:(i:Int)<(m:Int):=Int.ofNat_lt.mpr h.1;have f1b:=dT h.2;have g1b:=dN h.2;have u1b:(m:Int)<(e:Int):=Int.ofNat_lt.mpr h.2;clear h;have CS:=zfP x0 enc p N blk cap lo hi wr HV.out hlo hN i m e (.func (.func 148) #[] #[]) HK1.out.1 HK1.out.2 (by have h9:=HO.out;omega)
      go_wp2_with fail
      refine CS.mono ?_;rintro ee wv ⟨rfl,V6,C6⟩;have HV1:Hid (RowsV x0 enc N blk cap lo hi wv q0):=(by rw [HQ0.out];exact V6:RowsV x0 enc N blk cap lo hi wv q0);have HC1:=hid (HC.out.trans C6)
      clear V6 C6 CS)
     | (
      have HK1:Hid (¬ (i<m∧m<e)):=fun k=>h.2 k.2;have f1:=dT h.1;have g1:=dN h.1;have u1:(i:Int)<(m:Int):=Int.ofNat_lt.mpr h.1;have f1b:=dF h.2;have g1b:=dM h.2;clear h;obtain ⟨wv,rfl⟩:∃ y,y=wr:=⟨_,rfl⟩;have HV1:Hid (RowsV x0 enc N blk cap lo hi wv q0):=(HV.out.same (fun x _=>by rw [HQ0.out];exact (HN1 HK1.out x).symm):RowsV x0 enc N blk cap lo hi wv q0)
      have HC1:Hid (ChgL [blk] w wv):=HC.out)
     | (
      have HK1:Hid (¬ (i<m∧m<e)):=fun k=>h k.1;have f1:=dF h;have g1:=dM h;clear h;obtain ⟨wv,rfl⟩:∃ y,y=wr:=⟨_,rfl⟩;have HV1:Hid (RowsV x0 enc N blk cap lo hi wv q0):=(HV.out.same (fun x _=>by rw [HQ0.out];exact (HN1 HK1.out x).symm):RowsV x0 enc N blk cap lo hi wv q0)
      have HC1:Hid (ChgL [blk] w wv):=HC.out)
    all_goals rcases zjI (a<i) (i<mid) with h | h | h
    all_goals first
     | (
      have HK2:=hid h;have f2:=dT h.1;have g2:=dN h.1;have u2:(a:Int)<(i:Int):=Int.ofNat_lt.mpr h.1;have f2b:=dT h.2;have g2b:=dN h.2;have u2b:(i:Int)<(mid:Int):=Int.ofNat_lt.mpr h.2;clear h;have CS:=HIH.out q0 wv a i mid (by have h9:=HO.out;omega) HV1.out HK2.out.1 HK2.out.2 HO.out.2.2.2.1 HT2.out HSa.out HSb.out
      go_wp2_with fail
      refine CS.mono ?_;rintro ee wz ⟨rfl,q1,Vq,hRe1,hSo1,C7⟩;have HVq:=hid Vq;have HRe1:=hid hRe1;have HSo1:=hid hSo1;have HCq:=hid (HC1.out.trans C7)
      clear Vq hRe1 hSo1 C7 CS)
     | (
      have HK2:Hid (¬ (a<i∧i<mid)):=fun k=>h.2 k.2;have f2:=dT h.1;have g2:=dN h.1;have u2:(a:Int)<(i:Int):=Int.ofNat_lt.mpr h.1;have f2b:=dF h.2;have g2b:=dM h.2;clear h;obtain ⟨wz,rfl⟩:∃ y,y=wv:=⟨_,rfl⟩;obtain ⟨q1,hq1⟩:∃ q1,q1=q0:=⟨_,rfl⟩;have HVq:Hid (RowsV x0 enc N blk cap lo hi wz q1):=(by rw [hq1];exact HV1.out:RowsV x0 enc N blk cap lo hi wz q1);have HRe1:Hid (Sym.Re a mid q0 q1):=(by rw [hq1];exact Sym.Re.refl _ _ _:Sym.Re a mid q0 q1);have HSo1:Hid (Sym.Srt (numL x0) q1 a mid):=(by rw [hq1];exact HN2 HK2.out:Sym.Srt (numL x0) q1 a mid);have HCq:=hid HC1.out
      clear hq1)
     | (
      have HK2:Hid (¬ (a<i∧i<mid)):=fun k=>h k.1;have f2:=dF h;have g2:=dM h;clear h;obtain ⟨wz,rfl⟩:∃ y,y=wv:=⟨_,rfl⟩;obtain ⟨q1,hq1⟩:∃ q1,q1=q0:=⟨_,rfl⟩;have HVq:Hid (RowsV x0 enc N blk cap lo hi wz q1):=(by rw [hq1];exact HV1.out:RowsV x0 enc N blk cap lo hi wz q1);have HRe1:Hid (Sym.Re a mid q0 q1):=(by rw [hq1];exact Sym.Re.refl _ _ _:Sym.Re a mid q0 q1);have HSo1:Hid (Sym.Srt (numL x0) q1 a mid):=(by rw [hq1];exact HN2 HK2.out:Sym.Srt (numL x0) q1 a mid);have HCq:=hid HC1.out
      clear hq1)
    all_goals rcases zjI (mid<e) (e<b) with h | h | h
    all_goals first
     | (
      have HK3:=hid h;have f3:=dT h.1;have g3:=dN h.1;have u3:(mid:Int)<(e:Int):=Int.ofNat_lt.mpr h.1;have f3b:=dT h.2;have g3b:=dN h.2;have u3b:(e:Int)<(b:Int):=Int.ofNat_lt.mpr h.2;clear h;have CS:=HIH.out q1 wz mid e b (by have h9:=HO.out;omega) HVq.out HK3.out.1 HK3.out.2 HO.out.2.2.1 (HT3 HRe1.out) (HL3 HRe1.out) (HL4 HRe1.out)
      go_wp2_with fail
      refine CS.mono ?_;rintro ee wx ⟨rfl,r,Vr,hRe2,hSo2,C9⟩;have HVr:=hid Vr;have HRe2:=hid hRe2;have HSo2:=hid hSo2;have HCr:=hid (HCq.out.trans C9)
      clear Vr hRe2 hSo2 C9 CS)
     | (
      have HK3:Hid (¬ (mid<e∧e<b)):=fun k=>h.2 k.2;have f3:=dT h.1;have g3:=dN h.1;have u3:(mid:Int)<(e:Int):=Int.ofNat_lt.mpr h.1;have f3b:=dF h.2;have g3b:=dM h.2;clear h;obtain ⟨wx,rfl⟩:∃ y,y=wz:=⟨_,rfl⟩;obtain ⟨r,hr⟩:∃ r,r=q1:=⟨_,rfl⟩;have HVr:Hid (RowsV x0 enc N blk cap lo hi wx r):=(by rw [hr];exact HVq.out:RowsV x0 enc N blk cap lo hi wx r);have HRe2:Hid (Sym.Re mid b q1 r):=(by rw [hr];exact Sym.Re.refl _ _ _:Sym.Re mid b q1 r);have HSo2:Hid (Sym.Srt (numL x0) r mid b):=(by rw [hr];exact HN3 HRe1.out HK3.out:Sym.Srt (numL x0) r mid b);have HCr:=hid HCq.out
      clear hr)
     | (
      have HK3:Hid (¬ (mid<e∧e<b)):=fun k=>h k.1;have f3:=dF h;have g3:=dM h;clear h;obtain ⟨wx,rfl⟩:∃ y,y=wz:=⟨_,rfl⟩;obtain ⟨r,hr⟩:∃ r,r=q1:=⟨_,rfl⟩;have HVr:Hid (RowsV x0 enc N blk cap lo hi wx r):=(by rw [hr];exact HVq.out:RowsV x0 enc N blk cap lo hi wx r);have HRe2:Hid (Sym.Re mid b q1 r):=(by rw [hr];exact Sym.Re.refl _ _ _:Sym.Re mid b q1 r);have HSo2:Hid (Sym.Srt (numL x0) r mid b):=(by rw [hr];exact HN3 HRe1.out HK3.out:Sym.Srt (numL x0) r mid b);have HCr:=hid HCq.out
      clear hr)
    all_goals
     go_wp2
     go_end0
     have hl:=Sym.halves HO.out.1 HO.out.2.1 HX.out HRe1.out HRe2.out HSo1.out HSo2.out;exact ⟨rfl,_,HVr.out,HRe0.out.trans hl.2,hl.1,HCr.out⟩
theorem zfR (x0:Nat→RecD) (enc:Nat→List Value) (N blk cap lo hi:Nat) (hlo:hi≤lo) (hN:N<1000000000):∀ (n:Nat) (p:Nat→Nat) (w:World) (a m b:Nat),b-a≤n→RowsV x0 enc N blk cap lo hi w p→a<m→m<b→b≤N→(∀ i j,a≤i→i<m→m≤j→j<b→p i<p j)→Sym.Srt (numL x0) p a m→Sym.Srt (numL x0) p m b→Calls Tryz.prog 153 #[.slice (some ⟨blk,0,none⟩) N cap,.int .i64 a,.int .i64 m,.int .i64 b,.func (.func 148) #[] #[]] w (fun e w'=>e=.returned (.tuple #[])∧∃ q,RowsV x0 enc N blk cap lo hi w' q∧Sym.Re a b p q∧Sym.Srt (numL x0) q a b∧ChgL [blk] w w')
 | 0,p,w,a,m,b,h,V,ham,hmb,hb,ht,h1,h2=>by omega
 | n+1,p,w,a,m,b,h,V,ham,hmb,hb,ht,h1,h2=>by
  have IH:∀ (p':Nat→Nat) (w':World) (a' m' b':Nat),b'-a'<b-a→RowsV x0 enc N blk cap lo hi w' p'→a'<m'→m'<b'→b'≤N→(∀ i j,a'≤i→i<m'→m'≤j→j<b'→p' i<p' j)→Sym.Srt (numL x0) p' a' m'→Sym.Srt (numL x0) p' m' b'→Calls Tryz.prog 153 #[.slice (some ⟨blk,0,none⟩) N cap,.int .i64 a',.int .i64 m',.int .i64 b',.func (.func 148) #[] #[]] w' (fun e w''=>e=.returned (.tuple #[])∧∃ q,RowsV x0 enc N blk cap lo hi w'' q∧Sym.Re a' b' p' q∧Sym.Srt (numL x0) q a' b'∧ChgL [blk] w' w''):=fun p' w' a' m' b' h' V'=>zfR x0 enc N blk cap lo hi hlo hN n p' w' a' m' b' (by omega) V'
  by_cases c1:m=a+1
  ·exact zjG x0 enc p N blk cap lo hi w V hlo hN a m b ham hmb hb ht h1 h2 c1
  ·by_cases c2:b=m+1
   ·exact zjH x0 enc p N blk cap lo hi w V hlo hN a m b ham hmb hb ht h1 h2 c1 c2
   ·by_cases c3:(a+b)/2<m
    ·exact zfQ x0 enc p N blk cap lo hi w V hlo hN a m b _ ham hmb hb ht h1 h2 c1 c2 rfl (.inl c3) IH
    ·exact zfQ x0 enc p N blk cap lo hi w V hlo hN a m b _ ham hmb hb ht h1 h2 c1 c2 rfl (.inr (by omega)) IH
theorem zeB (x0:Nat→RecD) (enc:Nat→List Value) (p:Nat→Nat) (N blk cap lo hi:Nat) (w:World) (V:RowsV x0 enc N blk cap lo hi w p) (hlo:hi≤lo) (hN:N<1000000000) (a m b:Nat) (ham:a<m) (hmb:m<b) (hb:b≤N) (htag:∀ i j,a≤i→i<m→m≤j→j<b→p i<p j) (hs1:Sym.Srt (numL x0) p a m) (hs2:Sym.Srt (numL x0) p m b):Calls Tryz.prog 153 #[.slice (some ⟨blk,0,none⟩) N cap,.int .i64 a,.int .i64 m,.int .i64 b,.func (.func 148) #[] #[]] w (fun e w'=>e=.returned (.tuple #[])∧∃ q,RowsV x0 enc N blk cap lo hi w' q∧Sym.Re a b p q∧Sym.Srt (numL x0) q a b∧ChgL [blk] w w'):=zfR x0 enc N blk cap lo hi hlo hN (b-a) p w a m b (Nat.le_refl _) V ham hmb hb htag hs1 hs2
structure Good (lt:Nat→Nat→Prop) (q:Nat→Nat) (a b:Nat):Prop where
 srt:Sym.Srt lt q a b
 own:∀ i,a≤i→i<b→a≤q i∧q i<b
theorem Good.congr {lt:Nat→Nat→Prop} {q q':Nat→Nat} {a b:Nat} (h:Good lt q a b) (e:∀ i,a≤i→i<b→q' i=q i):Good lt q' a b:=⟨h.srt.congr e,fun i h1 h2=>by rw [e i h1 h2];exact h.own i h1 h2⟩
inductive Blks (lt:Nat→Nat→Prop) (q:Nat→Nat) (s N:Nat):Nat→Prop
 | nil {a:Nat} (h:N≤a):Blks lt q s N a
 | cons {a:Nat} (h:a<N) (g:Good lt q a (min (a+s) N)) (r:Blks lt q s N (a+s)):Blks lt q s N a
theorem Blks.congr {lt:Nat→Nat→Prop} {q q':Nat→Nat} {s N a:Nat} (h:Blks lt q s N a) (e:∀ i,a≤i→q' i=q i):Blks lt q' s N a:=by
 induction h with
 | nil h=>exact .nil h
 | cons h g r ih=>exact .cons h (g.congr fun i h1 _=>e i h1) (ih fun i h1=>e i (by omega))
inductive Done (lt:Nat→Nat→Prop) (q:Nat→Nat) (s:Nat):Nat→Prop
 | zero:Done lt q s 0
 | snoc {a:Nat} (r:Done lt q s a) (g:Good lt q a (a+s)):Done lt q s (a+s)
theorem Done.congr {lt:Nat→Nat→Prop} {q q':Nat→Nat} {s a:Nat} (h:Done lt q s a) (e:∀ i,i<a→q' i=q i):Done lt q' s a:=by
 induction h with
 | zero=>exact .zero
 | snoc r g ih=>exact .snoc (ih fun i h1=>e i (by omega)) (g.congr fun i _ h2=>e i h2)
theorem Done.app {lt:Nat→Nat→Prop} {q:Nat→Nat} {s N a:Nat} (hs:0<s) (h:Done lt q s a) (hN:a≤N) (b:Blks lt q s N a):Blks lt q s N 0:=by
 induction h with
 | zero=>exact b
 | snoc r g ih=>exact ih (by omega) (.cons (by omega) (by rw [Nat.min_eq_left hN];exact g) b)
theorem Blks.last {lt:Nat→Nat→Prop} {q:Nat→Nat} {s N a:Nat} (g:Good lt q a N) (h:N≤a+s):Blks lt q s N a:=by
 by_cases c:a<N
 ·exact .cons c (by rw [Nat.min_eq_right h];exact g) (.nil h)
 ·exact .nil (by omega)
theorem Blks.all {lt:Nat→Nat→Prop} {q:Nat→Nat} {s N:Nat} (h:Blks lt q s N 0) (hs:N≤s):Sym.Srt lt q 0 N:=by
 cases h with
 | nil h=>exact fun i j _ _ h3=>by omega
 | cons h g r=>
  have:=g.srt;rw [Nat.min_eq_right (by omega)] at this;exact this
theorem Blks.open {lt:Nat→Nat→Prop} {q:Nat→Nat} {s N a:Nat} (h:Blks lt q s N a) (ha:a<N):Good lt q a (min (a+s) N)∧Blks lt q s N (a+s):=by
 cases h with
 | nil h=>omega
 | cons h g r=>exact ⟨g,r⟩
theorem Good.merged {lt:Nat→Nat→Prop} {q q':Nat→Nat} {a m b:Nat} (g1:Good lt q a m) (g2:Good lt q m b) (am:a≤m) (mb:m≤b) (k:Sym.Re a b q q') (s:Sym.Srt lt q' a b):Good lt q' a b:=⟨s,fun i h1 h2=>by
 obtain ⟨j,hj,e⟩:=k.from ⟨h1,h2⟩
 rw [e]
 by_cases c:j<m
 ·have:=g1.own j hj.1 c
  omega
 ·have:=g2.own j (by omega) hj.2
  omega⟩
theorem Good.tags {lt:Nat→Nat→Prop} {q:Nat→Nat} {a m b:Nat} (g1:Good lt q a m) (g2:Good lt q m b):∀ i j,a≤i→i<m→m≤j→j<b→q i<q j:=fun i j h1 h2 h3 h4=>by
 have:=g1.own i h1 h2;have:=g2.own j h3 h4;omega
theorem Good.fresh {lt:Nat→Nat→Prop} {q q':Nat→Nat} {a b:Nat} (e:∀ i,a≤i→q i=i) (k:Sym.Re a b q q') (s:Sym.Srt lt q' a b):Good lt q' a b:=⟨s,fun i h1 h2=>by
 obtain ⟨j,hj,e1⟩:=k.from ⟨h1,h2⟩
 rw [e1,e j hj.1]
 exact hj⟩
end Go.Proofs.YtmehgpcmoejfcaaGreat
