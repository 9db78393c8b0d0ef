/- Has each tape room for so many records more: hasRoom. -/
import Derived.Deep.MidRow
import Derived.Deep.RegionHeld3
import Derived.Test.YtaccmgakckpofaaGreatZPlayreak
set_option linter.unusedVariables false
set_option linter.unusedSimpArgs false
set_option maxHeartbeats 16000000
namespace Go.Proofs.YtaccmgakckpofaaGreat
open Go.RowKit F256
def zbL (p:Nat×(Nat→TapeD)) (more:Int):Prop:=∃ t,t<p.1∧200<((p.2 t).recs.1:Int)+more
theorem ziO (wp:Bool) (n:Nat) (hn:n≤1000000000) (ao:Option Addr) (cap mb:Nat) (more:Int) (hmo:0≤more∧more≤1000) (w:World) (hmb:w.cell? ⟨mb,0,none⟩=some (.int .i64 more)) (hml:mb<w.heap.size) :
 Calls Tryz.prog 120 #[.agg #[.bool wp,.slice ao n cap],.pointer (some ⟨mb,0,none⟩)] w (zbB (200<(n:Int)+more) w):=by
 have bA:=bAl w (.cells #[.bool wp,.slice ao n cap] 97);have hm2:(w.alloc (.cells #[.bool wp,.slice ao n cap] 97)).cell? ⟨mb,0,none⟩=some (.int .i64 more):=(bA.cell (p:=⟨mb,0,none⟩) hml).trans hmb;have HB:=hid bA
 have wz:IntKind.i64.wrap ((n:Int)+more)=(n:Int)+more:=by rw [IntKind.wrap_i64];omega
 obtain ⟨P,hP⟩:∃ P:Prop,P=(200<(n:Int)+more):=⟨_,rfl⟩;have HP:=hid hP;rw [← hP];clear hP bA
 by_cases h:200<(n:Int)+more
 ·have h1:decide (200<(n:Int)+more)=true:=decide_eq_true h
  go_enter Tryz.func120,Tryz.ntmps120
  go_wp2;go_ret;exact zaE (by simp [h1]) (by rw [HP.out];exact h) HB.out
 ·have h1:decide (200<(n:Int)+more)=false:=decide_eq_false h
  go_enter Tryz.func120,Tryz.ntmps120
  go_wp2;go_ret;exact zau (by simp [h1]) (by rw [HP.out];omega) HB.out
theorem zh0 (p:Nat×(Nat→TapeD)) (t:TypeId) (v:Value) (hi:Nat) (w:World) (h:(zag.slice t).rd w hi p [v]) (hhi:hi≤w.heap.size) (mb:Nat) (more:Int) (hmb:w.cell? ⟨mb,0,none⟩=some (.int .i64 more)) (hml:mb<w.heap.size) (hmo:0≤more∧more≤1000) (hsm:∀ i,i<p.1→(p.2 i).recs.1≤1000000000) :
 Calls Tryz.prog 141 #[v,.func (.func 120) #[] #[.pointer (some ⟨mb,0,none⟩)]] w fun e w'=>∃ z:Int,e=.returned (.int .i64 z)∧(0≤z↔zbL p more)∧Below w.heap.size w w':=by
 obtain ⟨ao,cap,e,hm,hc⟩:=h
 cases e
 unfold maxLen at hm;have HS:=hid hsm;clear hsm;have HC:=hid hc;clear hc
 go_enter Tryz.func141,Tryz.ntmps141
 go_wp2
 go_loopw [8] (fun i wr=>∃ k:Nat,k≤p.1∧i=.int .i64 k∧(∀ i,i<k→¬ (200<((p.2 i).recs.1:Int)+more))∧Below w.heap.size w wr) (fun i _=>p.1-(intOf i).toNat)
 case atStart=>exact ⟨0,Nat.zero_le _,rfl,fun i hi=>by omega,Below.refl _ _⟩
 case round=>
  obtain ⟨k,hk,rfl,hal,hb⟩:=hrel;have HAL:=hid hal;have HB:=hid hb;clear hal
  by_cases hlt:k<p.1
  ·obtain ⟨b,off,he,hbl,hel⟩:=HC.out (by omega)
   subst he;obtain ⟨ck,hrk,hcell⟩:=zas (t:=0) hel hb hhi hbl hlt;obtain ⟨ao1,cap1,rfl,g1⟩:=za5 hrk;have c0:wr.cell? ⟨b,off+k*2,none⟩=some (.bool (p.2 k).wiped):=hcell 0 (by decide);have c1:wr.cell? ⟨b,off+k*2+1,none⟩=some (.slice ao1 (p.2 k).recs.1 cap1):=hcell 1 (by decide);have hmw:wr.cell? ⟨mb,0,none⟩=some (.int .i64 more):=(hb.cell (p:=⟨mb,0,none⟩) hml).trans hmb;have C:=ziO (p.2 k).wiped (p.2 k).recs.1 (HS.out k hlt) ao1 cap1 mb more hmo wr hmw (by have:=hb.size;omega);clear hel hcell hrk hb g1
   go_wp2_with fail
   refine C.mono ?_;rintro e w2 ⟨t2,rfl,ht2,b2⟩;have HB2:=hid (HB.out.trans (b2.mono HB.out.size));have HT2:=hid ht2;clear C b2 ht2
   cases t2 with
   | true=>
    have HP:Hid (0≤(k:Int)↔zbL p more):=⟨fun _=>⟨k,hlt,HT2.out.1 rfl⟩,fun _=>by omega⟩;go_wp2;go_ret;exact ⟨_,rfl,HP.out,HB2.out⟩
   | false=>
    go_wp2
    go_roundw
    case rel=>exact ⟨k+1,by omega,by go_num,fun i hi=>by
     by_cases c:i=k
     ·subst c;exact fun h=>by have:=HT2.out.2 h;simp at this
     ·have:=HAL.out i (by omega);omega,HB2.out⟩
    case measure=>simp [intOf];omega
  ·obtain rfl:k=p.1:=by omega
   have HP:Hid (0≤(-1:Int)↔zbL p more):=⟨fun h=>by omega,fun ⟨t,ht,he⟩=>absurd he (HAL.out t ht)⟩;go_wp2;go_ret;exact ⟨-1,rfl,HP.out,hb⟩
theorem zfj (p:Nat×(Nat→TapeD)) (t:TypeId) (v:Value) (hi:Nat) (w:World) (h:(zag.slice t).rd w hi p [v]) (hhi:hi≤w.heap.size) (mb:Nat) (more:Int) (hmb:w.cell? ⟨mb,0,none⟩=some (.int .i64 more)) (hml:mb<w.heap.size) (hmo:0≤more∧more≤1000) (hsm:∀ i,i<p.1→(p.2 i).recs.1≤1000000000) :
 Calls Tryz.prog 105 #[v,.func (.func 120) #[] #[.pointer (some ⟨mb,0,none⟩)]] w (zbB (zbL p more) w):=by
 have C:=zh0 p t v hi w h hhi mb more hmb hml hmo hsm;obtain ⟨ao,cap,e,hm,hc⟩:=h
 cases e
 clear hc hm
 go_enter Tryz.func105,Tryz.ntmps105
 go_wp2_with fail
 refine C.mono ?_;rintro e w1 ⟨z,rfl,hz,b1⟩;have HZ:=hid hz;have HB:=hid b1;clear hz C b1
 by_cases h0:0≤z
 ·have HP:=hid (HZ.out.mp h0)
  go_wp2;go_ret;exact zaE rfl HP.out HB.out
 ·have HP:Hid (¬ zbL p more):=fun h=>h0 (HZ.out.mpr h)
  have td:decide (0≤z)=false:=by simp;omega
  clear h0;go_wp2;go_ret;exact zau rfl HP.out HB.out
set_option maxRecDepth 20000 in
theorem zgX (d:WorldD) (cs:List Value) (hi:Nat) (more:Int) (hmo:0≤more∧more≤1000) (w:World) (h:zad.rd w hi d cs) (hhi:hi≤w.heap.size) (hsm:∀ i,i<d.tapes.1→(d.tapes.2 i).recs.1≤1000000000) :
 Calls Tryz.prog 79 #[.agg cs.toArray,.int .i64 more] w (zbB (¬ zbL d.tapes more) w):=by
 have hmf:∀ (fn:Fn) (first cap:Array Value) (w:World),(Instr.makeFunc fn first cap).run Tryz.prog w=.ok (.func fn first cap) w:=fun _ _ _ _=>rfl;obtain ⟨ao1,cap1,ao2,cap2,ao3,cap3,rfl,g1,g2,g3,k0,k4,k5⟩:=zaK h;have T0:=zaA w (rwW d ao1 cap1 ao2 cap2 ao3 cap3).toArray #[.int .i64 more] 38 2;have x11:=T0.b1.cell 11;have CC:=zfj d.tapes _ _ hi _ ((zag.slice _).rd_below g3 T0.bel hhi) (Nat.le_trans hhi T0.bel.size) (w.heap.size+1) more (T0.b2.cell 0) T0.b2.lt hmo hsm;have HT:=hid T0.bel;obtain ⟨P,hP⟩:∃ P:Prop,P=zbL d.tapes more:=⟨_,rfl⟩;rw [← hP] at CC ⊢;clear g1 g2 g3 k0 k4 k5 h T0 hP hsm
 go_enter Tryz.func79,Tryz.ntmps79
 go_wp2_with fail
 refine CC.mono ?_;rintro e w1 ⟨t,rfl,ht,b1⟩;have HB:=hid (HT.out.trans (b1.mono HT.out.size));have HP:=hid ht;clear CC b1 ht
 cases t with
 | true=>
  go_wp2;go_ret;exact zau rfl (fun h=>h (HP.out.1 (by simp))) HB.out
 | false=>
  go_wp2;go_ret;exact zaE rfl (fun h=>by have:=HP.out.2 h;cases this) HB.out
theorem zh1 (E:Nat) (d:WorldD) (K:List Nat) (T:Nat) (r:RecD) (o6 o7 o8:Option Addr) (k6 k7 k8 hi:Nat) (w:World) (hX:EncB w E d K) (hT:T<d.tapes.1) (hn:(d.tapes.2 T).recs.1≤10000000) (hr:zac.rd w hi r [.int .i64 r.kind,.int .i64 r.seq,.string r.name,.int .i64 r.length,.int .i64 r.group,.int .i64 r.row,.slice o6 r.rows.1 k6,.slice o7 r.data.1 k7,.slice o8 r.delta.1 k8]) (hiE:hi≤E) (hsr:zaF r≤1048576) (hwr:-9223372036854775808≤d.writes∧d.writes+1≤9223372036854775807) :
 Calls Tryz.prog 122 #[.pointer (some ⟨E,0,none⟩),.int .i64 (T:Int),.agg #[.int .i64 r.kind,.int .i64 r.seq,.string r.name,.int .i64 r.length,.int .i64 r.group,.int .i64 r.row,.slice o6 r.rows.1 k6,.slice o7 r.data.1 k7,.slice o8 r.delta.1 k8]] w (RunP (fun _=>.tuple #[]) (rawO (fun d=>zbv d T r) d) E w K):=by
 obtain ⟨cs,hB,hO⟩:=hX;obtain ⟨v0,v1,v2,v3,v4,v5,v6,v7,v8,vp0,vl0,vq0,vp1,vl1,vq1,vp2,vl2,vq2,v9,v10,vb,rfl⟩:=zbT hO.own;have st:=ziE hO.own;have wt:=zdk hO.own
 by_cases hf:d.stop≠-1∧d.stop≤d.writes
 ·unfold rawO
  rw [if_pos hf];obtain ⟨KC,kc1,kc2,kc3⟩:=zhn hO.own hO.nd;refine (zgT E v0 v1 v2 v3 v4 v5 v6 v7 v8 vp0 vl0 vq0 vp1 vl1 vq1 vp2 vl2 vq2 v9 v10 vb d K T r o6 o7 o8 k6 k7 k8 hi w hB (fun x hx=>zad.own_one kc1 x hx) (by rw [st];exact hf.1) (by rw [st,wt];exact hf.2)).mono ?_;rintro e w' ⟨rfl,X5,C5⟩;refine ⟨rfl,KC,⟨_,X5,Lay.own_chgL _ kc1 C5 (fun b hb hm=>?_),kc2,fun hm=>hO.ne (kc3 _ hm)⟩,fun b hb=>.inl (kc3 b hb),C5.mono (fun b hb=>by simp at hb;simp [hb])⟩
  simp at hm
  exact hO.ne (hm ▸ kc3 b hb)
 ·unfold rawO
  rw [if_neg hf];refine (ziI E v0 v1 v2 v3 v4 v5 v6 v7 v8 vp0 vl0 vq0 vp1 vl1 vq1 vp2 vl2 vq2 v9 v10 vb d K T r o6 o7 o8 k6 k7 k8 hi w hB hO hT hn hr hiE hsr (by rw [st,wt];exact hf) hwr).mono ?_;rintro e w' ⟨rfl,cs',K',X5,O5,s5,C5⟩;exact ⟨rfl,K',⟨cs',X5,O5⟩,s5,C5⟩
structure Fit3 (n:Nat) (d:WorldD):Prop where
 two:d.tapes.1=2
 few:∀ T,T<2→(d.tapes.2 T).recs.1+n≤1000000
 up:d.down=false
 low:-9223372036854775808≤d.writes
 room:d.writes+n≤9223372036854775807
theorem Fit3.less {n m:Nat} {d:WorldD} (h:Fit3 n d) (hm:m≤n):Fit3 m d:=⟨h.two,fun T hT=>by have:=h.few T hT;omega,h.up,h.low,by have:=h.room;omega⟩
def zaz (r:RecD) (k:Nat):WorldD→Outc:=rawO (fun d=>zbv d k r)
theorem zc3 {r:RecD} {k:Nat} {d d2:WorldD} {c:Int} (e:zaz r k d=.done c d2):c=0:=by
 unfold zaz rawO at e
 split at e
 ·cases e
 ·cases e;rfl
theorem zej {n:Nat} {d d2:WorldD} {c:Int} {r:RecD} {k:Nat} (h:Fit3 (n+1) d) (hk:k<2) (e:zaz r k d=.done c d2):Fit3 n d2:=by
 unfold zaz rawO at e
 split at e
 ·cases e
 ·simp only [Outc.done.injEq] at e
  obtain ⟨_,rfl⟩:=e;have hr:=h.room;have hl:=h.low;refine ⟨h.two,fun T hT=>?_,h.up,?_,?_⟩
  ·show ((upd d.tapes.2 k (zfg (d.tapes.2 k) r)) T).recs.1+n≤_
   have h1:=h.few T hT
   by_cases c:T=k
   ·subst c
    rw [zaT]
    show (d.tapes.2 T).recs.1+1+n≤_
    omega
   ·rw [zaW _ _ c]
    omega
  ·show _≤d.writes+1
   omega
  ·show d.writes+1+n≤_
   have:((n+1:Nat):Int)=(n:Int)+1:=by omega
   omega
def layF (r:RecD) (d:WorldD):Outc:=if 200<((d.tapes.2 0).recs.1:Int)+1∨200<((d.tapes.2 1).recs.1:Int)+1 then .done 2 d else runO (zaz r) 2 0 d
theorem zi8 {d:WorldD} (h:d.tapes.1=2) (n:Int):zbL d.tapes n↔(200<((d.tapes.2 0).recs.1:Int)+n∨200<((d.tapes.2 1).recs.1:Int)+n):=by
 unfold zbL;rw [h]
 constructor
 ·rintro ⟨t,ht,h⟩
  have:t=0∨t=1:=by omega
  rcases this with rfl | rfl
  ·exact .inl h
  ·exact .inr h
 ·rintro (h | h)
  ·exact ⟨0,by omega,h⟩
  ·exact ⟨1,by omega,h⟩
theorem zbM:(Tryz.prog.info? 43).map (·.size)=some 9:=by kernel_rfl
theorem zdG (T:Int) (c0 c1 c2 c3 c4 c5 c6 c7 c8:Value) (w:World):Calls Tryz.prog 80 #[.int .i64 T,.agg #[c0,c1,c2,c3,c4,c5,c6,c7,c8]] w fun e w'=>e=.returned (.func (.func 121) #[] #[.pointer (some ⟨w.heap.size,0,none⟩),.pointer (some ⟨w.heap.size+1,0,none⟩)])∧Box w' w.heap.size #[.int .i64 T] 2∧Box w' (w.heap.size+1) #[c0,c1,c2,c3,c4,c5,c6,c7,c8] 43∧w'.heap.size=w.heap.size+1+1∧Below w.heap.size w w':=by
 have hmf:∀ (fn:Fn) (first cap:Array Value) (w:World),(Instr.makeFunc fn first cap).run Tryz.prog w=.ok (.func fn first cap) w:=fun _ _ _ _=>rfl;have T0:=zaA w #[.int .i64 T] #[c0,c1,c2,c3,c4,c5,c6,c7,c8] 2 43
 go_enter Tryz.func80,Tryz.ntmps80
 go_wp2;go_ret;exact ⟨by simp,T0.b1,T0.b2,by simp,T0.bel⟩
theorem ziP (c0 c1 c2 c3 c4 c5 c6 c7 c8:Value) (w:World):Calls Tryz.prog 38 #[.agg #[c0,c1,c2,c3,c4,c5,c6,c7,c8]] w fun e w'=>e=.returned (.func (.func 78) #[] #[.pointer (some ⟨w.heap.size,0,none⟩)])∧Box w' w.heap.size #[c0,c1,c2,c3,c4,c5,c6,c7,c8] 43∧Below w.heap.size w w':=by
 have hmf:∀ (fn:Fn) (first cap:Array Value) (w:World),(Instr.makeFunc fn first cap).run Tryz.prog w=.ok (.func fn first cap) w:=fun _ _ _ _=>rfl;have T0:=zaM w #[c0,c1,c2,c3,c4,c5,c6,c7,c8] 43
 go_enter Tryz.func38,Tryz.ntmps38
 go_wp2;go_ret;exact ⟨rfl,T0.b1,T0.bel⟩
def zjK (F:Nat) (caps:Array Value) (f:WorldD→Outc) (fit:WorldD→Prop) (B:Nat) (CL:List Nat) (w0:World):Prop:=
 zf7 F∧∀ (w:World) (E:Nat) (d:WorldD) (K:List Nat),Below B w0 w→(∀ x,x∈CL→w.heap[x]?=w0.heap[x]?)→B≤E→(∀ b,b∈K→B≤b)→(∀ x,x∈CL→x≠E∧x∉K)→EncB w E d K→fit d→Calls Tryz.prog F (#[.pointer (some ⟨E,0,none⟩)]++caps) w (RunP (fun c=>.int .i64 c) (f d) E w K)
set_option maxRecDepth 20000 in
theorem zgY (F:Nat→Nat) (caps:Nat→Array Value) (f:Nat→WorldD→Outc) (fit:Nat→WorldD→Prop) (B n b off cap:Nat) (CL:List Nat) (w:World) (E:Nat) (d:WorldD) (K:List Nat)
 (hT:∀ i,i<n→zjK (F i) (caps i) (f i) (fit i) B CL w) (hc:∀ i,i<n→w.cell? ⟨b,off+i,none⟩=some (.func (.func (F i)) #[] (caps i))) (hb:b<w.heap.size) (hbE:b≠E∧b∉K) (hBE:B≤E) (hBK:∀ b,b∈K→B≤b) (hn:n≤1000000) (hX:EncB w E d K) (hf:zcI f fit n 0 d) (hCL:∀ x,x∈CL→x<w.heap.size∧x≠E∧x∉K) :
 Calls Tryz.prog 77 #[.pointer (some ⟨E,0,none⟩),.slice (some ⟨b,off,none⟩) n cap] w (RunP (fun c=>.int .i64 c) (runO f n 0 d) E w K):=by
 have HX:=hid hX;have HT:=hid hT;have HBE:=hid hbE;have HBK:=hid hBK;have HF:=hid hf;have HC:=hid hc;have HCL:=hid hCL;clear hX hT hbE hBK hf hc hCL
 go_enter Tryz.func77,Tryz.ntmps77
 go_wp2
 go_loopw [10] (fun i wr=>∃ (k m:Nat) (d1:WorldD) (K1:List Nat),k+m=n∧i=.int .i64 k∧EncB wr E d1 K1∧(∀ x,x∈K1→x∈K∨w.heap.size≤x)∧ChgL (E::K) w wr∧zcI f fit m k d1∧runO f n 0 d=runO f m k d1) (fun i _=>n-(intOf i).toNat)
 case atStart=>exact ⟨0,n,d,K,by omega,rfl,HX.out,fun x hx=>.inl hx,ChgL.refl _ _,HF.out,rfl⟩
 case round=>
  obtain ⟨k,m,d1,K1,hkm,rfl,hX1,hK1,hC1,hf1,ho⟩:=hrel;have HX1:=hid hX1;have HK1:=hid hK1;have HC1:=hid hC1;have HO:=hid ho;have HF1:=hid hf1;have zr:=hC1.size;clear hX1 hK1 hf1 ho
  cases m with
  | zero=>
   obtain rfl:k=n:=by omega
   clear hC1 hkm;go_wp2;go_ret;rw [HO.out];exact ⟨rfl,K1,HX1.out,HK1.out,HC1.out⟩
  | succ m=>
   have hlt:k<n:=by omega
   have t1:(k:Int)<(n:Int):=by omega
   have ck:wr.cell? ⟨b,off+k,none⟩=some (.func (.func (F k)) #[] (caps k)):=(World.cell?_of_block (hC1.block b hb (fun hm=>by
    rcases List.mem_cons.1 hm with h | h
    ·exact HBE.out.1 h
    ·exact HBE.out.2 h))).trans (HC.out k hlt)
   have CT:=(HT.out k hlt).2 wr E d1 K1 (hC1.bel (fun x hx=>by
    rcases List.mem_cons.1 hx with rfl | h
    ·exact hBE
    ·exact HBK.out x h) (by have:=HX.out.lt;omega)) (fun x hx=>hC1.block x (HCL.out x hx).1 (fun hm=>by
     rcases List.mem_cons.1 hm with h | h
     ·exact (HCL.out x hx).2.1 h
     ·exact (HCL.out x hx).2.2 h)) hBE (fun x hx=>by
     rcases HK1.out x hx with h | h
     ·exact HBK.out x h
     ·have:=HX.out.lt;omega) (fun x hx=>⟨(HCL.out x hx).2.1,fun hm=>by
      rcases HK1.out x hm with h | h
      ·exact (HCL.out x hx).2.2 h
      ·have:=(HCL.out x hx).1;omega⟩) HX1.out HF1.out.1
   obtain ⟨Fk,hFk⟩:∃ x,x=F k:=⟨_,rfl⟩;obtain ⟨ck9,hck9⟩:∃ x,x=caps k:=⟨_,rfl⟩;have eF:=(HT.out k hlt).1;rw [← hFk,← hck9] at ck CT;rw [← hFk] at eF;unfold zf7 at eF;obtain ⟨oc,hoc⟩:∃ x,x=f k d1:=⟨_,rfl⟩;have HOC:=hid hoc;rw [← hoc] at CT
   have HF2:Hid (zfh oc (zcI f fit m (k+1))):=by rw [hoc];exact HF1.out.2
   have HO2:Hid (runO f n 0 d=oc.next (runO f m (k+1))):=by rw [hoc];exact HO.out
   clear hC1 hFk hck9 hoc
   cases oc with
   | cut d2=>
    go_wp2_with (go_at_fn Fk;refine CT.mono ?_;rintro e w5 ⟨rfl,K5,X5,s5,C5⟩)
    exact ⟨rfl,by
     rw [HO2.out]
     exact RunP.after (rv:=fun c=>.int .i64 c) (o:=.cut d2) HK1.out HC1.out ⟨rfl,K5,X5,s5,C5⟩⟩
   | done c d2=>
    by_cases hc0:c=0
    ·subst hc0
     go_wp2_with (go_at_fn Fk;refine CT.mono ?_;rintro e w5 ⟨rfl,K5,X5,s5,C5⟩)
     go_roundw
     case rel=>exact ⟨k+1,m,d2,K5,by omega,by go_num,X5,fun x hx=>by
      rcases s5 x hx with h | h
      ·exact HK1.out x h
      ·exact .inr (by omega),zcQ HC1.out HK1.out C5,HF2.out rfl,by rw [HO2.out];simp [Outc.next]⟩
     case measure=>simp [intOf];omega
    ·have hne:(c != 0)=true:=by simpa using hc0
     have HNE:=hid hc0;clear hc0
     go_wp2_with (go_at_fn Fk;refine CT.mono ?_;rintro e w5 ⟨rfl,K5,X5,s5,C5⟩)
     go_ret;rw [HO2.out]
     have e:(Outc.done c d2).next (runO f m (k+1))=.done c d2:=by simp [Outc.next,HNE.out]
     rw [e];exact RunP.after (rv:=fun c=>.int .i64 c) (o:=.done c d2) HK1.out HC1.out ⟨rfl,K5,X5,s5,C5⟩
set_option maxRecDepth 20000 in
theorem zcJ (T:Nat) (hT:T<2) (r:RecD) (o6 o7 o8:Option Addr) (k6 k7 k8 hi:Nat) (hsr:zaF r≤1048576) (a1 a2 B:Nat) (w0:World) (h1:w0.cell? ⟨a1,0,none⟩=some (.int .i64 (T:Int))) (h2:Box w0 a2 #[.int .i64 r.kind,.int .i64 r.seq,.string r.name,.int .i64 r.length,.int .i64 r.group,.int .i64 r.row,.slice o6 r.rows.1 k6,.slice o7 r.data.1 k7,.slice o8 r.delta.1 k8] 43) (hr:zac.rd w0 hi r [.int .i64 r.kind,.int .i64 r.seq,.string r.name,.int .i64 r.length,.int .i64 r.group,.int .i64 r.row,.slice o6 r.rows.1 k6,.slice o7 r.data.1 k7,.slice o8 r.delta.1 k8]) (CL:List Nat) (l1:a1∈CL) (l2:a2∈CL) (l3:hi≤B) :
 zjK 121 #[.pointer (some ⟨a1,0,none⟩),.pointer (some ⟨a2,0,none⟩)] (zaz r T) (Fit3 1) B CL w0:=by
 refine ⟨zf8 Tryz.func121 (by kernel_rfl) (by kernel_rfl),fun w E d K hB hCL hBE hBK hNE hX hf=>?_⟩
 show Calls Tryz.prog 121 #[.pointer (some ⟨E,0,none⟩),.pointer (some ⟨a1,0,none⟩),.pointer (some ⟨a2,0,none⟩)] w _
 have g1:=(World.cell?_of_block (a:=⟨a1,0,none⟩) (hCL a1 l1)).trans h1;have g2:Box w a2 (rwR r o6 k6 o7 k7 o8 k8).toArray 43:=(hCL a2 l2).trans h2;have CR:=zh1 E d K T r o6 o7 o8 k6 k7 k8 hi w hX (by have:=hf.two;omega) (by have:=hf.few T hT;omega) (zac.rd_below hr hB l3) (by omega) hsr (by have:=hf.low;have:=hf.room;omega);obtain ⟨oc,hoc⟩:∃ x,x=zaz r T d:=⟨_,rfl⟩
 have e1:rawO (fun d=>zbv d T r) d=oc:=by rw [hoc];rfl
 rw [e1] at CR;rw [← hoc];have HOC:=hid hoc;clear hX hf hBK h1 h2 hB hr hoc e1 hCL hNE
 go_enter Tryz.func121,Tryz.ntmps121
 cases oc with
 | cut d2=>
  go_wp2_with (first | (refine zam 43 (.tmp 2) rfl rfl (a2) rfl (g2) Tryz.underlying43 zbM rfl ?_) | (go_at_call 122;refine CR.mono ?_;rintro e w5 ⟨rfl,K5,X5,s5,C5⟩))
  exact ⟨rfl,rfl,K5,X5,s5,C5⟩
 | done c d2=>
  have c0:c=0:=zc3 HOC.out.symm;subst c0
  go_wp2_with (first | (refine zam 43 (.tmp 2) rfl rfl (a2) rfl (g2) Tryz.underlying43 zbM rfl ?_) | (go_at_call 122;refine CR.mono ?_;rintro e w5 ⟨rfl,K5,X5,s5,C5⟩))
  go_ret;exact ⟨rfl,K5,X5,s5,C5⟩
theorem zh2 {ops:Array Oper} {o:Oper} {a:Act} {w:World} {K:Act→World→Prop} {Q:Exit→Act→World→Prop} {E:Prop}
 (hg:o.guard=none) (n:Nat) (args:Array Operand) (ty:Array TypeId) (hop:o.op=Op.call { callee:=Callee.value (.func n),args:=args,argTypes:=ty }) (vals:Array Value) (hv:args.map a.eval=vals)
 {fn : Func} (hfn : Tryz.prog.funcs[n]? = some fn) (hnm : (fn.name == "runtime.NumGoroutine") = false) (hbd : fn.body.isSome = true)
 {R:Ending→World→Prop} (hc:Calls Tryz.prog n vals w R) (hK:∀ e w',R e w'→∃ c,e=.panicked c∧Q (.panic c) a w') :
 if Region.wanted o (yielded ops a.tmps)=true then Oper.wp Tryz.prog o a w K Q else E:=by
 have hw:Region.wanted o (yielded ops a.tmps)=true:=by simp [Region.wanted,hg]
 have hn' : ¬ fn.name = "runtime.NumGoroutine" := by simpa using hnm
 have hb':¬ fn.body=none:=by intro h;rw [h] at hbd;cases hbd
 rw [if_pos hw];unfold Oper.wp
 simp [execOp,hop,resolve,invoke,Act.eval,Result.andThen,Deferred.ofValue,callFunc,Oper.upon,hv,hfn,hn',hb']
 refine hc.mono fun e w' h=>?_;obtain ⟨c,rfl,hk⟩:=hK e w' h;exact hk
theorem zeJ {r:RecD} {d:WorldD}:∀ (m k:Nat) (d:WorldD) (c:Int) (d':WorldD),runO (zaz r) m k d=.done c d'→c=0:=zhq (fun k d c d' h=>zc3 h)
theorem zeK (r:RecD):∀ (m k:Nat) (d:WorldD),k+m≤2→Fit3 m d→zcI (zaz r) (fun _=>Fit3 1) m k d
 | 0,_,_,_,_=>trivial
 | m+1,k,d,h,hf=>by
  refine ⟨hf.less (by omega),?_⟩
  cases e:zaz r k d with
  | cut x=>trivial
  | done c x=>exact fun _=>zeK r m (k+1) x (by omega) (zej hf (by omega) e)
set_option maxRecDepth 100000 in
theorem zgZ (r:RecD) (o6 o7 o8:Option Addr) (k6 k7 k8 hi:Nat) (hsr:zaF r≤1048576) (a B:Nat) (w0:World) (h2:Box w0 a #[.int .i64 r.kind,.int .i64 r.seq,.string r.name,.int .i64 r.length,.int .i64 r.group,.int .i64 r.row,.slice o6 r.rows.1 k6,.slice o7 r.data.1 k7,.slice o8 r.delta.1 k8] 43) (hr:zac.rd w0 hi r [.int .i64 r.kind,.int .i64 r.seq,.string r.name,.int .i64 r.length,.int .i64 r.group,.int .i64 r.row,.slice o6 r.rows.1 k6,.slice o7 r.data.1 k7,.slice o8 r.delta.1 k8]) (l2:a<B) (l3:hi≤B) (hBw:B≤w0.heap.size) :
 TaskV 78 #[.pointer (some ⟨a,0,none⟩)] (layF r) (Fit3 2) B w0:=by
 refine ⟨zf8 Tryz.func78 (by kernel_rfl) (by kernel_rfl),fun w E d K hB hBE hBK hX hf=>?_⟩
 show Calls Tryz.prog 78 #[.pointer (some ⟨E,0,none⟩),.pointer (some ⟨a,0,none⟩)] w _
 have g2:=h2.below hB l2;have hrw:=zac.rd_below hr hB l3;have HX:=hid hX;have HF:=hid hf;have HBK:=hid hBK;have zE:=hX.lt;have hKlt:=hX.Klt;obtain ⟨cs,hBx,hO⟩:=hX;obtain ⟨v0,v1,v2,v3,v4,v5,v6,v7,v8,vp0,vl0,vq0,vp1,vl1,vq1,vp2,vl2,vq2,v9,v10,vb,rfl⟩:=zbT hO.own;have rdw:zad.rd w w.heap.size d (rwV v0 v1 v2 v3 v4 v5 v6 v7 v8 vp0 vl0 vq0 vp1 vl1 vq1 vp2 vl2 vq2 v9 v10 vb):=hO.T.rd
 have rg:w.rangeAt E 5 (rwV v0 v1 v2 v3 v4 v5 v6 v7 v8 vp0 vl0 vq0 vp1 vl1 vq1 vp2 vl2 vq2 v9 v10 vb):=fun j v hv=>by
  have hc:=hBx.cell (5+j);rw [hc]
  rcases j with _ | _ | _ | _ | _ | _ | _ | _ | _ | _ | _ | _ | _ | _ | _ | j<;>first | exact hv | (simp at hv)
 have CH:=zgX d (rwV v0 v1 v2 v3 v4 v5 v6 v7 v8 vp0 vl0 vq0 vp1 vl1 vq1 vp2 vl2 vq2 v9 v10 vb) w.heap.size 1 (by decide) w rdw (Nat.le_refl _) (fun i hi=>by have:=hf.few i (by have:=hf.two;omega);omega);have hmf:∀ (fn:Fn) (first cap:Array Value) (w:World),(Instr.makeFunc fn first cap).run Tryz.prog w=.ok (.func fn first cap) w:=fun _ _ _ _=>rfl;have h2f:=zi8 hf.two 1;obtain ⟨oc,hoc⟩:∃ x,x=layF r d:=⟨_,rfl⟩;have HOC:=hid hoc;rw [← hoc];clear hf hBK h2 hr hoc hBx hO rdw
 go_enter Tryz.func78,Tryz.ntmps78
 go_wp2_with (refine wpList_load_mid rfl 38 (.tmp 6) rfl E 5 rfl (rwV v0 v1 v2 v3 v4 v5 v6 v7 v8 vp0 vl0 vq0 vp1 vl1 vq1 vp2 vl2 vq2 v9 v10 vb) _ rg Tryz.underlying38 rfl (by rw [zbo];rfl) ?_)
 refine CH.mono ?_;rintro e w1 ⟨t,rfl,ht,b1⟩;have HTT:=hid ht;have HFU:=hid h2f;have z1:=b1.size;have X1:=HX.out.below b1;clear CH ht h2f rg
 cases t with
 | false=>
  have hfl:zbL d.tapes 1:=Classical.byContradiction fun hh=>by have:=HTT.out.2 hh;cases this
  have e:oc=.done 2 d:=by
   rw [HOC.out];unfold layF;rw [if_pos (HFU.out.1 hfl)]
  have HE:=hid e;clear hfl e;go_wp2;go_ret;rw [HE.out];exact ⟨rfl,K,X1,fun b hb=>.inl hb,ChgL.of_below b1⟩
 | true=>
  have hfl:¬ zbL d.tapes 1:=HTT.out.1 rfl
  have e:oc=runO (zaz r) 2 0 d:=by
   rw [HOC.out];unfold layF;rw [if_neg (fun hh=>hfl (HFU.out.2 hh))]
  have HE:=hid e;clear hfl e;have g3:=g2.below b1 g2.lt;have hal:=g3.lt;have B0:Below w1.heap.size w1 w1.drew:=zb2 _;have KS:∀ w',Below w1.heap.size w1 w'→(Box w' a (rwR r o6 k6 o7 k7 o8 k8).toArray 43):=fun w' hb=>g3.below hb hal;have CK:=zdG 0 (.int .i64 r.kind) (.int .i64 r.seq) (.string r.name) (.int .i64 r.length) (.int .i64 r.group) (.int .i64 r.row) (.slice o6 r.rows.1 k6) (.slice o7 r.data.1 k7) (.slice o8 r.delta.1 k8) w1.drew
  go_upto_region 3 with fail
  refine za3 7 (fun w'=>Box w' a (rwR r o6 k6 o7 k7 o8 k8).toArray 43) (by kernel_rfl) (KS _ B0) (fun hHeld=>?_);refine zjI 0 (v:=?_) rfl ?_ ?_
  rotate_left
  ·intro w' hSw;go_simp;try with_reducible rfl
  try simp only [Act.put,SL]
  refine zaa (i:=1) (oi:=_) 16 rfl (by kernel_rfl) (fun _ _ _ h=>h) (za6 43 (.tmp 1) rfl rfl a rfl (cs:=(rwR r o6 k6 o7 k7 o8 k8)) (fun w' h=>h) Tryz.underlying43 zbM rfl) (by assumption) ?_
  try simp only [Act.put,SL]
  refine zaa (i:=3) (oi:=_) 16 rfl (by kernel_rfl) (fun _ _ _ h=>h) (za6 43 (.tmp 1) rfl rfl a rfl (cs:=(rwR r o6 k6 o7 k7 o8 k8)) (fun w' h=>h) Tryz.underlying43 zbM rfl) (by assumption) ?_
  try simp only [Act.put,SL]
  refine zak (i:=2) (o:=_) rfl (by kernel_rfl) (fun KC hKC=>?_);refine zat rfl 80 _ _ rfl #[.int .i64 0,.agg (rwR r o6 k6 o7 k7 o8 k8).toArray] ?_ Tryz.func80 (by kernel_rfl) (by kernel_rfl) CK ?_
  ·simp [Act.eval,Act.put]
  rintro ee w5 ⟨rfl,p1,p2,z5,b5'⟩;have b5:Below w1.heap.size w1 w5:=B0.trans b5';have z5':w5.heap.size=w1.heap.size+1+1:=z5;have p1:Box w5 w1.heap.size #[.int .i64 0] 2:=p1;have p2:Box w5 (w1.heap.size+1) (rwR r o6 k6 o7 k7 o8 k8).toArray 43:=p2;refine ⟨_,rfl,?_⟩;refine hKC.out _ _ (KS _ b5) (fun hHeld=>?_);clear hKC KC CK b5' z5
  try simp only [Act.put,SL]
  have CK:=zdG 1 (.int .i64 r.kind) (.int .i64 r.seq) (.string r.name) (.int .i64 r.length) (.int .i64 r.group) (.int .i64 r.row) (.slice o6 r.rows.1 k6) (.slice o7 r.data.1 k7) (.slice o8 r.delta.1 k8) w5;refine zak (i:=4) (o:=_) rfl (by kernel_rfl) (fun KC hKC=>?_);refine zat rfl 80 _ _ rfl #[.int .i64 1,.agg (rwR r o6 k6 o7 k7 o8 k8).toArray] ?_ Tryz.func80 (by kernel_rfl) (by kernel_rfl) CK ?_
  ·simp [Act.eval,Act.put]
  rintro ee w6 ⟨rfl,p3,p4,z6,b6'⟩;have b6:Below w1.heap.size w1 w6:=b5.trans (b6'.mono b5.size);rw [z5'] at p3 p4 z6;refine ⟨_,rfl,?_⟩;refine hKC.out _ _ (KS _ b6) (fun hHeld=>?_);clear hKC KC CK
  try simp only [Act.put,SL]
  have bN:Below w6.heap.size w6 (w6.alloc (.cells #[.func (.func 121) #[] #[.pointer (some ⟨w1.heap.size,0,none⟩),.pointer (some ⟨w1.heap.size+1,0,none⟩)],.func (.func 121) #[] #[.pointer (some ⟨w1.heap.size+1+1,0,none⟩),.pointer (some ⟨w1.heap.size+1+1+1,0,none⟩)]] 72)):=(Below.refl _ _).alloc (Nat.le_refl _) _;have XN:Box (w6.alloc (.cells #[.func (.func 121) #[] #[.pointer (some ⟨w1.heap.size,0,none⟩),.pointer (some ⟨w1.heap.size+1,0,none⟩)],.func (.func 121) #[] #[.pointer (some ⟨w1.heap.size+1+1,0,none⟩),.pointer (some ⟨w1.heap.size+1+1+1,0,none⟩)]] 72)) w6.heap.size #[.func (.func 121) #[] #[.pointer (some ⟨w1.heap.size,0,none⟩),.pointer (some ⟨w1.heap.size+1,0,none⟩)],.func (.func 121) #[] #[.pointer (some ⟨w1.heap.size+1+1,0,none⟩),.pointer (some ⟨w1.heap.size+1+1+1,0,none⟩)]] 72:=zax _ _ _;refine zak (i:=5) (o:=_) rfl (by kernel_rfl) (fun KC hKC=>?_);go_simp;refine hKC.out _ _ (KS _ (b6.trans (bN.mono b6.size))) (fun hHeld=>?_);clear hKC KC
  try simp only [Act.put,SL]
  obtain ⟨w7,hw7⟩:∃ x,x=(w6.alloc (.cells #[.func (.func 121) #[] #[.pointer (some ⟨w1.heap.size,0,none⟩),.pointer (some ⟨w1.heap.size+1,0,none⟩)],.func (.func 121) #[] #[.pointer (some ⟨w1.heap.size+1+1,0,none⟩),.pointer (some ⟨w1.heap.size+1+1+1,0,none⟩)]] 72)):=⟨_,rfl⟩;rw [← hw7] at bN XN;have z7:w6.heap.size<w7.heap.size:=XN.lt;have b7:Below w1.heap.size w1 w7:=b6.trans (bN.mono b6.size);have bw7:Below w.heap.size w w7:=b1.trans (b7.mono z1);have bB7:Below B w w7:=bw7.mono (by omega);have q1:=(p1.below b6' (by omega)).below bN (by omega);have q2:=(p2.below b6' (by omega)).below bN (by omega);have q3:=p3.below bN p3.lt;have q4:=p4.below bN p4.lt
  have CR:=zgY (fun _=>121) (fun k=>if k=0 then #[.pointer (some ⟨w1.heap.size,0,none⟩),.pointer (some ⟨w1.heap.size+1,0,none⟩)] else #[.pointer (some ⟨w1.heap.size+1+1,0,none⟩),.pointer (some ⟨w1.heap.size+1+1+1,0,none⟩)]) (zaz r) (fun _=>Fit3 1) B 2 w6.heap.size 0 2 [w1.heap.size,w1.heap.size+1,w1.heap.size+1+1,w1.heap.size+1+1+1] w7 E d K
   (fun i hi=>by
    rcases i with _ | _ | i
    ·exact zcJ 0 (by decide) r o6 o7 o8 k6 k7 k8 _ hsr w1.heap.size (w1.heap.size+1) B w7 (q1.cell 0) q2 (zac.rd_below hrw bB7 l3) _ (by simp) (by simp) l3
    ·exact zcJ 1 (by decide) r o6 o7 o8 k6 k7 k8 _ hsr (w1.heap.size+1+1) (w1.heap.size+1+1+1) B w7 (q3.cell 0) q4 (zac.rd_below hrw bB7 l3) _ (by simp) (by simp) l3
    ·omega) (fun i hi=>by
    rcases i with _ | _ | i
    ·exact XN.cell 0
    ·exact XN.cell 1
    ·omega) z7 ⟨by omega,fun hm=>by have:=hKlt _ hm;omega⟩ hBE HBK.out (by decide) (HX.out.below bw7) (zeK r 2 0 d (by decide) HF.out)
   (fun x hx=>by
    have hx4:x=w1.heap.size∨x=w1.heap.size+1∨x=w1.heap.size+1+1∨x=w1.heap.size+1+1+1:=by simpa using hx
    have:=q1.lt;have:=q4.lt
    exact ⟨by omega,by omega,fun hm=>by have:=hKlt _ hm;omega⟩)
  rw [← HE.out] at CR;rw [← hw7]
  cases oc with
  | cut d2=>
   have CW:=CR.mono (R':=fun e w'=>∃ c,e=.panicked c∧c=[{ v:=.iface 177 (.agg #[]),recovered:=false }]∧∃ K',EncF w' E d2 K'∧(∀ b,b∈K'→b∈K∨w7.heap.size≤b)∧ChgL (E::K) w7 w') (fun e w' ⟨h1,h2⟩=>⟨_,h1,rfl,h2⟩);refine zak (i:=6) (o:=_) rfl (by kernel_rfl) (fun KC hKC=>?_);refine zh2 rfl 77 _ _ rfl #[.pointer (some ⟨E,0,none⟩),.slice (some ⟨w6.heap.size,0,none⟩) 2 2] ?_ Tryz.func77 (by kernel_rfl) (by kernel_rfl) CW ?_
   ·simp [Act.eval,Act.put]
   rintro ee w8 ⟨_,rfl,rfl,K8,X8,s8,C8⟩;refine ⟨_,rfl,?_⟩;exact ⟨rfl,RunP.after (rv:=fun c=>.int .i64 c) (o:=.cut d2) (fun b hb=>.inl hb) (ChgL.of_below bw7) ⟨rfl,K8,X8,s8,C8⟩⟩
  | done c d2=>
   have CW:=CR.mono (R':=fun e w'=>∃ v,e=.returned v∧v=.int .i64 c∧∃ K',EncB w' E d2 K'∧(∀ b,b∈K'→b∈K∨w7.heap.size≤b)∧ChgL (E::K) w7 w') (fun e w' ⟨h1,h2⟩=>⟨_,h1,rfl,h2⟩);refine zak (i:=6) (o:=_) rfl (by kernel_rfl) (fun KC hKC=>?_);refine zat rfl 77 _ _ rfl #[.pointer (some ⟨E,0,none⟩),.slice (some ⟨w6.heap.size,0,none⟩) 2 2] ?_ Tryz.func77 (by kernel_rfl) (by kernel_rfl) CW ?_
   ·simp [Act.eval,Act.put]
   rintro ee w8 ⟨_,rfl,rfl,K8,X8,s8,C8⟩;refine ⟨_,rfl,?_⟩
   refine hKC.out _ _ ((g3.below b7 hal).chgl C8 (fun hm=>by
    rcases List.mem_cons.1 hm with h | h
    ·omega
    ·have:=HBK.out _ h;omega)) (fun hHeld=>?_)
   clear hKC KC
   try simp only [Act.put,SL]
   refine zbe (o:=_) rfl (by kernel_rfl) (fun KC hKC=>?_);go_simp;refine hKC.out _ _ ?_;clear hKC KC
   try simp only [Act.put,SL]
   refine zbf (by kernel_rfl) ?_ _;go_wp2;go_ret;exact RunP.after (rv:=fun c=>.int .i64 c) (o:=.done c d2) (fun b hb=>.inl hb) (ChgL.of_below bw7) ⟨rfl,K8,X8,s8,C8⟩
def LyAns (d:WorldD) (r:RecD) (q:WorldResultD):Prop:=(∃ x,x≠0∧AskAns d x∧q=⟨x,zep⟩)∨(AskAns d 0∧((∃ x,x≠0∧RecAns d.shape r x∧q=⟨x,zep⟩)∨(RecAns d.shape r 0∧q=(layF r d).final)))
theorem LyAns.one {d:WorldD} {r:RecD} {p q:WorldResultD} (h:LyAns d r p) (l:LyAns d r q):p=q:=by
 rcases h with ⟨x,h1,h2,rfl⟩ | ⟨h1,h⟩<;>rcases l with ⟨y,k1,k2,rfl⟩ | ⟨k1,l⟩
 ·rw [h2.one k2]
 ·exact absurd (h2.one k1) h1
 ·exact absurd (k2.one h1) k1
 ·rcases h with ⟨x,h3,h4,rfl⟩ | ⟨h3,rfl⟩<;>rcases l with ⟨y,k3,k4,rfl⟩ | ⟨k3,rfl⟩
  ·rw [h4.one k4]
  ·exact absurd (h4.one k3) h3
  ·exact absurd (k4.one h3) k3
  ·rfl
theorem zdO {s:Nat→Int} {r:RecD} {x:Int} (h:RecAns s r x):-9223372036854775808≤x∧x≤9223372036854775807:=by have:=zfV h;omega
theorem zhr {r:RecD} (h:zaF r≤1048576):r.name.size≤1048576:=by unfold zaF at h;omega
theorem ziQ {d:WorldD} (h:OkWorld d) (hd:d.down=false):Fit3 1000 d:=by
 obtain ⟨hc,_⟩:=h.count;unfold InP at hc;refine ⟨h.form.2.2,fun T hT=>?_,hd,by omega,by omega⟩;have:=h.few T (by rw [h.form.2.2];exact hT);omega
theorem ziR {r:RecD} {d:WorldD}:-9223372036854775808≤(layF r d).code∧(layF r d).code≤9223372036854775807:=by
 unfold layF
 split
 ·exact ⟨show (-9223372036854775808:Int)≤2 by decide,show (2:Int)≤9223372036854775807 by decide⟩
 ·cases e:runO (zaz r) 2 0 d with
  | cut x=>exact ⟨show (-9223372036854775808:Int)≤0 by decide,show (0:Int)≤9223372036854775807 by decide⟩
  | done c x=>
   rw [zeJ (d:=d) _ _ _ _ _ e];exact ⟨show (-9223372036854775808:Int)≤0 by decide,show (0:Int)≤9223372036854775807 by decide⟩
set_option maxRecDepth 20000 in
theorem zg0 (d:WorldD) (r:RecD) (cs csr:List Value) (hi:Nat) (w:World) (h:zad.rd w hi d cs) (hr:zac.rd w hi r csr) (hhi:hi≤w.heap.size) (hsz:zaV d≤1048576) (hsr:zaF r≤1048576) :
 Calls Tryz.prog 10 #[.agg cs.toArray,.agg csr.toArray] w (zeZ (LyAns d r) w):=by
 have h':=h;obtain ⟨ao1,cap1,ao2,cap2,ao3,cap3,rfl,g1,g2,g3,k0,k4,k5⟩:=zaK h';obtain ⟨o6,k6,o7,k7,o8,k8,rfl,-⟩:=zbh hr;have HRD:=hid h;have HRR:=hid hr;have HSZ:=hid hsz;have HSR:=hid hsr;have hmf:∀ (fn:Fn) (first cap:Array Value) (w:World),(Instr.makeFunc fn first cap).run Tryz.prog w=.ok (.func fn first cap) w:=fun _ _ _ _=>rfl;clear h h' hr hsz hsr g1 g2 g3 k0 k4 k5;have T0:=zbp w (rwW d ao1 cap1 ao2 cap2 ao3 cap3).toArray (rwR r o6 k6 o7 k7 o8 k8).toArray rwZ.toArray 38 43 40
 go_enter Tryz.func10,Tryz.ntmps10
 go_wp2_with (refine zam 38 (.tmp 2) rfl rfl (w.heap.size) rfl (T0.b1) Tryz.underlying38 zbo rfl ?_)
 refine (zgW d _ hi _ (zad.rd_below HRD.out T0.bel hhi) (Nat.le_trans hhi T0.bel.size) HSZ.out).mono ?_;rintro e w1 ⟨x,rfl,hx,b1⟩;have HT1:=hid (T0.call b1);have HX:=hid hx;have z1:w.heap.size+1+1<w1.heap.size:=HT1.out.b3.lt;clear b1 T0 hx
 by_cases hx0:x=0
 case neg=>
  have hne:(x != 0)=true:=by simp [hx0]
  go_wp2_with (refine zaR 40 _ _ rfl rfl (w.heap.size+1+1) rfl (cs:=(.int .i64 x::rwY)) rfl (HT1.out.b3) zay rfl rfl (zcm _ (zdl HX.out) w) ?_;intro w9 X9 C9 z9)
  refine zbI Tryz.results10 rfl X9 Tryz.underlying40 zay rfl rfl ?_;exact zch (by omega) (zdl HX.out) HT1.out.bel C9 (.inl ⟨x,hx0,HX.out,rfl⟩)
 subst hx0;have HOK:=hid (ziM HX.out);have x_0:w1.cell? ⟨w.heap.size,0,none⟩=some (.int .i64 (d.shape 0)):=HT1.out.b1.cell 0;have x_1:w1.cell? ⟨w.heap.size,1,none⟩=some (.int .i64 (d.shape 1)):=HT1.out.b1.cell 1;have x_2:w1.cell? ⟨w.heap.size,2,none⟩=some (.int .i64 (d.shape 2)):=HT1.out.b1.cell 2;have x_3:w1.cell? ⟨w.heap.size,3,none⟩=some (.int .i64 (d.shape 3)):=HT1.out.b1.cell 3;have x_4:w1.cell? ⟨w.heap.size,4,none⟩=some (.int .i64 (d.shape 4)):=HT1.out.b1.cell 4;have x_5:w1.cell? ⟨w.heap.size,5,none⟩=some (.int .i64 (d.shape 5)):=HT1.out.b1.cell 5;have x_6:w1.cell? ⟨w.heap.size,6,none⟩=some (.int .i64 (d.shape 6)):=HT1.out.b1.cell 6;have x_7:w1.cell? ⟨w.heap.size,7,none⟩=some (.int .i64 (d.shape 7)):=HT1.out.b1.cell 7;have x_8:w1.cell? ⟨w.heap.size,8,none⟩=some (.int .i64 (d.shape 8)):=HT1.out.b1.cell 8;have CRF:=zea d.shape r (rwR r o6 k6 o7 k7 o8 k8) hi w1 (zac.rd_below HRR.out HT1.out.bel hhi) (Nat.le_trans hhi HT1.out.bel.size) (zhr HSR.out);unfold zal at CRF
 go_wp2_with (refine zam 43 (.tmp 3) rfl rfl (w.heap.size+1) rfl (HT1.out.b2) Tryz.underlying43 zbM rfl ?_)
 refine CRF.mono ?_;rintro e wA ⟨y,rfl,hy,bA⟩;have HTA:=hid (HT1.out.call bA);have zA:w1.heap.size≤wA.heap.size:=bA.size;have HY:=hid hy;clear bA CRF hy x_0 x_1 x_2 x_3 x_4 x_5 x_6 x_7 x_8
 by_cases hy0:y=0
 case neg=>
  have hne:(y != 0)=true:=by simp [hy0]
  go_wp2_with (refine zaR 40 _ _ rfl rfl (w.heap.size+1+1) rfl (cs:=(.int .i64 y::rwY)) rfl (HTA.out.b3) zay rfl rfl (zcm _ (zdO HY.out) w) ?_;intro w9 X9 C9 z9)
  refine zbI Tryz.results10 rfl X9 Tryz.underlying40 zay rfl rfl ?_;exact zch (by omega) (zdO HY.out) HTA.out.bel C9 (.inr ⟨HX.out,.inl ⟨y,hy0,HY.out,rfl⟩⟩)
 subst hy0;have hf0:=ziQ HOK.out (zjg HX.out);have CK:=ziP (.int .i64 r.kind) (.int .i64 r.seq) (.string r.name) (.int .i64 r.length) (.int .i64 r.group) (.int .i64 r.row) (.slice o6 r.rows.1 k6) (.slice o7 r.data.1 k7) (.slice o8 r.delta.1 k8) wA.drew;have B0:Below wA.heap.size wA wA.drew:=zb2 _;have KS:∀ w',Below wA.heap.size wA w'→(Box w' w.heap.size (rwW d ao1 cap1 ao2 cap2 ao3 cap3).toArray 38∧Box w' (w.heap.size+1) (rwR r o6 k6 o7 k7 o8 k8).toArray 43):=fun w' hb=>⟨HTA.out.b1.call hb,HTA.out.b2.call hb⟩
 go_upto_region 7 with fail
 refine za3 5 (fun w'=>Box w' w.heap.size (rwW d ao1 cap1 ao2 cap2 ao3 cap3).toArray 38∧Box w' (w.heap.size+1) (rwR r o6 k6 o7 k7 o8 k8).toArray 43) (by kernel_rfl) (KS _ B0) (fun hHeld=>?_);refine zaa (i:=0) (oi:=_) 16 rfl (by kernel_rfl) (fun _ _ _ h=>h) (za6 38 (.tmp 2) rfl rfl (w.heap.size) rfl (cs:=(rwW d ao1 cap1 ao2 cap2 ao3 cap3)) (fun w' h=>h.1) Tryz.underlying38 zbo rfl) (by assumption) ?_
 try simp only [Act.put,SL]
 refine zaa (i:=1) (oi:=_) 16 rfl (by kernel_rfl) (fun _ _ _ h=>h) (za6 43 (.tmp 3) rfl rfl (w.heap.size+1) rfl (cs:=(rwR r o6 k6 o7 k7 o8 k8)) (fun w' h=>h.2) Tryz.underlying43 zbM rfl) (by assumption) ?_
 try simp only [Act.put,SL]
 refine zak (i:=2) (o:=_) rfl (by kernel_rfl) (fun KC hKC=>?_);refine zat rfl 38 _ _ rfl #[.agg (rwR r o6 k6 o7 k7 o8 k8).toArray] ?_ Tryz.func38 (by kernel_rfl) (by kernel_rfl) CK ?_
 ·simp [Act.eval,Act.put]
 rintro ee w5 ⟨rfl,q1,b5'⟩;have b5:Below wA.heap.size wA w5:=B0.trans b5';have q1:Box w5 wA.heap.size (rwR r o6 k6 o7 k7 o8 k8).toArray 43:=q1;refine ⟨_,rfl,?_⟩;refine hKC.out _ _ (KS _ b5) (fun hHeld=>?_);clear hKC KC CK b5'
 try simp only [Act.put,SL]
 refine zak (i:=3) (o:=_) rfl (by kernel_rfl) (fun KC hKC=>?_);have bN:Below w5.heap.size w5 (w5.alloc (.cells #[.func (.func 78) #[] #[.pointer (some ⟨wA.heap.size,0,none⟩)]] 72)):=(Below.refl _ _).alloc (Nat.le_refl _) _;have XN:Box (w5.alloc (.cells #[.func (.func 78) #[] #[.pointer (some ⟨wA.heap.size,0,none⟩)]] 72)) w5.heap.size #[.func (.func 78) #[] #[.pointer (some ⟨wA.heap.size,0,none⟩)]] 72:=zax _ _ _;go_simp;refine hKC.out _ _ (KS _ (b5.trans (bN.mono b5.size))) (fun hHeld=>?_);clear hKC KC
 try simp only [Act.put,SL]
 obtain ⟨w6,hw6⟩:∃ x,x=(w5.alloc (.cells #[.func (.func 78) #[] #[.pointer (some ⟨wA.heap.size,0,none⟩)]] 72)):=⟨_,rfl⟩
 have b6:Below wA.heap.size wA w6:=by rw [hw6];exact b5.trans (bN.mono b5.size)
 have z56:w5.heap.size<w6.heap.size:=by rw [hw6];exact XN.lt
 have T6:=HTA.out.call b6
 have b56:Below w5.heap.size w5 w6:=by rw [hw6];exact bN
 have xN:w6.cell? ⟨w5.heap.size,0+0,none⟩=some (.func (.func 78) #[] #[.pointer (some ⟨wA.heap.size,0,none⟩)]):=by rw [hw6];exact XN.cell 0
 have q1':=q1.below b56 q1.lt
 have CV:=zf9 d (rwW d ao1 cap1 ao2 cap2 ao3 cap3) hi (fun _=>78) (fun _=>#[.pointer (some ⟨wA.heap.size,0,none⟩)]) (fun _=>layF r) (fun _=>Fit3 2) 1 w5.heap.size 0 1 w6 (zad.rd_below HRD.out T6.bel hhi) (Nat.le_trans hhi T6.bel.size) HSZ.out
  (fun i _=>zgZ r o6 o7 o8 k6 k7 k8 hi HSR.out wA.heap.size w6.heap.size w6 q1' (zac.rd_below HRR.out T6.bel hhi) q1'.lt (Nat.le_trans hhi T6.bel.size) (Nat.le_refl _)) (fun i hi=>by
   have h0:i=0:=by omega
   subst h0
   exact xN) z56 (by decide) ⟨hf0.less (by decide),by unfold zfh;split<;>simp [zcI]⟩ (by rw [ziN];exact ziR)
 rw [ziN] at CV
 have CW:=CV.mono (R':=fun e w'=>∃ sc s0 s1 s2 s3 s4 s5 s6 s7 s8 sp0 sl0 sq0 sp1 sl1 sq1 sp2 sl2 sq2 s9 s10 sb,e=.returned (.agg (.int .i64 sc::rwV s0 s1 s2 s3 s4 s5 s6 s7 s8 sp0 sl0 sq0 sp1 sl1 sq1 sp2 sl2 sq2 s9 s10 sb).toArray)∧OwnT zah w' w6.heap.size w'.heap.size (layF r d).final (.int .i64 sc::rwV s0 s1 s2 s3 s4 s5 s6 s7 s8 sp0 sl0 sq0 sp1 sl1 sq1 sp2 sl2 sq2 s9 s10 sb)∧Below w6.heap.size w6 w') (fun e w' ⟨cs',he,ho,hb⟩=>by
  obtain ⟨sc,s0,s1,s2,s3,s4,s5,s6,s7,s8,sp0,sl0,sq0,sp1,sl1,sq1,sp2,sl2,sq2,s9,s10,sb,rfl⟩:=zhl ho.rd
  exact ⟨sc,s0,s1,s2,s3,s4,s5,s6,s7,s8,sp0,sl0,sq0,sp1,sl1,sq1,sp2,sl2,sq2,s9,s10,sb,he,ho,hb⟩)
 clear CV hf0;rw [← hw6];refine zak (i:=4) (o:=_) rfl (by kernel_rfl) (fun KC hKC=>?_);refine zat rfl 37 _ _ rfl #[.agg (rwW d ao1 cap1 ao2 cap2 ao3 cap3).toArray,.slice (some ⟨w5.heap.size,0,none⟩) 1 1] ?_ Tryz.func37 (by kernel_rfl) (by kernel_rfl) CW ?_
 ·simp [Act.eval,Act.put]
 rintro ee w7 ⟨sc,s0,s1,s2,s3,s4,s5,s6,s7,s8,sp0,sl0,sq0,sp1,sl1,sq1,sp2,sl2,sq2,s9,s10,sb,rfl,o7,b7⟩;have T7:=T6.call b7;have z7:w6.heap.size≤w7.heap.size:=b7.size;refine ⟨_,rfl,?_⟩;refine hKC.out _ _ (KS _ (b6.trans (b7.mono b6.size))) (fun hHeld=>?_);clear hKC KC
 try simp only [Act.put,SL]
 refine za7 rfl (by kernel_rfl) (by kernel_rfl) rfl rfl 40 (.tmp 4) (.tmp 25) rfl (w.heap.size+1+1) rfl (cs:=(.int .i64 sc::rwV s0 s1 s2 s3 s4 s5 s6 s7 s8 sp0 sl0 sq0 sp1 sl1 sq1 sp2 sl2 sq2 s9 s10 sb)) (old:=rwZ) rfl T7.b3 zay rfl rfl o7.one (fun w9 X9 C9 z9=>?_);have z6:=b6.size;go_wp2;refine zbI Tryz.results10 rfl X9 Tryz.underlying40 zay rfl rfl ?_;exact ⟨_,(.int .i64 sc::rwV s0 s1 s2 s3 s4 s5 s6 s7 s8 sp0 sl0 sq0 sp1 sl1 sq1 sp2 sl2 sq2 s9 s10 sb),rfl,.inr ⟨HX.out,.inr ⟨HY.out,rfl⟩⟩,(o7.chgk C9 (fun b hb=>by simp at hb;omega)).weaken (by omega) C9.size,T7.bel.trans (C9.bel (fun b hb=>by simp at hb;omega) T7.bel.size)⟩
theorem drive_of' {w:World} {lo hi:Nat} {d:DriveD} {ao:Option Addr} {cap:Nat} (h:OwnT (zai.slice 103) w lo hi d.blocks [.slice ao d.blocks.1 cap]):OwnT zab w lo hi d [.bool d.wiped,.slice ao d.blocks.1 cap]:=
 OwnT.conv (OwnT.pre (A:=layB) (a:=d.wiped) (c:=[.bool d.wiped]) ⟨rfl,trivial,rfl⟩ h)
theorem tape_of' {w:World} {lo hi:Nat} {d:TapeD} {ao:Option Addr} {cap:Nat} (h:OwnT (zac.slice 43) w lo hi d.recs [.slice ao d.recs.1 cap]):OwnT zag w lo hi d [.bool d.wiped,.slice ao d.recs.1 cap]:=
 OwnT.conv (OwnT.pre (A:=layB) (a:=d.wiped) (c:=[.bool d.wiped]) ⟨rfl,trivial,rfl⟩ h)
theorem Three.chgl3 {w wc w':World} {c1 c2 c3:Array Value} {t1 t2 t3:TypeId} (h:Three w wc c1 c2 c3 t1 t2 t3) (c3':Array Value) (hb:Box w' (w.heap.size+1+1) c3' t3) (hc:ChgL [w.heap.size+1+1] wc w'):Three w w' c1 c2 c3' t1 t2 t3:=
 ⟨h.b1.chgl hc (by simp only [List.mem_singleton];omega),h.b2.chgl hc (by simp only [List.mem_singleton];omega),hb,h.bel.trans (hc.bel (fun b hb=>by simp only [List.mem_singleton] at hb;omega) h.bel.size)⟩
theorem OwnT.chgl {α:Type} {A:Lay α} {w w':World} {lo hi:Nat} {a:α} {cs:List Value} {K:List Nat} (h:OwnT A w lo hi a cs) (hc:ChgL K w w') (hK:∀ b,b∈K→b<lo):OwnT A w' lo hi a cs:=by
 obtain ⟨M,h1,h2,h3⟩:=h;exact ⟨M,A.own_kept h1 (fun b hb=>hc.block b (A.own_lt h1 b hb) (fun hh=>by have:=hK b hh;have:=(h3 b hb).1;omega)),h2,h3⟩
set_option maxRecDepth 20000 in
theorem ziS:ToV zad zaV 27:=fun cs d hi w r hhi hn=>by
 obtain ⟨ao1,cap1,ao2,cap2,ao3,cap3,rfl,g1,g2,g3,k0,k4,k5⟩:=zaK r;clear r;unfold zaV lenD at hn
 have hnG:szSl (szSl zap) d.groups≤1048576:=by omega
 have hnO:d.on.1≤1048576:=by omega
 have hnT:szSl zaU d.tapes≤1048576:=by omega
 clear hn;have Q0:=hid k0;have Q4:=hid k4;have Q5:=hid k5;have HG2:=hid g2;obtain ⟨_,_,e1,hm1,hc1⟩:=g1
 cases e1
 obtain ⟨_,_,e3,hm3,hc3⟩:=g3
 cases e3
 have HC1:=hid hc1;have HC3:=hid hc3;have hgn:=zb5 hnG;have htn:=zb5 hnT;have HNG:Hid (∀ i,i<d.groups.1→szSl zap (d.groups.2 i)≤1048576):=fun i hi=>zbn hnG hi;have HNT:Hid (∀ i,i<d.tapes.1→zaU (d.tapes.2 i)≤1048576):=fun i hi=>zbn hnT hi;clear k0 k4 k5 g2 hc1 hc3 hnG hnT hm1 hm3;have T0:=zbp w (rwW d ao1 cap1 ao2 cap2 ao3 cap3).toArray (rwV 0 0 0 0 0 0 0 0 0 none 0 0 none 0 0 none 0 0 0 0 false).toArray #[.int .i64 (d.shape 0),.int .i64 (d.shape 1),.int .i64 (d.shape 2),.int .i64 (d.shape 3),.int .i64 (d.shape 4),.int .i64 (d.shape 5),.int .i64 (d.shape 6),.int .i64 (d.shape 7),.int .i64 (d.shape 8),.slice none 0 0,.slice ao2 d.on.1 cap2,.slice ao3 d.tapes.1 cap3,.int .i64 d.writes,.int .i64 d.stop,.bool d.down] 38 38 38
 go_enter Tryz.func27,Tryz.ntmps27
 go_wp2
 go_loopw [4] (fun i wr=>∃ (g:Nat) (ga:Option Addr) (gc:Nat),g≤d.groups.1∧i=.int .i64 g∧Three w wr (rwW d ao1 cap1 ao2 cap2 ao3 cap3).toArray (rwV 0 0 0 0 0 0 0 0 0 none 0 0 none 0 0 none 0 0 0 0 false).toArray #[.int .i64 (d.shape 0),.int .i64 (d.shape 1),.int .i64 (d.shape 2),.int .i64 (d.shape 3),.int .i64 (d.shape 4),.int .i64 (d.shape 5),.int .i64 (d.shape 6),.int .i64 (d.shape 7),.int .i64 (d.shape 8),.slice ga g gc,.slice ao2 d.on.1 cap2,.slice ao3 d.tapes.1 cap3,.int .i64 d.writes,.int .i64 d.stop,.bool d.down] 38 38 38∧Gat (zab.slice 101) 98 wr (w.heap.size+1+1+1) (.slice ga g gc) g d.groups.2) (fun i _=>d.groups.1-(intOf i).toNat)
 case atStart=>exact ⟨0,none,0,Nat.zero_le _,rfl,T0,Gat.nil _ _ _⟩
 case round=>
  clear T0;obtain ⟨g,ga,gc,hg,rfl,T1,G1⟩:=hrel;obtain ⟨wo,rfl⟩:∃ x,x=wr:=⟨_,rfl⟩;have HT1:=hid T1;have HG1:=hid G1;have zo:w.heap.size+1+1+1≤wo.heap.size:=T1.lt;have x9:wo.cell? ⟨w.heap.size,9,none⟩=some (.slice ao1 d.groups.1 cap1):=T1.b1.cell 9
  by_cases hlg:g<d.groups.1
  ·obtain ⟨b1,off1,he1,hb1,hel1⟩:=HC1.out (by omega)
   subst he1;obtain ⟨cg,hrg,hcg⟩:=zas (t:=0) hel1 T1.bel hhi hb1 hlg;obtain ⟨ao9,cap9,rfl⟩:=zbu hrg
   have c0:wo.cell? ⟨b1,off1+g,none⟩=some (.slice ao9 (d.groups.2 g).1 cap9):=by
    have:=hcg 0 (by decide)
    have e:off1+(g*(zab.slice 101).sz+0)=off1+g:=by show off1+(g*1+0)=off1+g;omega
    rw [e] at this;exact this
   have HC0:=hid c0;have hnD:=HNG.out g hlg;have hdn:=zb5 hnD;have HND:Hid (∀ i,i<(d.groups.2 g).1→zap ((d.groups.2 g).2 i)≤1048576):=fun i hi=>zbn hnD hi;obtain ⟨_,_,e9,hm9,hc9⟩:=hrg
   cases e9
   have HC9:=hid hc9;clear hel1 hcg T1 G1 hc9 hnD hm9;go_wp2
   go_loopw [5,6] (fun v i wx=>∃ (k:Nat) (da:Option Addr) (dc:Nat),k≤(d.groups.2 g).1∧i=.int .i64 k∧v=.slice da k dc∧Gat zab 101 wx wo.heap.size (.slice da k dc) k (d.groups.2 g).2∧Below wo.heap.size wo wx) (fun _ i _=>(d.groups.2 g).1-(intOf i).toNat)
   case atStart=>exact ⟨0,_,_,Nat.zero_le _,rfl,rfl,zhj _ _,(Below.refl _ _).alloc (Nat.le_refl _) _⟩
   case round=>
    clear x9 c0;obtain ⟨k,da,dc,hk,rfl,rfl,G2,B2⟩:=hrel;obtain ⟨wx,rfl⟩:∃ x,x=wr:=⟨_,rfl⟩;have HG2':=hid G2;have HB2:=hid B2;have zx:wo.heap.size≤wx.heap.size:=B2.size;have x9:wx.cell? ⟨w.heap.size,9,none⟩=some (.slice (some ⟨b1,off1,none⟩) d.groups.1 cap1):=(HT1.out.call B2).b1.cell 9;have c0:wx.cell? ⟨b1,off1+g,none⟩=some (.slice ao9 (d.groups.2 g).1 cap9):=(B2.cell (p:=⟨b1,off1+g,none⟩) (by show b1<wo.heap.size;omega)).trans HC0.out
    by_cases hlk:k<(d.groups.2 g).1
    ·obtain ⟨b9,off9,he9,hb9,hel9⟩:=HC9.out (by omega)
     subst he9;obtain ⟨cd,hrd,hcd⟩:=zas (t:=0) hel9 B2 (by omega) hb9 hlk;obtain ⟨ao5,cap5,rfl,g5⟩:=zbk hrd;obtain ⟨D,hD⟩:∃ x,x=(d.groups.2 g).2 k:=⟨_,rfl⟩;rw [← hD] at hcd g5;have HD:=hid hD
     have hnB:szSl zaD D.blocks≤1048576:=by rw [hD];exact HND.out k hlk
     have hbn:=zb5 hnB;have HNB:Hid (∀ i,i<D.blocks.1→zaD (D.blocks.2 i)≤1048576):=fun i hi=>zbn hnB hi;have c2:wx.cell? ⟨b9,off9+k*2,none⟩=some (.bool D.wiped):=hcd 0 (by decide);have c3:wx.cell? ⟨b9,off9+k*2+1,none⟩=some (.slice ao5 D.blocks.1 cap5):=hcd 1 (by decide);have HC3':=hid c3;have HC0':=hid c0;obtain ⟨_,_,e5,hm5,hc5⟩:=g5
     cases e5
     have HC5:=hid hc5;clear hel9 hcd hrd G2 B2 hD hnB hc5 hm5;go_wp2;have bA:=bAl wx (.cells #[.bool D.wiped,.slice none 0 0] 101);have XA:=zax wx #[.bool D.wiped,.slice none 0 0] 101
     go_loopw [8] (fun i wz=>∃ (q:Nat) (ba:Option Addr) (bc:Nat),q≤D.blocks.1∧i=.int .i64 q∧Box wz wx.heap.size #[.bool D.wiped,.slice ba q bc] 101∧Gat zai 103 wz (wx.heap.size+1) (.slice ba q bc) q D.blocks.2∧Below wx.heap.size wx wz) (fun i _=>D.blocks.1-(intOf i).toNat)
     case atStart=>exact ⟨0,none,0,Nat.zero_le _,rfl,XA,Gat.nil _ _ _,bA⟩
     case round=>
      clear x9 c0 c2 c3 bA XA;obtain ⟨q,ba,bc,hq,rfl,X3,G3,B3⟩:=hrel;obtain ⟨wz,rfl⟩:∃ x,x=wr:=⟨_,rfl⟩;have HX3:=hid X3;have HG3:=hid G3;have HB3:=hid B3;have zz:wx.heap.size<wz.heap.size:=X3.lt;have x9:wz.cell? ⟨w.heap.size,9,none⟩=some (.slice (some ⟨b1,off1,none⟩) d.groups.1 cap1):=((HT1.out.call HB2.out).call B3).b1.cell 9;have c0:wz.cell? ⟨b1,off1+g,none⟩=some (.slice (some ⟨b9,off9,none⟩) (d.groups.2 g).1 cap9):=(B3.cell (p:=⟨b1,off1+g,none⟩) (by show b1<wx.heap.size;omega)).trans HC0'.out;have c3:wz.cell? ⟨b9,off9+k*2+1,none⟩=some (.slice ao5 D.blocks.1 cap5):=(B3.cell (p:=⟨b9,off9+k*2+1,none⟩) (by show b9<wx.heap.size;omega)).trans HC3'.out;have y0:wz.cell? ⟨wx.heap.size,0,none⟩=some (.bool D.wiped):=X3.cell 0;have y1:wz.cell? ⟨wx.heap.size,1,none⟩=some (.slice ba q bc):=X3.cell 1
      by_cases hlq:q<D.blocks.1
      ·obtain ⟨b5,off5,he5,hb5,hel5⟩:=HC5.out (by omega)
       subst he5;obtain ⟨cb,hrb,hcb⟩:=zas (t:=0) hel5 B3 (by omega) hb5 hlq;obtain ⟨ao0,cap0,rfl,-⟩:=zbd hrb;have s0:wz.cell? ⟨b5,off5+q*2,none⟩=some (.int .i64 (D.blocks.2 q).stamp):=hcb 0 (by decide);have s1:wz.cell? ⟨b5,off5+q*2+1,none⟩=some (.slice ao0 (D.blocks.2 q).bytes.1 cap0):=hcb 1 (by decide);have CC:=zet _ (D.blocks.2 q) hi wz.drew (zai.rd_below (B:=hi) hrb ⟨rfl,rfl,rfl,Nat.le_refl _,fun _ _=>rfl⟩ (Nat.le_refl _)) (show hi≤wz.heap.size by omega) (HNB.out q hlq)
       have CC:=CC.mono (R':=fun e w'=>∃ bo bcc,e=.returned (.agg #[.int .i64 (D.blocks.2 q).stamp,.slice bo (D.blocks.2 q).bytes.1 bcc])∧OwnT zai w' wz.drew.heap.size w'.heap.size (D.blocks.2 q) [.int .i64 (D.blocks.2 q).stamp,.slice bo (D.blocks.2 q).bytes.1 bcc]∧Below wz.drew.heap.size wz.drew w') (fun e w' ⟨c5,he,o5,b5'⟩=>by
        obtain ⟨bo,bcc,rfl⟩:=zcZ o5
        exact ⟨bo,bcc,he,o5,b5'⟩)
       clear hel5 hcb hrb X3 G3 B3;have KS:∀ w',Below (wx.heap.size+1) wz w'→(w'.cell? ⟨w.heap.size,9,none⟩=some (.slice (some ⟨b1,off1,none⟩) d.groups.1 cap1)∧w'.cell? ⟨b1,off1+g,none⟩=some (.slice (some ⟨b9,off9,none⟩) (d.groups.2 g).1 cap9)∧w'.cell? ⟨b9,off9+k*2+1,none⟩=some (.slice (some ⟨b5,off5,none⟩) D.blocks.1 cap5)∧w'.cell? ⟨b5,off5+q*2,none⟩=some (.int .i64 (D.blocks.2 q).stamp)∧w'.cell? ⟨b5,off5+q*2+1,none⟩=some (.slice ao0 (D.blocks.2 q).bytes.1 cap0)∧w'.cell? ⟨wx.heap.size,1,none⟩=some (.slice ba q bc)):=fun w' hb=>⟨(hb.cell (p:=⟨w.heap.size,9,none⟩) (by show w.heap.size<wx.heap.size+1;omega)).trans x9,(hb.cell (p:=⟨b1,off1+g,none⟩) (by show b1<wx.heap.size+1;omega)).trans c0,(hb.cell (p:=⟨b9,off9+k*2+1,none⟩) (by show b9<wx.heap.size+1;omega)).trans c3,(hb.cell (p:=⟨b5,off5+q*2,none⟩) (by show b5<wx.heap.size+1;omega)).trans s0,(hb.cell (p:=⟨b5,off5+q*2+1,none⟩) (by show b5<wx.heap.size+1;omega)).trans s1,(hb.cell (p:=⟨wx.heap.size,1,none⟩) (Nat.lt_succ_self _)).trans y1⟩
       have i1:(0:Int)≤(g:Int):=by omega
       have i2:(g:Int)<(d.groups.1:Int):=by omega
       have i3:(0:Int)≤(k:Int):=by omega
       have i4:(k:Int)<((d.groups.2 g).1:Int):=by omega
       have i5:(0:Int)≤(q:Int):=by omega
       have i6:(q:Int)<(D.blocks.1:Int):=by omega
       go_upto_region 14 with fail
       refine za3 18 (fun w'=>w'.cell? ⟨w.heap.size,9,none⟩=some (.slice (some ⟨b1,off1,none⟩) d.groups.1 cap1)∧w'.cell? ⟨b1,off1+g,none⟩=some (.slice (some ⟨b9,off9,none⟩) (d.groups.2 g).1 cap9)∧w'.cell? ⟨b9,off9+k*2+1,none⟩=some (.slice (some ⟨b5,off5,none⟩) D.blocks.1 cap5)∧w'.cell? ⟨b5,off5+q*2,none⟩=some (.int .i64 (D.blocks.2 q).stamp)∧w'.cell? ⟨b5,off5+q*2+1,none⟩=some (.slice ao0 (D.blocks.2 q).bytes.1 cap0)∧w'.cell? ⟨wx.heap.size,1,none⟩=some (.slice ba q bc)) (by kernel_rfl) (KS _ ⟨rfl,rfl,rfl,Nat.le_refl _,fun _ _=>rfl⟩) (fun hHeld=>?_);refine zjJ 0 rfl ?_
       try simp only [Act.put,SL]
       refine zjJ 1 rfl ?_
       try simp only [Act.put,SL]
       refine zjJ 2 rfl ?_
       try simp only [Act.put,SL]
       refine zjJ 3 rfl ?_
       try simp only [Act.put,SL]
       refine zjJ 4 rfl ?_
       try simp only [Act.put,SL]
       refine zjJ 5 rfl ?_
       try simp only [Act.put,SL]
       refine zjJ 6 rfl ?_
       try simp only [Act.put,SL]
       refine zjJ 7 rfl ?_
       try simp only [Act.put,SL]
       refine zjJ 8 rfl ?_
       try simp only [Act.put,SL]
       refine zjJ 9 rfl ?_
       try simp only [Act.put,SL]
       refine zjJ 10 rfl ?_
       try simp only [Act.put,SL]
       refine zjJ 11 rfl ?_
       try simp only [Act.put,SL]
       refine zjJ 12 rfl ?_
       try simp only [Act.put,SL]
       refine zjJ 13 rfl ?_
       try simp only [Act.put,SL]
       refine zak (i:=14) (o:=_) rfl (by kernel_rfl) (fun K hK=>?_)
       refine zat rfl 63 _ _ rfl #[.agg #[.int .i64 (D.blocks.2 q).stamp,.slice ao0 (D.blocks.2 q).bytes.1 cap0]] ?_ Tryz.func63 (by kernel_rfl) (by kernel_rfl) CC ?_;(simp [Act.eval,Act.put]);rintro ee w5 ⟨bo,bcc,rfl,o5,b5'⟩;have b5w:Below wz.heap.size wz w5:=⟨b5'.os,b5'.tape,b5'.output,b5'.size,b5'.block⟩;have q1:w5.cell? ⟨wx.heap.size,1,none⟩=some (.slice ba q bc):=(HX3.out.call b5w).cell 1;have q3:=(zcd w5 (.cells #[.int .i64 (D.blocks.2 q).stamp,.slice bo (D.blocks.2 q).bytes.1 bcc] 103) wx.heap.size 1 (by have:=b5w.size;omega)).trans q1;refine ⟨_,rfl,?_⟩
       refine hK.out _ _ (KS _ (b5w.mono (Nat.succ_le_of_lt zz))) (fun hHeld=>?_);clear hK K
       try simp only [Act.put,SL]
       refine zak (i:=15) (o:=_) rfl (by kernel_rfl) (fun K hK=>?_);go_simp;refine hK.out _ _ (KS _ ((b5w.mono (Nat.succ_le_of_lt zz)).alloc (by have:=b5w.size;omega) _)) (fun hHeld=>?_);clear hK K
       try simp only [Act.put,SL]
       refine zak (i:=16) (o:=_) rfl (by kernel_rfl) (fun K hK=>?_)
       refine zdy zeX rfl (.tmp 55) (.tmp 69) rfl (lo:=wx.heap.size+1) (n:=q) (v:=.slice ba q bc) (x:=D.blocks.2) ?_ HG3.out b5w o5 ?_ w5.heap.size 1 ?_ (fun j _=>zb8 w5 _ _ j) (by omega) (by omega) ?_;(simp [Act.eval,Act.put]);(exact (Below.refl _ _).alloc (Nat.le_refl _) _);(simp [Act.eval,Act.put]);intro v4 w4 g4 b4;obtain ⟨ba4,bc4,rfl⟩:=g4.form;have X4:=HX3.out.below b4 (Nat.lt_succ_self _);have p1:w4.cell? ⟨wx.heap.size,1,none⟩=some (.slice ba q bc):=X4.cell 1;have p2:w4.frozen? ⟨wx.heap.size,1,none⟩=false:=X4.frozen 1
       refine hK.out _ _ (KS _ b4) (fun hHeld=>?_);clear hK K
       try simp only [Act.put,SL]
       refine zak (i:=17) (o:=_) rfl (by kernel_rfl) (fun K hK=>?_);go_simp;refine hK.out _ _ (KS _ b4) (fun hHeld=>?_);clear hK K
       try simp only [Act.put,SL]
       refine zbe (o:=_) rfl (by kernel_rfl) (fun K hK=>?_);go_simp;refine hK.out _ _ ?_;clear hK K
       try simp only [Act.put,SL]
       refine zbf (by kernel_rfl) ?_ _;go_wp2
       go_roundw
       case rel=>exact ⟨q+1,ba4,bc4,by omega,by go_num,X4.setc 1 (.slice ba4 (q+1) bc4),(g4.set _ _ _ (Nat.lt_succ_self _)).congr (fun i _=>by rw [zca]),(HB3.out.trans (b4.mono (Nat.le_succ _))).setCell (Nat.le_refl _) _⟩
       case measure=>simp [intOf];omega
      ·obtain rfl:q=D.blocks.1:=by omega
       have OD:OwnT zab wz wx.heap.size wz.heap.size D [.bool D.wiped,.slice ba D.blocks.1 bc]:=drive_of' (HG3.out.own.weaken (Nat.le_succ _) (Nat.le_refl _));clear X3 G3 B3
       go_wp2_with (at_builtin;refine zdt zeY rfl (.tmp 72) (.tmp 74) rfl (lo:=wo.heap.size) (n:=k) (v:=.slice da k dc) (x:=(d.groups.2 g).2) ?_ HG2'.out HB3.out OD ?_ wz.heap.size 1 ?_ (fun j _=>zb8 wz _ _ j) (by omega) (by omega) ?_;(simp [Act.eval]);(exact (Below.refl _ _).alloc (Nat.le_refl _) _);(simp [Act.eval]);intro v4 w4 g4 b4;obtain ⟨da4,dc4,rfl⟩:=g4.form)
       go_roundw
       case rel=>exact ⟨k+1,da4,dc4,by omega,by go_num,rfl,g4.congr (fun i _=>by rw [HD.out,zca]),HB2.out.trans b4⟩
       case measure=>simp [intOf];omega
    ·obtain rfl:k=(d.groups.2 g).1:=by omega
     have OG:OwnT (zab.slice 101) wx wo.heap.size wx.heap.size (d.groups.2 g) [.slice da (d.groups.2 g).1 dc]:=HG2'.out.own;have T2:=HT1.out.call B2;have e9:wx.cell? ⟨w.heap.size+1+1,9,none⟩=some (.slice ga g gc):=T2.b3.cell 9;have e9':=(zcd wx (.cells #[.slice da (d.groups.2 g).1 dc] 98) (w.heap.size+1+1) 9 (by omega)).trans e9;clear T2 G2 B2
     go_wp2_with (at_builtin;refine zdt zd3 rfl (.tmp 77) (.tmp 79) rfl (lo:=w.heap.size+1+1+1) (n:=g) (v:=.slice ga g gc) (x:=d.groups.2) ?_ HG1.out HB2.out OG ?_ wx.heap.size 1 ?_ (fun j _=>zb8 wx _ _ j) (by omega) (by omega) ?_;(simp [Act.eval]);(exact (Below.refl _ _).alloc (Nat.le_refl _) _);(simp [Act.eval]);intro v4 w4 g4 b4;obtain ⟨ga4,gc4,rfl⟩:=g4.form;have T4:=HT1.out.low b4;have p1:w4.cell? ⟨w.heap.size+1+1,9,none⟩=some (.slice ga g gc):=T4.b3.cell 9;have p2:w4.frozen? ⟨w.heap.size+1+1,9,none⟩=false:=T4.b3.frozen 9)
     go_roundw
     case rel=>exact ⟨g+1,ga4,gc4,by omega,by go_num,T4.st3 9 [.slice ga4 (g+1) gc4] rfl,(g4.set _ _ _ (by omega)).congr (fun i _=>by rw [zca])⟩
     case measure=>simp [intOf];omega
  ·obtain rfl:g=d.groups.1:=by omega
   have bA:=bAl wo (.cells #[] 2);have TA:=T1.call bA;obtain ⟨v',w2,hrun,o2,b2⟩:=zdE 25 (wo.alloc (.cells #[] 2)) wo.heap.size (zee wo 2) (zaj.rd_below HG2.out TA.bel hhi) (show d.on.1≤10000000 by omega);obtain ⟨oa,oc,hv⟩:=zb0 o2;obtain rfl:=zaP hv;clear hv;have T2:Three w w2 (rwW d ao1 cap1 ao2 cap2 ao3 cap3).toArray (rwV 0 0 0 0 0 0 0 0 0 none 0 0 none 0 0 none 0 0 0 0 false).toArray (rwW d ga gc ao2 cap2 ao3 cap3).toArray 38 38 38:=TA.low (b2.mono zo)
   have G2:Gat (zab.slice 101) 98 w2 (w.heap.size+1+1+1) (.slice ga d.groups.1 gc) d.groups.1 d.groups.2:=by
    have h1:Below wo.heap.size wo w2:=bA.trans b2;exact G1.below h1
   have xa:(wo.alloc (.cells #[] 2)).cell? ⟨w.heap.size,10,none⟩=some (.slice ao2 d.on.1 cap2):=TA.b1.cell 10;have xb:w2.cell? ⟨w.heap.size+1+1,10,none⟩=some (.slice ao2 d.on.1 cap2):=T2.b3.cell 10;have xf:w2.frozen? ⟨w.heap.size+1+1,10,none⟩=false:=T2.b3.frozen 10;have T3:=T2.st3 10 [.slice oa d.on.1 oc] (c3':=(rwW d ga gc oa oc ao3 cap3)) rfl;have T4:Three w (stN (stN w2 (w.heap.size+1+1) 10 [.slice oa d.on.1 oc]) (w.heap.size+1+1) 11 [.slice none 0 0]) (rwW d ao1 cap1 ao2 cap2 ao3 cap3).toArray (rwV 0 0 0 0 0 0 0 0 0 none 0 0 none 0 0 none 0 0 0 0 false).toArray #[.int .i64 (d.shape 0),.int .i64 (d.shape 1),.int .i64 (d.shape 2),.int .i64 (d.shape 3),.int .i64 (d.shape 4),.int .i64 (d.shape 5),.int .i64 (d.shape 6),.int .i64 (d.shape 7),.int .i64 (d.shape 8),.slice ga d.groups.1 gc,.slice oa d.on.1 oc,.slice none 0 0,.int .i64 d.writes,.int .i64 d.stop,.bool d.down] 38 38 38:=T3.st3 11 [.slice none 0 0] (c3':=[.int .i64 (d.shape 0),.int .i64 (d.shape 1),.int .i64 (d.shape 2),.int .i64 (d.shape 3),.int .i64 (d.shape 4),.int .i64 (d.shape 5),.int .i64 (d.shape 6),.int .i64 (d.shape 7),.int .i64 (d.shape 8),.slice ga d.groups.1 gc,.slice oa d.on.1 oc,.slice none 0 0,.int .i64 d.writes,.int .i64 d.stop,.bool d.down]) rfl;have O4:=(o2.stN (w.heap.size+1+1) 10 [.slice oa d.on.1 oc] (by omega)).stN (w.heap.size+1+1) 11 [.slice none 0 0] (by omega);have G4:Gat (zab.slice 101) 98 (stN (stN w2 (w.heap.size+1+1) 10 [.slice oa d.on.1 oc]) (w.heap.size+1+1) 11 [.slice none 0 0]) (w.heap.size+1+1+1) (.slice ga d.groups.1 gc) d.groups.1 d.groups.2:=(G2.set _ 10 _ (by omega)).set _ 11 _ (by omega);have xc:(w2.setCell ⟨w.heap.size+1+1,10,none⟩ (.slice oa d.on.1 oc)).cell? ⟨w.heap.size+1+1,11,none⟩=some (.slice ao3 d.tapes.1 cap3):=T3.b3.cell 11;have xg:(w2.setCell ⟨w.heap.size+1+1,10,none⟩ (.slice oa d.on.1 oc)).frozen? ⟨w.heap.size+1+1,11,none⟩=false:=T3.b3.frozen 11;have z2:wo.heap.size≤w2.heap.size:=Nat.le_trans bA.size b2.size
   have ez:(stN (stN w2 (w.heap.size+1+1) 10 [.slice oa d.on.1 oc]) (w.heap.size+1+1) 11 [.slice none 0 0]).heap.size=w2.heap.size:=by rw [zbt,zbt]
   have GO:OwnT ((zab.slice 101).slice 98) wo (w.heap.size+1+1+1) wo.heap.size d.groups [.slice ga d.groups.1 gc]:=G1.own;have GO4:=((GO.call (bA.trans b2)).stN (w.heap.size+1+1) 10 [.slice oa d.on.1 oc] (by omega)).stN (w.heap.size+1+1) 11 [.slice none 0 0] (by omega);clear T1 TA T2 T3 G1 G2 G4 o2 b2 bA GO
   go_upto_region 19 with (at_builtin;refine zfc rfl (.tmp 82) (.tmp 84) rfl ?_ ?_ hrun ?_;(simp [Act.eval]);(simp [Act.eval]))
   obtain ⟨W4,hW4⟩:∃ x,x=stN (stN w2 (w.heap.size+1+1) 10 [.slice oa d.on.1 oc]) (w.heap.size+1+1) 11 [.slice none 0 0]:=⟨_,rfl⟩
   change Code.wp Tryz.prog _ _ _ (stN (stN w2 (w.heap.size+1+1) 10 [.slice oa d.on.1 oc]) (w.heap.size+1+1) 11 [.slice none 0 0])
   rw [← hW4] at T4 O4 GO4 ez ⊢;have HT4:=hid T4;have HO4:=hid O4;have HGO:=hid GO4;clear T4 O4 GO4 hW4 xa xb xf xc xg hrun x9;go_wp2
   go_loopw [9] (fun i wr=>∃ (t:Nat) (ta:Option Addr) (tc:Nat),t≤d.tapes.1∧i=.int .i64 t∧Box wr (w.heap.size+1+1) #[.int .i64 (d.shape 0),.int .i64 (d.shape 1),.int .i64 (d.shape 2),.int .i64 (d.shape 3),.int .i64 (d.shape 4),.int .i64 (d.shape 5),.int .i64 (d.shape 6),.int .i64 (d.shape 7),.int .i64 (d.shape 8),.slice ga d.groups.1 gc,.slice oa d.on.1 oc,.slice ta t tc,.int .i64 d.writes,.int .i64 d.stop,.bool d.down] 38∧Gat zag 97 wr W4.heap.size (.slice ta t tc) t d.tapes.2∧ChgL [w.heap.size+1+1] W4 wr) (fun i _=>d.tapes.1-(intOf i).toNat)
   case atStart=>exact ⟨0,none,0,Nat.zero_le _,rfl,HT4.out.b3,Gat.nil _ _ _,ChgL.refl _ _⟩
   case round=>
    obtain ⟨t,ta,tc,ht,rfl,X5,G5,C5⟩:=hrel;obtain ⟨wx,rfl⟩:∃ x,x=wr:=⟨_,rfl⟩;have T5:Three w wx (rwW d ao1 cap1 ao2 cap2 ao3 cap3).toArray (rwV 0 0 0 0 0 0 0 0 0 none 0 0 none 0 0 none 0 0 0 0 false).toArray #[.int .i64 (d.shape 0),.int .i64 (d.shape 1),.int .i64 (d.shape 2),.int .i64 (d.shape 3),.int .i64 (d.shape 4),.int .i64 (d.shape 5),.int .i64 (d.shape 6),.int .i64 (d.shape 7),.int .i64 (d.shape 8),.slice ga d.groups.1 gc,.slice oa d.on.1 oc,.slice ta t tc,.int .i64 d.writes,.int .i64 d.stop,.bool d.down] 38 38 38:=HT4.out.chgl3 _ X5 C5;have HT5:=hid T5;have HG5:=hid G5;have HC5:=hid C5;have zx:W4.heap.size≤wx.heap.size:=C5.size;have x11:wx.cell? ⟨w.heap.size,11,none⟩=some (.slice ao3 d.tapes.1 cap3):=T5.b1.cell 11;have e11:wx.cell? ⟨w.heap.size+1+1,11,none⟩=some (.slice ta t tc):=T5.b3.cell 11
    by_cases hlt:t<d.tapes.1
    ·obtain ⟨b3,off3,he3,hb3,hel3⟩:=HC3.out (by omega)
     subst he3;obtain ⟨ct,hrt,hct⟩:=zas (t:=0) hel3 T5.bel hhi hb3 hlt;obtain ⟨ao7,cap7,rfl,g7⟩:=za5 hrt;have c0:wx.cell? ⟨b3,off3+t*2,none⟩=some (.bool (d.tapes.2 t).wiped):=hct 0 (by decide);have c1:wx.cell? ⟨b3,off3+t*2+1,none⟩=some (.slice ao7 (d.tapes.2 t).recs.1 cap7):=hct 1 (by decide);have HCA:=hid c0;have CC:=zfd _ (d.tapes.2 t).recs hi wx.drew ((zac.slice 43).rd_below (B:=hi) g7 ⟨rfl,rfl,rfl,Nat.le_refl _,fun _ _=>rfl⟩ (Nat.le_refl _)) (show hi≤wx.heap.size by omega) (HNT.out t hlt)
     have CC:=CC.mono (R':=fun e w'=>∃ ra rc,e=.returned (.slice ra (d.tapes.2 t).recs.1 rc)∧OwnT (zac.slice 43) w' wx.drew.heap.size w'.heap.size (d.tapes.2 t).recs [.slice ra (d.tapes.2 t).recs.1 rc]∧Below wx.drew.heap.size wx.drew w') (fun e w' ⟨v5,he,o5,b5'⟩=>by
      obtain ⟨ra,rc,hv5⟩:=zbE o5;obtain rfl:=zaP hv5
      exact ⟨ra,rc,he,o5,b5'⟩)
     clear hel3 hct hrt g7 X5 G5 C5 T5;have KS:∀ w',Below (w.heap.size+1+1+1) wx w'→(w'.cell? ⟨w.heap.size,11,none⟩=some (.slice (some ⟨b3,off3,none⟩) d.tapes.1 cap3)∧w'.cell? ⟨b3,off3+t*2,none⟩=some (.bool (d.tapes.2 t).wiped)∧w'.cell? ⟨b3,off3+t*2+1,none⟩=some (.slice ao7 (d.tapes.2 t).recs.1 cap7)∧w'.cell? ⟨w.heap.size+1+1,11,none⟩=some (.slice ta t tc)):=fun w' hb=>⟨(hb.cell (p:=⟨w.heap.size,11,none⟩) (by show w.heap.size<w.heap.size+1+1+1;omega)).trans x11,(hb.cell (p:=⟨b3,off3+t*2,none⟩) (by show b3<w.heap.size+1+1+1;omega)).trans c0,(hb.cell (p:=⟨b3,off3+t*2+1,none⟩) (by show b3<w.heap.size+1+1+1;omega)).trans c1,(hb.cell (p:=⟨w.heap.size+1+1,11,none⟩) (Nat.lt_succ_self _)).trans e11⟩
     have i1:(0:Int)≤(t:Int):=by omega
     have i2:(t:Int)<(d.tapes.1:Int):=by omega
     go_upto_region 22 with fail
     refine za3 19 (fun w'=>w'.cell? ⟨w.heap.size,11,none⟩=some (.slice (some ⟨b3,off3,none⟩) d.tapes.1 cap3)∧w'.cell? ⟨b3,off3+t*2,none⟩=some (.bool (d.tapes.2 t).wiped)∧w'.cell? ⟨b3,off3+t*2+1,none⟩=some (.slice ao7 (d.tapes.2 t).recs.1 cap7)∧w'.cell? ⟨w.heap.size+1+1,11,none⟩=some (.slice ta t tc)) (by kernel_rfl) (KS _ ⟨rfl,rfl,rfl,Nat.le_refl _,fun _ _=>rfl⟩) (fun hHeld=>?_);refine zjJ 0 rfl ?_
     try simp only [Act.put,SL]
     refine zjJ 1 rfl ?_
     try simp only [Act.put,SL]
     refine zjJ 2 rfl ?_
     try simp only [Act.put,SL]
     refine zjJ 3 rfl ?_
     try simp only [Act.put,SL]
     refine zjJ 4 rfl ?_
     try simp only [Act.put,SL]
     refine zjJ 5 rfl ?_
     try simp only [Act.put,SL]
     refine zjJ 6 rfl ?_
     try simp only [Act.put,SL]
     refine zjJ 7 rfl ?_
     try simp only [Act.put,SL]
     refine zjJ 8 rfl ?_
     try simp only [Act.put,SL]
     refine zjJ 9 rfl ?_
     try simp only [Act.put,SL]
     refine zjJ 10 rfl ?_
     try simp only [Act.put,SL]
     refine zjJ 11 rfl ?_
     try simp only [Act.put,SL]
     refine zjJ 12 rfl ?_
     try simp only [Act.put,SL]
     refine zjJ 13 rfl ?_
     try simp only [Act.put,SL]
     refine zak (i:=14) (o:=_) rfl (by kernel_rfl) (fun K hK=>?_)
     refine zat rfl 64 _ _ rfl #[.slice ao7 (d.tapes.2 t).recs.1 cap7] ?_ Tryz.func64 (by kernel_rfl) (by kernel_rfl) CC ?_;(simp [Act.eval,Act.put]);rintro ee w5 ⟨ra,rc,rfl,o5,b5'⟩;have b5w:Below wx.heap.size wx w5:=⟨b5'.os,b5'.tape,b5'.output,b5'.size,b5'.block⟩;have T6:=HT5.out.call b5w;have q1:w5.cell? ⟨w.heap.size+1+1,11,none⟩=some (.slice ta t tc):=T6.b3.cell 11;have q3:=(zcd w5 (.cells #[.bool (d.tapes.2 t).wiped,.slice ra (d.tapes.2 t).recs.1 rc] 97) (w.heap.size+1+1) 11 (by have:=b5w.size;omega)).trans q1;clear T6;refine ⟨_,rfl,?_⟩
     refine hK.out _ _ (KS _ (b5w.mono (by omega))) (fun hHeld=>?_);clear hK K
     try simp only [Act.put,SL]
     refine zjJ 15 rfl ?_
     try simp only [Act.put,SL]
     refine zak (i:=16) (o:=_) rfl (by kernel_rfl) (fun K hK=>?_);go_simp;refine hK.out _ _ (KS _ ((b5w.mono (by omega)).alloc (by have:=b5w.size;omega) _)) (fun hHeld=>?_);clear hK K
     try simp only [Act.put,SL]
     refine zak (i:=17) (o:=_) rfl (by kernel_rfl) (fun K hK=>?_)
     refine zdy zgE rfl (.tmp 96) (.tmp 111) rfl (lo:=W4.heap.size) (n:=t) (v:=.slice ta t tc) (x:=d.tapes.2) ?_ HG5.out b5w (tape_of' o5) ?_ w5.heap.size 1 ?_ (fun j _=>zb8 w5 _ _ j) (by omega) (by omega) ?_;(simp [Act.eval,Act.put]);(exact (Below.refl _ _).alloc (Nat.le_refl _) _);(simp [Act.eval,Act.put]);intro v4 w4 g4 b4;obtain ⟨ta4,tc4,rfl⟩:=g4.form;have X4:=HT5.out.b3.below b4 (by omega);have p1:w4.cell? ⟨w.heap.size+1+1,11,none⟩=some (.slice ta t tc):=X4.cell 11;have p2:w4.frozen? ⟨w.heap.size+1+1,11,none⟩=false:=X4.frozen 11
     refine hK.out _ _ (KS _ (b4.mono (by omega))) (fun hHeld=>?_);clear hK K
     try simp only [Act.put,SL]
     refine zak (i:=18) (o:=_) rfl (by kernel_rfl) (fun K hK=>?_);go_simp;refine hK.out _ _ (KS _ (b4.mono (by omega))) (fun hHeld=>?_);clear hK K
     try simp only [Act.put,SL]
     refine zbe (o:=_) rfl (by kernel_rfl) (fun K hK=>?_);go_simp;refine hK.out _ _ ?_;clear hK K
     try simp only [Act.put,SL]
     refine zbf (by kernel_rfl) ?_ _;go_wp2
     go_roundw
     case rel=>exact ⟨t+1,ta4,tc4,by omega,by go_num,X4.stL [.slice ta4 (t+1) tc4] 11,(g4.set _ _ _ (by omega)).congr (fun i _=>by rw [zca]),(HC5.out.after b4).st (w.heap.size+1+1) 11 _ (by simp)⟩
     case measure=>simp [intOf];omega
    ·obtain rfl:t=d.tapes.1:=by omega
     clear X5 e11
     have F0:OwnT zad wx (w.heap.size+1+1+1) wx.heap.size d (rwW d ga gc oa oc ta tc):=by
      have C5':=C5;clear T5 G5 C5;have F:OwnT zad wx (w.heap.size+1+1+1) wx.heap.size d ((rwS d.shape)++([.slice ga d.groups.1 gc]++([.slice oa d.on.1 oc]++([.slice ta d.tapes.1 tc]++([.int .i64 d.writes]++([.int .i64 d.stop]++[.bool d.down])))))):=OwnT.conv (OwnT.pre (A:=(zdp 9)) (a:=d.shape) (c:=(rwS d.shape)) ⟨rfl,Q0.out,rfl⟩ (OwnT.two (HGO.out.chgl HC5.out (fun b hb=>by simp at hb;omega)) (OwnT.two (HO4.out.chgl HC5.out (fun b hb=>by simp at hb;omega)) (OwnT.two (HG5.out.own.weaken (show w2.heap.size≤W4.heap.size by omega) (Nat.le_refl _)) (OwnT.pre (A:=layI) (a:=d.writes) (c:=[.int .i64 d.writes]) ⟨rfl,Q4.out,rfl⟩ (OwnT.pre (A:=layI) (a:=d.stop) (c:=[.int .i64 d.stop]) ⟨rfl,Q5.out,rfl⟩ (OwnT.nil (A:=layB) (a:=d.down) (c:=[.bool d.down]) ⟨rfl,trivial,rfl⟩ wx.heap.size wx.heap.size))) (Nat.le_refl _) (by omega) (Nat.le_refl _)) (by omega) (by omega) (by omega)) (by omega) (by omega) (by omega)));exact F
     have HF:=hid F0;clear G5 C5
     go_wp2_with (first | (refine zam 38 (.tmp 3) rfl rfl (w.heap.size+1+1) rfl T5.b3 Tryz.underlying38 zbo rfl ?_) | (refine zaR 38 _ _ rfl rfl (w.heap.size+1) rfl (cs:=(rwW d ga gc oa oc ta tc)) rfl T5.b2 zbo rfl rfl F0.one ?_;intro w9 X9 C9 z9))
     refine zbI Tryz.results27 rfl X9 Tryz.underlying38 zbo rfl rfl ?_;refine ⟨(rwW d ga gc oa oc ta tc),rfl,?_,?_⟩
     ·exact (HF.out.chgk C9 (fun b hb=>by simp at hb;omega)).weaken (by omega) C9.size
     ·exact T5.bel.trans (C9.bel (fun b hb=>by simp at hb;omega) T5.bel.size)
theorem zi9 (w:World) (b i j:Nat) (u:Value) (h:i≠j):(w.setCell ⟨b,i,none⟩ u).cell? ⟨b,j,none⟩=w.cell? ⟨b,j,none⟩:=by
 unfold World.setCell World.cell?
 simp only [Array.getElem?_modify]
 cases w.heap[b]? with
 | none=>rfl
 | some o=>cases o<;>simp [Array.getElem?_setIfInBounds,h]
theorem zh3 (w:World) (a:Addr) (b:Addr) (u:Value):(w.setCell a u).frozen? b=w.frozen? b:=by
 unfold World.setCell World.frozen?
 simp only [Array.getElem?_modify]
 by_cases h:a.block=b.block
 ·rw [if_pos h]
  cases w.heap[b.block]? with
  | none=>rfl
  | some o=>cases o<;>rfl
 ·rw [if_neg h]
theorem zgb (w:World) (b i j:Nat) (u v:Value) (h:i≠j):(w.setCell ⟨b,i,none⟩ u).setCell ⟨b,j,none⟩ v=(w.setCell ⟨b,j,none⟩ v).setCell ⟨b,i,none⟩ u:=by
 have hh:((w.setCell ⟨b,i,none⟩ u).setCell ⟨b,j,none⟩ v).heap=((w.setCell ⟨b,j,none⟩ v).setCell ⟨b,i,none⟩ u).heap:=by
  unfold World.setCell
  apply Array.ext_getElem?
  intro k
  simp only [Array.getElem?_modify]
  split
  ·cases w.heap[k]? with
   | none=>rfl
   | some o=>cases o<;>simp [Array.setIfInBounds_comm _ _ h]
  ·rfl
 show ({ w with heap:=((w.setCell ⟨b,i,none⟩ u).setCell ⟨b,j,none⟩ v).heap }:World)={ w with heap:=((w.setCell ⟨b,j,none⟩ v).setCell ⟨b,i,none⟩ u).heap }
 rw [hh]
set_option maxRecDepth 20000 in
theorem zdm (B:Nat) (d:WorldD) (K:List Nat) (T:Nat) (hT2:T<2) (r:RecD) (o6 o7 o8:Option Addr) (k6 k7 k8 hi:Nat) (w:World) (hX:SpB w B d K) (hf:Fit3 1 d) (hr:∀ w',ChgL [B] w w'→zac.rd w' hi r [.int .i64 r.kind,.int .i64 r.seq,.string r.name,.int .i64 r.length,.int .i64 r.group,.int .i64 r.row,.slice o6 r.rows.1 k6,.slice o7 r.data.1 k7,.slice o8 r.delta.1 k8]) (hhi:hi≤w.heap.size) (hsr:zaF r≤1048576) :
 Calls Tryz.prog 65 #[.pointer (some ⟨B,0,none⟩),.int .i64 (T:Int),.agg #[.int .i64 r.kind,.int .i64 r.seq,.string r.name,.int .i64 r.length,.int .i64 r.group,.int .i64 r.row,.slice o6 r.rows.1 k6,.slice o7 r.data.1 k7,.slice o8 r.delta.1 k8]] w (SpP (zaz r T d) B w K):=by
 have T0:=zaM w (rwR r o6 k6 o7 k7 o8 k8).toArray 43
 have X0:SpB (w.alloc (.cells (rwR r o6 k6 o7 k7 o8 k8).toArray 43)) B d K:=by
  obtain ⟨cs,h1,h2⟩:=hX;exact ⟨cs,h1.below T0.bel h1.lt,Lay.own_kept _ h2.own (fun b hk=>T0.bel.block b (zad.own_lt h2.own b hk)),h2.nd,h2.ne⟩
 have CR:=zi7 B d K _ X0 hf.up (by have:=hf.low;have:=hf.room;omega);have hBl0:=hX.lt;have HF:=hid hf;have HRR:=hid hr
 have HK:Hid (∀ b,b∈K→b<w.heap.size):=by
  obtain ⟨cs,h1,h2⟩:=hX;exact fun b hb=>zad.own_lt h2.own b hb
 clear hX hf hr X0
 go_enter Tryz.func65,Tryz.ntmps65
 go_wp2_with fail
 refine CR.mono ?_;rintro e w5 (⟨hfl,rfl,⟨K5,X5,s5⟩,C5⟩ | ⟨hfl,rfl,X5,C5⟩)
 ·clear CR
  go_wp2;go_ret
  have e:zaz r T d=.cut d:=by unfold zaz rawO;rw [if_pos hfl]
  rw [e];exact ⟨rfl,K5,X5,fun b hb=>.inl (s5 b hb),(ChgL.of_below T0.bel).trans (C5.mono (fun b hb=>by simp at hb;simp [hb]))⟩
 ·have HFL:=hid hfl
  have z5:=C5.size
  have sA:(w.alloc (.cells (rwR r o6 k6 o7 k7 o8 k8).toArray 43)).heap.size=w.heap.size+1:=by simp
  have HC5:Hid (ChgL (B::K) w w5):=(ChgL.of_below T0.bel).trans (C5.mono (fun b hb=>by simp at hb;simp [hb]));have Q5:=T0.b1.chgl C5 (by simp;omega);have bB5:ChgL [B] w w5.drew:=((ChgL.of_below T0.bel).trans C5).drew;clear CR hfl C5;obtain ⟨cs5,B5,O5⟩:=X5;have O5d:EncO w5.drew B { d with writes:=d.writes+1 } cs5 K:=O5.chg (ChgL.refl [B] _).drew;obtain ⟨p1,c1,p2,c2,p3,c3,K1',K2',K3',rfl,rfl,WO⟩:=O5d.open;have two:=HF.out.two;obtain ⟨gt,cap,ce,Ls,e3,eL,S3⟩:=zbP WO.t (by show d.tapes.1≠0;omega)
  simp only [List.cons.injEq,Value.slice.injEq,and_true,true_and] at e3
  obtain ⟨rfl,rfl⟩:=e3;subst eL
  have hT:T<d.tapes.1:=by omega
  have hn:(d.tapes.2 T).recs.1≤1048576:=by have:=HF.out.few T hT2;omega
  have nd3:(gt::catN d.tapes.1 Ls).Nodup:=(List.nodup_append.1 (List.nodup_append.1 WO.nd).2.1).2.1;obtain ⟨ao9,cap9,K9,e9,eK9,o9⟩:=zdL (S3.each T hT)
  have nd9:K9.Nodup:=by rw [← eK9];exact zeb (List.nodup_cons.1 nd3).2 hT
  have inK:∀ b,b∈gt::catN d.tapes.1 Ls→b∈K1'++(K2'++(gt::catN d.tapes.1 Ls)):=fun b hb=>List.mem_append_right _ (List.mem_append_right _ hb);have in9:∀ b,b∈K9→b∈gt::catN d.tapes.1 Ls:=fun b hb=>SlO.sub T hT b (by rw [eK9];exact hb);have hgt:gt∉K9:=fun hb=>(List.nodup_cons.1 nd3).1 (zaB.2 ⟨T,hT,by rw [eK9];exact hb⟩);have hB9:B∉K9:=fun hb=>O5.ne (inK _ (in9 _ hb))
  have hq9:w.heap.size∉K9:=fun hb=>by have:=HK.out _ (inK _ (in9 _ hb));omega
  have x11:w5.drew.cell? ⟨B,11,none⟩=some (.slice (some ⟨gt,0,none⟩) d.tapes.1 c3):=B5.cell 11;have y0:w5.drew.cell? ⟨gt,T*2,none⟩=some (.bool (d.tapes.2 T).wiped):=(S3.cell hT (j:=0) (by decide)).trans (by rw [e9];rfl);have y1:w5.drew.cell? ⟨gt,T*2+1,none⟩=some (.slice ao9 (d.tapes.2 T).recs.1 cap9):=(S3.cell hT (j:=1) (by decide)).trans (by rw [e9];rfl);have hgl:gt<w5.drew.heap.size:=S3.lt;have hbl:B<w5.drew.heap.size:=B5.lt;have hql:w.heap.size<w5.drew.heap.size:=Q5.lt;have KS:∀ w',ChgL K9 w5.drew w'→(w'.cell? ⟨B,11,none⟩=some (.slice (some ⟨gt,0,none⟩) d.tapes.1 c3)∧w'.cell? ⟨gt,T*2+1,none⟩=some (.slice ao9 (d.tapes.2 T).recs.1 cap9)∧w'.cell? ⟨w.heap.size,0,none⟩=some (.int .i64 r.kind)∧w'.cell? ⟨w.heap.size,1,none⟩=some (.int .i64 r.seq)∧w'.cell? ⟨w.heap.size,2,none⟩=some (.string r.name)∧w'.cell? ⟨w.heap.size,3,none⟩=some (.int .i64 r.length)∧w'.cell? ⟨w.heap.size,4,none⟩=some (.int .i64 r.group)∧w'.cell? ⟨w.heap.size,5,none⟩=some (.int .i64 r.row)∧w'.cell? ⟨w.heap.size,6,none⟩=some (.slice o6 r.rows.1 k6)∧w'.cell? ⟨w.heap.size,7,none⟩=some (.slice o7 r.data.1 k7)∧w'.cell? ⟨w.heap.size,8,none⟩=some (.slice o8 r.delta.1 k8)):=fun w' hc=>⟨(World.cell?_of_block (hc.block B hbl hB9)).trans x11,(World.cell?_of_block (hc.block gt hgl hgt)).trans y1,(World.cell?_of_block (hc.block w.heap.size hql hq9)).trans (Q5.cell 0),(World.cell?_of_block (hc.block w.heap.size hql hq9)).trans (Q5.cell 1),(World.cell?_of_block (hc.block w.heap.size hql hq9)).trans (Q5.cell 2),(World.cell?_of_block (hc.block w.heap.size hql hq9)).trans (Q5.cell 3),(World.cell?_of_block (hc.block w.heap.size hql hq9)).trans (Q5.cell 4),(World.cell?_of_block (hc.block w.heap.size hql hq9)).trans (Q5.cell 5),(World.cell?_of_block (hc.block w.heap.size hql hq9)).trans (Q5.cell 6),(World.cell?_of_block (hc.block w.heap.size hql hq9)).trans (Q5.cell 7),(World.cell?_of_block (hc.block w.heap.size hql hq9)).trans (Q5.cell 8)⟩
  have CC:=(zdF (rwR r o6 k6 o7 k7 o8 k8) r hi w5.drew (HRR.out _ bB5) (Nat.le_trans hhi bB5.size) hsr).mono (R':=fun e w'=>∃ s6 m6 s7 m7 s8 m8,e=.returned (.agg (rwR r s6 m6 s7 m7 s8 m8).toArray)∧OwnT zac w' w5.drew.heap.size w'.heap.size r (rwR r s6 m6 s7 m7 s8 m8)∧Below w5.drew.heap.size w5.drew w') (fun e w' ⟨cs',he,o5,b5⟩=>by
   obtain ⟨s6,m6,s7,m7,s8,m8,rfl⟩:=zeI o5
   exact ⟨s6,m6,s7,m7,s8,m8,he,o5,b5⟩)
  have AP:=fun (W:World) (hW:Below w5.drew.heap.size w5.drew W) (La:List Nat) (cs:List Value) (ha:zac.own W r cs La)=>ziH o9 nd9 (Nat.le_trans hn (by decide)) hW ha
  have i1:(0:Int)≤(T:Int):=by omega
  have i2:(T:Int)<(d.tapes.1:Int):=by omega
  have HNE:=hid O5.ne;replace B5:Box w5.drew B _ 38:=B5;have HBX:=hid B5;clear two O5d O5 B5
  go_upto_region 3 with fail
  refine za3 19 (fun w'=>w'.cell? ⟨B,11,none⟩=some (.slice (some ⟨gt,0,none⟩) d.tapes.1 c3)∧w'.cell? ⟨gt,T*2+1,none⟩=some (.slice ao9 (d.tapes.2 T).recs.1 cap9)∧w'.cell? ⟨w.heap.size,0,none⟩=some (.int .i64 r.kind)∧w'.cell? ⟨w.heap.size,1,none⟩=some (.int .i64 r.seq)∧w'.cell? ⟨w.heap.size,2,none⟩=some (.string r.name)∧w'.cell? ⟨w.heap.size,3,none⟩=some (.int .i64 r.length)∧w'.cell? ⟨w.heap.size,4,none⟩=some (.int .i64 r.group)∧w'.cell? ⟨w.heap.size,5,none⟩=some (.int .i64 r.row)∧w'.cell? ⟨w.heap.size,6,none⟩=some (.slice o6 r.rows.1 k6)∧w'.cell? ⟨w.heap.size,7,none⟩=some (.slice o7 r.data.1 k7)∧w'.cell? ⟨w.heap.size,8,none⟩=some (.slice o8 r.delta.1 k8)) (by kernel_rfl) (KS _ (ChgL.refl _ _)) (fun hHeld=>?_);refine zjJ 0 rfl ?_
  try simp only [Act.put,SL]
  refine zjJ 1 rfl ?_
  try simp only [Act.put,SL]
  refine zjJ 2 rfl ?_
  try simp only [Act.put,SL]
  refine zjJ 3 rfl ?_
  try simp only [Act.put,SL]
  refine zjJ 4 rfl ?_
  try simp only [Act.put,SL]
  refine zjJ 5 rfl ?_
  try simp only [Act.put,SL]
  refine zjJ 6 rfl ?_
  try simp only [Act.put,SL]
  refine zjJ 7 rfl ?_
  try simp only [Act.put,SL]
  refine zjJ 8 rfl ?_
  try simp only [Act.put,SL]
  refine zjJ 9 rfl ?_
  try simp only [Act.put,SL]
  refine zjJ 10 rfl ?_
  try simp only [Act.put,SL]
  refine zjJ 11 rfl ?_
  try simp only [Act.put,SL]
  refine zjJ 12 rfl ?_
  try simp only [Act.put,SL]
  refine zjJ 13 rfl ?_
  try simp only [Act.put,SL]
  refine zak (i:=14) (o:=_) rfl (by kernel_rfl) (fun KC hKC=>?_)
  refine zat rfl 100 _ _ rfl #[.agg (rwR r o6 k6 o7 k7 o8 k8).toArray] ?_ Tryz.func100 (by kernel_rfl) (by kernel_rfl) CC ?_;(simp [Act.eval,Act.put]);rintro ee w5a ⟨s6,m6,s7,m7,s8,m8,rfl,o5,b5⟩;have k5:=KS w5a (ChgL.of_below b5);have bA:=bAl w5a (.cells (rwR r s6 m6 s7 m7 s8 m8).toArray 43);have kA:=KS _ (ChgL.of_below (b5.trans (bA.mono b5.size)));obtain ⟨La,a1,a2,a3⟩:=o5;have e1:Below w5.drew.heap.size w5.drew (w5a.alloc (.cells (rwR r s6 m6 s7 m7 s8 m8).toArray 43)):=b5.trans (bA.mono b5.size);have e2:zac.own (w5a.alloc (.cells (rwR r s6 m6 s7 m7 s8 m8).toArray 43)) r (rwR r s6 m6 s7 m7 s8 m8) La:=zac.own_kept a1 (fun b hb=>bA.block b (a3 b hb).2);have e3:∀ b,b∈La→w5.drew.heap.size≤b:=fun b hb=>(a3 b hb).1;have e4:=zb8 w5a (rwR r s6 m6 s7 m7 s8 m8) 43;have e5:=AP (w5a.alloc (.cells (rwR r s6 m6 s7 m7 s8 m8).toArray 43)) e1 La (rwR r s6 m6 s7 m7 s8 m8) e2 a2 e3 w5a.heap.size e4;clear e1 e2 e3 e4;obtain ⟨s9,m9,w6,L',hrun,TT⟩:=e5;have k6':=KS w6 TT.chg;have f0:w6.frozen? ⟨gt,T*2,none⟩=false:=(World.frozen?_of_block (a:=⟨gt,T*2,none⟩) (TT.chg.block gt S3.lt hgt)).trans (S3.frozen _);have f1:w6.frozen? ⟨gt,T*2+1,none⟩=false:=(World.frozen?_of_block (a:=⟨gt,T*2+1,none⟩) (TT.chg.block gt S3.lt hgt)).trans (S3.frozen _);have t0:w6.cell? ⟨gt,T*2,none⟩=some (.bool (d.tapes.2 T).wiped):=(World.cell?_of_block (a:=⟨gt,T*2,none⟩) (TT.chg.block gt S3.lt hgt)).trans y0;have t1:w6.cell? ⟨gt,T*2+1,none⟩=some (.slice ao9 (d.tapes.2 T).recs.1 cap9):=k6'.2.1;refine ⟨_,rfl,?_⟩
  refine hKC.out _ _ (k5) (fun hHeld=>?_);clear hKC KC
  try simp only [Act.put,SL]
  refine zak (i:=15) (o:=_) rfl (by kernel_rfl) (fun KC hKC=>?_);go_simp;refine hKC.out _ _ (kA) (fun hHeld=>?_);clear hKC KC
  try simp only [Act.put,SL]
  refine zak (i:=16) (o:=_) rfl (by kernel_rfl) (fun KC hKC=>?_)
  refine zeg rfl (.tmp 22) (.tmp 25) rfl ?_ ?_ hrun ?_;(simp [Act.eval,Act.put]);(simp [Act.eval,Act.put])
  refine hKC.out _ _ (k6') (fun hHeld=>?_);clear hKC KC
  try simp only [Act.put,SL]
  refine zjJ 17 rfl ?_
  try simp only [Act.put,SL]
  refine zjJ 18 rfl ?_
  try simp only [Act.put,SL]
  refine zbe (o:=_) rfl (by kernel_rfl) (fun KC hKC=>?_);go_simp;refine hKC.out _ _ ?_;clear hKC KC
  try simp only [Act.put,SL]
  refine zbf (by kernel_rfl) ?_ _
  have TK:Turn zag w5.drew (Ls T) w6 (zfg (d.tapes.2 T) r) [.bool false,(.slice s9 ((d.tapes.2 T).recs.1+1) m9)] L':=by
   rw [eK9];exact ⟨zeN (zfg (d.tapes.2 T) r) TT.own,TT.nd,TT.sub,TT.chg⟩
  have T7:=S3.turn_at nd3 hT TK (w':=(stN w6 gt (T*zag.sz) [.bool false,(.slice s9 ((d.tapes.2 T).recs.1+1) m9)])) rfl;have WO7:=WO.tapes (Nat.le_refl _) (Nat.zero_le _) T7;have hin:∀ b,b∈gt::catN d.tapes.1 Ls→b≠B:=fun b hb he=>HNE.out (by rw [← he];exact inK b hb);have X7:=HBX.out.chgl T7.chg (fun hb=>hin B hb rfl)
  have sub7:∀ b,b∈K1'++(K2'++(gt::catN d.tapes.1 (upd Ls T L')))→b∈K1'++(K2'++(gt::catN d.tapes.1 Ls))∨w5.heap.size≤b:=fun b hb=>by
   rcases List.mem_append.1 hb with h | h
   ·exact .inl (List.mem_append_left _ h)
   ·rcases List.mem_append.1 h with h | h
    ·exact .inl (List.mem_append_right _ (List.mem_append_left _ h))
    ·rcases T7.sub b h with h | h
     ·exact .inl (inK b h)
     ·exact .inr h.1
  have hE7:B∉K1'++(K2'++(gt::catN d.tapes.1 (upd Ls T L'))):=fun hm=>by
   rcases sub7 B hm with h | h
   ·exact HNE.out h
   ·have:B<w5.heap.size:=hbl
    omega
  have O7:=WO7.encO hE7;rw [List.append_nil] at O7
  have S7:SpB (stN w6 gt (T*zag.sz) [.bool false,(.slice s9 ((d.tapes.2 T).recs.1+1) m9)]) B ({ zbv d T r with writes:=d.writes+1 }) (K1'++(K2'++(gt::catN d.tapes.1 (upd Ls T L')))):=by refine ⟨_,?_,O7⟩;exact X7
  have C7:ChgL (B::(K1'++(K2'++(gt::catN d.tapes.1 Ls)))) w (stN w6 gt (T*zag.sz) [.bool false,(.slice s9 ((d.tapes.2 T).recs.1+1) m9)]):=(HC5.out.trans ((ChgL.refl _ _).drew)).trans (T7.chg.mono (fun b hb=>List.mem_cons_of_mem _ (inK b hb)));have in0:gt≠B:=hin gt (List.mem_cons_self ..);have x11':(w6.setCell ⟨gt,T*2+1,none⟩ (.slice s9 ((d.tapes.2 T).recs.1+1) m9)).cell? ⟨B,11,none⟩=some (.slice (some ⟨gt,0,none⟩) d.tapes.1 c3):=(World.cell?_of_block (heap_setCell_other w6 _ _ _ (fun h=>in0 h.symm))).trans k6'.1;have y0':(w6.setCell ⟨gt,T*2+1,none⟩ (.slice s9 ((d.tapes.2 T).recs.1+1) m9)).cell? ⟨gt,T*2,none⟩=some (.bool (d.tapes.2 T).wiped):=(zi9 w6 gt (T*2+1) (T*2) _ (by omega)).trans t0;have f0':(w6.setCell ⟨gt,T*2+1,none⟩ (.slice s9 ((d.tapes.2 T).recs.1+1) m9)).frozen? ⟨gt,T*2,none⟩=false:=(zh3 w6 _ _ _).trans f0;have e8:(w6.setCell ⟨gt,T*2+1,none⟩ (.slice s9 ((d.tapes.2 T).recs.1+1) m9)).setCell ⟨gt,T*2,none⟩ (.bool false)=(stN w6 gt (T*zag.sz) [.bool false,(.slice s9 ((d.tapes.2 T).recs.1+1) m9)]):=zgb w6 gt (T*2+1) (T*2) _ _ (by omega)
  have HS8:Hid (∀ b,b∈K1'++(K2'++(gt::catN d.tapes.1 (upd Ls T L')))→b∈K1'++(K2'++(gt::catN d.tapes.1 Ls))∨w.heap.size≤b):=fun b hb=>by
   rcases sub7 b hb with h | h
   ·exact .inl h
   ·exact .inr (by omega)
  have HE:Hid (zaz r T d=.done 0 { zbv d T r with writes:=d.writes+1 }):=by show _=_;unfold zaz rawO;rw [if_neg HFL.out]
  clear WO7 T7 TK TT WO S3 nd3 e9 eK9 o9 KS CC AP k5 kA k6' hrun nd9 t0 t1 f0 f1 y0 y1 O7 X7;obtain ⟨W8,hW8⟩:∃ x,x=(w6.setCell ⟨gt,T*2+1,none⟩ (.slice s9 ((d.tapes.2 T).recs.1+1) m9)):=⟨_,rfl⟩;obtain ⟨W7,hW7⟩:∃ x,x=(stN w6 gt (T*zag.sz) [.bool false,(.slice s9 ((d.tapes.2 T).recs.1+1) m9)]):=⟨_,rfl⟩;rw [← hW8] at x11' y0' f0' e8 ⊢;rw [← hW7] at S7 C7 e8;have HS7:=hid S7;have HC7:=hid C7;clear hW8 hW7 S7 C7;go_wp2;go_ret;rw [HE.out];exact ⟨rfl,_,HS7.out,HS8.out,HC7.out⟩
end Go.Proofs.YtaccmgakckpofaaGreat
