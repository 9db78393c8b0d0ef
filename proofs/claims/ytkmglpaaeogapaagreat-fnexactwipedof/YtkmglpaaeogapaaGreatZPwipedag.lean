/- Walks of the program's looks at tapes and groups. -/
import Derived.Test.YtkmglpaaeogapaaGreatZPwipedaf
set_option linter.unusedVariables false
set_option linter.unusedSimpArgs false
set_option maxHeartbeats 16000000
namespace Go.Proofs.YtkmglpaaeogapaaGreat
open Go.RowKit F256
def za1 (p:Nat×(Nat→TapeD)):Prop:=∃ t,t<p.1∧200<(p.2 t).recs.1
def zaF (p:Nat×(Nat→TapeD)):Prop:=∃ t,t<p.1∧((p.2 t).wiped=true∧0<(p.2 t).recs.1)
theorem zdk (p:Nat×(Nat→TapeD)) (t:TypeId) (v:Value) (hi:Nat) (w:World) (h:(zai.slice t).rd w hi p [v]) (hhi:hi≤w.heap.size) :
 Calls Tryz.prog 86 #[v,.func (.func 59) #[] #[]] w fun e w'=>∃ z:Int,e=.returned (.int .i64 z)∧(0≤z↔za1 p)∧Below w.heap.size w w':=by
 obtain ⟨ao,cap,e,hm,hc⟩:=h
 cases e
 unfold maxLen at hm;have HC:=hid hc;clear hc
 go_enter Tryz.func86,Tryz.ntmps86
 go_wp2
 go_loopw [8] (fun i wr=>∃ k:Nat,k≤p.1∧i=.int .i64 k∧(∀ i,i<k→¬ (200<(p.2 i).recs.1))∧Below w.heap.size w wr) (fun i _=>p.1-(intOf i).toNat)
 case atStart=>exact ⟨0,Nat.zero_le _,rfl,fun i hi=>by omega,Below.refl _ _⟩
 case round=>
  obtain ⟨k,hk,rfl,hal,hb⟩:=hrel;have HAL:=hid hal;have HB:=hid hb;clear hal
  by_cases hlt:k<p.1
  ·obtain ⟨b,off,he,hbl,hel⟩:=HC.out (by omega)
   subst he;obtain ⟨ck,hrk,hcell⟩:=zar (t:=0) hel hb hhi hbl hlt;obtain ⟨ao1,cap1,rfl,g1⟩:=zaV hrk
   have hm1:(p.2 k).recs.1≤maxLen:=by
    obtain ⟨_,_,_,h,_⟩:=g1;exact h
   unfold maxLen at hm1;have c0:wr.cell? ⟨b,off+k*2,none⟩=some (.bool (p.2 k).wiped):=hcell 0 (by decide);have c1:wr.cell? ⟨b,off+k*2+1,none⟩=some (.slice ao1 (p.2 k).recs.1 cap1):=hcell 1 (by decide);have C:=fun w'=>zeq (p.2 k).wiped (p.2 k).recs.1 (by omega) ao1 cap1 w';clear hel hcell hrk hb g1
   go_wp2_with fail
   refine (C _).mono ?_;rintro e w2 ⟨t2,rfl,ht2,b2⟩;have HB2:=hid (HB.out.trans (b2.mono HB.out.size));have HT2:=hid ht2;clear C b2 ht2
   cases t2 with
   | true=>
    have HP:Hid (0≤(k:Int)↔za1 p):=⟨fun _=>⟨k,hlt,HT2.out.1 rfl⟩,fun _=>by omega⟩;go_wp2;go_ret;exact ⟨_,rfl,HP.out,HB2.out⟩
   | false=>
    go_wp2
    go_roundw
    case rel=>exact ⟨k+1,by omega,by go_num,fun i hi=>by
     by_cases c:i=k
     ·subst c;exact fun h=>by have:=HT2.out.2 h;simp at this
     ·exact HAL.out i (by omega),HB2.out⟩
    case measure=>simp [intOf];omega
  ·obtain rfl:k=p.1:=by omega
   have HP:Hid (0≤(-1:Int)↔za1 p):=⟨fun h=>by omega,fun ⟨t,ht,he⟩=>absurd he (HAL.out t ht)⟩;go_wp2;go_ret;exact ⟨-1,rfl,HP.out,hb⟩
theorem zcL (p:Nat×(Nat→TapeD)) (t:TypeId) (v:Value) (hi:Nat) (w:World) (h:(zai.slice t).rd w hi p [v]) (hhi:hi≤w.heap.size) :
 Calls Tryz.prog 58 #[v,.func (.func 59) #[] #[]] w (za8 (za1 p) w):=by
 have C:=zdk p t v hi w h hhi;obtain ⟨ao,cap,e,hm,hc⟩:=h
 cases e
 clear hc hm
 go_enter Tryz.func58,Tryz.ntmps58
 go_wp2_with fail
 refine C.mono ?_;rintro e w1 ⟨z,rfl,hz,b1⟩;have HZ:=hid hz;have HB:=hid b1;clear hz C b1
 by_cases h0:0≤z
 ·have HP:=hid (HZ.out.mp h0)
  go_wp2;go_ret;exact zas rfl HP.out HB.out
 ·have HP:Hid (¬ za1 p):=fun h=>h0 (HZ.out.mpr h)
  have td:decide (0≤z)=false:=by simp;omega
  clear h0;go_wp2;go_ret;exact zal rfl HP.out HB.out
theorem zcp (p:Nat×(Nat→TapeD)) (t:TypeId) (v:Value) (hi:Nat) (w:World) (h:(zai.slice t).rd w hi p [v]) (hhi:hi≤w.heap.size) :
 Calls Tryz.prog 86 #[v,.func (.func 61) #[] #[]] w fun e w'=>∃ z:Int,e=.returned (.int .i64 z)∧(0≤z↔zaF p)∧Below w.heap.size w w':=by
 obtain ⟨ao,cap,e,hm,hc⟩:=h
 cases e
 unfold maxLen at hm;have HC:=hid hc;clear hc
 go_enter Tryz.func86,Tryz.ntmps86
 go_wp2
 go_loopw [8] (fun i wr=>∃ k:Nat,k≤p.1∧i=.int .i64 k∧(∀ i,i<k→¬ ((p.2 i).wiped=true∧0<(p.2 i).recs.1))∧Below w.heap.size w wr) (fun i _=>p.1-(intOf i).toNat)
 case atStart=>exact ⟨0,Nat.zero_le _,rfl,fun i hi=>by omega,Below.refl _ _⟩
 case round=>
  obtain ⟨k,hk,rfl,hal,hb⟩:=hrel;have HAL:=hid hal;have HB:=hid hb;clear hal
  by_cases hlt:k<p.1
  ·obtain ⟨b,off,he,hbl,hel⟩:=HC.out (by omega)
   subst he;obtain ⟨ck,hrk,hcell⟩:=zar (t:=0) hel hb hhi hbl hlt;obtain ⟨ao1,cap1,rfl,g1⟩:=zaV hrk
   have hm1:(p.2 k).recs.1≤maxLen:=by
    obtain ⟨_,_,_,h,_⟩:=g1;exact h
   unfold maxLen at hm1;have c0:wr.cell? ⟨b,off+k*2,none⟩=some (.bool (p.2 k).wiped):=hcell 0 (by decide);have c1:wr.cell? ⟨b,off+k*2+1,none⟩=some (.slice ao1 (p.2 k).recs.1 cap1):=hcell 1 (by decide);have C:=fun w'=>zdI (p.2 k).wiped (p.2 k).recs.1 (by omega) ao1 cap1 w';clear hel hcell hrk hb g1
   go_wp2_with fail
   refine (C _).mono ?_;rintro e w2 ⟨t2,rfl,ht2,b2⟩;have HB2:=hid (HB.out.trans (b2.mono HB.out.size));have HT2:=hid ht2;clear C b2 ht2
   cases t2 with
   | true=>
    have HP:Hid (0≤(k:Int)↔zaF p):=⟨fun _=>⟨k,hlt,HT2.out.1 rfl⟩,fun _=>by omega⟩;go_wp2;go_ret;exact ⟨_,rfl,HP.out,HB2.out⟩
   | false=>
    go_wp2
    go_roundw
    case rel=>exact ⟨k+1,by omega,by go_num,fun i hi=>by
     by_cases c:i=k
     ·subst c;exact fun h=>by have:=HT2.out.2 h;simp at this
     ·exact HAL.out i (by omega),HB2.out⟩
    case measure=>simp [intOf];omega
  ·obtain rfl:k=p.1:=by omega
   have HP:Hid (0≤(-1:Int)↔zaF p):=⟨fun h=>by omega,fun ⟨t,ht,he⟩=>absurd he (HAL.out t ht)⟩;go_wp2;go_ret;exact ⟨-1,rfl,HP.out,hb⟩
theorem zbW (p:Nat×(Nat→TapeD)) (t:TypeId) (v:Value) (hi:Nat) (w:World) (h:(zai.slice t).rd w hi p [v]) (hhi:hi≤w.heap.size) :
 Calls Tryz.prog 58 #[v,.func (.func 61) #[] #[]] w (za8 (zaF p) w):=by
 have C:=zcp p t v hi w h hhi;obtain ⟨ao,cap,e,hm,hc⟩:=h
 cases e
 clear hc hm
 go_enter Tryz.func58,Tryz.ntmps58
 go_wp2_with fail
 refine C.mono ?_;rintro e w1 ⟨z,rfl,hz,b1⟩;have HZ:=hid hz;have HB:=hid b1;clear hz C b1
 by_cases h0:0≤z
 ·have HP:=hid (HZ.out.mp h0)
  go_wp2;go_ret;exact zas rfl HP.out HB.out
 ·have HP:Hid (¬ zaF p):=fun h=>h0 (HZ.out.mpr h)
  have td:decide (0≤z)=false:=by simp;omega
  clear h0;go_wp2;go_ret;exact zal rfl HP.out HB.out
def zgu (s:Nat→Int) (p:Nat×(Nat→Nat×(Nat→DriveD))):Prop:=(p.1:Int)=s 0+s 1∧∀ i,i<p.1→zdB s (p.2 i)
theorem zdJ (s:Nat→Int) (hs:zaj s) (p:Nat×(Nat→Nat×(Nat→DriveD))) (v:Value) (hi:Nat) (w:World) (h:((zaa.slice 73).slice 70).rd w hi p [v]) (hhi:hi≤w.heap.size) :
 Calls Tryz.prog 56 #[zac s,v] w (za8 (zgu s p) w):=by
 obtain ⟨ao,cap,e,hm,hc⟩:=h
 cases e
 unfold maxLen at hm;have HC:=hid hc;have T0:=zav w (rwS s).toArray 33;have CG:=fun w'=>zaS s hs w';have CD:=fun w'=>zdj s hs w';have HS:=hid hs;clear hc hs;unfold zac at CG CD ⊢
 go_enter Tryz.func56,Tryz.ntmps56
 go_wp2_with fail
 refine (CG _).mono ?_;rintro e w1 ⟨rfl,b1⟩;have HT1:=hid (T0.call b1);clear b1 T0 CG
 by_cases hl:(p.1:Int)=s 0+s 1
 ·have hne:((p.1:Int) != s 0+s 1)=false:=by simpa using hl
  have HL:=hid hl;clear hl;go_wp2
  go_loopw [16] (fun i wr=>∃ k:Nat,k≤p.1∧i=.int .i64 k∧(∀ i,i<k→zdB s (p.2 i))∧One w wr (rwS s).toArray 33) (fun i _=>p.1-(intOf i).toNat)
  case atStart=>exact ⟨0,Nat.zero_le _,rfl,fun i hi=>by omega,HT1.out⟩
  case round=>
   clear HT1;obtain ⟨k,hk,rfl,hal,T2⟩:=hrel;obtain ⟨wo,rfl⟩:∃ x,x=wr:=⟨_,rfl⟩;have HAL:=hid hal;have HT2:=hid T2;clear hal;have x2_0:wo.cell? ⟨w.heap.size,0,none⟩=some (.int .i64 (s 0)):=T2.b1.cell 0;have x2_1:wo.cell? ⟨w.heap.size,1,none⟩=some (.int .i64 (s 1)):=T2.b1.cell 1;have x2_2:wo.cell? ⟨w.heap.size,2,none⟩=some (.int .i64 (s 2)):=T2.b1.cell 2;have x2_3:wo.cell? ⟨w.heap.size,3,none⟩=some (.int .i64 (s 3)):=T2.b1.cell 3;have x2_4:wo.cell? ⟨w.heap.size,4,none⟩=some (.int .i64 (s 4)):=T2.b1.cell 4;have x2_5:wo.cell? ⟨w.heap.size,5,none⟩=some (.int .i64 (s 5)):=T2.b1.cell 5;have x2_6:wo.cell? ⟨w.heap.size,6,none⟩=some (.int .i64 (s 6)):=T2.b1.cell 6;have x2_7:wo.cell? ⟨w.heap.size,7,none⟩=some (.int .i64 (s 7)):=T2.b1.cell 7;have x2_8:wo.cell? ⟨w.heap.size,8,none⟩=some (.int .i64 (s 8)):=T2.b1.cell 8
   by_cases hlt:k<p.1
   ·obtain ⟨b,off,he,hbl,hel⟩:=HC.out (by omega)
    subst he;obtain ⟨ck,hrk,hcell⟩:=zar (t:=0) hel T2.bel hhi hbl hlt;obtain ⟨ao9,cap9,rfl⟩:=za4 hrk
    have c0:wo.cell? ⟨b,off+k,none⟩=some (.slice ao9 (p.2 k).1 cap9):=by
     have h:=hcell 0 (show 0<1 by decide);rw [show (zaa.slice 73).sz=1 from rfl,Nat.mul_one,Nat.add_zero] at h;exact h
    obtain ⟨_,_,e9,hm9,hc9⟩:=hrk
    cases e9
    have HC9:=hid hc9;unfold maxLen at hm9;have zw:w.heap.size<wo.heap.size:=T2.b1.lt;clear hcell hc9 hel T2
    go_wp2_with fail
    refine (CD _).mono ?_;rintro e w3 ⟨rfl,b3⟩;have HT3:=hid (HT2.out.call b3);have HB3:=hid b3;clear b3 c0 x2_0 x2_1 x2_2 x2_3 x2_4 x2_5 x2_6 x2_7 x2_8
    by_cases hl2:((p.2 k).1:Int)=s 2+s 3
    ·have hne2:(((p.2 k).1:Int) != s 2+s 3)=false:=by simpa using hl2
     have HL2:=hid hl2;clear hl2;go_wp2
     go_loopw [27] (fun i wx=>∃ q:Nat,q≤(p.2 k).1∧i=.int .i64 q∧(∀ i,i<q→zc7 s ((p.2 k).2 i).blocks)∧One w wx (rwS s).toArray 33∧Below wo.heap.size wo wx) (fun i _=>(p.2 k).1-(intOf i).toNat)
     case atStart=>exact ⟨0,Nat.zero_le _,rfl,fun i hi=>by omega,HT3.out,HB3.out⟩
     case round=>
      clear HT3 HB3;obtain ⟨q,hq,rfl,hal2,T4,hb4⟩:=hrel;obtain ⟨wx,rfl⟩:∃ x,x=wr:=⟨_,rfl⟩;have HAL2:=hid hal2;have HT4:=hid T4;have HB4:=hid hb4;clear hal2
      by_cases hlq:q<(p.2 k).1
      ·obtain ⟨b9,off9,he9,hb9,hel9⟩:=HC9.out (by omega)
       subst he9;obtain ⟨cq,hrq,hcq⟩:=zar (t:=0) hel9 hb4 (by omega) hb9 hlq;obtain ⟨ao5,cap5,rfl,g5⟩:=zaU hrq;have c4:wx.cell? ⟨b9,off9+q*2,none⟩=some (.bool ((p.2 k).2 q).wiped):=hcq 0 (by decide);have c5:wx.cell? ⟨b9,off9+q*2+1,none⟩=some (.slice ao5 ((p.2 k).2 q).blocks.1 cap5):=hcq 1 (by decide);have HG5:=hid g5;have zx:w.heap.size<wx.heap.size:=T4.b1.lt;clear hel9 hcq hrq T4 hb4 g5
       go_upto_region 11 with fail
       have bA:=bAl wx (.cells #[.bool ((p.2 k).2 q).wiped,.slice ao5 ((p.2 k).2 q).blocks.1 cap5] 73);have T5:One w (wx.alloc (.cells #[.bool ((p.2 k).2 q).wiped,.slice ao5 ((p.2 k).2 q).blocks.1 cap5] 73)) (rwS s).toArray 33:=HT4.out.call bA;have X5:=zax wx #[.bool ((p.2 k).2 q).wiped,.slice ao5 ((p.2 k).2 q).blocks.1 cap5] 73;obtain ⟨W5,hW5⟩:∃ x,x=wx.alloc (.cells #[.bool ((p.2 k).2 q).wiped,.slice ao5 ((p.2 k).2 q).blocks.1 cap5] 73):=⟨_,rfl⟩;rw [← hW5] at T5 X5 bA ⊢;have y5_1:W5.cell? ⟨wx.heap.size,1,none⟩=some (.slice ao5 ((p.2 k).2 q).blocks.1 cap5):=X5.cell 1;have HT5:=hid T5;have HB5:=hid bA;have x5_0:W5.cell? ⟨w.heap.size,0,none⟩=some (.int .i64 (s 0)):=T5.b1.cell 0;have x5_1:W5.cell? ⟨w.heap.size,1,none⟩=some (.int .i64 (s 1)):=T5.b1.cell 1;have x5_2:W5.cell? ⟨w.heap.size,2,none⟩=some (.int .i64 (s 2)):=T5.b1.cell 2;have x5_3:W5.cell? ⟨w.heap.size,3,none⟩=some (.int .i64 (s 3)):=T5.b1.cell 3;have x5_4:W5.cell? ⟨w.heap.size,4,none⟩=some (.int .i64 (s 4)):=T5.b1.cell 4;have x5_5:W5.cell? ⟨w.heap.size,5,none⟩=some (.int .i64 (s 5)):=T5.b1.cell 5;have x5_6:W5.cell? ⟨w.heap.size,6,none⟩=some (.int .i64 (s 6)):=T5.b1.cell 6;have x5_7:W5.cell? ⟨w.heap.size,7,none⟩=some (.int .i64 (s 7)):=T5.b1.cell 7;have x5_8:W5.cell? ⟨w.heap.size,8,none⟩=some (.int .i64 (s 8)):=T5.b1.cell 8;obtain ⟨t6,h6⟩:=exB (zc7 s ((p.2 k).2 q).blocks);have CB:=za9 (zdH s HS.out ((p.2 k).2 q).blocks _ _ hi W5 ((zak.slice 112).rd_below HG5.out bA (by omega)) (by have:=bA.size;omega)) h6;unfold zac at CB;have H6:=hid h6;clear T5 X5 bA hW5 h6 c4 c5
       go_wp2_with fail
       refine CB.mono ?_;rintro e w6 ⟨rfl,b6⟩;have HT6:=hid (HT5.out.call b6);have HB6:Hid (Below wo.heap.size wo w6):=HB4.out.trans ((HB5.out.trans (b6.mono HB5.out.size)).mono HB4.out.size);clear b6 CB x5_0 x5_1 x5_2 x5_3 x5_4 x5_5 x5_6 x5_7 x5_8 y5_1
       cases t6 with
       | false=>
        go_wp2;go_ret;exact zal rfl (fun h=>by have:=H6.out.2 ((h.2 k hlt).2 q hlq);simp at this) HT6.out.bel
       | true=>
        go_wp2
        go_roundw
        case rel=>exact ⟨q+1,by omega,by go_num,fun i hi=>by
         by_cases c:i=q
         ·subst c;exact H6.out.1 (by simp)
         ·exact HAL2.out i (by omega),HT6.out,HB6.out⟩
        case measure=>simp [intOf];omega
      ·obtain rfl:q=(p.2 k).1:=by omega
       clear T4 hb4;go_wp2
       go_roundw
       case rel=>exact ⟨k+1,by omega,by go_num,fun i hi=>by
        by_cases c:i=k
        ·subst c
         exact ⟨HL2.out,HAL2.out⟩
        ·exact HAL.out i (by omega),HT4.out⟩
       case measure=>simp [intOf];omega
    ·have hne2:(((p.2 k).1:Int) != s 2+s 3)=true:=by simpa using hl2
     have HN2:=hid hl2;clear hl2;go_wp2;go_ret;exact zal rfl (fun h=>HN2.out (h.2 k hlt).1) HT3.out.bel
   ·obtain rfl:k=p.1:=by omega
    go_wp2;go_ret;exact zas rfl ⟨HL.out,HAL.out⟩ HT2.out.bel
 ·have hne:((p.1:Int) != s 0+s 1)=true:=by simpa using hl
  have HN:=hid hl;clear hl;go_wp2;go_ret;exact zal rfl (fun h=>HN.out h.1) HT1.out.bel
theorem zfV (s:Nat→Int) (hs:zaj s) (r:RecD) (cs:List Value) (hi:Nat) (w:World) (h:zab.rd w hi r cs) (hhi:hi≤w.heap.size) :
 Calls Tryz.prog 108 #[zac s,.agg cs.toArray] w (za8 (za2 s r) w):=by
 obtain ⟨ao6,cap6,ao7,cap7,ao8,cap8,rfl,g6,g7,g8,-,-,-,hl,-⟩:=zbi h;clear h;have hb:=okB hs;obtain ⟨v6,e6,⟨h6,hcp6⟩,_⟩:=g6
 cases e6
 have H6:=hid h6;have HCP:=hid hcp6;have hm6:=h6.mx;obtain ⟨v7,e7,⟨_,_,e7',hm7,_⟩,_⟩:=g7
 cases e7
 cases e7'
 unfold maxLen at hm6 hm7;clear h6 hcp6 g8;have T0:=zaC w (rwS s).toArray (rwR r ao6 cap6 ao7 cap7 ao8 cap8).toArray 33 95;have CP:=fun w'=>zdE s r.length w';unfold zac intR at CP;unfold zac
 go_enter Tryz.func108,Tryz.ntmps108
 by_cases hl1:r.length=-1
 ·have HL:=hid hl1
  have e1:(r.length==-1)=true:=by simp [hl1]
  have HB:=hid T0.bel;clear T0 CP hl1;obtain ⟨b0,h0⟩:∃ b,((r.data.1:Int)==0)=b:=⟨_,rfl⟩;obtain ⟨b1,h1⟩:∃ b,((r.rows.1:Int)==0)=b:=⟨_,rfl⟩
  have HE:Hid (za2 s r↔(b0=true∧b1=true)):=by
   show za2 s r↔_
   rw [← h0,← h1];unfold za2
   simp [HL.out]
  have hst:b0=false∨(b0=true∧b1=false)∨(b0=true∧b1=true):=by
   clear HE h0 h1
   cases b0<;>simp
  rcases hst with rfl | ⟨rfl,rfl⟩ | ⟨rfl,rfl⟩
  all_goals
   go_wp2;go_ret
   first
    | exact zal rfl (fun h=>by have:=HE.out.1 h;simp at this) HB.out
    | exact zas rfl (HE.out.2 (by simp)) HB.out
 ·have e1:(r.length==-1)=false:=by simp [hl1]
  have HL:=hid hl1;clear hl1
  go_wp2_with fail
  refine (CP _).mono ?_;rintro e w1 ⟨pv,pc,rfl,hp,b1⟩;have T1:Two w w1 (rwS s).toArray (rwR r ao6 cap6 ao7 cap7 ao8 cap8).toArray 33 95:=T0.call b1;clear b1 T0 CP;have HT1:=hid T1;have z1:w.heap.size+1<w1.heap.size:=T1.b2.lt;have x1_0:w1.cell? ⟨w.heap.size,0,none⟩=some (.int .i64 (s 0)):=T1.b1.cell 0;have x1_1:w1.cell? ⟨w.heap.size,1,none⟩=some (.int .i64 (s 1)):=T1.b1.cell 1;have x1_2:w1.cell? ⟨w.heap.size,2,none⟩=some (.int .i64 (s 2)):=T1.b1.cell 2;have x1_3:w1.cell? ⟨w.heap.size,3,none⟩=some (.int .i64 (s 3)):=T1.b1.cell 3;have x1_4:w1.cell? ⟨w.heap.size,4,none⟩=some (.int .i64 (s 4)):=T1.b1.cell 4;have x1_5:w1.cell? ⟨w.heap.size,5,none⟩=some (.int .i64 (s 5)):=T1.b1.cell 5;have x1_6:w1.cell? ⟨w.heap.size,6,none⟩=some (.int .i64 (s 6)):=T1.b1.cell 6;have x1_7:w1.cell? ⟨w.heap.size,7,none⟩=some (.int .i64 (s 7)):=T1.b1.cell 7;have x1_8:w1.cell? ⟨w.heap.size,8,none⟩=some (.int .i64 (s 8)):=T1.b1.cell 8;have y1_0:w1.cell? ⟨w.heap.size+1,0,none⟩=some (.int .i64 r.kind):=T1.b2.cell 0;have y1_1:w1.cell? ⟨w.heap.size+1,1,none⟩=some (.int .i64 r.seq):=T1.b2.cell 1;have y1_2:w1.cell? ⟨w.heap.size+1,2,none⟩=some (.string r.name):=T1.b2.cell 2;have y1_3:w1.cell? ⟨w.heap.size+1,3,none⟩=some (.int .i64 r.length):=T1.b2.cell 3;have y1_4:w1.cell? ⟨w.heap.size+1,4,none⟩=some (.int .i64 r.group):=T1.b2.cell 4;have y1_5:w1.cell? ⟨w.heap.size+1,5,none⟩=some (.int .i64 r.row):=T1.b2.cell 5;have y1_6:w1.cell? ⟨w.heap.size+1,6,none⟩=some (.slice ao6 r.rows.1 cap6):=T1.b2.cell 6;have y1_7:w1.cell? ⟨w.heap.size+1,7,none⟩=some (.slice ao7 r.data.1 cap7):=T1.b2.cell 7;have y1_8:w1.cell? ⟨w.heap.size+1,8,none⟩=some (.slice ao8 r.delta.1 cap8):=T1.b2.cell 8;clear T1
  go_upto_region 4 with fail
  have bA:=bAl w1 (.cells #[.int .i64 pc,.int .i64 pv] 137);have T2:Two w (w1.alloc (.cells #[.int .i64 pc,.int .i64 pv] 137)) (rwS s).toArray (rwR r ao6 cap6 ao7 cap7 ao8 cap8).toArray 33 95:=HT1.out.call bA;have X2:=zax w1 #[.int .i64 pc,.int .i64 pv] 137;obtain ⟨W2,hW2⟩:∃ W2,W2=w1.alloc (.cells #[.int .i64 pc,.int .i64 pv] 137):=⟨_,rfl⟩;rw [← hW2] at T2 X2 ⊢;have HT2:=hid T2;have q0:W2.cell? ⟨w1.heap.size,0,none⟩=some (.int .i64 pc):=X2.cell 0;have q1:W2.cell? ⟨w1.heap.size,1,none⟩=some (.int .i64 pv):=X2.cell 1;clear bA hW2 x1_0 y1_0 x1_1 y1_1 x1_2 y1_2 x1_3 y1_3 x1_4 y1_4 x1_5 y1_5 x1_6 y1_6 x1_7 y1_7 x1_8 y1_8;have x2_0:W2.cell? ⟨w.heap.size,0,none⟩=some (.int .i64 (s 0)):=T2.b1.cell 0;have x2_1:W2.cell? ⟨w.heap.size,1,none⟩=some (.int .i64 (s 1)):=T2.b1.cell 1;have x2_2:W2.cell? ⟨w.heap.size,2,none⟩=some (.int .i64 (s 2)):=T2.b1.cell 2;have x2_3:W2.cell? ⟨w.heap.size,3,none⟩=some (.int .i64 (s 3)):=T2.b1.cell 3;have x2_4:W2.cell? ⟨w.heap.size,4,none⟩=some (.int .i64 (s 4)):=T2.b1.cell 4;have x2_5:W2.cell? ⟨w.heap.size,5,none⟩=some (.int .i64 (s 5)):=T2.b1.cell 5;have x2_6:W2.cell? ⟨w.heap.size,6,none⟩=some (.int .i64 (s 6)):=T2.b1.cell 6;have x2_7:W2.cell? ⟨w.heap.size,7,none⟩=some (.int .i64 (s 7)):=T2.b1.cell 7;have x2_8:W2.cell? ⟨w.heap.size,8,none⟩=some (.int .i64 (s 8)):=T2.b1.cell 8;have y2_0:W2.cell? ⟨w.heap.size+1,0,none⟩=some (.int .i64 r.kind):=T2.b2.cell 0;have y2_1:W2.cell? ⟨w.heap.size+1,1,none⟩=some (.int .i64 r.seq):=T2.b2.cell 1;have y2_2:W2.cell? ⟨w.heap.size+1,2,none⟩=some (.string r.name):=T2.b2.cell 2;have y2_3:W2.cell? ⟨w.heap.size+1,3,none⟩=some (.int .i64 r.length):=T2.b2.cell 3;have y2_4:W2.cell? ⟨w.heap.size+1,4,none⟩=some (.int .i64 r.group):=T2.b2.cell 4;have y2_5:W2.cell? ⟨w.heap.size+1,5,none⟩=some (.int .i64 r.row):=T2.b2.cell 5;have y2_6:W2.cell? ⟨w.heap.size+1,6,none⟩=some (.slice ao6 r.rows.1 cap6):=T2.b2.cell 6;have y2_7:W2.cell? ⟨w.heap.size+1,7,none⟩=some (.slice ao7 r.data.1 cap7):=T2.b2.cell 7;have y2_8:W2.cell? ⟨w.heap.size+1,8,none⟩=some (.slice ao8 r.delta.1 cap8):=T2.b2.cell 8
  clear T2 X2
  by_cases hok:1≤r.length∧r.length≤3*(s 2*4)
  ·have hpp:pc=0∧pv=(r.length+s 2*4-1)/(s 2*4):=by
    rcases hp with ⟨h1,_⟩ | ⟨_,h1,_⟩ | ⟨_,h1,h2,_⟩ | ⟨_,_,_,h1,h2⟩
    ·exact absurd hs h1
    ·omega
    ·omega
    ·exact ⟨h1,h2⟩
   obtain ⟨rfl,hpv⟩:=hpp;have HPV:=hid hpv;have HOK:=hid hok;clear hp hpv hs
   by_cases hd:0<r.data.1
   ·have d1:decide (0<(r.data.1:Int))=true:=by simp;omega
    obtain ⟨b0,h0⟩:∃ b,((r.data.1:Int)==r.length)=b:=⟨_,rfl⟩;obtain ⟨b1,h1⟩:∃ b,((r.rows.1:Int)==0)=b:=⟨_,rfl⟩
    have HE:Hid (za2 s r↔(b0=true∧b1=true)):=by
     show za2 s r↔_
     rw [← h0,← h1];unfold za2;have:=HL.out;have:=HOK.out
     constructor
     ·rintro (h | ⟨_,_,_,h | h⟩)
      ·omega
      ·simp;omega
      ·omega
     ·intro h
      simp at h
      exact .inr ⟨by omega,by omega,by omega,.inl ⟨hd,h.1,h.2⟩⟩
    have hst:b0=false∨(b0=true∧b1=false)∨(b0=true∧b1=true):=by
     clear HE h0 h1
     cases b0<;>simp
    clear hok
    rcases hst with rfl | ⟨rfl,rfl⟩ | ⟨rfl,rfl⟩
    all_goals
     go_wp2;go_ret
     first
      | exact zal rfl (fun h=>by have:=HE.out.1 h;simp at this) HT2.out.bel
      | exact zas rfl (HE.out.2 (by simp)) HT2.out.bel
   ·have d1:decide (0<(r.data.1:Int))=false:=by simp;omega
    have hd0:r.data.1=0:=by omega
    obtain ⟨t2,h2⟩:=exB (zbj r.rows.1 r.rows.2 (s 4-1));have cQ:=za9 (zbV _ r.rows.1 r.rows.2 hi (s 4) (by omega) (by omega) W2 (H6.out.below HT2.out.bel hhi) HCP.out (Nat.le_trans hhi HT2.out.bel.size)) h2;obtain ⟨b0,h0⟩:∃ b,((r.rows.1:Int)==pv)=b:=⟨_,rfl⟩
    have HE:Hid (za2 s r↔(b0=true∧t2=true)):=by
     show za2 s r↔_
     rw [← h0,h2,HPV.out];unfold za2;have:=HL.out;have:=HOK.out
     constructor
     ·rintro (h | ⟨_,_,_,h | h⟩)
      ·omega
      ·omega
      ·exact ⟨by simpa using h.2.1,h.2.2⟩
     ·intro h
      exact .inr ⟨by omega,by omega,by omega,.inr ⟨hd0,by simpa using h.1,h.2⟩⟩
    clear hok h2 hd0
    cases b0 with
    | false=>
     go_wp2;go_ret;exact zal rfl (fun h=>by have:=HE.out.1 h;simp at this) HT2.out.bel
    | true=>
     go_wp2_with fail
     refine cQ.mono ?_;rintro e w3 ⟨rfl,b3⟩;have HB3:Hid (Below w.heap.size w w3):=(HT2.out.call b3).bel;clear b3 cQ;go_wp2;go_ret
     cases t2 with
     | true=>exact zas rfl (HE.out.2 (by simp)) HB3.out
     | false=>exact zal rfl (fun h=>by have:=HE.out.1 h;simp at this) HB3.out
  ·have hc0:(pc != 0)=true:=by
    have:pc≠0:=by
     rcases hp with ⟨h1,h2,_⟩ | ⟨_,h1,h2,_⟩ | ⟨_,h1,h2,h3,_⟩ | ⟨_,h1,h2,h3,_⟩
     ·omega
     ·omega
     ·omega
     ·omega
    simp [this]
   have HNO:Hid (¬ za2 s r):=fun h=>by
    have:=HL.out;unfold za2 at h;omega
   clear hp hok;go_wp2;go_ret;exact zal rfl HNO.out HT2.out.bel
def zcR (g:Nat→Int):Nat→Int
 | 0=>0
 | k+1=>g k+1
theorem zgv {g:Nat→Int} {most:Int} {k:Nat} (h:zb3 k g most) (h1:zcR g k≤g k) (h2:g k≤most):zb3 (k+1) g most:=fun i hi=>by
 by_cases c:i=k
 ·subst c
  cases i with
  | zero=>exact ⟨h1,h2,fun h0=>by omega⟩
  | succ j=>
   have:=(h j (by omega)).1
   simp only [zcR] at h1
   exact ⟨by omega,h2,fun _=>by rw [show j+1-1=j by omega];omega⟩
 ·exact h i (by omega)
theorem zfW {g:Nat→Int} {most:Int} {n k:Nat} (h:zb3 n g most) (hk:k<n):zcR g k≤g k:=by
 cases k with
 | zero=>exact (h 0 hk).1
 | succ j=>
  have:=(h (j+1) hk).2.2 (by omega);rw [show j+1-1=j by omega] at this
  simp only [zcR]
  omega
theorem zdb (v:Value) (n:Nat) (g:Nat→Int) (hi:Nat) (bound:Int) (hb:bound≤1000000) (w:World) (r:RdI w hi v n g) :
 Calls Tryz.prog 115 #[v,.int .i64 bound] w (za8 (zb3 n g (bound-1)) w):=by
 obtain ⟨ao,cap,rfl,hm,hc⟩:=r;unfold maxLen at hm
 go_enter Tryz.func115,Tryz.ntmps115
 go_wp2
 go_loop [5,10] (fun l i=>∃ k:Nat,k≤n∧i=.int .i64 k∧l=.int .i64 (zcR g k)∧zb3 k g (bound-1)) (fun _ i=>n-(intOf i).toNat)
 case atStart=>exact ⟨0,Nat.zero_le _,rfl,rfl,fun i hi=>by omega⟩
 case round=>
  obtain ⟨k,hk,rfl,rfl,hall⟩:=hrel;have HALL:=hid hall;clear hall
  by_cases hlt:k<n
  ·obtain ⟨b,off,rfl,hblt,hcell⟩:=hc (by omega)
   have hck:w.cell? ⟨b,off+k,none⟩=some (.int .i64 (g k)):=hcell k hlt;obtain ⟨x,hx⟩:∃ x,x=g k:=⟨_,rfl⟩;have HX:=hid hx;rw [← hx] at hck;obtain ⟨l,hl⟩:∃ l,l=zcR g k:=⟨_,rfl⟩;have HL:=hid hl;rw [← hl]
   have hl0:0≤l:=by
    rw [hl]
    cases k with
    | zero=>exact Int.le_refl _
    | succ j=>
     have:=(HALL.out j (by omega)).1
     simp only [zcR]
     omega
   clear hc hcell hx hl
   by_cases h1:x<l
   ·have HNO:Hid (¬ zb3 n g (bound-1)):=fun h=>by
     have:=zfW h hlt;rw [← HX.out,← HL.out] at this;omega
    go_wp2;go_ret;exact zal rfl HNO.out (Below.refl _ _)
   ·have e1:decide (x<l)=false:=by simp;omega
    by_cases h2:bound≤x
    ·have HNO:Hid (¬ zb3 n g (bound-1)):=fun h=>by
      have:=(h k hlt).2.1;rw [← HX.out] at this;omega
     clear h1;go_wp2;go_ret;exact zal rfl HNO.out (Below.refl _ _)
    ·have e2:decide (bound≤x)=false:=by simp;omega
     have HRN:Hid (zb3 (k+1) g (bound-1)):=zgv HALL.out (by rw [← HX.out,← HL.out];omega) (by rw [← HX.out];omega)
     have hxb:x≤1000000:=by omega
     have hx0:0≤x:=by omega
     have HLN:Hid (x+1=zcR g (k+1)):=by show x+1=g k+1;rw [HX.out]
     have wadd:IntKind.i64.wrap (x+1)=x+1:=by rw [IntKind.wrap_i64];omega
     clear h1 h2;go_wp2
     go_round
     case rel=>exact ⟨k+1,by omega,by go_num,by rw [← HLN.out],HRN.out⟩
     case measure=>simp [intOf];omega
  ·obtain rfl:k=n:=by omega
   clear hc;go_wp2;go_ret;exact zas rfl HALL.out (Below.refl _ _)
theorem ze0 (s:Nat→Int) (hs:zaj s) (r:RecD) (cs:List Value) (hi:Nat) (w:World) (h:zab.rd w hi r cs) (hhi:hi≤w.heap.size) :
 Calls Tryz.prog 112 #[zac s,.agg cs.toArray] w (za8 (zfo s r) w):=by
 obtain ⟨ao6,cap6,ao7,cap7,ao8,cap8,rfl,g6,g7,g8,-⟩:=zbi h;clear h;have hb:=okB hs;have HS:=hid hs;obtain ⟨v6,e6,⟨h6,hcp6⟩,_⟩:=g6
 cases e6
 have H6:=hid h6;have hm6:=h6.mx;obtain ⟨_,_,e6',_,hc6⟩:=h6
 cases e6'
 obtain ⟨v7,e7,⟨_,_,e7',hm7,_⟩,_⟩:=g7
 cases e7
 cases e7'
 obtain ⟨v8,e8,⟨_,_,e8',hm8,hc8⟩,hk8⟩:=g8
 cases e8
 cases e8'
 have HC6:=hid hc6;have HC8:=hid hc8;unfold maxLen at hm6 hm7 hm8;clear hcp6 hc6 hc8 hk8;unfold zac
 go_enter Tryz.func112,Tryz.ntmps112
 go_wp2_with fail
 have T0:=zaC w (rwS s).toArray (rwR r ao6 cap6 ao7 cap7 ao8 cap8).toArray 33 95;obtain ⟨W,hW⟩:∃ W,W=(w.alloc (.cells (rwS s).toArray 33)).alloc (.cells (rwR r ao6 cap6 ao7 cap7 ao8 cap8).toArray 95):=⟨_,rfl⟩;rw [← hW] at T0 ⊢;clear hW;have HT:=hid T0;have x0_0:W.cell? ⟨w.heap.size,0,none⟩=some (.int .i64 (s 0)):=T0.b1.cell 0;have kx0_0:=cell_regrown x0_0;have x0_1:W.cell? ⟨w.heap.size,1,none⟩=some (.int .i64 (s 1)):=T0.b1.cell 1;have kx0_1:=cell_regrown x0_1;have x0_2:W.cell? ⟨w.heap.size,2,none⟩=some (.int .i64 (s 2)):=T0.b1.cell 2;have kx0_2:=cell_regrown x0_2;have x0_3:W.cell? ⟨w.heap.size,3,none⟩=some (.int .i64 (s 3)):=T0.b1.cell 3;have kx0_3:=cell_regrown x0_3;have x0_4:W.cell? ⟨w.heap.size,4,none⟩=some (.int .i64 (s 4)):=T0.b1.cell 4;have kx0_4:=cell_regrown x0_4;have x0_5:W.cell? ⟨w.heap.size,5,none⟩=some (.int .i64 (s 5)):=T0.b1.cell 5;have kx0_5:=cell_regrown x0_5;have x0_6:W.cell? ⟨w.heap.size,6,none⟩=some (.int .i64 (s 6)):=T0.b1.cell 6;have kx0_6:=cell_regrown x0_6;have x0_7:W.cell? ⟨w.heap.size,7,none⟩=some (.int .i64 (s 7)):=T0.b1.cell 7;have kx0_7:=cell_regrown x0_7;have x0_8:W.cell? ⟨w.heap.size,8,none⟩=some (.int .i64 (s 8)):=T0.b1.cell 8;have kx0_8:=cell_regrown x0_8;have y0_0:W.cell? ⟨w.heap.size+1,0,none⟩=some (.int .i64 r.kind):=T0.b2.cell 0;have ky0_0:=cell_regrown y0_0;have y0_1:W.cell? ⟨w.heap.size+1,1,none⟩=some (.int .i64 r.seq):=T0.b2.cell 1;have ky0_1:=cell_regrown y0_1;have y0_2:W.cell? ⟨w.heap.size+1,2,none⟩=some (.string r.name):=T0.b2.cell 2;have ky0_2:=cell_regrown y0_2;have y0_3:W.cell? ⟨w.heap.size+1,3,none⟩=some (.int .i64 r.length):=T0.b2.cell 3;have ky0_3:=cell_regrown y0_3;have y0_4:W.cell? ⟨w.heap.size+1,4,none⟩=some (.int .i64 r.group):=T0.b2.cell 4;have ky0_4:=cell_regrown y0_4;have y0_5:W.cell? ⟨w.heap.size+1,5,none⟩=some (.int .i64 r.row):=T0.b2.cell 5;have ky0_5:=cell_regrown y0_5;have y0_6:W.cell? ⟨w.heap.size+1,6,none⟩=some (.slice ao6 r.rows.1 cap6):=T0.b2.cell 6
 have ky0_6:=cell_regrown y0_6;have y0_7:W.cell? ⟨w.heap.size+1,7,none⟩=some (.slice ao7 r.data.1 cap7):=T0.b2.cell 7;have ky0_7:=cell_regrown y0_7;have y0_8:W.cell? ⟨w.heap.size+1,8,none⟩=some (.slice ao8 r.delta.1 cap8):=T0.b2.cell 8;have ky0_8:=cell_regrown y0_8;obtain ⟨t1,h1⟩:=exB (InP r.group 0 (s 0+s 1-1));obtain ⟨t2,h2⟩:=exB (InP r.row 0 (s 4-1));obtain ⟨t3,h3⟩:=exB (zb3 r.rows.1 r.rows.2 (s 0+s 1-1));have cG:=zap (W:=W) (fun w' _=>zc9 HS.out h1 w');have cR:=zap (W:=W) (fun w' _=>zgt HS.out h2 w');have cA:=zap (W:=W) (fun w' _=>zaS s HS.out w');have cS:=zap (W:=W) (fun w' hw'=>za9 (zdb _ r.rows.1 r.rows.2 hi (s 0+s 1) (by omega) w' ((H6.out.below T0.bel hhi).below hw' (Nat.le_trans hhi T0.bel.size))) h3);unfold zac at cG cR cA;clear T0;have H1:=hid h1;have H2:=hid h2;have H3:=hid h3
 have hst:t1=false∨(t1=true∧t2=false)∨(t1=true∧t2=true∧t3=false)∨(t1=true∧t2=true∧t3=true):=by
  clear H1 H2 H3 h1 h2 h3 cG cR cS
  cases t1<;>simp
  cases t2<;>simp
 clear h1 h2 h3
 rcases hst with rfl | ⟨rfl,rfl⟩ | ⟨rfl,rfl,rfl⟩ | ⟨rfl,rfl,rfl⟩
 all_goals
  refine WQ.region (by kernel_rfl) (by kernel_rfl) ?_
  repeat (first | (apply WQ.skip;(case hw=>rfl);intro K hK;go_simp;apply hK;clear hK K) | (apply WQ.want;(case hw=>rfl);intro K hK;go_simp;first | (apply hK;clear hK K) | (apply Exists.intro;apply And.intro;(case left=>intro p;(first | (go_at_call 39;exact cG _ _) | (go_at_call 110;exact cR _ _) | (go_at_call 63;exact cA _ _) | (go_at_call 115;exact cS _ _)));apply hK;clear hK K)))
  refine WQ.nil ?_;intro w1 hw1;have T1:=HT.out.call (zaw hw1);have HT1:=hid T1;clear hw1 x0_0 kx0_0 y0_0 ky0_0 x0_1 kx0_1 y0_1 ky0_1 x0_2 kx0_2 y0_2 ky0_2 x0_3 kx0_3 y0_3 ky0_3 x0_4 kx0_4 y0_4 ky0_4 x0_5 kx0_5 y0_5 ky0_5 x0_6 kx0_6 y0_6 ky0_6 x0_7 kx0_7 y0_7 ky0_7 x0_8 kx0_8 y0_8 ky0_8 cG cR cA cS
 ·clear T1
  go_wp2;go_ret;exact zal rfl (fun h=>by have:=H1.out.2 h.1;simp at this) HT1.out.bel
 ·clear T1
  go_wp2;go_ret;exact zal rfl (fun h=>by have:=H2.out.2 h.2.1;simp at this) HT1.out.bel
 ·clear T1
  go_wp2;go_ret;exact zal rfl (fun h=>by have:=H3.out.2 h.2.2.1;simp at this) HT1.out.bel
 have HG:Hid (InP r.group 0 (s 0+s 1-1)):=H1.out.1 rfl;have HR:Hid (zb3 r.rows.1 r.rows.2 (s 0+s 1-1)):=H3.out.1 rfl;have HW:Hid (InP r.row 0 (s 4-1)):=H2.out.1 rfl;clear H1 H2 H3;have x1_0:w1.cell? ⟨w.heap.size,0,none⟩=some (.int .i64 (s 0)):=T1.b1.cell 0;have kx1_0:=cell_regrown x1_0;have x1_1:w1.cell? ⟨w.heap.size,1,none⟩=some (.int .i64 (s 1)):=T1.b1.cell 1;have kx1_1:=cell_regrown x1_1;have x1_2:w1.cell? ⟨w.heap.size,2,none⟩=some (.int .i64 (s 2)):=T1.b1.cell 2;have kx1_2:=cell_regrown x1_2;have x1_3:w1.cell? ⟨w.heap.size,3,none⟩=some (.int .i64 (s 3)):=T1.b1.cell 3;have kx1_3:=cell_regrown x1_3;have x1_4:w1.cell? ⟨w.heap.size,4,none⟩=some (.int .i64 (s 4)):=T1.b1.cell 4;have kx1_4:=cell_regrown x1_4;have x1_5:w1.cell? ⟨w.heap.size,5,none⟩=some (.int .i64 (s 5)):=T1.b1.cell 5;have kx1_5:=cell_regrown x1_5;have x1_6:w1.cell? ⟨w.heap.size,6,none⟩=some (.int .i64 (s 6)):=T1.b1.cell 6;have kx1_6:=cell_regrown x1_6;have x1_7:w1.cell? ⟨w.heap.size,7,none⟩=some (.int .i64 (s 7)):=T1.b1.cell 7;have kx1_7:=cell_regrown x1_7;have x1_8:w1.cell? ⟨w.heap.size,8,none⟩=some (.int .i64 (s 8)):=T1.b1.cell 8;have kx1_8:=cell_regrown x1_8;have y1_0:w1.cell? ⟨w.heap.size+1,0,none⟩=some (.int .i64 r.kind):=T1.b2.cell 0;have ky1_0:=cell_regrown y1_0;have y1_1:w1.cell? ⟨w.heap.size+1,1,none⟩=some (.int .i64 r.seq):=T1.b2.cell 1;have ky1_1:=cell_regrown y1_1;have y1_2:w1.cell? ⟨w.heap.size+1,2,none⟩=some (.string r.name):=T1.b2.cell 2;have ky1_2:=cell_regrown y1_2;have y1_3:w1.cell? ⟨w.heap.size+1,3,none⟩=some (.int .i64 r.length):=T1.b2.cell 3;have ky1_3:=cell_regrown y1_3;have y1_4:w1.cell? ⟨w.heap.size+1,4,none⟩=some (.int .i64 r.group):=T1.b2.cell 4;have ky1_4:=cell_regrown y1_4;have y1_5:w1.cell? ⟨w.heap.size+1,5,none⟩=some (.int .i64 r.row):=T1.b2.cell 5;have ky1_5:=cell_regrown y1_5;have y1_6:w1.cell? ⟨w.heap.size+1,6,none⟩=some (.slice ao6 r.rows.1 cap6):=T1.b2.cell 6;have ky1_6:=cell_regrown y1_6;have y1_7:w1.cell? ⟨w.heap.size+1,7,none⟩=some (.slice ao7 r.data.1 cap7):=T1.b2.cell 7;have ky1_7:=cell_regrown y1_7;have y1_8:w1.cell? ⟨w.heap.size+1,8,none⟩=some (.slice ao8 r.delta.1 cap8):=T1.b2.cell 8;have ky1_8:=cell_regrown y1_8;obtain ⟨t4,h4⟩:∃ b,((r.data.1:Int)==s 2*4)=b:=⟨_,rfl⟩;obtain ⟨b5,h5⟩:∃ b,((r.delta.1:Int) != s 0+s 1)=b:=⟨_,rfl⟩;have cL:=zap (W:=w1) (fun w' _=>zda HS.out (ao:=ao7) (cap:=cap7) (by omega) h4 w');have cA:=zap (W:=w1) (fun w' _=>zaS s HS.out w');unfold zac at cL cA;clear T1
 have H4:Hid (t4=true↔(r.data.1:Int)=s 2*4):=by
  show t4=true↔_
  rw [← h4]
  simp
 have H5:Hid (b5=false↔(r.delta.1:Int)=s 0+s 1):=by
  show b5=false↔_
  rw [← h5]
  simp
 have hst:t4=false∨(t4=true∧b5=true)∨(t4=true∧b5=false):=by
  clear H4 H5 h4 h5 cL
  cases t4<;>simp
 clear h4;go_wp2
 rcases hst with rfl | ⟨rfl,rfl⟩ | ⟨rfl,rfl⟩
 all_goals
  refine WQ.region (by kernel_rfl) (by kernel_rfl) ?_
  repeat (first | (apply WQ.skip;(case hw=>rfl);intro K hK;go_simp;apply hK;clear hK K) | (apply WQ.want;(case hw=>rfl);intro K hK;go_simp;first | (apply hK;clear hK K) | (apply Exists.intro;apply And.intro;(case left=>intro p;(first | (go_at_call 111;exact cL _ _) | (go_at_call 63;exact cA _ _)));apply hK;clear hK K)))
  refine WQ.nil ?_;intro w2 hw2;have T2:=HT1.out.call (zaw hw2);have HT2:=hid T2;clear hw2 x1_0 kx1_0 y1_0 ky1_0 x1_1 kx1_1 y1_1 ky1_1 x1_2 kx1_2 y1_2 ky1_2 x1_3 kx1_3 y1_3 ky1_3 x1_4 kx1_4 y1_4 ky1_4 x1_5 kx1_5 y1_5 ky1_5 x1_6 kx1_6 y1_6 ky1_6 x1_7 kx1_7 y1_7 ky1_7 x1_8 kx1_8 y1_8 ky1_8 cL cA
 ·clear T2
  go_wp2;go_ret;exact zal rfl (fun h=>by have:=H4.out.2 h.2.2.2.1;simp at this) HT2.out.bel
 ·clear T2
  go_wp2;go_ret;exact zal rfl (fun h=>by have:=H5.out.2 h.2.2.2.2.1;simp at this) HT2.out.bel
 have HDA:Hid ((r.data.1:Int)=s 2*4):=H4.out.1 rfl;have hlen:(r.delta.1:Int)=s 0+s 1:=H5.out.1 rfl;have HLEN:=hid hlen;clear H4 H5 h5;obtain ⟨b8,off8,he8,hb8,hcell8⟩:=HC8.out (by omega);subst he8;have HCE:=hid hcell8;have y2_6:w2.cell? ⟨w.heap.size+1,6,none⟩=some (.slice ao6 r.rows.1 cap6):=T2.b2.cell 6;clear hcell8 T2 HC8 hlen;go_wp2
 go_loopw [43] (fun i wr=>∃ k:Nat,k≤r.rows.1∧i=.int .i64 k∧(∀ i,i<k→r.delta.2 (r.rows.2 i).toNat≠0)∧Two w wr (rwS s).toArray (rwR r ao6 cap6 ao7 cap7 (some ⟨b8,off8,none⟩) cap8).toArray 33 95) (fun i _=>r.rows.1-(intOf i).toNat)
 case atStart=>exact ⟨0,Nat.zero_le _,rfl,fun i hi=>by omega,HT2.out⟩
 case round=>
  obtain ⟨k,hk,rfl,hal,T3⟩:=hrel;have HAL:=hid hal;have H3:=hid T3;clear hal y2_6;have y3_8:wr.cell? ⟨w.heap.size+1,8,none⟩=some (.slice (some ⟨b8,off8,none⟩) r.delta.1 cap8):=T3.b2.cell 8;have y3_4:wr.cell? ⟨w.heap.size+1,4,none⟩=some (.int .i64 r.group):=T3.b2.cell 4
  by_cases hlt:k<r.rows.1
  ·obtain ⟨b6,off6,he6,hb6,hcell6⟩:=HC6.out (by omega)
   subst he6;have hrk:=HR.out k hlt;have hl:=HLEN.out;obtain ⟨Y,hY⟩:∃ Y:Nat,r.rows.2 k=(Y:Int):=⟨(r.rows.2 k).toNat,by omega⟩
   have hYl:Y<r.delta.1:=by omega
   have c6:wr.cell? ⟨b6,off6+k,none⟩=some (.int .i64 (Y:Int)):=by
    rw [← hY];exact (T3.bel.cell (p:=⟨b6,off6+k,none⟩) (by show b6<w.heap.size;omega)).trans (hcell6 k hlt)
   have c8:wr.cell? ⟨b8,off8+Y,none⟩=some (.int .u8 (r.delta.2 Y)):=(T3.bel.cell (p:=⟨b8,off8+Y,none⟩) (by show b8<w.heap.size;omega)).trans (HCE.out Y hYl);have HY:=hid hY;clear hcell6 hrk hY T3 hl;obtain ⟨z0,hz0⟩:∃ x,x=r.delta.2 Y:=⟨_,rfl⟩;have HZ0:=hid hz0;rw [← hz0] at c8;clear hz0
   by_cases hz:z0=0
   ·subst hz
    go_wp2;go_ret;exact zal rfl (fun h=>h.2.2.2.2.2.2 k hlt (by rw [HY.out];exact HZ0.out.symm)) H3.out.bel
   ·have hz':((z0:Int)==0)=false:=by simp;omega
    go_wp2
    go_roundw
    case rel=>exact ⟨k+1,by omega,by go_num,fun i hi=>by
     by_cases c:i=k
     ·subst c
      rw [HY.out,Int.toNat_natCast,← HZ0.out];exact hz
     ·exact HAL.out i (by omega),H3.out⟩
    case measure=>simp [intOf];omega
  ·obtain rfl:k=r.rows.1:=by omega
   have hg:=HG.out;have hl:=HLEN.out;unfold InP at hg;obtain ⟨G,hG⟩:∃ G:Nat,r.group=(G:Int):=⟨r.group.toNat,by omega⟩
   have hGl:G<r.delta.1:=by omega
   have d0:wr.cell? ⟨b8,off8+G,none⟩=some (.int .u8 (r.delta.2 G)):=(T3.bel.cell (p:=⟨b8,off8+G,none⟩) (by show b8<w.heap.size;omega)).trans (HCE.out G hGl);rw [hG] at y3_4;have HGG:=hid hG;obtain ⟨x0,hx0⟩:∃ x,x=r.delta.2 G:=⟨_,rfl⟩;have HX0:=hid hx0;rw [← hx0] at d0;clear hx0 hG hg hl T3
   by_cases hz:x0=0
   ·subst hz
    go_wp2;go_ret;exact zas rfl ⟨HG.out,HW.out,HR.out,HDA.out,HLEN.out,by rw [HGG.out,Int.toNat_natCast];exact HX0.out.symm,HAL.out⟩ H3.out.bel
   ·have hz':((x0:Int)==0)=false:=by simp;omega
    go_wp2;go_ret;exact zal rfl (fun h=>hz (by rw [HX0.out,← h.2.2.2.2.2.1,HGG.out,Int.toNat_natCast])) H3.out.bel
theorem zgQ (seq:Int) (name:ByteArray) (length group row:Int) (rows:Nat×(Nat→Int)) (data delta:Nat×(Nat→Nat)) (ao6 ao7 ao8:Option Addr) (cap6 cap7 cap8:Nat) (w:World) :
 Calls Tryz.prog 102 #[.agg #[.int .i64 1,.int .i64 seq,.string name,.int .i64 length,.int .i64 group,.int .i64 row,.slice ao6 rows.1 cap6,.slice ao7 data.1 cap7,.slice ao8 delta.1 cap8]] w fun e w'=>e=.returned (.agg #[.int .i64 0,.int .i64 0,.string ByteArray.empty,.int .i64 0,.int .i64 group,.int .i64 row,.slice none 0 0,.slice none 0 0,.slice ao8 delta.1 cap8])∧Below w.heap.size w w':=by
 have B0:Below w.heap.size w ((w.alloc (.cells #[.int .i64 1,.int .i64 seq,.string name,.int .i64 length,.int .i64 group,.int .i64 row,.slice ao6 rows.1 cap6,.slice ao7 data.1 cap7,.slice ao8 delta.1 cap8] 95)).alloc (.cells #[.int .i64 0,.int .i64 0,.string ByteArray.empty,.int .i64 0,.int .i64 group,.int .i64 row,.slice none 0 0,.slice none 0 0,.slice ao8 delta.1 cap8] 95)):=((Below.refl _ _).alloc (Nat.le_refl _) _).alloc (by simp) _
 go_enter Tryz.func102,Tryz.ntmps102
 go_wp2;exact bodyPost_ret (v:=.agg #[.int .i64 0,.int .i64 0,.string ByteArray.empty,.int .i64 0,.int .i64 group,.int .i64 row,.slice none 0 0,.slice none 0 0,.slice ao8 delta.1 cap8]) (by simp [results,Tryz.results102,go_sem];try rfl) rfl ⟨rfl,B0⟩
theorem zgR (seq:Int) (name:ByteArray) (length group row:Int) (rows:Nat×(Nat→Int)) (data delta:Nat×(Nat→Nat)) (ao6 ao7 ao8:Option Addr) (cap6 cap7 cap8:Nat) (w:World) :
 Calls Tryz.prog 102 #[.agg #[.int .i64 2,.int .i64 seq,.string name,.int .i64 length,.int .i64 group,.int .i64 row,.slice ao6 rows.1 cap6,.slice ao7 data.1 cap7,.slice ao8 delta.1 cap8]] w fun e w'=>e=.returned (.agg #[.int .i64 0,.int .i64 0,.string name,.int .i64 length,.int .i64 0,.int .i64 0,.slice ao6 rows.1 cap6,.slice none 0 0,.slice none 0 0])∧Below w.heap.size w w':=by
 have B0:Below w.heap.size w ((w.alloc (.cells #[.int .i64 2,.int .i64 seq,.string name,.int .i64 length,.int .i64 group,.int .i64 row,.slice ao6 rows.1 cap6,.slice ao7 data.1 cap7,.slice ao8 delta.1 cap8] 95)).alloc (.cells #[.int .i64 0,.int .i64 0,.string name,.int .i64 length,.int .i64 0,.int .i64 0,.slice ao6 rows.1 cap6,.slice none 0 0,.slice none 0 0] 95)):=((Below.refl _ _).alloc (Nat.le_refl _) _).alloc (by simp) _
 go_enter Tryz.func102,Tryz.ntmps102
 go_wp2;exact bodyPost_ret (v:=.agg #[.int .i64 0,.int .i64 0,.string name,.int .i64 length,.int .i64 0,.int .i64 0,.slice ao6 rows.1 cap6,.slice none 0 0,.slice none 0 0]) (by simp [results,Tryz.results102,go_sem];try rfl) rfl ⟨rfl,B0⟩
theorem zgS (seq:Int) (name:ByteArray) (length group row:Int) (rows:Nat×(Nat→Int)) (data delta:Nat×(Nat→Nat)) (ao6 ao7 ao8:Option Addr) (cap6 cap7 cap8:Nat) (w:World) :
 Calls Tryz.prog 102 #[.agg #[.int .i64 3,.int .i64 seq,.string name,.int .i64 length,.int .i64 group,.int .i64 row,.slice ao6 rows.1 cap6,.slice ao7 data.1 cap7,.slice ao8 delta.1 cap8]] w fun e w'=>e=.returned (.agg #[.int .i64 0,.int .i64 0,.string name,.int .i64 length,.int .i64 0,.int .i64 row,.slice ao6 rows.1 cap6,.slice ao7 data.1 cap7,.slice ao8 delta.1 cap8])∧Below w.heap.size w w':=by
 have B0:Below w.heap.size w ((w.alloc (.cells #[.int .i64 3,.int .i64 seq,.string name,.int .i64 length,.int .i64 group,.int .i64 row,.slice ao6 rows.1 cap6,.slice ao7 data.1 cap7,.slice ao8 delta.1 cap8] 95)).alloc (.cells #[.int .i64 0,.int .i64 0,.string name,.int .i64 length,.int .i64 0,.int .i64 row,.slice ao6 rows.1 cap6,.slice ao7 data.1 cap7,.slice ao8 delta.1 cap8] 95)):=((Below.refl _ _).alloc (Nat.le_refl _) _).alloc (by simp) _
 go_enter Tryz.func102,Tryz.ntmps102
 go_wp2;exact bodyPost_ret (v:=.agg #[.int .i64 0,.int .i64 0,.string name,.int .i64 length,.int .i64 0,.int .i64 row,.slice ao6 rows.1 cap6,.slice ao7 data.1 cap7,.slice ao8 delta.1 cap8]) (by simp [results,Tryz.results102,go_sem];try rfl) rfl ⟨rfl,B0⟩
theorem zgT (seq:Int) (name:ByteArray) (length group row:Int) (rows:Nat×(Nat→Int)) (data delta:Nat×(Nat→Nat)) (ao6 ao7 ao8:Option Addr) (cap6 cap7 cap8:Nat) (w:World) :
 Calls Tryz.prog 102 #[.agg #[.int .i64 4,.int .i64 seq,.string name,.int .i64 length,.int .i64 group,.int .i64 row,.slice ao6 rows.1 cap6,.slice ao7 data.1 cap7,.slice ao8 delta.1 cap8]] w fun e w'=>e=.returned (.agg #[.int .i64 0,.int .i64 0,.string name,.int .i64 length,.int .i64 0,.int .i64 0,.slice none 0 0,.slice none 0 0,.slice none 0 0])∧Below w.heap.size w w':=by
 have B0:Below w.heap.size w ((w.alloc (.cells #[.int .i64 4,.int .i64 seq,.string name,.int .i64 length,.int .i64 group,.int .i64 row,.slice ao6 rows.1 cap6,.slice ao7 data.1 cap7,.slice ao8 delta.1 cap8] 95)).alloc (.cells #[.int .i64 0,.int .i64 0,.string name,.int .i64 length,.int .i64 0,.int .i64 0,.slice none 0 0,.slice none 0 0,.slice none 0 0] 95)):=((Below.refl _ _).alloc (Nat.le_refl _) _).alloc (by simp) _
 go_enter Tryz.func102,Tryz.ntmps102
 go_wp2;exact bodyPost_ret (v:=.agg #[.int .i64 0,.int .i64 0,.string name,.int .i64 length,.int .i64 0,.int .i64 0,.slice none 0 0,.slice none 0 0,.slice none 0 0]) (by simp [results,Tryz.results102,go_sem];try rfl) rfl ⟨rfl,B0⟩
def zcS (kd sq ln gr rw_:Int) (nm:ByteArray) (n6 n7 n8:Nat):Prop:=kd=0∧sq=0∧zbD nm ln gr rw_ n6 n7 n8
theorem zbO (kd sq ln gr rw_:Int) (nm:ByteArray) (ao6 ao7 ao8:Option Addr) (n6 n7 n8 cap6 cap7 cap8:Nat) (w:World) :
 Calls Tryz.prog 101 #[.agg #[.int .i64 kd,.int .i64 sq,.string nm,.int .i64 ln,.int .i64 gr,.int .i64 rw_,.slice ao6 n6 cap6,.slice ao7 n7 cap7,.slice ao8 n8 cap8]] w (za8 (zcS kd sq ln gr rw_ nm n6 n7 n8) w):=by
 have B0:Hid (Below w.heap.size w (w.alloc (.cells #[.int .i64 kd,.int .i64 sq,.string nm,.int .i64 ln,.int .i64 gr,.int .i64 rw_,.slice ao6 n6 cap6,.slice ao7 n7 cap7,.slice ao8 n8 cap8] 95))):=(Below.refl _ _).alloc (Nat.le_refl _) _;obtain ⟨b0,h0⟩:∃ b,(kd==0)=b:=⟨_,rfl⟩;obtain ⟨b1,h1⟩:∃ b,(sq==0)=b:=⟨_,rfl⟩;obtain ⟨b2,h2⟩:∃ b,(ln==0)=b:=⟨_,rfl⟩;obtain ⟨b3,h3⟩:∃ b,(gr==0)=b:=⟨_,rfl⟩;obtain ⟨b4,h4⟩:∃ b,(rw_==0)=b:=⟨_,rfl⟩;obtain ⟨b5,h5⟩:∃ b,nm.toList.isEmpty=b:=⟨_,rfl⟩;obtain ⟨b6,h6⟩:∃ b,((n6:Int)==0)=b:=⟨_,rfl⟩;obtain ⟨b7,h7⟩:∃ b,((n7:Int)==0)=b:=⟨_,rfl⟩;obtain ⟨b8,h8⟩:∃ b,((n8:Int)==0)=b:=⟨_,rfl⟩
 have HE:Hid (zcS kd sq ln gr rw_ nm n6 n7 n8↔(b0=true∧b1=true∧b2=true∧b3=true∧b4=true∧b5=true∧b6=true∧b7=true∧b8=true)):=by
  show zcS kd sq ln gr rw_ nm n6 n7 n8↔_
  rw [← h0,← h1,← h2,← h3,← h4,← h5,← h6,← h7,← h8,zgY];unfold zcS zbD
  simp
  intro _ _
  constructor
  ·rintro ⟨h2,h3,h4,h5,h6⟩
   exact ⟨h3,h4,h5,h2,h6⟩
  ·rintro ⟨h3,h4,h5,h2,h6⟩
   exact ⟨h2,h3,h4,h5,h6⟩
 have hs:(b0=false)∨(b0=true∧b1=false)∨(b0=true∧b1=true∧b2=false)∨(b0=true∧b1=true∧b2=true∧b3=false)∨(b0=true∧b1=true∧b2=true∧b3=true∧b4=false)∨(b0=true∧b1=true∧b2=true∧b3=true∧b4=true∧b5=false)∨(b0=true∧b1=true∧b2=true∧b3=true∧b4=true∧b5=true∧b6=false)∨(b0=true∧b1=true∧b2=true∧b3=true∧b4=true∧b5=true∧b6=true∧b7=false)∨(b0=true∧b1=true∧b2=true∧b3=true∧b4=true∧b5=true∧b6=true∧b7=true∧b8=false)∨(b0=true∧b1=true∧b2=true∧b3=true∧b4=true∧b5=true∧b6=true∧b7=true∧b8=true):=by
  clear HE h0 h1 h2 h3 h4 h5 h6 h7 h8
  cases b0<;>simp
  cases b1<;>simp
  cases b2<;>simp
  cases b3<;>simp
  cases b4<;>simp
  cases b5<;>simp
  cases b6<;>simp
  cases b7<;>simp
 go_enter Tryz.func101,Tryz.ntmps101
 rcases hs with rfl | ⟨rfl,rfl⟩ | ⟨rfl,rfl,rfl⟩ | ⟨rfl,rfl,rfl,rfl⟩ | ⟨rfl,rfl,rfl,rfl,rfl⟩ | ⟨rfl,rfl,rfl,rfl,rfl,rfl⟩ | ⟨rfl,rfl,rfl,rfl,rfl,rfl,rfl⟩ | ⟨rfl,rfl,rfl,rfl,rfl,rfl,rfl,rfl⟩ | ⟨rfl,rfl,rfl,rfl,rfl,rfl,rfl,rfl,rfl⟩ | ⟨rfl,rfl,rfl,rfl,rfl,rfl,rfl,rfl,rfl⟩
 all_goals
  go_wp2;go_ret
  first
   | exact zal rfl (fun h=>by have:=HE.out.1 h;simp at this) B0.out
   | exact zas rfl (HE.out.2 (by simp)) B0.out
theorem zcT (y:Nat) (h:LetP y) (w:World):Calls Tryz.prog 106 #[.int .u8 y] w fun e w'=>e=.returned (.bool true)∧w'=w:=by
 unfold LetP at h;obtain ⟨h1,h2⟩:=h
 have t1:decide ((97:Int)≤(y:Int))=true:=by simp;omega
 have t2:decide ((y:Int)≤122)=true:=by simp;omega
 go_enter Tryz.func106,Tryz.ntmps106
 go_wp2;go_ret;exact ⟨rfl,rfl⟩
theorem zdc (y:Nat) (h:¬ LetP y) (w:World):Calls Tryz.prog 106 #[.int .u8 y] w fun e w'=>e=.returned (.bool false)∧w'=w:=by
 unfold LetP at h
 by_cases h1:97≤y
 ·have h2:122<y:=by omega
  have t1:decide ((97:Int)≤(y:Int))=true:=by simp;omega
  have t2:decide ((y:Int)≤122)=false:=by simp;omega
  clear h
  go_enter Tryz.func106,Tryz.ntmps106
  go_wp2;go_ret;exact ⟨rfl,rfl⟩
 ·have t1:decide ((97:Int)≤(y:Int))=false:=by simp;omega
  clear h
  go_enter Tryz.func106,Tryz.ntmps106
  go_wp2;go_ret;exact ⟨rfl,rfl⟩
theorem ze1 (y:Nat) (h:DigP y) (w:World):Calls Tryz.prog 107 #[.int .u8 y] w fun e w'=>e=.returned (.bool true)∧w'=w:=by
 unfold DigP at h;obtain ⟨h1,h2⟩:=h
 have t1:decide ((48:Int)≤(y:Int))=true:=by simp;omega
 have t2:decide ((y:Int)≤57)=true:=by simp;omega
 go_enter Tryz.func107,Tryz.ntmps107
 go_wp2;go_ret;exact ⟨rfl,rfl⟩
theorem zfX (y:Nat) (h:¬ DigP y) (w:World):Calls Tryz.prog 107 #[.int .u8 y] w fun e w'=>e=.returned (.bool false)∧w'=w:=by
 unfold DigP at h
 by_cases h1:48≤y
 ·have h2:57<y:=by omega
  have t1:decide ((48:Int)≤(y:Int))=true:=by simp;omega
  have t2:decide ((y:Int)≤57)=false:=by simp;omega
  clear h
  go_enter Tryz.func107,Tryz.ntmps107
  go_wp2;go_ret;exact ⟨rfl,rfl⟩
 ·have t1:decide ((48:Int)≤(y:Int))=false:=by simp;omega
  clear h
  go_enter Tryz.func107,Tryz.ntmps107
  go_wp2;go_ret;exact ⟨rfl,rfl⟩
theorem zer (b:ByteArray) (hb:b.size≤1048576) (w:World) :
 Calls Tryz.prog 99 #[.string b] w fun e w'=>∃ x,e=.returned (.int .i64 x)∧zhi b x∧w'=w:=by
 by_cases h1:1≤b.size
 ·have t1:decide ((b.size:Int)<1)=false:=by simp;omega
  have t1n:decide (b.size<1)=false:=decide_eq_false (by omega);have t1z:decide (b.size=0)=false:=decide_eq_false (by omega)
  by_cases h2:b.size≤8
  ·have t2:decide ((8:Int)<(b.size:Int))=false:=by simp;omega
   have t2n:decide (8<b.size)=false:=by simp;omega
   have hix:=zcd b 0 h1;have e0:((0:Nat):Int)=0:=rfl;rw [e0] at hix;obtain ⟨y,hy⟩:∃ y,y=zau b 0:=⟨_,rfl⟩;rw [← hy] at hix;have HY:=hid hy;clear e0 hy
   by_cases h3:LetP y
   ·have HL:Hid (LetP (zau b 0)):=by show LetP (zau b 0);rw [← HY.out];exact h3
    have CL:=zcT y h3;clear h3
    go_enter Tryz.func99,Tryz.ntmps99
    go_wp2_with fail
    refine (CL _).mono ?_;rintro e w1 ⟨rfl,rfl⟩;go_wp2
    go_loop [20] (fun i=>∃ k:Nat,k≤b.size∧i=.int .i64 k∧∀ i,i<k→LetP (zau b i)∨DigP (zau b i)) (fun i=>b.size-(intOf i).toNat)
    case atStart=>exact ⟨0,Nat.zero_le _,rfl,fun i hi=>by omega⟩
    case round=>
     obtain ⟨k,hk,rfl,hall⟩:=hrel;have HALL:=hid hall;clear hall
     by_cases hlt:k<b.size
     ·have hik:=zcd b k hlt
      obtain ⟨z,hz⟩:∃ z,z=zau b k:=⟨_,rfl⟩;rw [← hz] at hik;have HZ:=hid hz;clear hz CL
      by_cases c1:LetP z
      ·have HD:Hid (LetP (zau b k)):=by show LetP (zau b k);rw [← HZ.out];exact c1
       have C1:=zcT z c1;clear c1
       go_wp2_with fail
       refine (C1 _).mono ?_;rintro e w2 ⟨rfl,rfl⟩;go_wp2
       go_round
       case rel=>exact ⟨k+1,by omega,by go_num,fun i hi=>by
        by_cases c:i=k
        ·left;rw [c];exact HD.out
        ·exact HALL.out i (by omega)⟩
       case measure=>simp [intOf];omega
      ·have C1:=zdc z c1
       by_cases c2:DigP z
       ·have HD:Hid (DigP (zau b k)):=by show DigP (zau b k);rw [← HZ.out];exact c2
        have C2:=ze1 z c2;clear c1 c2
        go_wp2_with fail
        refine (C1 _).mono ?_;rintro e w2 ⟨rfl,rfl⟩
        go_wp2_with fail
        refine (C2 _).mono ?_;rintro e w3 ⟨rfl,rfl⟩;go_wp2
        go_round
        case rel=>exact ⟨k+1,by omega,by go_num,fun i hi=>by
         by_cases c:i=k
         ·right;rw [c];exact HD.out
         ·exact HALL.out i (by omega)⟩
        case measure=>simp [intOf];omega
       ·have HN:Hid (¬ zbk b):=fun h=>by
         have:=h.2.2.2 k hlt;rw [← HZ.out] at this;exact this.elim c1 c2
        have C2:=zfX z c2;clear c1 c2
        go_wp2_with fail
        refine (C1 _).mono ?_;rintro e w2 ⟨rfl,rfl⟩
        go_wp2_with fail
        refine (C2 _).mono ?_;rintro e w3 ⟨rfl,rfl⟩;go_wp2;go_ret;exact ⟨5,rfl,.inl ⟨rfl,HN.out⟩,rfl⟩
     ·obtain rfl:k=b.size:=by omega
      have HY2:Hid (zbk b):=⟨h1,h2,HL.out,HALL.out⟩;go_wp2;go_ret;exact ⟨0,rfl,.inr ⟨rfl,HY2.out⟩,rfl⟩
   ·have HN:Hid (¬ zbk b):=fun h=>by have:=h.2.2.1;rw [← HY.out] at this;exact h3 this
    have CL:=zdc y h3;clear h3
    go_enter Tryz.func99,Tryz.ntmps99
    go_wp2_with fail
    refine (CL _).mono ?_;rintro e w1 ⟨rfl,rfl⟩;go_wp2;go_ret;exact ⟨5,rfl,.inl ⟨rfl,HN.out⟩,rfl⟩
  ·have HN:Hid (¬ zbk b):=fun h=>h2 h.2.1
   have t2:decide ((8:Int)<(b.size:Int))=true:=by simp;omega
   have t2i:(8:Int)<(b.size:Int):=by omega
   clear h2
   go_enter Tryz.func99,Tryz.ntmps99
   go_wp2;go_ret;exact ⟨5,rfl,.inl ⟨rfl,HN.out⟩,rfl⟩
 ·have HN:Hid (¬ zbk b):=fun h=>h1 h.1
  have t1:decide ((b.size:Int)<1)=true:=by simp;omega
  have t1i:(b.size:Int)<1:=by omega
  clear h1
  go_enter Tryz.func99,Tryz.ntmps99
  go_wp2;go_ret;exact ⟨5,rfl,.inl ⟨rfl,HN.out⟩,rfl⟩
theorem zcE (s:Nat→Int) (hs:zaj s) (r:RecD) (cs:List Value) (hi:Nat) (w:World) (h:zab.rd w hi r cs) (hhi:hi≤w.heap.size) (hk:InP r.kind 1 4) :
 Calls Tryz.prog 100 #[zac s,.agg cs.toArray] w (za8 (zaK s r) w):=by
 obtain ⟨kind,seq,name,length,group,row,rows,data,delta⟩:=r;obtain ⟨ao6,cap6,ao7,cap7,ao8,cap8,rfl,g6,g7,g8,k0,k1,k2,k3,k4,k5⟩:=zbi h;have HRD:=hid h;obtain ⟨v7,e7,⟨_,_,e7',hm7,_⟩,_⟩:=g7
 cases e7
 cases e7'
 obtain ⟨v8,e8,⟨_,_,e8',hm8,_⟩,_⟩:=g8
 cases e8
 cases e8'
 unfold maxLen at hm7 hm8
 simp only at hk hm7 hm8
 have HS:=hid hs
 have hk4:kind=1∨kind=2∨kind=3∨kind=4:=by unfold InP at hk;omega
 clear h g6 k0 k1 k2 k3 k4 k5 hk hs
 rcases hk4 with rfl | rfl | rfl | rfl
 ·have T0:=zaC w (rwS s).toArray #[.int .i64 1,.int .i64 seq,.string name,.int .i64 length,.int .i64 group,.int .i64 row,.slice ao6 rows.1 cap6,.slice ao7 data.1 cap7,.slice ao8 delta.1 cap8] 33 95
  obtain ⟨t1,h1⟩:=exB (za2 s ⟨1,seq,name,length,group,row,rows,data,delta⟩);have C:=za9 (zfV s HS.out ⟨1,seq,name,length,group,row,rows,data,delta⟩ _ hi _ (zab.rd_below HRD.out T0.bel hhi) (Nat.le_trans hhi T0.bel.size)) h1
  have HE:Hid (zaK s ⟨1,seq,name,length,group,row,rows,data,delta⟩↔t1=true):=by
   show zaK s ⟨1,seq,name,length,group,row,rows,data,delta⟩↔_
   rw [h1];unfold zaK
   simp
  clear h1;unfold zac at C ⊢
  go_enter Tryz.func100,Tryz.ntmps100
  go_wp2_with fail
  refine C.mono ?_;rintro e w1 ⟨rfl,b1⟩;have HB:Hid (Below w.heap.size w w1):=(T0.call b1).bel;clear b1 C T0;go_wp2;go_ret
  cases t1 with
  | true=>exact zas rfl (HE.out.2 (by simp)) HB.out
  | false=>exact zal rfl (fun h=>by have:=HE.out.1 h;simp at this) HB.out
 ·have T0:=zaC w (rwS s).toArray #[.int .i64 2,.int .i64 seq,.string name,.int .i64 length,.int .i64 group,.int .i64 row,.slice ao6 rows.1 cap6,.slice ao7 data.1 cap7,.slice ao8 delta.1 cap8] 33 95
  obtain ⟨t1,h1⟩:=exB (InP group 0 (s 0-1));obtain ⟨t2,h2⟩:=exB (InP row 0 (s 4-1));obtain ⟨t3,h3⟩:∃ b,((data.1:Int)==s 2*4)=b:=⟨_,rfl⟩;obtain ⟨t4,h4⟩:∃ b,((delta.1:Int)==s 2*4)=b:=⟨_,rfl⟩;have C1:=fun w'=>zdF HS.out h1 w';have C2:=fun w'=>zgt HS.out h2 w';have C3:=fun w'=>zda HS.out (ao:=ao7) (cap:=cap7) (by omega) h3 w';have C4:=fun w'=>zda HS.out (ao:=ao8) (cap:=cap8) (by omega) h4 w'
  have HE:Hid (zaK s ⟨2,seq,name,length,group,row,rows,data,delta⟩↔(t1=true∧t2=true∧t3=true∧t4=true)):=by
   show zaK s ⟨2,seq,name,length,group,row,rows,data,delta⟩↔_
   rw [h1,h2,← h3,← h4];unfold zaK zg3
   simp
  clear h1 h2 h3 h4;unfold zac at C1 C2 C3 C4 ⊢
  go_enter Tryz.func100,Tryz.ntmps100
  go_wp2_with fail
  refine (C1 _).mono ?_;rintro e w1 ⟨rfl,b1⟩;have T1:Two w w1 (rwS s).toArray #[.int .i64 2,.int .i64 seq,.string name,.int .i64 length,.int .i64 group,.int .i64 row,.slice ao6 rows.1 cap6,.slice ao7 data.1 cap7,.slice ao8 delta.1 cap8] 33 95:=T0.call b1;have HB1:=hid T1.bel;clear b1;have x1_0:w1.cell? ⟨w.heap.size,0,none⟩=some (.int .i64 (s 0)):=T1.b1.cell 0;have y1_0:w1.cell? ⟨w.heap.size+1,0,none⟩=some (.int .i64 2):=T1.b2.cell 0;have x1_1:w1.cell? ⟨w.heap.size,1,none⟩=some (.int .i64 (s 1)):=T1.b1.cell 1;have y1_1:w1.cell? ⟨w.heap.size+1,1,none⟩=some (.int .i64 seq):=T1.b2.cell 1;have x1_2:w1.cell? ⟨w.heap.size,2,none⟩=some (.int .i64 (s 2)):=T1.b1.cell 2;have y1_2:w1.cell? ⟨w.heap.size+1,2,none⟩=some (.string name):=T1.b2.cell 2;have x1_3:w1.cell? ⟨w.heap.size,3,none⟩=some (.int .i64 (s 3)):=T1.b1.cell 3;have y1_3:w1.cell? ⟨w.heap.size+1,3,none⟩=some (.int .i64 length):=T1.b2.cell 3;have x1_4:w1.cell? ⟨w.heap.size,4,none⟩=some (.int .i64 (s 4)):=T1.b1.cell 4;have y1_4:w1.cell? ⟨w.heap.size+1,4,none⟩=some (.int .i64 group):=T1.b2.cell 4;have x1_5:w1.cell? ⟨w.heap.size,5,none⟩=some (.int .i64 (s 5)):=T1.b1.cell 5;have y1_5:w1.cell? ⟨w.heap.size+1,5,none⟩=some (.int .i64 row):=T1.b2.cell 5;have x1_6:w1.cell? ⟨w.heap.size,6,none⟩=some (.int .i64 (s 6)):=T1.b1.cell 6;have y1_6:w1.cell? ⟨w.heap.size+1,6,none⟩=some (.slice ao6 rows.1 cap6):=T1.b2.cell 6;have x1_7:w1.cell? ⟨w.heap.size,7,none⟩=some (.int .i64 (s 7)):=T1.b1.cell 7;have y1_7:w1.cell? ⟨w.heap.size+1,7,none⟩=some (.slice ao7 data.1 cap7):=T1.b2.cell 7;have x1_8:w1.cell? ⟨w.heap.size,8,none⟩=some (.int .i64 (s 8)):=T1.b1.cell 8;have y1_8:w1.cell? ⟨w.heap.size+1,8,none⟩=some (.slice ao8 delta.1 cap8):=T1.b2.cell 8
  cases t1 with
  | false=>
   clear T1;go_wp2;go_ret;exact zal rfl (fun h=>by have:=HE.out.1 h;simp at this) HB1.out
  | true=>
   go_wp2_with fail
   refine (C2 _).mono ?_;rintro e w2 ⟨rfl,b2⟩;have T2:Two w w2 (rwS s).toArray #[.int .i64 2,.int .i64 seq,.string name,.int .i64 length,.int .i64 group,.int .i64 row,.slice ao6 rows.1 cap6,.slice ao7 data.1 cap7,.slice ao8 delta.1 cap8] 33 95:=T1.call b2;have HB2:=hid T2.bel;clear b2;have x2_0:w2.cell? ⟨w.heap.size,0,none⟩=some (.int .i64 (s 0)):=T2.b1.cell 0;have y2_0:w2.cell? ⟨w.heap.size+1,0,none⟩=some (.int .i64 2):=T2.b2.cell 0;have x2_1:w2.cell? ⟨w.heap.size,1,none⟩=some (.int .i64 (s 1)):=T2.b1.cell 1;have y2_1:w2.cell? ⟨w.heap.size+1,1,none⟩=some (.int .i64 seq):=T2.b2.cell 1;have x2_2:w2.cell? ⟨w.heap.size,2,none⟩=some (.int .i64 (s 2)):=T2.b1.cell 2;have y2_2:w2.cell? ⟨w.heap.size+1,2,none⟩=some (.string name):=T2.b2.cell 2;have x2_3:w2.cell? ⟨w.heap.size,3,none⟩=some (.int .i64 (s 3)):=T2.b1.cell 3;have y2_3:w2.cell? ⟨w.heap.size+1,3,none⟩=some (.int .i64 length):=T2.b2.cell 3;have x2_4:w2.cell? ⟨w.heap.size,4,none⟩=some (.int .i64 (s 4)):=T2.b1.cell 4;have y2_4:w2.cell? ⟨w.heap.size+1,4,none⟩=some (.int .i64 group):=T2.b2.cell 4;have x2_5:w2.cell? ⟨w.heap.size,5,none⟩=some (.int .i64 (s 5)):=T2.b1.cell 5;have y2_5:w2.cell? ⟨w.heap.size+1,5,none⟩=some (.int .i64 row):=T2.b2.cell 5;have x2_6:w2.cell? ⟨w.heap.size,6,none⟩=some (.int .i64 (s 6)):=T2.b1.cell 6;have y2_6:w2.cell? ⟨w.heap.size+1,6,none⟩=some (.slice ao6 rows.1 cap6):=T2.b2.cell 6;have x2_7:w2.cell? ⟨w.heap.size,7,none⟩=some (.int .i64 (s 7)):=T2.b1.cell 7;have y2_7:w2.cell? ⟨w.heap.size+1,7,none⟩=some (.slice ao7 data.1 cap7):=T2.b2.cell 7;have x2_8:w2.cell? ⟨w.heap.size,8,none⟩=some (.int .i64 (s 8)):=T2.b1.cell 8;have y2_8:w2.cell? ⟨w.heap.size+1,8,none⟩=some (.slice ao8 delta.1 cap8):=T2.b2.cell 8
   cases t2 with
   | false=>
    clear T2;go_wp2;go_ret;exact zal rfl (fun h=>by have:=HE.out.1 h;simp at this) HB2.out
   | true=>
    go_wp2_with fail
    refine (C3 _).mono ?_;rintro e w3 ⟨rfl,b3⟩;have T3:Two w w3 (rwS s).toArray #[.int .i64 2,.int .i64 seq,.string name,.int .i64 length,.int .i64 group,.int .i64 row,.slice ao6 rows.1 cap6,.slice ao7 data.1 cap7,.slice ao8 delta.1 cap8] 33 95:=T2.call b3;have HB3:=hid T3.bel;clear b3;have x3_0:w3.cell? ⟨w.heap.size,0,none⟩=some (.int .i64 (s 0)):=T3.b1.cell 0;have y3_0:w3.cell? ⟨w.heap.size+1,0,none⟩=some (.int .i64 2):=T3.b2.cell 0;have x3_1:w3.cell? ⟨w.heap.size,1,none⟩=some (.int .i64 (s 1)):=T3.b1.cell 1;have y3_1:w3.cell? ⟨w.heap.size+1,1,none⟩=some (.int .i64 seq):=T3.b2.cell 1;have x3_2:w3.cell? ⟨w.heap.size,2,none⟩=some (.int .i64 (s 2)):=T3.b1.cell 2;have y3_2:w3.cell? ⟨w.heap.size+1,2,none⟩=some (.string name):=T3.b2.cell 2;have x3_3:w3.cell? ⟨w.heap.size,3,none⟩=some (.int .i64 (s 3)):=T3.b1.cell 3;have y3_3:w3.cell? ⟨w.heap.size+1,3,none⟩=some (.int .i64 length):=T3.b2.cell 3;have x3_4:w3.cell? ⟨w.heap.size,4,none⟩=some (.int .i64 (s 4)):=T3.b1.cell 4;have y3_4:w3.cell? ⟨w.heap.size+1,4,none⟩=some (.int .i64 group):=T3.b2.cell 4;have x3_5:w3.cell? ⟨w.heap.size,5,none⟩=some (.int .i64 (s 5)):=T3.b1.cell 5;have y3_5:w3.cell? ⟨w.heap.size+1,5,none⟩=some (.int .i64 row):=T3.b2.cell 5;have x3_6:w3.cell? ⟨w.heap.size,6,none⟩=some (.int .i64 (s 6)):=T3.b1.cell 6;have y3_6:w3.cell? ⟨w.heap.size+1,6,none⟩=some (.slice ao6 rows.1 cap6):=T3.b2.cell 6;have x3_7:w3.cell? ⟨w.heap.size,7,none⟩=some (.int .i64 (s 7)):=T3.b1.cell 7;have y3_7:w3.cell? ⟨w.heap.size+1,7,none⟩=some (.slice ao7 data.1 cap7):=T3.b2.cell 7;have x3_8:w3.cell? ⟨w.heap.size,8,none⟩=some (.int .i64 (s 8)):=T3.b1.cell 8;have y3_8:w3.cell? ⟨w.heap.size+1,8,none⟩=some (.slice ao8 delta.1 cap8):=T3.b2.cell 8
    cases t3 with
    | false=>
     clear T3;go_wp2;go_ret;exact zal rfl (fun h=>by have:=HE.out.1 h;simp at this) HB3.out
    | true=>
     go_wp2_with fail
     refine (C4 _).mono ?_;rintro e w4 ⟨rfl,b4⟩;have T4:Two w w4 (rwS s).toArray #[.int .i64 2,.int .i64 seq,.string name,.int .i64 length,.int .i64 group,.int .i64 row,.slice ao6 rows.1 cap6,.slice ao7 data.1 cap7,.slice ao8 delta.1 cap8] 33 95:=T3.call b4;have HB4:=hid T4.bel;clear b4
     cases t4 with
     | false=>
      clear T4;go_wp2;go_ret;exact zal rfl (fun h=>by have:=HE.out.1 h;simp at this) HB4.out
     | true=>
      clear T4;go_wp2;go_ret;exact zas rfl (HE.out.2 (by simp)) HB4.out
 ·have T0:=zaC w (rwS s).toArray #[.int .i64 3,.int .i64 seq,.string name,.int .i64 length,.int .i64 group,.int .i64 row,.slice ao6 rows.1 cap6,.slice ao7 data.1 cap7,.slice ao8 delta.1 cap8] 33 95
  obtain ⟨t1,h1⟩:=exB (InP group 0 (s 0+s 1-1));have C:=fun w'=>zc9 HS.out h1 w'
  have HE:Hid (zaK s ⟨3,seq,name,length,group,row,rows,data,delta⟩↔t1=true):=by
   show zaK s ⟨3,seq,name,length,group,row,rows,data,delta⟩↔_
   rw [h1];unfold zaK zg4
   simp
  clear h1;unfold zac at C ⊢
  go_enter Tryz.func100,Tryz.ntmps100
  go_wp2_with fail
  refine (C _).mono ?_;rintro e w1 ⟨rfl,b1⟩;have HB:Hid (Below w.heap.size w w1):=(T0.call b1).bel;clear b1 C T0;go_wp2;go_ret
  cases t1 with
  | true=>exact zas rfl (HE.out.2 (by simp)) HB.out
  | false=>exact zal rfl (fun h=>by have:=HE.out.1 h;simp at this) HB.out
 ·have T0:=zaC w (rwS s).toArray #[.int .i64 4,.int .i64 seq,.string name,.int .i64 length,.int .i64 group,.int .i64 row,.slice ao6 rows.1 cap6,.slice ao7 data.1 cap7,.slice ao8 delta.1 cap8] 33 95
  obtain ⟨t1,h1⟩:=exB (zfo s ⟨4,seq,name,length,group,row,rows,data,delta⟩);have C:=za9 (ze0 s HS.out ⟨4,seq,name,length,group,row,rows,data,delta⟩ _ hi _ (zab.rd_below HRD.out T0.bel hhi) (Nat.le_trans hhi T0.bel.size)) h1
  have HE:Hid (zaK s ⟨4,seq,name,length,group,row,rows,data,delta⟩↔t1=true):=by
   show zaK s ⟨4,seq,name,length,group,row,rows,data,delta⟩↔_
   rw [h1];unfold zaK
   simp
  clear h1;unfold zac at C ⊢
  go_enter Tryz.func100,Tryz.ntmps100
  go_wp2_with fail
  refine C.mono ?_;rintro e w1 ⟨rfl,b1⟩;have HB:Hid (Below w.heap.size w w1):=(T0.call b1).bel;clear b1 C T0;go_wp2;go_ret
  cases t1 with
  | true=>exact zas rfl (HE.out.2 (by simp)) HB.out
  | false=>exact zal rfl (fun h=>by have:=HE.out.1 h;simp at this) HB.out
set_option maxRecDepth 20000 in
theorem ze2 (s:Nat→Int) (r:RecD) (cs:List Value) (hi:Nat) (w:World) (h:zab.rd w hi r cs) (hhi:hi≤w.heap.size) (hnm:r.name.size≤1048576) :
 Calls Tryz.prog 87 #[zac s,.agg cs.toArray] w (zdD s r w):=by
 obtain ⟨kind,seq,name,length,group,row,rows,data,delta⟩:=r;obtain ⟨ao6,cap6,ao7,cap7,ao8,cap8,rfl,-⟩:=zbi h;have HRD:=hid h
 simp only at hnm
 clear h;have T0:=zaC w (rwS s).toArray #[.int .i64 kind,.int .i64 seq,.string name,.int .i64 length,.int .i64 group,.int .i64 row,.slice ao6 rows.1 cap6,.slice ao7 data.1 cap7,.slice ao8 delta.1 cap8] 33 95;have CSh:=fun w'=>zbN s w';unfold zac at CSh ⊢
 go_enter Tryz.func87,Tryz.ntmps87
 go_wp2_with fail
 refine (CSh _).mono ?_;rintro e w1 ⟨x,rfl,hx,b1⟩;have T1:Two w w1 (rwS s).toArray #[.int .i64 kind,.int .i64 seq,.string name,.int .i64 length,.int .i64 group,.int .i64 row,.slice ao6 rows.1 cap6,.slice ao7 data.1 cap7,.slice ao8 delta.1 cap8] 33 95:=T0.call b1;have HT1:=hid T1;clear b1 T0 CSh;have x1_0:w1.cell? ⟨w.heap.size,0,none⟩=some (.int .i64 (s 0)):=T1.b1.cell 0;have y1_0:w1.cell? ⟨w.heap.size+1,0,none⟩=some (.int .i64 kind):=T1.b2.cell 0;have x1_1:w1.cell? ⟨w.heap.size,1,none⟩=some (.int .i64 (s 1)):=T1.b1.cell 1;have y1_1:w1.cell? ⟨w.heap.size+1,1,none⟩=some (.int .i64 seq):=T1.b2.cell 1;have x1_2:w1.cell? ⟨w.heap.size,2,none⟩=some (.int .i64 (s 2)):=T1.b1.cell 2;have y1_2:w1.cell? ⟨w.heap.size+1,2,none⟩=some (.string name):=T1.b2.cell 2;have x1_3:w1.cell? ⟨w.heap.size,3,none⟩=some (.int .i64 (s 3)):=T1.b1.cell 3;have y1_3:w1.cell? ⟨w.heap.size+1,3,none⟩=some (.int .i64 length):=T1.b2.cell 3;have x1_4:w1.cell? ⟨w.heap.size,4,none⟩=some (.int .i64 (s 4)):=T1.b1.cell 4;have y1_4:w1.cell? ⟨w.heap.size+1,4,none⟩=some (.int .i64 group):=T1.b2.cell 4;have x1_5:w1.cell? ⟨w.heap.size,5,none⟩=some (.int .i64 (s 5)):=T1.b1.cell 5;have y1_5:w1.cell? ⟨w.heap.size+1,5,none⟩=some (.int .i64 row):=T1.b2.cell 5;have x1_6:w1.cell? ⟨w.heap.size,6,none⟩=some (.int .i64 (s 6)):=T1.b1.cell 6;have y1_6:w1.cell? ⟨w.heap.size+1,6,none⟩=some (.slice ao6 rows.1 cap6):=T1.b2.cell 6;have x1_7:w1.cell? ⟨w.heap.size,7,none⟩=some (.int .i64 (s 7)):=T1.b1.cell 7;have y1_7:w1.cell? ⟨w.heap.size+1,7,none⟩=some (.slice ao7 data.1 cap7):=T1.b2.cell 7;have x1_8:w1.cell? ⟨w.heap.size,8,none⟩=some (.int .i64 (s 8)):=T1.b1.cell 8;have y1_8:w1.cell? ⟨w.heap.size+1,8,none⟩=some (.slice ao8 delta.1 cap8):=T1.b2.cell 8;clear T1
 rcases hx with ⟨rfl,hno⟩ | ⟨rfl,hok⟩
 ·go_wp2
  go_ret;exact recP rfl (Stair.fall hno) HT1.out.bel
 have HOK:=hid hok;clear hok
 by_cases hk:InP kind 1 4
 ·go_wp2_with fail
  refine (zaE (t:=true) (by omega) (exBT hk) _).mono ?_;rintro e w' ⟨rfl,hw'⟩;obtain rfl:=hw'.symm
  by_cases hq:InP seq 1 1000000000
  ·go_wp2_with fail
   refine (zaE (t:=true) (by omega) (exBT hq) _).mono ?_;rintro e w' ⟨rfl,hw'⟩;obtain rfl:=hw'.symm;have HK:=hid hk;have HQ:=hid hq
   have hk4:kind=1∨kind=2∨kind=3∨kind=4:=by unfold InP at hk;omega
   clear hk hq
   rcases hk4 with rfl | rfl | rfl | rfl
   ·go_wp2_with fail
    refine (zer name hnm _).mono ?_;rintro e w' ⟨x,rfl,hx,hw'⟩;obtain rfl:=hw'.symm
    rcases hx with ⟨rfl,hno⟩ | ⟨rfl,hyes⟩
    ·go_wp2
     go_ret;exact recP rfl (Stair.pass HOK.out (Stair.pass HK.out (Stair.pass HQ.out (Stair.fall (fun h=>hno (h rfl)))))) HT1.out.bel
    have HN:Hid (zcB ⟨1,seq,name,length,group,row,rows,data,delta⟩):=fun _=>hyes;clear hyes;obtain ⟨t5,h5⟩:=exB (zaK s ⟨1,seq,name,length,group,row,rows,data,delta⟩);have C5:=za9 (zcE s HOK.out ⟨1,seq,name,length,group,row,rows,data,delta⟩ _ hi w1 (zab.rd_below HRD.out HT1.out.bel hhi) (Nat.le_trans hhi HT1.out.bel.size) HK.out) h5;have H5:=hid h5;unfold zac at C5;clear h5
    go_wp2_with fail
    refine C5.mono ?_;rintro e w5 ⟨rfl,b5⟩;have T5:Two w w5 (rwS s).toArray #[.int .i64 1,.int .i64 seq,.string name,.int .i64 length,.int .i64 group,.int .i64 row,.slice ao6 rows.1 cap6,.slice ao7 data.1 cap7,.slice ao8 delta.1 cap8] 33 95:=HT1.out.call b5;have HB5:=hid T5.bel;clear b5 C5;have x5_0:w5.cell? ⟨w.heap.size,0,none⟩=some (.int .i64 (s 0)):=T5.b1.cell 0;have y5_0:w5.cell? ⟨w.heap.size+1,0,none⟩=some (.int .i64 1):=T5.b2.cell 0;have x5_1:w5.cell? ⟨w.heap.size,1,none⟩=some (.int .i64 (s 1)):=T5.b1.cell 1;have y5_1:w5.cell? ⟨w.heap.size+1,1,none⟩=some (.int .i64 seq):=T5.b2.cell 1;have x5_2:w5.cell? ⟨w.heap.size,2,none⟩=some (.int .i64 (s 2)):=T5.b1.cell 2;have y5_2:w5.cell? ⟨w.heap.size+1,2,none⟩=some (.string name):=T5.b2.cell 2;have x5_3:w5.cell? ⟨w.heap.size,3,none⟩=some (.int .i64 (s 3)):=T5.b1.cell 3;have y5_3:w5.cell? ⟨w.heap.size+1,3,none⟩=some (.int .i64 length):=T5.b2.cell 3;have x5_4:w5.cell? ⟨w.heap.size,4,none⟩=some (.int .i64 (s 4)):=T5.b1.cell 4;have y5_4:w5.cell? ⟨w.heap.size+1,4,none⟩=some (.int .i64 group):=T5.b2.cell 4;have x5_5:w5.cell? ⟨w.heap.size,5,none⟩=some (.int .i64 (s 5)):=T5.b1.cell 5;have y5_5:w5.cell? ⟨w.heap.size+1,5,none⟩=some (.int .i64 row):=T5.b2.cell 5;have x5_6:w5.cell? ⟨w.heap.size,6,none⟩=some (.int .i64 (s 6)):=T5.b1.cell 6;have y5_6:w5.cell? ⟨w.heap.size+1,6,none⟩=some (.slice ao6 rows.1 cap6):=T5.b2.cell 6;have x5_7:w5.cell? ⟨w.heap.size,7,none⟩=some (.int .i64 (s 7)):=T5.b1.cell 7;have y5_7:w5.cell? ⟨w.heap.size+1,7,none⟩=some (.slice ao7 data.1 cap7):=T5.b2.cell 7;have x5_8:w5.cell? ⟨w.heap.size,8,none⟩=some (.int .i64 (s 8)):=T5.b1.cell 8;have y5_8:w5.cell? ⟨w.heap.size+1,8,none⟩=some (.slice ao8 delta.1 cap8):=T5.b2.cell 8;clear T5
    cases t5 with
    | false=>
     go_wp2;go_ret;exact recP rfl (Stair.pass HOK.out (Stair.pass HK.out (Stair.pass HQ.out (Stair.pass HN.out (Stair.fall (fun h=>by have:=H5.out.2 h;simp at this)))))) HB5.out
    | true=>
     have HKP:Hid (zaK s ⟨1,seq,name,length,group,row,rows,data,delta⟩):=H5.out.1 (by simp)
     go_wp2_with fail
     refine (zgQ seq name length group row rows data delta ao6 ao7 ao8 cap6 cap7 cap8 _).mono ?_;rintro e w6 ⟨rfl,b6⟩;have HB6:=hid (HB5.out.trans (b6.mono HB5.out.size));clear b6
     go_wp2_with fail
     refine (zbO _ _ _ _ _ _ _ _ _ _ _ _ _ _ _ _).mono ?_;rintro e w7 ⟨t9,rfl,ht9,b7⟩;have HB7:=hid (HB6.out.trans (b7.mono HB6.out.size));clear b7
     have HT9:Hid (t9=true↔zaI ⟨1,seq,name,length,group,row,rows,data,delta⟩):=by
      show t9=true↔zaI ⟨1,seq,name,length,group,row,rows,data,delta⟩
      rw [ht9];unfold zcS zbD zaI zb4
      simp [and_assoc]
      try (intros;rfl)
     clear ht9
     cases t9 with
     | false=>
      go_wp2;go_ret;exact recP rfl (Stair.pass HOK.out (Stair.pass HK.out (Stair.pass HQ.out (Stair.pass HN.out (Stair.pass HKP.out (Stair.fall (fun h=>by have:=HT9.out.2 h;simp at this))))))) HB7.out
     | true=>
      go_wp2;go_ret;exact recP rfl (Stair.pass HOK.out (Stair.pass HK.out (Stair.pass HQ.out (Stair.pass HN.out (Stair.pass HKP.out (Stair.pass (HT9.out.1 (by simp)) (Stair.last rfl))))))) HB7.out
   ·have HN:Hid (zcB ⟨2,seq,name,length,group,row,rows,data,delta⟩):=fun h=>by simp at h
    obtain ⟨t5,h5⟩:=exB (zaK s ⟨2,seq,name,length,group,row,rows,data,delta⟩);have C5:=za9 (zcE s HOK.out ⟨2,seq,name,length,group,row,rows,data,delta⟩ _ hi w1 (zab.rd_below HRD.out HT1.out.bel hhi) (Nat.le_trans hhi HT1.out.bel.size) HK.out) h5;have H5:=hid h5;unfold zac at C5;clear h5
    go_wp2_with fail
    refine C5.mono ?_;rintro e w5 ⟨rfl,b5⟩;have T5:Two w w5 (rwS s).toArray #[.int .i64 2,.int .i64 seq,.string name,.int .i64 length,.int .i64 group,.int .i64 row,.slice ao6 rows.1 cap6,.slice ao7 data.1 cap7,.slice ao8 delta.1 cap8] 33 95:=HT1.out.call b5;have HB5:=hid T5.bel;clear b5 C5;have x5_0:w5.cell? ⟨w.heap.size,0,none⟩=some (.int .i64 (s 0)):=T5.b1.cell 0;have y5_0:w5.cell? ⟨w.heap.size+1,0,none⟩=some (.int .i64 2):=T5.b2.cell 0;have x5_1:w5.cell? ⟨w.heap.size,1,none⟩=some (.int .i64 (s 1)):=T5.b1.cell 1;have y5_1:w5.cell? ⟨w.heap.size+1,1,none⟩=some (.int .i64 seq):=T5.b2.cell 1;have x5_2:w5.cell? ⟨w.heap.size,2,none⟩=some (.int .i64 (s 2)):=T5.b1.cell 2;have y5_2:w5.cell? ⟨w.heap.size+1,2,none⟩=some (.string name):=T5.b2.cell 2;have x5_3:w5.cell? ⟨w.heap.size,3,none⟩=some (.int .i64 (s 3)):=T5.b1.cell 3;have y5_3:w5.cell? ⟨w.heap.size+1,3,none⟩=some (.int .i64 length):=T5.b2.cell 3;have x5_4:w5.cell? ⟨w.heap.size,4,none⟩=some (.int .i64 (s 4)):=T5.b1.cell 4;have y5_4:w5.cell? ⟨w.heap.size+1,4,none⟩=some (.int .i64 group):=T5.b2.cell 4;have x5_5:w5.cell? ⟨w.heap.size,5,none⟩=some (.int .i64 (s 5)):=T5.b1.cell 5;have y5_5:w5.cell? ⟨w.heap.size+1,5,none⟩=some (.int .i64 row):=T5.b2.cell 5;have x5_6:w5.cell? ⟨w.heap.size,6,none⟩=some (.int .i64 (s 6)):=T5.b1.cell 6;have y5_6:w5.cell? ⟨w.heap.size+1,6,none⟩=some (.slice ao6 rows.1 cap6):=T5.b2.cell 6;have x5_7:w5.cell? ⟨w.heap.size,7,none⟩=some (.int .i64 (s 7)):=T5.b1.cell 7;have y5_7:w5.cell? ⟨w.heap.size+1,7,none⟩=some (.slice ao7 data.1 cap7):=T5.b2.cell 7;have x5_8:w5.cell? ⟨w.heap.size,8,none⟩=some (.int .i64 (s 8)):=T5.b1.cell 8;have y5_8:w5.cell? ⟨w.heap.size+1,8,none⟩=some (.slice ao8 delta.1 cap8):=T5.b2.cell 8;clear T5
    cases t5 with
    | false=>
     go_wp2;go_ret;exact recP rfl (Stair.pass HOK.out (Stair.pass HK.out (Stair.pass HQ.out (Stair.pass HN.out (Stair.fall (fun h=>by have:=H5.out.2 h;simp at this)))))) HB5.out
    | true=>
     have HKP:Hid (zaK s ⟨2,seq,name,length,group,row,rows,data,delta⟩):=H5.out.1 (by simp)
     go_wp2_with fail
     refine (zgR seq name length group row rows data delta ao6 ao7 ao8 cap6 cap7 cap8 _).mono ?_;rintro e w6 ⟨rfl,b6⟩;have HB6:=hid (HB5.out.trans (b6.mono HB5.out.size));clear b6
     go_wp2_with fail
     refine (zbO _ _ _ _ _ _ _ _ _ _ _ _ _ _ _ _).mono ?_;rintro e w7 ⟨t9,rfl,ht9,b7⟩;have HB7:=hid (HB6.out.trans (b7.mono HB6.out.size));clear b7
     have HT9:Hid (t9=true↔zaI ⟨2,seq,name,length,group,row,rows,data,delta⟩):=by
      show t9=true↔zaI ⟨2,seq,name,length,group,row,rows,data,delta⟩
      rw [ht9];unfold zcS zbD zaI zb4
      simp [and_assoc]
      try (intros;rfl)
     clear ht9
     cases t9 with
     | false=>
      go_wp2;go_ret;exact recP rfl (Stair.pass HOK.out (Stair.pass HK.out (Stair.pass HQ.out (Stair.pass HN.out (Stair.pass HKP.out (Stair.fall (fun h=>by have:=HT9.out.2 h;simp at this))))))) HB7.out
     | true=>
      go_wp2;go_ret;exact recP rfl (Stair.pass HOK.out (Stair.pass HK.out (Stair.pass HQ.out (Stair.pass HN.out (Stair.pass HKP.out (Stair.pass (HT9.out.1 (by simp)) (Stair.last rfl))))))) HB7.out
   ·have HN:Hid (zcB ⟨3,seq,name,length,group,row,rows,data,delta⟩):=fun h=>by simp at h
    obtain ⟨t5,h5⟩:=exB (zaK s ⟨3,seq,name,length,group,row,rows,data,delta⟩);have C5:=za9 (zcE s HOK.out ⟨3,seq,name,length,group,row,rows,data,delta⟩ _ hi w1 (zab.rd_below HRD.out HT1.out.bel hhi) (Nat.le_trans hhi HT1.out.bel.size) HK.out) h5;have H5:=hid h5;unfold zac at C5;clear h5
    go_wp2_with fail
    refine C5.mono ?_;rintro e w5 ⟨rfl,b5⟩;have T5:Two w w5 (rwS s).toArray #[.int .i64 3,.int .i64 seq,.string name,.int .i64 length,.int .i64 group,.int .i64 row,.slice ao6 rows.1 cap6,.slice ao7 data.1 cap7,.slice ao8 delta.1 cap8] 33 95:=HT1.out.call b5;have HB5:=hid T5.bel;clear b5 C5;have x5_0:w5.cell? ⟨w.heap.size,0,none⟩=some (.int .i64 (s 0)):=T5.b1.cell 0;have y5_0:w5.cell? ⟨w.heap.size+1,0,none⟩=some (.int .i64 3):=T5.b2.cell 0;have x5_1:w5.cell? ⟨w.heap.size,1,none⟩=some (.int .i64 (s 1)):=T5.b1.cell 1;have y5_1:w5.cell? ⟨w.heap.size+1,1,none⟩=some (.int .i64 seq):=T5.b2.cell 1;have x5_2:w5.cell? ⟨w.heap.size,2,none⟩=some (.int .i64 (s 2)):=T5.b1.cell 2;have y5_2:w5.cell? ⟨w.heap.size+1,2,none⟩=some (.string name):=T5.b2.cell 2;have x5_3:w5.cell? ⟨w.heap.size,3,none⟩=some (.int .i64 (s 3)):=T5.b1.cell 3;have y5_3:w5.cell? ⟨w.heap.size+1,3,none⟩=some (.int .i64 length):=T5.b2.cell 3;have x5_4:w5.cell? ⟨w.heap.size,4,none⟩=some (.int .i64 (s 4)):=T5.b1.cell 4;have y5_4:w5.cell? ⟨w.heap.size+1,4,none⟩=some (.int .i64 group):=T5.b2.cell 4;have x5_5:w5.cell? ⟨w.heap.size,5,none⟩=some (.int .i64 (s 5)):=T5.b1.cell 5;have y5_5:w5.cell? ⟨w.heap.size+1,5,none⟩=some (.int .i64 row):=T5.b2.cell 5;have x5_6:w5.cell? ⟨w.heap.size,6,none⟩=some (.int .i64 (s 6)):=T5.b1.cell 6;have y5_6:w5.cell? ⟨w.heap.size+1,6,none⟩=some (.slice ao6 rows.1 cap6):=T5.b2.cell 6;have x5_7:w5.cell? ⟨w.heap.size,7,none⟩=some (.int .i64 (s 7)):=T5.b1.cell 7;have y5_7:w5.cell? ⟨w.heap.size+1,7,none⟩=some (.slice ao7 data.1 cap7):=T5.b2.cell 7;have x5_8:w5.cell? ⟨w.heap.size,8,none⟩=some (.int .i64 (s 8)):=T5.b1.cell 8;have y5_8:w5.cell? ⟨w.heap.size+1,8,none⟩=some (.slice ao8 delta.1 cap8):=T5.b2.cell 8;clear T5
    cases t5 with
    | false=>
     go_wp2;go_ret;exact recP rfl (Stair.pass HOK.out (Stair.pass HK.out (Stair.pass HQ.out (Stair.pass HN.out (Stair.fall (fun h=>by have:=H5.out.2 h;simp at this)))))) HB5.out
    | true=>
     have HKP:Hid (zaK s ⟨3,seq,name,length,group,row,rows,data,delta⟩):=H5.out.1 (by simp)
     go_wp2_with fail
     refine (zgS seq name length group row rows data delta ao6 ao7 ao8 cap6 cap7 cap8 _).mono ?_;rintro e w6 ⟨rfl,b6⟩;have HB6:=hid (HB5.out.trans (b6.mono HB5.out.size));clear b6
     go_wp2_with fail
     refine (zbO _ _ _ _ _ _ _ _ _ _ _ _ _ _ _ _).mono ?_;rintro e w7 ⟨t9,rfl,ht9,b7⟩;have HB7:=hid (HB6.out.trans (b7.mono HB6.out.size));clear b7
     have HT9:Hid (t9=true↔zaI ⟨3,seq,name,length,group,row,rows,data,delta⟩):=by
      show t9=true↔zaI ⟨3,seq,name,length,group,row,rows,data,delta⟩
      rw [ht9];unfold zcS zbD zaI zb4
      simp [and_assoc]
      try (intros;rfl)
     clear ht9
     cases t9 with
     | false=>
      go_wp2;go_ret;exact recP rfl (Stair.pass HOK.out (Stair.pass HK.out (Stair.pass HQ.out (Stair.pass HN.out (Stair.pass HKP.out (Stair.fall (fun h=>by have:=HT9.out.2 h;simp at this))))))) HB7.out
     | true=>
      go_wp2;go_ret;exact recP rfl (Stair.pass HOK.out (Stair.pass HK.out (Stair.pass HQ.out (Stair.pass HN.out (Stair.pass HKP.out (Stair.pass (HT9.out.1 (by simp)) (Stair.last rfl))))))) HB7.out
   ·have HN:Hid (zcB ⟨4,seq,name,length,group,row,rows,data,delta⟩):=fun h=>by simp at h
    obtain ⟨t5,h5⟩:=exB (zaK s ⟨4,seq,name,length,group,row,rows,data,delta⟩);have C5:=za9 (zcE s HOK.out ⟨4,seq,name,length,group,row,rows,data,delta⟩ _ hi w1 (zab.rd_below HRD.out HT1.out.bel hhi) (Nat.le_trans hhi HT1.out.bel.size) HK.out) h5;have H5:=hid h5;unfold zac at C5;clear h5
    go_wp2_with fail
    refine C5.mono ?_;rintro e w5 ⟨rfl,b5⟩;have T5:Two w w5 (rwS s).toArray #[.int .i64 4,.int .i64 seq,.string name,.int .i64 length,.int .i64 group,.int .i64 row,.slice ao6 rows.1 cap6,.slice ao7 data.1 cap7,.slice ao8 delta.1 cap8] 33 95:=HT1.out.call b5;have HB5:=hid T5.bel;clear b5 C5;have x5_0:w5.cell? ⟨w.heap.size,0,none⟩=some (.int .i64 (s 0)):=T5.b1.cell 0;have y5_0:w5.cell? ⟨w.heap.size+1,0,none⟩=some (.int .i64 4):=T5.b2.cell 0;have x5_1:w5.cell? ⟨w.heap.size,1,none⟩=some (.int .i64 (s 1)):=T5.b1.cell 1;have y5_1:w5.cell? ⟨w.heap.size+1,1,none⟩=some (.int .i64 seq):=T5.b2.cell 1;have x5_2:w5.cell? ⟨w.heap.size,2,none⟩=some (.int .i64 (s 2)):=T5.b1.cell 2;have y5_2:w5.cell? ⟨w.heap.size+1,2,none⟩=some (.string name):=T5.b2.cell 2;have x5_3:w5.cell? ⟨w.heap.size,3,none⟩=some (.int .i64 (s 3)):=T5.b1.cell 3;have y5_3:w5.cell? ⟨w.heap.size+1,3,none⟩=some (.int .i64 length):=T5.b2.cell 3;have x5_4:w5.cell? ⟨w.heap.size,4,none⟩=some (.int .i64 (s 4)):=T5.b1.cell 4;have y5_4:w5.cell? ⟨w.heap.size+1,4,none⟩=some (.int .i64 group):=T5.b2.cell 4;have x5_5:w5.cell? ⟨w.heap.size,5,none⟩=some (.int .i64 (s 5)):=T5.b1.cell 5;have y5_5:w5.cell? ⟨w.heap.size+1,5,none⟩=some (.int .i64 row):=T5.b2.cell 5;have x5_6:w5.cell? ⟨w.heap.size,6,none⟩=some (.int .i64 (s 6)):=T5.b1.cell 6;have y5_6:w5.cell? ⟨w.heap.size+1,6,none⟩=some (.slice ao6 rows.1 cap6):=T5.b2.cell 6;have x5_7:w5.cell? ⟨w.heap.size,7,none⟩=some (.int .i64 (s 7)):=T5.b1.cell 7;have y5_7:w5.cell? ⟨w.heap.size+1,7,none⟩=some (.slice ao7 data.1 cap7):=T5.b2.cell 7;have x5_8:w5.cell? ⟨w.heap.size,8,none⟩=some (.int .i64 (s 8)):=T5.b1.cell 8;have y5_8:w5.cell? ⟨w.heap.size+1,8,none⟩=some (.slice ao8 delta.1 cap8):=T5.b2.cell 8;clear T5
    cases t5 with
    | false=>
     go_wp2;go_ret;exact recP rfl (Stair.pass HOK.out (Stair.pass HK.out (Stair.pass HQ.out (Stair.pass HN.out (Stair.fall (fun h=>by have:=H5.out.2 h;simp at this)))))) HB5.out
    | true=>
     have HKP:Hid (zaK s ⟨4,seq,name,length,group,row,rows,data,delta⟩):=H5.out.1 (by simp)
     go_wp2_with fail
     refine (zgT seq name length group row rows data delta ao6 ao7 ao8 cap6 cap7 cap8 _).mono ?_;rintro e w6 ⟨rfl,b6⟩;have HB6:=hid (HB5.out.trans (b6.mono HB5.out.size));clear b6
     go_wp2_with fail
     refine (zbO _ _ _ _ _ _ _ _ _ _ _ _ _ _ _ _).mono ?_;rintro e w7 ⟨t9,rfl,ht9,b7⟩;have HB7:=hid (HB6.out.trans (b7.mono HB6.out.size));clear b7
     have HT9:Hid (t9=true↔zaI ⟨4,seq,name,length,group,row,rows,data,delta⟩):=by
      show t9=true↔zaI ⟨4,seq,name,length,group,row,rows,data,delta⟩
      rw [ht9];unfold zcS zbD zaI zb4
      simp [and_assoc]
      try (intros;rfl)
     clear ht9
     cases t9 with
     | false=>
      go_wp2;go_ret;exact recP rfl (Stair.pass HOK.out (Stair.pass HK.out (Stair.pass HQ.out (Stair.pass HN.out (Stair.pass HKP.out (Stair.fall (fun h=>by have:=HT9.out.2 h;simp at this))))))) HB7.out
     | true=>
      go_wp2;go_ret;exact recP rfl (Stair.pass HOK.out (Stair.pass HK.out (Stair.pass HQ.out (Stair.pass HN.out (Stair.pass HKP.out (Stair.pass (HT9.out.1 (by simp)) (Stair.last rfl))))))) HB7.out
  ·go_wp2_with fail
   refine (zaE (t:=false) (by omega) (exBF hq) _).mono ?_;rintro e w' ⟨rfl,hw'⟩;obtain rfl:=hw'.symm;go_wp2;go_ret;exact recP rfl (Stair.pass HOK.out (Stair.pass hk (Stair.fall hq))) HT1.out.bel
 ·go_wp2_with fail
  refine (zaE (t:=false) (by omega) (exBF hk) _).mono ?_;rintro e w' ⟨rfl,hw'⟩;obtain rfl:=hw'.symm;go_wp2;go_ret;exact recP rfl (Stair.pass HOK.out (Stair.fall hk)) HT1.out.bel
theorem zfY (d:WorldD) (hs:zaj d.shape) (cs:List Value) (hi:Nat) (w:World) (h:zae.rd w hi d cs) (hhi:hi≤w.heap.size) :
 Calls Tryz.prog 57 #[.agg cs.toArray] w (za8 (OnP d) w):=by
 obtain ⟨ao1,cap1,ao2,cap2,ao3,cap3,rfl,g1,g2,g3,-⟩:=zaB h;obtain ⟨v2,e2,⟨h2,hcp2⟩,_⟩:=g2
 cases e2
 have H2:=hid h2;have HCP:=hid hcp2;have hm2:=h2.mx;unfold maxLen at hm2;have hb:=okB hs;have HS:=hid hs;clear h h2 hcp2 g1 g3 hs;have T0:=zav w #[.int .i64 (d.shape 0),.int .i64 (d.shape 1),.int .i64 (d.shape 2),.int .i64 (d.shape 3),.int .i64 (d.shape 4),.int .i64 (d.shape 5),.int .i64 (d.shape 6),.int .i64 (d.shape 7),.int .i64 (d.shape 8),.slice ao1 d.groups.1 cap1,.slice ao2 d.on.1 cap2,.slice ao3 d.tapes.1 cap3,.int .i64 d.writes,.int .i64 d.stop,.bool d.down] 37
 go_enter Tryz.func57,Tryz.ntmps57
 cases hd:d.down with
 | true=>
  obtain ⟨b0,h0⟩:∃ b,((d.on.1:Int)==0)=b:=⟨_,rfl⟩
  have HE:Hid (OnP d↔b0=true):=by
   show OnP d↔_
   rw [← h0];unfold OnP
   simp [hd]
   constructor
   ·exact fun h=>h.2.2
   ·intro h
    refine ⟨fun i hi=>by omega,by omega,h⟩
  have HB:Hid (Below w.heap.size w (w.alloc (.cells #[.int .i64 (d.shape 0),.int .i64 (d.shape 1),.int .i64 (d.shape 2),.int .i64 (d.shape 3),.int .i64 (d.shape 4),.int .i64 (d.shape 5),.int .i64 (d.shape 6),.int .i64 (d.shape 7),.int .i64 (d.shape 8),.slice ao1 d.groups.1 cap1,.slice ao2 d.on.1 cap2,.slice ao3 d.tapes.1 cap3,.int .i64 d.writes,.int .i64 d.stop,.bool true] 37))):=by
   have:=T0.bel;rw [hd] at this;exact this
  clear T0
  cases b0 with
  | true=>
   go_wp2;go_ret;exact zas (by simp [h0]) (HE.out.2 (by simp)) HB.out
  | false=>
   go_wp2;go_ret;exact zal (by simp [h0]) (fun h=>by have:=HE.out.1 h;simp at this) HB.out
 | false=>
  have T1:=T0;rw [hd] at T1;clear T0
  go_upto_region 3 with fail
  obtain ⟨W,hW⟩:∃ W,W=w.alloc (.cells #[.int .i64 (d.shape 0),.int .i64 (d.shape 1),.int .i64 (d.shape 2),.int .i64 (d.shape 3),.int .i64 (d.shape 4),.int .i64 (d.shape 5),.int .i64 (d.shape 6),.int .i64 (d.shape 7),.int .i64 (d.shape 8),.slice ao1 d.groups.1 cap1,.slice ao2 d.on.1 cap2,.slice ao3 d.tapes.1 cap3,.int .i64 d.writes,.int .i64 d.stop,.bool false] 37):=⟨_,rfl⟩;rw [← hW] at T1 ⊢;have HT:=hid T1;have x1_0:W.cell? ⟨w.heap.size,0,none⟩=some (.int .i64 (d.shape 0)):=T1.b1.cell 0;have kx1_0:=cell_regrown x1_0;have x1_1:W.cell? ⟨w.heap.size,1,none⟩=some (.int .i64 (d.shape 1)):=T1.b1.cell 1;have kx1_1:=cell_regrown x1_1;have x1_2:W.cell? ⟨w.heap.size,2,none⟩=some (.int .i64 (d.shape 2)):=T1.b1.cell 2;have kx1_2:=cell_regrown x1_2;have x1_3:W.cell? ⟨w.heap.size,3,none⟩=some (.int .i64 (d.shape 3)):=T1.b1.cell 3;have kx1_3:=cell_regrown x1_3;have x1_4:W.cell? ⟨w.heap.size,4,none⟩=some (.int .i64 (d.shape 4)):=T1.b1.cell 4;have kx1_4:=cell_regrown x1_4;have x1_5:W.cell? ⟨w.heap.size,5,none⟩=some (.int .i64 (d.shape 5)):=T1.b1.cell 5;have kx1_5:=cell_regrown x1_5;have x1_6:W.cell? ⟨w.heap.size,6,none⟩=some (.int .i64 (d.shape 6)):=T1.b1.cell 6;have kx1_6:=cell_regrown x1_6;have x1_7:W.cell? ⟨w.heap.size,7,none⟩=some (.int .i64 (d.shape 7)):=T1.b1.cell 7;have kx1_7:=cell_regrown x1_7;have x1_8:W.cell? ⟨w.heap.size,8,none⟩=some (.int .i64 (d.shape 8)):=T1.b1.cell 8;have kx1_8:=cell_regrown x1_8;have x1_10:W.cell? ⟨w.heap.size,10,none⟩=some (.slice ao2 d.on.1 cap2):=T1.b1.cell 10;have kx1_10:=cell_regrown x1_10;obtain ⟨b0,h0⟩:∃ b,decide ((d.on.1:Int)≤d.shape 5)=b:=⟨_,rfl⟩;obtain ⟨t2,h2⟩:=exB (zbj d.on.1 d.on.2 (d.shape 0+d.shape 1-1));have cG:=zap (W:=W) (fun w' _=>zaS d.shape HS.out w');have cD:=zap (W:=W) (fun w' hw'=>za9 (zbV _ d.on.1 d.on.2 hi (d.shape 0+d.shape 1) (by omega) (by omega) w' ((H2.out.below T1.bel hhi).below hw' (Nat.le_trans hhi T1.bel.size)) HCP.out (Nat.le_trans hhi (Nat.le_trans T1.bel.size hw'.size))) h2);unfold zac at cG
  have HE:Hid (OnP d↔(b0=true∧t2=true)):=by
   show OnP d↔_
   rw [← h0,h2];unfold OnP
   simp [hd]
   exact ⟨fun h=>⟨h.2,h.1⟩,fun h=>⟨h.2,h.1⟩⟩
  have hst:b0=false∨(b0=true∧t2=false)∨(b0=true∧t2=true):=by
   clear HE h0 h2 cD
   cases b0<;>simp
  clear h2 hW T1
  rcases hst with rfl | ⟨rfl,rfl⟩ | ⟨rfl,rfl⟩
  all_goals
   refine WQ.region (by kernel_rfl) (by kernel_rfl) ?_
   repeat (first | (apply WQ.skip;(case hw=>rfl);intro K hK;go_simp;apply hK;clear hK K) | (apply WQ.want;(case hw=>rfl);intro K hK;go_simp;first | (apply hK;clear hK K) | (apply Exists.intro;apply And.intro;(case left=>intro p;(first | (go_at_call 63;exact cG _ _) | (go_at_call 85;exact cD _ _)));apply hK;clear hK K)))
   refine WQ.nil ?_;intro w2 hw2;have HB2:Hid (Below w.heap.size w w2):=(HT.out.call (zaw hw2)).bel;clear hw2;go_wp2;go_ret
   first
    | exact zal rfl (fun h=>by have:=HE.out.1 h;simp at this) HB2.out
    | exact zas rfl (HE.out.2 (by simp)) HB2.out
set_option maxRecDepth 20000 in
theorem zdK (d:WorldD) (cs:List Value) (hi:Nat) (w:World) (h:zae.rd w hi d cs) (hhi:hi≤w.heap.size) (hnm:∀ t,t<d.tapes.1→∀ i,i<(d.tapes.2 t).recs.1→((d.tapes.2 t).recs.2 i).name.size≤1048576) :
 Calls Tryz.prog 60 #[.agg cs.toArray] w (zg7 d.shape d.tapes w):=by
 obtain ⟨ao1,cap1,ao2,cap2,ao3,cap3,rfl,g1,g2,g3,-⟩:=zaB h;obtain ⟨_,_,e3,hm3,hc3⟩:=g3
 cases e3
 unfold maxLen at hm3;have HC3:=hid hc3;have HNM:=hid hnm;have HT0:Hid (One w (w.alloc (.cells (rwW d ao1 cap1 ao2 cap2 ao3 cap3).toArray 37)) (rwW d ao1 cap1 ao2 cap2 ao3 cap3).toArray 37):=zav w (rwW d ao1 cap1 ao2 cap2 ao3 cap3).toArray 37;clear h g1 g2 hc3 hnm
 go_enter Tryz.func60,Tryz.ntmps60
 go_wp2
 go_loopw [11] (fun v wr=>∃ t:Nat,t≤d.tapes.1∧v=.int .i64 t∧(∀ u,u<t→∀ k,k<(d.tapes.2 u).recs.1→RecAns d.shape ((d.tapes.2 u).recs.2 k) 0)∧One w wr (rwW d ao1 cap1 ao2 cap2 ao3 cap3).toArray 37) (fun v _=>d.tapes.1-(intOf v).toNat)
 case atStart=>exact ⟨0,Nat.zero_le _,rfl,fun i hi=>by omega,HT0.out⟩
 case round=>
  clear HT0;obtain ⟨t,ht,rfl,hal,T1⟩:=hrel;obtain ⟨wo,rfl⟩:∃ x,x=wr:=⟨_,rfl⟩;have HAL:=hid hal;have HT1:=hid T1;clear hal
  by_cases hlt:t<d.tapes.1
  ·obtain ⟨b3,off3,he3,hb3,hel3⟩:=HC3.out (by omega)
   subst he3;obtain ⟨ct,hrt,hct⟩:=zar (t:=0) hel3 T1.bel hhi hb3 hlt;obtain ⟨ap,cp,rfl,gt⟩:=zaV hrt;have c0:wo.cell? ⟨b3,off3+t*2,none⟩=some (.bool (d.tapes.2 t).wiped):=hct 0 (by decide);have c1:wo.cell? ⟨b3,off3+t*2+1,none⟩=some (.slice ap (d.tapes.2 t).recs.1 cp):=hct 1 (by decide);obtain ⟨_,_,et,hmt,hct'⟩:=gt
   cases et
   unfold maxLen at hmt;have HCT:=hid hct';have zo:w.heap.size<wo.heap.size:=T1.b1.lt;clear hel3 hct hrt hct' T1
   go_upto_region 4 with fail
   have bA:=bAl wo (.cells #[.bool (d.tapes.2 t).wiped,.slice ap (d.tapes.2 t).recs.1 cp] 77);have X2:=zax wo #[.bool (d.tapes.2 t).wiped,.slice ap (d.tapes.2 t).recs.1 cp] 77;obtain ⟨W2,hW2⟩:∃ x,x=wo.alloc (.cells #[.bool (d.tapes.2 t).wiped,.slice ap (d.tapes.2 t).recs.1 cp] 77):=⟨_,rfl⟩;rw [← hW2] at bA X2 ⊢;have y2_1:W2.cell? ⟨wo.heap.size,1,none⟩=some (.slice ap (d.tapes.2 t).recs.1 cp):=X2.cell 1;have HB2:=hid bA;clear c0 c1 X2 bA hW2;go_wp2
   go_loopw [18] (fun v wx=>∃ i:Nat,i≤(d.tapes.2 t).recs.1∧v=.int .i64 i∧(∀ k,k<i→RecAns d.shape ((d.tapes.2 t).recs.2 k) 0)∧Below wo.heap.size wo wx) (fun v _=>(d.tapes.2 t).recs.1-(intOf v).toNat)
   case atStart=>exact ⟨0,Nat.zero_le _,rfl,fun i hi=>by omega,HB2.out⟩
   case round=>
    clear HB2 y2_1;obtain ⟨i,hi',rfl,hal2,hb4⟩:=hrel;obtain ⟨wx,rfl⟩:∃ x,x=wr:=⟨_,rfl⟩;have HAL2:=hid hal2;have HB4:=hid hb4;clear hal2
    by_cases hli:i<(d.tapes.2 t).recs.1
    ·obtain ⟨b6,off6,he6,hb6,hel6⟩:=HCT.out (by omega)
     subst he6;obtain ⟨cr,hrr,hcr⟩:=zar (t:=0) hel6 hb4 (by omega) hb6 hli;obtain ⟨ro6,rc6,ro7,rc7,ro8,rc8,rfl,-⟩:=zbi hrr;have r0:wx.cell? ⟨b6,off6+i*9,none⟩=some (.int .i64 ((d.tapes.2 t).recs.2 i).kind):=hcr 0 (by decide);have r1:wx.cell? ⟨b6,off6+i*9+1,none⟩=some (.int .i64 ((d.tapes.2 t).recs.2 i).seq):=hcr 1 (by decide);have r2:wx.cell? ⟨b6,off6+i*9+2,none⟩=some (.string ((d.tapes.2 t).recs.2 i).name):=hcr 2 (by decide);have r3:wx.cell? ⟨b6,off6+i*9+3,none⟩=some (.int .i64 ((d.tapes.2 t).recs.2 i).length):=hcr 3 (by decide);have r4:wx.cell? ⟨b6,off6+i*9+4,none⟩=some (.int .i64 ((d.tapes.2 t).recs.2 i).group):=hcr 4 (by decide);have r5:wx.cell? ⟨b6,off6+i*9+5,none⟩=some (.int .i64 ((d.tapes.2 t).recs.2 i).row):=hcr 5 (by decide);have r6:wx.cell? ⟨b6,off6+i*9+6,none⟩=some (.slice ro6 ((d.tapes.2 t).recs.2 i).rows.1 rc6):=hcr 6 (by decide);have r7:wx.cell? ⟨b6,off6+i*9+7,none⟩=some (.slice ro7 ((d.tapes.2 t).recs.2 i).data.1 rc7):=hcr 7 (by decide);have r8:wx.cell? ⟨b6,off6+i*9+8,none⟩=some (.slice ro8 ((d.tapes.2 t).recs.2 i).delta.1 rc8):=hcr 8 (by decide);have HRR:=hid hrr;have T4:One w wx (rwW d ao1 cap1 ao2 cap2 (some ⟨b3,off3,none⟩) cap3).toArray 37:=HT1.out.call hb4;have HT4:=hid T4;have zx:wo.heap.size≤wx.heap.size:=hb4.size;obtain ⟨X,hX⟩:∃ X,RecAns d.shape ((d.tapes.2 t).recs.2 i) X:=zcf (K:=isZ) ⟨0,rfl⟩ _;have HX:=hid hX;clear hel6 hcr hrr T4 hb4 hX
     go_upto_region 7 with fail
     have bA:=bAl wx (.cells #[.int .i64 ((d.tapes.2 t).recs.2 i).kind,.int .i64 ((d.tapes.2 t).recs.2 i).seq,.string ((d.tapes.2 t).recs.2 i).name,.int .i64 ((d.tapes.2 t).recs.2 i).length,.int .i64 ((d.tapes.2 t).recs.2 i).group,.int .i64 ((d.tapes.2 t).recs.2 i).row,.slice ro6 ((d.tapes.2 t).recs.2 i).rows.1 rc6,.slice ro7 ((d.tapes.2 t).recs.2 i).data.1 rc7,.slice ro8 ((d.tapes.2 t).recs.2 i).delta.1 rc8] 95);have X5:=zax wx #[.int .i64 ((d.tapes.2 t).recs.2 i).kind,.int .i64 ((d.tapes.2 t).recs.2 i).seq,.string ((d.tapes.2 t).recs.2 i).name,.int .i64 ((d.tapes.2 t).recs.2 i).length,.int .i64 ((d.tapes.2 t).recs.2 i).group,.int .i64 ((d.tapes.2 t).recs.2 i).row,.slice ro6 ((d.tapes.2 t).recs.2 i).rows.1 rc6,.slice ro7 ((d.tapes.2 t).recs.2 i).data.1 rc7,.slice ro8 ((d.tapes.2 t).recs.2 i).delta.1 rc8] 95;obtain ⟨W5,hW5⟩:∃ x,x=wx.alloc (.cells #[.int .i64 ((d.tapes.2 t).recs.2 i).kind,.int .i64 ((d.tapes.2 t).recs.2 i).seq,.string ((d.tapes.2 t).recs.2 i).name,.int .i64 ((d.tapes.2 t).recs.2 i).length,.int .i64 ((d.tapes.2 t).recs.2 i).group,.int .i64 ((d.tapes.2 t).recs.2 i).row,.slice ro6 ((d.tapes.2 t).recs.2 i).rows.1 rc6,.slice ro7 ((d.tapes.2 t).recs.2 i).data.1 rc7,.slice ro8 ((d.tapes.2 t).recs.2 i).delta.1 rc8] 95):=⟨_,rfl⟩;rw [← hW5] at bA X5 ⊢;have T5:One w W5 (rwW d ao1 cap1 ao2 cap2 (some ⟨b3,off3,none⟩) cap3).toArray 37:=HT4.out.call bA;have y5_0:W5.cell? ⟨wx.heap.size,0,none⟩=some (.int .i64 ((d.tapes.2 t).recs.2 i).kind):=X5.cell 0;have y5_1:W5.cell? ⟨wx.heap.size,1,none⟩=some (.int .i64 ((d.tapes.2 t).recs.2 i).seq):=X5.cell 1;have y5_2:W5.cell? ⟨wx.heap.size,2,none⟩=some (.string ((d.tapes.2 t).recs.2 i).name):=X5.cell 2;have y5_3:W5.cell? ⟨wx.heap.size,3,none⟩=some (.int .i64 ((d.tapes.2 t).recs.2 i).length):=X5.cell 3;have y5_4:W5.cell? ⟨wx.heap.size,4,none⟩=some (.int .i64 ((d.tapes.2 t).recs.2 i).group):=X5.cell 4;have y5_5:W5.cell? ⟨wx.heap.size,5,none⟩=some (.int .i64 ((d.tapes.2 t).recs.2 i).row):=X5.cell 5;have y5_6:W5.cell? ⟨wx.heap.size,6,none⟩=some (.slice ro6 ((d.tapes.2 t).recs.2 i).rows.1 rc6):=X5.cell 6;have y5_7:W5.cell? ⟨wx.heap.size,7,none⟩=some (.slice ro7 ((d.tapes.2 t).recs.2 i).data.1 rc7):=X5.cell 7
     have y5_8:W5.cell? ⟨wx.heap.size,8,none⟩=some (.slice ro8 ((d.tapes.2 t).recs.2 i).delta.1 rc8):=X5.cell 8;have x5_0:W5.cell? ⟨w.heap.size,0,none⟩=some (.int .i64 (d.shape 0)):=T5.b1.cell 0;have x5_1:W5.cell? ⟨w.heap.size,1,none⟩=some (.int .i64 (d.shape 1)):=T5.b1.cell 1;have x5_2:W5.cell? ⟨w.heap.size,2,none⟩=some (.int .i64 (d.shape 2)):=T5.b1.cell 2;have x5_3:W5.cell? ⟨w.heap.size,3,none⟩=some (.int .i64 (d.shape 3)):=T5.b1.cell 3;have x5_4:W5.cell? ⟨w.heap.size,4,none⟩=some (.int .i64 (d.shape 4)):=T5.b1.cell 4;have x5_5:W5.cell? ⟨w.heap.size,5,none⟩=some (.int .i64 (d.shape 5)):=T5.b1.cell 5;have x5_6:W5.cell? ⟨w.heap.size,6,none⟩=some (.int .i64 (d.shape 6)):=T5.b1.cell 6;have x5_7:W5.cell? ⟨w.heap.size,7,none⟩=some (.int .i64 (d.shape 7)):=T5.b1.cell 7;have x5_8:W5.cell? ⟨w.heap.size,8,none⟩=some (.int .i64 (d.shape 8)):=T5.b1.cell 8;have CR:=zgn HX.out (ze2 d.shape ((d.tapes.2 t).recs.2 i) _ hi W5 (zab.rd_below HRR.out bA (by omega)) (by have:=bA.size;omega) (HNM.out t hlt i hli));unfold zac at CR;have HB5:=hid bA;clear r0 r1 r2 r3 r4 r5 r6 r7 r8 bA X5 T5 hW5
     go_wp2_with fail
     refine CR.mono ?_;rintro e w6 ⟨rfl,b6'⟩;have HB6:Hid (Below wo.heap.size wo w6):=HB4.out.trans ((HB5.out.trans (b6'.mono HB5.out.size)).mono HB4.out.size);clear b6' CR y5_0 x5_0 y5_1 x5_1 y5_2 x5_2 y5_3 x5_3 y5_4 x5_4 y5_5 x5_5 y5_6 x5_6 y5_7 x5_7 y5_8 x5_8
     by_cases hx0:X=0
     ·subst hx0
      go_wp2
      go_roundw
      case rel=>exact ⟨i+1,by omega,by go_num,fun k hk=>by
       by_cases c:k=i
       ·subst c;exact HX.out
       ·exact HAL2.out k (by omega),HB6.out⟩
      case measure=>simp [intOf];omega
     ·have hne:(X != 0)=true:=by simp [hx0]
      go_wp2;go_ret;exact ⟨X,rfl,.inr ⟨hx0,t,i,hlt,hli,HX.out,HAL2.out,HAL.out⟩,(HT1.out.call HB6.out).bel⟩
    ·obtain rfl:i=(d.tapes.2 t).recs.1:=by omega
     clear hb4;go_wp2
     go_roundw
     case rel=>exact ⟨t+1,by omega,by go_num,fun u hu=>by
      by_cases c:u=t
      ·subst c;exact HAL2.out
      ·exact HAL.out u (by omega),HT1.out.call HB4.out⟩
     case measure=>simp [intOf];omega
  ·obtain rfl:t=d.tapes.1:=by omega
   go_wp2;go_ret;exact ⟨0,rfl,.inl ⟨rfl,HAL.out⟩,HT1.out.bel⟩
set_option maxRecDepth 20000 in
theorem zdL (d:WorldD) (cs:List Value) (hi:Nat) (w:World) (h:zae.rd w hi d cs) (hhi:hi≤w.heap.size) (hnm:∀ t,t<d.tapes.1→∀ i,i<(d.tapes.2 t).recs.1→((d.tapes.2 t).recs.2 i).name.size≤1048576) :
 Calls Tryz.prog 38 #[.agg cs.toArray] w (zb5 d w):=by
 obtain ⟨ao1,cap1,ao2,cap2,ao3,cap3,rfl,g1,g2,g3,-⟩:=zaB h;have HRD:=hid h;have HG1:=hid g1;have HG3:=hid g3
 have hm3:d.tapes.1≤maxLen:=by obtain ⟨_,_,_,h,_⟩:=g3;exact h
 unfold maxLen at hm3;have HNM:=hid hnm;clear h g1 g2 g3 hnm;have T0:=zav w (rwW d ao1 cap1 ao2 cap2 ao3 cap3).toArray 37;have CSh:=fun w'=>zbN d.shape w';unfold zac at CSh
 go_enter Tryz.func38,Tryz.ntmps38
 go_wp2_with fail
 refine (CSh _).mono ?_;rintro e w1 ⟨x,rfl,hx,b1⟩;have T1:One w w1 (rwW d ao1 cap1 ao2 cap2 ao3 cap3).toArray 37:=T0.call b1;have HT1:=hid T1;clear b1 T0 CSh;have x1_0:w1.cell? ⟨w.heap.size,0,none⟩=some (.int .i64 (d.shape 0)):=T1.b1.cell 0;have x1_1:w1.cell? ⟨w.heap.size,1,none⟩=some (.int .i64 (d.shape 1)):=T1.b1.cell 1;have x1_2:w1.cell? ⟨w.heap.size,2,none⟩=some (.int .i64 (d.shape 2)):=T1.b1.cell 2;have x1_3:w1.cell? ⟨w.heap.size,3,none⟩=some (.int .i64 (d.shape 3)):=T1.b1.cell 3;have x1_4:w1.cell? ⟨w.heap.size,4,none⟩=some (.int .i64 (d.shape 4)):=T1.b1.cell 4;have x1_5:w1.cell? ⟨w.heap.size,5,none⟩=some (.int .i64 (d.shape 5)):=T1.b1.cell 5;have x1_6:w1.cell? ⟨w.heap.size,6,none⟩=some (.int .i64 (d.shape 6)):=T1.b1.cell 6;have x1_7:w1.cell? ⟨w.heap.size,7,none⟩=some (.int .i64 (d.shape 7)):=T1.b1.cell 7;have x1_8:w1.cell? ⟨w.heap.size,8,none⟩=some (.int .i64 (d.shape 8)):=T1.b1.cell 8;have x1_9:w1.cell? ⟨w.heap.size,9,none⟩=some (.slice ao1 d.groups.1 cap1):=T1.b1.cell 9;have x1_10:w1.cell? ⟨w.heap.size,10,none⟩=some (.slice ao2 d.on.1 cap2):=T1.b1.cell 10;have x1_11:w1.cell? ⟨w.heap.size,11,none⟩=some (.slice ao3 d.tapes.1 cap3):=T1.b1.cell 11;have x1_12:w1.cell? ⟨w.heap.size,12,none⟩=some (.int .i64 d.writes):=T1.b1.cell 12;have x1_13:w1.cell? ⟨w.heap.size,13,none⟩=some (.int .i64 d.stop):=T1.b1.cell 13;have x1_14:w1.cell? ⟨w.heap.size,14,none⟩=some (.bool d.down):=T1.b1.cell 14;clear T1
 rcases hx with ⟨rfl,hno⟩ | ⟨rfl,hok⟩
 ·go_wp2
  go_ret;exact wldP rfl (Stair.fall hno) HT1.out.bel
 have HOK:=hid hok;clear hok;obtain ⟨t1,h1⟩:=exB (zbU d);have C1:=za9 (zdJ d.shape HOK.out d.groups _ hi w1 (((zaa.slice 73).slice 70).rd_below HG1.out HT1.out.bel hhi) (Nat.le_trans hhi HT1.out.bel.size)) (show t1=true↔zgu d.shape d.groups from h1);unfold zac at C1;have H1:=hid h1;clear h1
 go_wp2_with fail
 refine C1.mono ?_;rintro e w2 ⟨rfl,b2⟩;have T2:One w w2 (rwW d ao1 cap1 ao2 cap2 ao3 cap3).toArray 37:=HT1.out.call b2;have HT2:=hid T2;clear b2 x1_0 x1_1 x1_2 x1_3 x1_4 x1_5 x1_6 x1_7 x1_8 x1_9 x1_10 x1_11 x1_12 x1_13 x1_14;have x2_0:w2.cell? ⟨w.heap.size,0,none⟩=some (.int .i64 (d.shape 0)):=T2.b1.cell 0;have x2_1:w2.cell? ⟨w.heap.size,1,none⟩=some (.int .i64 (d.shape 1)):=T2.b1.cell 1;have x2_2:w2.cell? ⟨w.heap.size,2,none⟩=some (.int .i64 (d.shape 2)):=T2.b1.cell 2;have x2_3:w2.cell? ⟨w.heap.size,3,none⟩=some (.int .i64 (d.shape 3)):=T2.b1.cell 3;have x2_4:w2.cell? ⟨w.heap.size,4,none⟩=some (.int .i64 (d.shape 4)):=T2.b1.cell 4;have x2_5:w2.cell? ⟨w.heap.size,5,none⟩=some (.int .i64 (d.shape 5)):=T2.b1.cell 5;have x2_6:w2.cell? ⟨w.heap.size,6,none⟩=some (.int .i64 (d.shape 6)):=T2.b1.cell 6;have x2_7:w2.cell? ⟨w.heap.size,7,none⟩=some (.int .i64 (d.shape 7)):=T2.b1.cell 7;have x2_8:w2.cell? ⟨w.heap.size,8,none⟩=some (.int .i64 (d.shape 8)):=T2.b1.cell 8;have x2_9:w2.cell? ⟨w.heap.size,9,none⟩=some (.slice ao1 d.groups.1 cap1):=T2.b1.cell 9;have x2_10:w2.cell? ⟨w.heap.size,10,none⟩=some (.slice ao2 d.on.1 cap2):=T2.b1.cell 10;have x2_11:w2.cell? ⟨w.heap.size,11,none⟩=some (.slice ao3 d.tapes.1 cap3):=T2.b1.cell 11;have x2_12:w2.cell? ⟨w.heap.size,12,none⟩=some (.int .i64 d.writes):=T2.b1.cell 12;have x2_13:w2.cell? ⟨w.heap.size,13,none⟩=some (.int .i64 d.stop):=T2.b1.cell 13;have x2_14:w2.cell? ⟨w.heap.size,14,none⟩=some (.bool d.down):=T2.b1.cell 14;clear T2;clear C1
 cases t1 with
 | false=>
  go_wp2;go_ret;exact wldP rfl (Stair.pass HOK.out (Stair.fall (fun h=>by have:=H1.out.2 h.1;simp at this))) HT2.out.bel
 | true=>
 have HB:Hid (zbU d):=H1.out.1 rfl;clear H1;obtain ⟨t2,h2⟩:=exB (OnP d);have C2:=za9 (zfY d HOK.out _ hi w2 (zae.rd_below HRD.out HT2.out.bel hhi) (Nat.le_trans hhi HT2.out.bel.size)) h2;have H2:=hid h2;clear h2
 go_wp2_with fail
 refine C2.mono ?_;rintro e w3 ⟨rfl,b3⟩;have T3:One w w3 (rwW d ao1 cap1 ao2 cap2 ao3 cap3).toArray 37:=HT2.out.call b3;have HT3:=hid T3;clear b3 x2_0 x2_1 x2_2 x2_3 x2_4 x2_5 x2_6 x2_7 x2_8 x2_9 x2_10 x2_11 x2_12 x2_13 x2_14;have x3_0:w3.cell? ⟨w.heap.size,0,none⟩=some (.int .i64 (d.shape 0)):=T3.b1.cell 0;have x3_1:w3.cell? ⟨w.heap.size,1,none⟩=some (.int .i64 (d.shape 1)):=T3.b1.cell 1;have x3_2:w3.cell? ⟨w.heap.size,2,none⟩=some (.int .i64 (d.shape 2)):=T3.b1.cell 2;have x3_3:w3.cell? ⟨w.heap.size,3,none⟩=some (.int .i64 (d.shape 3)):=T3.b1.cell 3;have x3_4:w3.cell? ⟨w.heap.size,4,none⟩=some (.int .i64 (d.shape 4)):=T3.b1.cell 4;have x3_5:w3.cell? ⟨w.heap.size,5,none⟩=some (.int .i64 (d.shape 5)):=T3.b1.cell 5;have x3_6:w3.cell? ⟨w.heap.size,6,none⟩=some (.int .i64 (d.shape 6)):=T3.b1.cell 6;have x3_7:w3.cell? ⟨w.heap.size,7,none⟩=some (.int .i64 (d.shape 7)):=T3.b1.cell 7;have x3_8:w3.cell? ⟨w.heap.size,8,none⟩=some (.int .i64 (d.shape 8)):=T3.b1.cell 8;have x3_9:w3.cell? ⟨w.heap.size,9,none⟩=some (.slice ao1 d.groups.1 cap1):=T3.b1.cell 9;have x3_10:w3.cell? ⟨w.heap.size,10,none⟩=some (.slice ao2 d.on.1 cap2):=T3.b1.cell 10;have x3_11:w3.cell? ⟨w.heap.size,11,none⟩=some (.slice ao3 d.tapes.1 cap3):=T3.b1.cell 11;have x3_12:w3.cell? ⟨w.heap.size,12,none⟩=some (.int .i64 d.writes):=T3.b1.cell 12;have x3_13:w3.cell? ⟨w.heap.size,13,none⟩=some (.int .i64 d.stop):=T3.b1.cell 13;have x3_14:w3.cell? ⟨w.heap.size,14,none⟩=some (.bool d.down):=T3.b1.cell 14;clear T3;clear C2
 cases t2 with
 | false=>
  go_wp2;go_ret;exact wldP rfl (Stair.pass HOK.out (Stair.fall (fun h=>by have:=H2.out.2 h.2.1;simp at this))) HT3.out.bel
 | true=>
 have HO:Hid (OnP d):=H2.out.1 rfl;clear H2
 by_cases h5:d.tapes.1=2
 ·have n5:((d.tapes.1:Int) != 2)=false:=by simp;omega
  have HFM:Hid (zbL d):=⟨HB.out,HO.out,h5⟩;clear h5;obtain ⟨t4,h4⟩:=exB (za1 d.tapes);have C4:=za9 (zcL d.tapes _ _ hi w3 ((zai.slice 77).rd_below HG3.out HT3.out.bel hhi) (Nat.le_trans hhi HT3.out.bel.size)) h4;have H4:=hid h4;clear h4
  go_wp2_with fail
  refine C4.mono ?_;rintro e w4 ⟨rfl,b4⟩;have T4:One w w4 (rwW d ao1 cap1 ao2 cap2 ao3 cap3).toArray 37:=HT3.out.call b4;have HT4:=hid T4;clear b4 x3_0 x3_1 x3_2 x3_3 x3_4 x3_5 x3_6 x3_7 x3_8 x3_9 x3_10 x3_11 x3_12 x3_13 x3_14;have x4_0:w4.cell? ⟨w.heap.size,0,none⟩=some (.int .i64 (d.shape 0)):=T4.b1.cell 0;have x4_1:w4.cell? ⟨w.heap.size,1,none⟩=some (.int .i64 (d.shape 1)):=T4.b1.cell 1;have x4_2:w4.cell? ⟨w.heap.size,2,none⟩=some (.int .i64 (d.shape 2)):=T4.b1.cell 2;have x4_3:w4.cell? ⟨w.heap.size,3,none⟩=some (.int .i64 (d.shape 3)):=T4.b1.cell 3;have x4_4:w4.cell? ⟨w.heap.size,4,none⟩=some (.int .i64 (d.shape 4)):=T4.b1.cell 4;have x4_5:w4.cell? ⟨w.heap.size,5,none⟩=some (.int .i64 (d.shape 5)):=T4.b1.cell 5;have x4_6:w4.cell? ⟨w.heap.size,6,none⟩=some (.int .i64 (d.shape 6)):=T4.b1.cell 6;have x4_7:w4.cell? ⟨w.heap.size,7,none⟩=some (.int .i64 (d.shape 7)):=T4.b1.cell 7;have x4_8:w4.cell? ⟨w.heap.size,8,none⟩=some (.int .i64 (d.shape 8)):=T4.b1.cell 8;have x4_9:w4.cell? ⟨w.heap.size,9,none⟩=some (.slice ao1 d.groups.1 cap1):=T4.b1.cell 9;have x4_10:w4.cell? ⟨w.heap.size,10,none⟩=some (.slice ao2 d.on.1 cap2):=T4.b1.cell 10;have x4_11:w4.cell? ⟨w.heap.size,11,none⟩=some (.slice ao3 d.tapes.1 cap3):=T4.b1.cell 11;have x4_12:w4.cell? ⟨w.heap.size,12,none⟩=some (.int .i64 d.writes):=T4.b1.cell 12;have x4_13:w4.cell? ⟨w.heap.size,13,none⟩=some (.int .i64 d.stop):=T4.b1.cell 13;have x4_14:w4.cell? ⟨w.heap.size,14,none⟩=some (.bool d.down):=T4.b1.cell 14;clear T4;clear C4
  cases t4 with
  | true=>
   go_wp2;go_ret
   exact wldP rfl (Stair.pass HOK.out (Stair.pass HFM.out (Stair.fall (fun h=>by
    obtain ⟨t,ht,hh⟩:=H4.out.1 (by simp);have:=h t ht
    omega)))) HT4.out.bel
  | false=>
  have HFW:Hid (FewP d):=fun t ht=>by
   by_cases c:200<(d.tapes.2 t).recs.1
   ·have:=H4.out.2 ⟨t,ht,c⟩
    simp at this
   ·omega
  clear H4;have C5:=zdK d _ hi w4 (zae.rd_below HRD.out HT4.out.bel hhi) (Nat.le_trans hhi HT4.out.bel.size) HNM.out
  go_wp2_with fail
  refine C5.mono ?_;rintro e w5 ⟨X,rfl,hX,b5⟩;have T5:One w w5 (rwW d ao1 cap1 ao2 cap2 ao3 cap3).toArray 37:=HT4.out.call b5;have HT5:=hid T5;clear b5 x4_0 x4_1 x4_2 x4_3 x4_4 x4_5 x4_6 x4_7 x4_8 x4_9 x4_10 x4_11 x4_12 x4_13 x4_14;have x5_0:w5.cell? ⟨w.heap.size,0,none⟩=some (.int .i64 (d.shape 0)):=T5.b1.cell 0;have x5_1:w5.cell? ⟨w.heap.size,1,none⟩=some (.int .i64 (d.shape 1)):=T5.b1.cell 1;have x5_2:w5.cell? ⟨w.heap.size,2,none⟩=some (.int .i64 (d.shape 2)):=T5.b1.cell 2;have x5_3:w5.cell? ⟨w.heap.size,3,none⟩=some (.int .i64 (d.shape 3)):=T5.b1.cell 3;have x5_4:w5.cell? ⟨w.heap.size,4,none⟩=some (.int .i64 (d.shape 4)):=T5.b1.cell 4;have x5_5:w5.cell? ⟨w.heap.size,5,none⟩=some (.int .i64 (d.shape 5)):=T5.b1.cell 5;have x5_6:w5.cell? ⟨w.heap.size,6,none⟩=some (.int .i64 (d.shape 6)):=T5.b1.cell 6;have x5_7:w5.cell? ⟨w.heap.size,7,none⟩=some (.int .i64 (d.shape 7)):=T5.b1.cell 7;have x5_8:w5.cell? ⟨w.heap.size,8,none⟩=some (.int .i64 (d.shape 8)):=T5.b1.cell 8;have x5_9:w5.cell? ⟨w.heap.size,9,none⟩=some (.slice ao1 d.groups.1 cap1):=T5.b1.cell 9;have x5_10:w5.cell? ⟨w.heap.size,10,none⟩=some (.slice ao2 d.on.1 cap2):=T5.b1.cell 10;have x5_11:w5.cell? ⟨w.heap.size,11,none⟩=some (.slice ao3 d.tapes.1 cap3):=T5.b1.cell 11;have x5_12:w5.cell? ⟨w.heap.size,12,none⟩=some (.int .i64 d.writes):=T5.b1.cell 12;have x5_13:w5.cell? ⟨w.heap.size,13,none⟩=some (.int .i64 d.stop):=T5.b1.cell 13;have x5_14:w5.cell? ⟨w.heap.size,14,none⟩=some (.bool d.down):=T5.b1.cell 14;clear T5;clear C5
  by_cases hx0:X=0
  ·subst hx0
   have HRZ:=hid hX;clear hX;obtain ⟨t6,h6⟩:=exB (zaF d.tapes);have C6:=za9 (zbW d.tapes _ _ hi w5 ((zai.slice 77).rd_below HG3.out HT5.out.bel hhi) (Nat.le_trans hhi HT5.out.bel.size)) h6;have H6:=hid h6;clear h6
   go_wp2_with fail
   refine C6.mono ?_;rintro e w6 ⟨rfl,b6⟩;have T6:One w w6 (rwW d ao1 cap1 ao2 cap2 ao3 cap3).toArray 37:=HT5.out.call b6;have HT6:=hid T6;clear b6 x5_0 x5_1 x5_2 x5_3 x5_4 x5_5 x5_6 x5_7 x5_8 x5_9 x5_10 x5_11 x5_12 x5_13 x5_14;have x6_0:w6.cell? ⟨w.heap.size,0,none⟩=some (.int .i64 (d.shape 0)):=T6.b1.cell 0;have x6_1:w6.cell? ⟨w.heap.size,1,none⟩=some (.int .i64 (d.shape 1)):=T6.b1.cell 1;have x6_2:w6.cell? ⟨w.heap.size,2,none⟩=some (.int .i64 (d.shape 2)):=T6.b1.cell 2;have x6_3:w6.cell? ⟨w.heap.size,3,none⟩=some (.int .i64 (d.shape 3)):=T6.b1.cell 3;have x6_4:w6.cell? ⟨w.heap.size,4,none⟩=some (.int .i64 (d.shape 4)):=T6.b1.cell 4;have x6_5:w6.cell? ⟨w.heap.size,5,none⟩=some (.int .i64 (d.shape 5)):=T6.b1.cell 5;have x6_6:w6.cell? ⟨w.heap.size,6,none⟩=some (.int .i64 (d.shape 6)):=T6.b1.cell 6;have x6_7:w6.cell? ⟨w.heap.size,7,none⟩=some (.int .i64 (d.shape 7)):=T6.b1.cell 7;have x6_8:w6.cell? ⟨w.heap.size,8,none⟩=some (.int .i64 (d.shape 8)):=T6.b1.cell 8;have x6_9:w6.cell? ⟨w.heap.size,9,none⟩=some (.slice ao1 d.groups.1 cap1):=T6.b1.cell 9;have x6_10:w6.cell? ⟨w.heap.size,10,none⟩=some (.slice ao2 d.on.1 cap2):=T6.b1.cell 10;have x6_11:w6.cell? ⟨w.heap.size,11,none⟩=some (.slice ao3 d.tapes.1 cap3):=T6.b1.cell 11;have x6_12:w6.cell? ⟨w.heap.size,12,none⟩=some (.int .i64 d.writes):=T6.b1.cell 12;have x6_13:w6.cell? ⟨w.heap.size,13,none⟩=some (.int .i64 d.stop):=T6.b1.cell 13;have x6_14:w6.cell? ⟨w.heap.size,14,none⟩=some (.bool d.down):=T6.b1.cell 14;clear T6;clear C6
   cases t6 with
   | true=>
    go_wp2;go_ret;exact wldP rfl (Stair.pass HOK.out (Stair.pass HFM.out (Stair.pass HFW.out (Stair.last (.inr ⟨HRZ.out,Stair.fall (fun h=>by obtain ⟨t,ht,h1,h2⟩:=H6.out.1 (by simp);have:=h t ht h1;omega)⟩))))) HT6.out.bel
   | false=>
   have HCL:Hid (zfp d):=fun t ht hw=>by
    by_cases c:0<(d.tapes.2 t).recs.1
    ·have:=H6.out.2 ⟨t,ht,hw,c⟩
     simp at this
    ·omega
   clear H6
   by_cases h7:InP d.writes 0 1000000000
   ·go_wp2_with fail
    refine (zaE (t:=true) (by omega) (exBT h7) _).mono ?_;rintro e w' ⟨rfl,hw'⟩;obtain rfl:=hw'.symm
    by_cases h8:InP d.stop (-1) 1000000000
    ·go_wp2_with fail
     refine (zaE (t:=true) (by omega) (exBT h8) _).mono ?_;rintro e w' ⟨rfl,hw'⟩;obtain rfl:=hw'.symm;go_wp2;go_ret;exact wldP rfl (Stair.pass HOK.out (Stair.pass HFM.out (Stair.pass HFW.out (Stair.last (.inr ⟨HRZ.out,Stair.pass HCL.out (Stair.pass ⟨h7,h8⟩ (Stair.last rfl))⟩))))) HT6.out.bel
    ·go_wp2_with fail
     refine (zaE (t:=false) (by omega) (exBF h8) _).mono ?_;rintro e w' ⟨rfl,hw'⟩;obtain rfl:=hw'.symm;go_wp2;go_ret;exact wldP rfl (Stair.pass HOK.out (Stair.pass HFM.out (Stair.pass HFW.out (Stair.last (.inr ⟨HRZ.out,Stair.pass HCL.out (Stair.fall (fun h=>h8 h.2))⟩))))) HT6.out.bel
   ·go_wp2_with fail
    refine (zaE (t:=false) (by omega) (exBF h7) _).mono ?_;rintro e w' ⟨rfl,hw'⟩;obtain rfl:=hw'.symm;go_wp2;go_ret;exact wldP rfl (Stair.pass HOK.out (Stair.pass HFM.out (Stair.pass HFW.out (Stair.last (.inr ⟨HRZ.out,Stair.pass HCL.out (Stair.fall (fun h=>h7 h.1))⟩))))) HT6.out.bel
  ·have hne:(X != 0)=true:=by simp [hx0]
   go_wp2;go_ret;exact wldP rfl (Stair.pass HOK.out (Stair.pass HFM.out (Stair.pass HFW.out (Stair.last (.inl ⟨hx0,hX⟩))))) HT5.out.bel
 ·have n5:((d.tapes.1:Int) != 2)=true:=by simp;omega
  go_wp2;go_ret;exact wldP rfl (Stair.pass HOK.out (Stair.fall (fun h=>h5 h.2.2))) HT3.out.bel
end Go.Proofs.YtkmglpaaeogapaaGreat
