/- Walks of the specification's looks at records. -/
import Derived.Deep.Cut
import Derived.Laws.Tables
import Derived.Laws.Rows
import Derived.OrdersHeld
import Derived.Deep.RegionHeld
import Derived.Test.YtfhgcadinjfooaaGreatZPgroupad
set_option linter.unusedVariables false
set_option linter.unusedSimpArgs false
set_option maxHeartbeats 16000000
namespace Go.Proofs.YtfhgcadinjfooaaGreat
open Go.RowKit F256
theorem RdI.part {w:World} {hi:Nat} {b off n cap k:Nat} {g:Nat→Int} (r:RdI w hi (.slice (some ⟨b,off,none⟩) n cap) n g) (h:k≤n) (h0:n≠0):RdI w hi (.slice (some ⟨b,off,none⟩) k cap) k g:=by
 obtain ⟨ao,cap',e,hm,hc⟩:=r
 cases e
 obtain ⟨b',off',e,h1,h2⟩:=hc h0
 cases e
 exact ⟨_,_,rfl,by omega,fun _=>⟨b,off,rfl,h1,fun i hi=>h2 i (by omega)⟩⟩
theorem RdI.mx {w:World} {hi:Nat} {v:Value} {n:Nat} {g:Nat→Int} (r:RdI w hi v n g):n≤maxLen:=by
 obtain ⟨ao,cap',e,hm,hc⟩:=r;exact hm
theorem zbT (v:Value) (n:Nat) (g:Nat→Int) (hi:Nat) (most:Int) (w:World) (r:RdI w hi v n g) (hcp:CapP v n) (hhi:hi≤w.heap.size) :
 Calls Tryz.prog 30 #[v,.int .i64 most] w (zaR (zbB n g most) w):=by
 have HR:=hid r;obtain ⟨ao,cap,rfl,hm,hc⟩:=r;obtain ⟨_,_,e,hcp⟩:=hcp
 cases e
 unfold maxLen at hm
 go_enter Tryz.func30,Tryz.ntmps30
 go_wp2
 go_loopw [5] (fun i wr=>∃ k:Nat,k≤n∧i=.int .i64 k∧zbB k g most∧Below w.heap.size w wr) (fun i _=>n-(intOf i).toNat)
 case atStart=>exact ⟨0,Nat.zero_le _,rfl,fun i hi=>by omega,Below.refl _ _⟩
 case round=>
  obtain ⟨k,hk,rfl,hall,hb⟩:=hrel;have HALL:=hid hall;clear hall
  by_cases hlt:k<n
  ·obtain ⟨b,off,rfl,hblt,hcell⟩:=hc (by omega)
   have hck:wr.cell? ⟨b,off+k,none⟩=some (.int .i64 (g k)):=(hb.cell (p:=⟨b,off+k,none⟩) (by show b<w.heap.size;omega)).trans (hcell k hlt);have k0:=cell_regrown hck;obtain ⟨t1,h1⟩:=exB (InP (g k) 0 most);obtain ⟨t2,h2⟩:=exB (HasP k g (g k));have zr:=hb.size;have cA:=zeB (W:=wr) (fun w'=>zbE h1 w');have cB:=zas (W:=wr) (fun w' hw'=>zbo (ziN (.slice (some ⟨b,off,none⟩) k cap) k g hi (g k) w' (((HR.out.part hk (by omega)).below hb hhi).below hw' (by omega))) h2)
   have kcp:k≤cap:=by omega
   have H1:=hid h1;have H2:=hid h2;obtain ⟨y,hy⟩:∃ y,y=g k:=⟨_,rfl⟩;have HY:=hid hy;rw [← hy] at hck k0 cA cB;clear hc hcell h1 h2 hy;have HB:=hid hb;clear hb;go_wp2
   have hs:t1=false∨(t1=true∧t2=false)∨(t1=true∧t2=true):=by cases t1<;>cases t2<;>simp
   rcases hs with rfl | ⟨rfl,rfl⟩ | ⟨rfl,rfl⟩
   all_goals
    refine WQ.region (by kernel_rfl) (by kernel_rfl) ?_
    repeat (first | (apply WQ.skip;(case hw=>rfl);intro K hK;go_simp;apply hK;clear hK K) | (apply WQ.want;(case hw=>rfl);intro K hK;go_simp;first | (apply hK;clear hK K) | (apply Exists.intro;apply And.intro;(case left=>intro p;(first | (go_at_call 33;exact cA _ _) | (go_at_call 52;exact cB _ _)));apply hK;clear hK K)))
    refine WQ.nil ?_;intro w2 hw2;have HB2:Hid (Below w.heap.size w w2):=HB.out.trans ((zaB hw2).mono HB.out.size);clear hw2;go_wp2
   ·go_ret
    exact zai rfl (fun h=>by
     have:=H1.out.2 (h k hlt).1
     cases this) HB2.out
   ·go_roundw
    case rel=>exact ⟨k+1,by omega,by go_num,fun i hi=>by
     by_cases c:i=k
     ·subst c
      exact ⟨H1.out.1 (by simp),fun t ht e=>by
       have:=H2.out.2 ⟨t,ht,e⟩
       cases this⟩
     ·exact HALL.out i (by omega),HB2.out⟩
    case measure=>simp [intOf];omega
   ·go_ret
    exact zai rfl (fun h=>by
     obtain ⟨t,ht,e⟩:=H2.out.1 (by simp)
     exact (h k hlt).2 t ht e) HB2.out
  ·obtain rfl:k=n:=by omega
   go_wp2;go_ret;exact zam rfl HALL.out hb
theorem zjG (b:ByteArray):b.toList.isEmpty=true↔b=ByteArray.empty:=by
 have e:b.toList=b.data.toList:=ByteArray.toList_eq b;rw [e]
 cases b with | mk x=>
 constructor
 ·intro h
  have:x=#[]:=by simpa using h
  subst this;rfl
 ·intro h
  have:x=#[]:=congrArg ByteArray.data h;subst this;rfl
def zbW (nm:ByteArray) (ln gr rw_:Int) (n6 n7 n8:Nat):Prop:=nm=ByteArray.empty∧ln=0∧gr=0∧rw_=0∧n6=0∧n7=0∧n8=0
theorem zcc (kd sq ln gr rw_:Int) (nm:ByteArray) (ao6 ao7 ao8:Option Addr) (n6 n7 n8 cap6 cap7 cap8:Nat) (w:World) :
 Calls Tryz.prog 58 #[.agg #[.int .i64 kd,.int .i64 sq,.string nm,.int .i64 ln,.int .i64 gr,.int .i64 rw_,.slice ao6 n6 cap6,.slice ao7 n7 cap7,.slice ao8 n8 cap8]] w (zaR (zbW nm ln gr rw_ n6 n7 n8) w):=by
 have B0:Hid (Below w.heap.size w (w.alloc (.cells #[.int .i64 kd,.int .i64 sq,.string nm,.int .i64 ln,.int .i64 gr,.int .i64 rw_,.slice ao6 n6 cap6,.slice ao7 n7 cap7,.slice ao8 n8 cap8] 71))):=(Below.refl _ _).alloc (Nat.le_refl _) _;obtain ⟨b0,h0⟩:∃ b,nm.toList.isEmpty=b:=⟨_,rfl⟩;obtain ⟨b1,h1⟩:∃ b,(ln==0)=b:=⟨_,rfl⟩;obtain ⟨b2,h2⟩:∃ b,(gr==0)=b:=⟨_,rfl⟩;obtain ⟨b3,h3⟩:∃ b,(rw_==0)=b:=⟨_,rfl⟩;obtain ⟨b4,h4⟩:∃ b,((n6:Int)==0)=b:=⟨_,rfl⟩;obtain ⟨b5,h5⟩:∃ b,((n7:Int)==0)=b:=⟨_,rfl⟩;obtain ⟨b6,h6⟩:∃ b,((n8:Int)==0)=b:=⟨_,rfl⟩
 have HE:Hid (zbW nm ln gr rw_ n6 n7 n8↔(b0=true∧b1=true∧b2=true∧b3=true∧b4=true∧b5=true∧b6=true)):=by
  show zbW nm ln gr rw_ n6 n7 n8↔_
  rw [← h0,← h1,← h2,← h3,← h4,← h5,← h6,zjG];unfold zbW
  simp
 have hs:b0=false∨(b0=true∧b1=false)∨(b0=true∧b1=true∧b2=false)∨(b0=true∧b1=true∧b2=true∧b3=false)∨(b0=true∧b1=true∧b2=true∧b3=true∧b4=false)∨(b0=true∧b1=true∧b2=true∧b3=true∧b4=true∧b5=false)∨(b0=true∧b1=true∧b2=true∧b3=true∧b4=true∧b5=true∧b6=false)∨(b0=true∧b1=true∧b2=true∧b3=true∧b4=true∧b5=true∧b6=true):=by
  clear HE h0 h1 h2 h3 h4 h5 h6
  cases b0<;>simp
  cases b1<;>simp
  cases b2<;>simp
  cases b3<;>simp
  cases b4<;>simp
  cases b5<;>simp
 go_enter Tryz.func58,Tryz.ntmps58
 rcases hs with rfl | ⟨rfl,rfl⟩ | ⟨rfl,rfl,rfl⟩ | ⟨rfl,rfl,rfl,rfl⟩ | ⟨rfl,rfl,rfl,rfl,rfl⟩ | ⟨rfl,rfl,rfl,rfl,rfl,rfl⟩ | ⟨rfl,rfl,rfl,rfl,rfl,rfl,rfl⟩ | ⟨rfl,rfl,rfl,rfl,rfl,rfl,rfl⟩
 all_goals
  go_wp2;go_ret
  first
   | exact zai rfl (fun h=>by have:=HE.out.1 h;simp at this) B0.out
   | exact zam rfl (HE.out.2 (by simp)) B0.out
theorem zbk (s:Nat→Int) (h:zaj s) (w:World) :
 Calls Tryz.prog 31 #[zad s] w fun e w'=>e=.returned (.int .i64 (s 0+s 1))∧Below w.heap.size w w':=by
 obtain ⟨h1,h2,_⟩:=h;unfold Shp3 at h1;have B0:=(zaw w (rwS s).toArray 31).bel;unfold zad
 have hw:-9223372036854775808≤s 0+s 1∧s 0+s 1≤9223372036854775807:=by omega
 go_enter Tryz.func31,Tryz.ntmps31
 go_wp2;go_ret;exact ⟨rfl,B0⟩
theorem zdB (s:Nat→Int) (h:zaj s) (w:World) :
 Calls Tryz.prog 34 #[zad s] w fun e w'=>e=.returned (.int .i64 (s 2+s 3))∧Below w.heap.size w w':=by
 obtain ⟨h1,h2,_⟩:=h;unfold Shp at h2;have B0:=(zaw w (rwS s).toArray 31).bel;unfold zad
 have hw:-9223372036854775808≤s 2+s 3∧s 2+s 3≤9223372036854775807:=by omega
 go_enter Tryz.func34,Tryz.ntmps34
 go_wp2;go_ret;exact ⟨rfl,B0⟩
theorem zeX (s:Nat→Int) (hs:zaj s) (r:RecD) (cs:List Value) (hi:Nat) (w:World) (h:zan.rd w hi r cs) (hhi:hi≤w.heap.size) (hg:InP r.group 0 (s 0+s 1-1)) (hr:zcy r.rows.1 r.rows.2 (s 0+s 1-1)) :
 Calls Tryz.prog 57 #[zad s,.agg cs.toArray] w (zaR (zeV s r) w):=by
 obtain ⟨ao6,cap6,ao7,cap7,ao8,cap8,rfl,g6,g7,g8,-⟩:=zbz h;clear h;have HS:=hid hs
 have hall:0≤s 0+s 1∧s 0+s 1≤100:=by
  obtain ⟨h1,_⟩:=hs;unfold Shp3 at h1;omega
 clear hs;obtain ⟨v6,e6,⟨⟨_,_,e6',hm6,hc6⟩,_⟩,_⟩:=g6
 cases e6
 cases e6'
 obtain ⟨v8,e8,⟨_,_,e8',hm8,hc8⟩,hk8⟩:=g8
 cases e8
 cases e8'
 have HC6:=hid hc6;have HC8:=hid hc8;unfold maxLen at hm6 hm8;unfold InP at hg;have HR:=hid hr;clear g7 hc6 hc8 hr hk8;unfold zad
 go_enter Tryz.func57,Tryz.ntmps57
 go_wp2_with fail
 have T0:=zaP w (rwS s).toArray (rwR r ao6 cap6 ao7 cap7 ao8 cap8).toArray 31 71;obtain ⟨W,hW⟩:∃ W,W=(w.alloc (.cells (rwS s).toArray 31)).alloc (.cells (rwR r ao6 cap6 ao7 cap7 ao8 cap8).toArray 71):=⟨_,rfl⟩;rw [← hW] at T0 ⊢;clear hW;have cA:=zas (W:=W) (fun w' _=>zbk s HS.out w');unfold zad at cA;have zW:=T0.b2.lt;have x0_0:W.cell? ⟨w.heap.size,0,none⟩=some (.int .i64 (s 0)):=T0.b1.cell 0;have kx0_0:=cell_regrown x0_0;have x0_1:W.cell? ⟨w.heap.size,1,none⟩=some (.int .i64 (s 1)):=T0.b1.cell 1;have kx0_1:=cell_regrown x0_1;have x0_2:W.cell? ⟨w.heap.size,2,none⟩=some (.int .i64 (s 2)):=T0.b1.cell 2;have kx0_2:=cell_regrown x0_2;have x0_3:W.cell? ⟨w.heap.size,3,none⟩=some (.int .i64 (s 3)):=T0.b1.cell 3;have kx0_3:=cell_regrown x0_3;have x0_4:W.cell? ⟨w.heap.size,4,none⟩=some (.int .i64 (s 4)):=T0.b1.cell 4;have kx0_4:=cell_regrown x0_4;have x0_5:W.cell? ⟨w.heap.size,5,none⟩=some (.int .i64 (s 5)):=T0.b1.cell 5;have kx0_5:=cell_regrown x0_5;have x0_6:W.cell? ⟨w.heap.size,6,none⟩=some (.int .i64 (s 6)):=T0.b1.cell 6;have kx0_6:=cell_regrown x0_6;have x0_7:W.cell? ⟨w.heap.size,7,none⟩=some (.int .i64 (s 7)):=T0.b1.cell 7;have kx0_7:=cell_regrown x0_7;have x0_8:W.cell? ⟨w.heap.size,8,none⟩=some (.int .i64 (s 8)):=T0.b1.cell 8;have kx0_8:=cell_regrown x0_8;have y0_0:W.cell? ⟨w.heap.size+1,0,none⟩=some (.int .i64 r.kind):=T0.b2.cell 0;have ky0_0:=cell_regrown y0_0;have y0_1:W.cell? ⟨w.heap.size+1,1,none⟩=some (.int .i64 r.seq):=T0.b2.cell 1;have ky0_1:=cell_regrown y0_1;have y0_2:W.cell? ⟨w.heap.size+1,2,none⟩=some (.string r.name):=T0.b2.cell 2;have ky0_2:=cell_regrown y0_2;have y0_3:W.cell? ⟨w.heap.size+1,3,none⟩=some (.int .i64 r.length):=T0.b2.cell 3;have ky0_3:=cell_regrown y0_3;have y0_4:W.cell? ⟨w.heap.size+1,4,none⟩=some (.int .i64 r.group):=T0.b2.cell 4;have ky0_4:=cell_regrown y0_4;have y0_5:W.cell? ⟨w.heap.size+1,5,none⟩=some (.int .i64 r.row):=T0.b2.cell 5;have ky0_5:=cell_regrown y0_5;have y0_6:W.cell? ⟨w.heap.size+1,6,none⟩=some (.slice ao6 r.rows.1 cap6):=T0.b2.cell 6;have ky0_6:=cell_regrown y0_6;have y0_7:W.cell? ⟨w.heap.size+1,7,none⟩=some (.slice ao7 r.data.1 cap7):=T0.b2.cell 7;have ky0_7:=cell_regrown y0_7;have y0_8:W.cell? ⟨w.heap.size+1,8,none⟩=some (.slice ao8 r.delta.1 cap8):=T0.b2.cell 8
 have ky0_8:=cell_regrown y0_8;have HT:=hid T0;clear T0
 by_cases hlen:(r.delta.1:Int)=s 0+s 1
 ·obtain ⟨b8,off8,he8,hb8,hcell8⟩:=HC8.out (by omega)
  subst he8;obtain ⟨G,hG⟩:∃ G:Nat,r.group=(G:Int):=⟨r.group.toNat,by omega⟩
  have hGl:G<r.delta.1:=by omega
  have d0:W.cell? ⟨b8,off8+G,none⟩=some (.int .u8 (r.delta.2 G)):=(HT.out.bel.cell (p:=⟨b8,off8+G,none⟩) (by show b8<w.heap.size;omega)).trans (hcell8 G hGl);have kd0:=cell_regrown d0
  have hne:((r.delta.1:Int) != s 0+s 1)=false:=by simpa using hlen
  rw [hG] at y0_4 ky0_4;have HCE:=hid hcell8;have HLEN:=hid hlen;have HG:=hid hG;clear hcell8 hlen hG;obtain ⟨x0,hx0⟩:∃ x,x=r.delta.2 G:=⟨_,rfl⟩;have HX0:=hid hx0;rw [← hx0] at d0 kd0;clear hx0
  by_cases hz:x0=0
  ·subst hz
   refine WQ.region (by kernel_rfl) (by kernel_rfl) ?_
   repeat (first | (apply WQ.skip;(case hw=>rfl);intro K hK;go_simp;apply hK;clear hK K) | (apply WQ.want;(case hw=>rfl);intro K hK;go_simp;first | (apply hK;clear hK K) | (apply Exists.intro;apply And.intro;(case left=>intro p;(first | (go_at_call 31;exact cA _ _)));apply hK;clear hK K)))
   refine WQ.nil ?_;intro w1 hw1;have T1:=HT.out.call (zaB hw1);have H1:=hid T1;clear hw1 T1 d0 kd0;go_wp2
   go_loopw [5] (fun i wr=>∃ k:Nat,k≤r.rows.1∧i=.int .i64 k∧(∀ i,i<k→r.delta.2 (r.rows.2 i).toNat≠0)∧Two w wr (rwS s).toArray (rwR r ao6 cap6 ao7 cap7 (some ⟨b8,off8,none⟩) cap8).toArray 31 71) (fun i _=>r.rows.1-(intOf i).toNat)
   case atStart=>exact ⟨0,Nat.zero_le _,rfl,fun i hi=>by omega,H1.out⟩
   case round=>
    obtain ⟨k,hk,rfl,hal,T2⟩:=hrel;have HAL:=hid hal;have H2:=hid T2;clear hal;have y2_6:wr.cell? ⟨w.heap.size+1,6,none⟩=some (.slice ao6 r.rows.1 cap6):=T2.b2.cell 6;have y2_8:wr.cell? ⟨w.heap.size+1,8,none⟩=some (.slice (some ⟨b8,off8,none⟩) r.delta.1 cap8):=T2.b2.cell 8
    by_cases hlt:k<r.rows.1
    ·obtain ⟨b6,off6,he6,hb6,hcell6⟩:=HC6.out (by omega)
     subst he6;have hrk:=HR.out k hlt;obtain ⟨Y,hY⟩:∃ Y:Nat,r.rows.2 k=(Y:Int):=⟨(r.rows.2 k).toNat,by omega⟩
     have hYl:Y<r.delta.1:=by have:=HLEN.out;omega
     have c6:wr.cell? ⟨b6,off6+k,none⟩=some (.int .i64 (Y:Int)):=by
      rw [← hY];exact (T2.bel.cell (p:=⟨b6,off6+k,none⟩) (by show b6<w.heap.size;omega)).trans (hcell6 k hlt)
     have c8:wr.cell? ⟨b8,off8+Y,none⟩=some (.int .u8 (r.delta.2 Y)):=(T2.bel.cell (p:=⟨b8,off8+Y,none⟩) (by show b8<w.heap.size;omega)).trans (HCE.out Y hYl);have q6:=cell_regrown c6;have q8:=cell_regrown c8;have p6:=cell_regrown y2_6;have p8:=cell_regrown y2_8;have HY:=hid hY;clear hcell6 hrk hY T2;obtain ⟨z0,hz0⟩:∃ x,x=r.delta.2 Y:=⟨_,rfl⟩;have HZ0:=hid hz0;rw [← hz0] at c8 q8;clear hz0
     by_cases hz:z0=0
     ·subst hz
      go_wp2;refine WQ.region (by kernel_rfl) (by kernel_rfl) ?_
      repeat (first | (apply WQ.skip;(case hw=>rfl);intro K hK;go_simp;apply hK;clear hK K) | (apply WQ.want;(case hw=>rfl);intro K hK;go_simp;first | (apply hK;clear hK K) | (apply Exists.intro;apply And.intro;(case left=>intro p;(first | fail));apply hK;clear hK K)))
      refine WQ.nil ?_;intro w3 hw3;have HB3:Hid (Below w.heap.size w w3):=(H2.out.call (zaB hw3)).bel;clear hw3;go_wp2;go_ret;exact zai rfl (fun h=>h.2.2 k hlt (by rw [HY.out];exact HZ0.out.symm)) HB3.out
     ·have hz':((z0:Int)==0)=false:=by simp;omega
      go_wp2;refine WQ.region (by kernel_rfl) (by kernel_rfl) ?_
      repeat (first | (apply WQ.skip;(case hw=>rfl);intro K hK;go_simp;apply hK;clear hK K) | (apply WQ.want;(case hw=>rfl);intro K hK;go_simp;first | (apply hK;clear hK K) | (apply Exists.intro;apply And.intro;(case left=>intro p;(first | fail));apply hK;clear hK K)))
      refine WQ.nil ?_;intro w3 hw3;have HT3:=hid (H2.out.call (zaB hw3));clear hw3;go_wp2
      go_roundw
      case rel=>exact ⟨k+1,by omega,by go_num,fun i hi=>by
       by_cases c:i=k
       ·subst c
        rw [HY.out,Int.toNat_natCast,← HZ0.out];exact hz
       ·exact HAL.out i (by omega),HT3.out⟩
      case measure=>simp [intOf];omega
    ·obtain rfl:k=r.rows.1:=by omega
     go_wp2;go_ret;exact zam rfl ⟨HLEN.out,by rw [HG.out,Int.toNat_natCast];exact HX0.out.symm,HAL.out⟩ H2.out.bel
  ·have hz':((x0:Int) != 0)=true:=by simp;omega
   refine WQ.region (by kernel_rfl) (by kernel_rfl) ?_
   repeat (first | (apply WQ.skip;(case hw=>rfl);intro K hK;go_simp;apply hK;clear hK K) | (apply WQ.want;(case hw=>rfl);intro K hK;go_simp;first | (apply hK;clear hK K) | (apply Exists.intro;apply And.intro;(case left=>intro p;(first | (go_at_call 31;exact cA _ _)));apply hK;clear hK K)))
   refine WQ.nil ?_;intro w1 hw1;have HB1:Hid (Below w.heap.size w w1):=(HT.out.call (zaB hw1)).bel;clear hw1 d0 kd0;go_wp2;go_ret;exact zai rfl (fun h=>hz (by rw [HX0.out,← h.2.1,HG.out,Int.toNat_natCast])) HB1.out
 ·have hne:((r.delta.1:Int) != s 0+s 1)=true:=by simpa using hlen
  have HN:=hid hlen;clear hlen;refine WQ.region (by kernel_rfl) (by kernel_rfl) ?_
  repeat (first | (apply WQ.skip;(case hw=>rfl);intro K hK;go_simp;apply hK;clear hK K) | (apply WQ.want;(case hw=>rfl);intro K hK;go_simp;first | (apply hK;clear hK K) | (apply Exists.intro;apply And.intro;(case left=>intro p;(first | (go_at_call 31;exact cA _ _)));apply hK;clear hK K)))
  refine WQ.nil ?_;intro w1 hw1;have HB1:Hid (Below w.heap.size w w1):=(HT.out.call (zaB hw1)).bel;clear hw1;go_wp2;go_ret;exact zai rfl (fun h=>HN.out h.1) HB1.out
theorem zhT (s:Nat→Int) (hs:zaj s) (r:RecD) (cs:List Value) (hi:Nat) (w:World) (h:zan.rd w hi r cs) (hhi:hi≤w.heap.size) :
 Calls Tryz.prog 54 #[zad s,.agg cs.toArray] w (zaR (zbf s r) w):=by
 obtain ⟨ao6,cap6,ao7,cap7,ao8,cap8,rfl,g6,g7,g8,-,-,-,hl,-⟩:=zbz h;clear h g7 g8
 have hs2:1≤s 2∧s 2≤3∧1≤s 4∧s 4≤6:=by
  obtain ⟨_,h2,h3,_⟩:=hs;unfold Shp at h2;omega
 obtain ⟨v6,e6,⟨h6,hcp6⟩,_⟩:=g6
 cases e6
 have H6:=hid h6;have HCP:=hid hcp6;have hm6:=h6.mx;unfold maxLen at hm6;clear h6 hcp6;have T0:=zaP w (rwS s).toArray (rwR r ao6 cap6 ao7 cap7 ao8 cap8).toArray 31 71;have CLong:=fun w'=>zhS s (by omega) (by omega) r.length w';have HIT:Hid (zbf s r↔zbf s r):=Iff.rfl;unfold zad;unfold zad at CLong
 go_enter Tryz.func54,Tryz.ntmps54
 by_cases hl1:r.length=-1
 ·have HL:=hid hl1
  have e1:(r.length==-1)=true:=by simp [hl1]
  have HB:=hid T0.bel;clear T0 CLong hl1;obtain ⟨b0,h0⟩:∃ b,((r.data.1:Int)==0)=b:=⟨_,rfl⟩;obtain ⟨b1,h1⟩:∃ b,((r.rows.1:Int)==0)=b:=⟨_,rfl⟩
  have HE:Hid (zbf s r↔(b0=true∧b1=true)):=by
   show zbf s r↔_
   rw [← h0,← h1];unfold zbf
   simp [HL.out]
  have hst:b0=false∨(b0=true∧b1=false)∨(b0=true∧b1=true):=by
   clear HE h0 h1
   cases b0<;>simp
  rcases hst with rfl | ⟨rfl,rfl⟩ | ⟨rfl,rfl⟩
  all_goals
   go_wp2;go_ret
   first
    | exact zai rfl (fun h=>by have:=HE.out.1 h;simp at this) HB.out
    | exact zam rfl (HE.out.2 (by simp)) HB.out
 ·have e1:(r.length==-1)=false:=by simp [hl1]
  have HL:=hid hl1;clear hl1
  go_wp2_with fail
  refine (CLong _).mono ?_;rintro e w1 ⟨c,rfl,hc,b1⟩;have T1:Two w w1 (rwS s).toArray (rwR r ao6 cap6 ao7 cap7 ao8 cap8).toArray 31 71:=T0.call b1;clear b1 T0 CLong;have HT1:=hid T1;have x1_0:w1.cell? ⟨w.heap.size,0,none⟩=some (.int .i64 (s 0)):=T1.b1.cell 0;have kx1_0:=cell_regrown x1_0;have x1_1:w1.cell? ⟨w.heap.size,1,none⟩=some (.int .i64 (s 1)):=T1.b1.cell 1;have kx1_1:=cell_regrown x1_1;have x1_2:w1.cell? ⟨w.heap.size,2,none⟩=some (.int .i64 (s 2)):=T1.b1.cell 2;have kx1_2:=cell_regrown x1_2;have x1_3:w1.cell? ⟨w.heap.size,3,none⟩=some (.int .i64 (s 3)):=T1.b1.cell 3;have kx1_3:=cell_regrown x1_3;have x1_4:w1.cell? ⟨w.heap.size,4,none⟩=some (.int .i64 (s 4)):=T1.b1.cell 4;have kx1_4:=cell_regrown x1_4;have x1_5:w1.cell? ⟨w.heap.size,5,none⟩=some (.int .i64 (s 5)):=T1.b1.cell 5;have kx1_5:=cell_regrown x1_5;have x1_6:w1.cell? ⟨w.heap.size,6,none⟩=some (.int .i64 (s 6)):=T1.b1.cell 6;have kx1_6:=cell_regrown x1_6;have x1_7:w1.cell? ⟨w.heap.size,7,none⟩=some (.int .i64 (s 7)):=T1.b1.cell 7;have kx1_7:=cell_regrown x1_7;have x1_8:w1.cell? ⟨w.heap.size,8,none⟩=some (.int .i64 (s 8)):=T1.b1.cell 8;have kx1_8:=cell_regrown x1_8;have y1_0:w1.cell? ⟨w.heap.size+1,0,none⟩=some (.int .i64 r.kind):=T1.b2.cell 0;have ky1_0:=cell_regrown y1_0;have y1_1:w1.cell? ⟨w.heap.size+1,1,none⟩=some (.int .i64 r.seq):=T1.b2.cell 1;have ky1_1:=cell_regrown y1_1;have y1_2:w1.cell? ⟨w.heap.size+1,2,none⟩=some (.string r.name):=T1.b2.cell 2;have ky1_2:=cell_regrown y1_2;have y1_3:w1.cell? ⟨w.heap.size+1,3,none⟩=some (.int .i64 r.length):=T1.b2.cell 3;have ky1_3:=cell_regrown y1_3;have y1_4:w1.cell? ⟨w.heap.size+1,4,none⟩=some (.int .i64 r.group):=T1.b2.cell 4;have ky1_4:=cell_regrown y1_4;have y1_5:w1.cell? ⟨w.heap.size+1,5,none⟩=some (.int .i64 r.row):=T1.b2.cell 5;have ky1_5:=cell_regrown y1_5;have y1_6:w1.cell? ⟨w.heap.size+1,6,none⟩=some (.slice ao6 r.rows.1 cap6):=T1.b2.cell 6;have ky1_6:=cell_regrown y1_6;have y1_7:w1.cell? ⟨w.heap.size+1,7,none⟩=some (.slice ao7 r.data.1 cap7):=T1.b2.cell 7;have ky1_7:=cell_regrown y1_7;have y1_8:w1.cell? ⟨w.heap.size+1,8,none⟩=some (.slice ao8 r.delta.1 cap8):=T1.b2.cell 8;have ky1_8:=cell_regrown y1_8
  clear T1
  by_cases hok:1≤r.length∧r.length≤3*(s 2*4)
  ·obtain rfl:c=0:=by omega
   have HOK:=hid hok;clear hc
   by_cases hd:0<r.data.1
   ·have d1:decide (0<(r.data.1:Int))=true:=by simp;omega
    obtain ⟨b0,h0⟩:∃ b,((r.data.1:Int)==r.length)=b:=⟨_,rfl⟩;obtain ⟨b1,h1⟩:∃ b,((r.rows.1:Int)==0)=b:=⟨_,rfl⟩
    have HE:Hid (zbf s r↔(b0=true∧b1=true)):=by
     show zbf s r↔_
     rw [← h0,← h1];unfold zbf;have:=HL.out;have:=HOK.out
     constructor
     ·rintro (h | ⟨_,_,_,h | h⟩)
      ·omega
      ·simp;omega
      ·omega
     ·intro h
      simp at h
      exact .inr ⟨by omega,by omega,by omega,.inl ⟨hd,h.1,h.2⟩⟩
    have HD:=hid hd
    have hst:b0=false∨(b0=true∧b1=false)∨(b0=true∧b1=true):=by
     clear HE h0 h1
     cases b0<;>simp
    clear hd hok
    rcases hst with rfl | ⟨rfl,rfl⟩ | ⟨rfl,rfl⟩
    all_goals
     go_wp2;go_ret
     first
      | exact zai rfl (fun h=>by have:=HE.out.1 h;simp at this) HT1.out.bel
      | exact zam rfl (HE.out.2 (by simp)) HT1.out.bel
   ·have d1:decide (0<(r.data.1:Int))=false:=by simp;omega
    have hd0:r.data.1=0:=by omega
    obtain ⟨S,hS⟩:∃ S,S=(r.length+s 2*4-1)/(s 2*4):=⟨_,rfl⟩;have HSV:=hid hS
    have hlb:r.length≤1000000000:=by omega
    have cP:=zas (W:=w1) (fun w' _=>zgF s (by omega) (by omega) r.length (by omega) (by omega) w');unfold zad at cP;rw [← hS] at cP;obtain ⟨t2,h2⟩:=exB (zbB r.rows.1 r.rows.2 (s 4-1));have cQ:=zas (W:=w1) (fun w' hw'=>zbo (zbT _ r.rows.1 r.rows.2 hi (s 4-1) w' ((H6.out.below HT1.out.bel hhi).below hw' (Nat.le_trans hhi HT1.out.bel.size)) HCP.out (Nat.le_trans hhi (Nat.le_trans HT1.out.bel.size hw'.size))) h2);obtain ⟨b0,h0⟩:∃ b,((r.rows.1:Int)==S)=b:=⟨_,rfl⟩
    have HE:Hid (zbf s r↔(b0=true∧t2=true)):=by
     show zbf s r↔_
     rw [← h0,h2,hS];unfold zbf;have:=HL.out;have:=HOK.out
     constructor
     ·rintro (h | ⟨_,_,_,h | h⟩)
      ·omega
      ·omega
      ·exact ⟨by simpa using h.2.1,h.2.2⟩
     ·intro h
      exact .inr ⟨by omega,by omega,by omega,.inr ⟨hd0,by simpa using h.1,h.2⟩⟩
    have HD:=hid hd
    have hst:b0=false∨(b0=true∧t2=false)∨(b0=true∧t2=true):=by
     clear HE h0 h2 cQ
     cases b0<;>simp
    have hw4:IntKind.i64.wrap (s 4-1)=s 4-1:=by rw [IntKind.wrap_i64];omega
    clear hd hok hS h2 hd0;go_wp2
    rcases hst with rfl | ⟨rfl,rfl⟩ | ⟨rfl,rfl⟩
    all_goals
     refine WQ.region (by kernel_rfl) (by kernel_rfl) ?_
     repeat (first | (apply WQ.skip;(case hw=>rfl);intro K hK;go_simp;apply hK;clear hK K) | (apply WQ.want;(case hw=>rfl);intro K hK;go_simp;first | (apply hK;clear hK K) | (apply Exists.intro;apply And.intro;(case left=>intro p;(first | (go_at_call 84;exact cP _ _) | (go_at_call 30;exact cQ _ _)));apply hK;clear hK K)))
     refine WQ.nil ?_;intro w2 hw2;have HB2:Hid (Below w.heap.size w w2):=(HT1.out.call (zaB hw2)).bel;clear hw2;go_wp2;go_ret
     first
      | exact zai rfl (fun h=>by have:=HE.out.1 h;simp at this) HB2.out
      | exact zam rfl (HE.out.2 (by simp)) HB2.out
  ·have hc0:(c != 0)=true:=by
    have:c≠0:=by omega
    simp [this]
   have HNO:Hid (¬ zbf s r):=fun h=>by
    have:=HL.out;unfold zbf at h;omega
   clear hc hok;go_wp2;go_ret;exact zai rfl HNO.out HT1.out.bel
def zeY (s:Nat→Int) (r:RecD) (w:World) (e:Ending) (w':World):Prop:=∃ x,e=.returned (.int .i64 x)∧RecAns s r x∧Below w.heap.size w w'
theorem recP {s:Nat→Int} {r:RecD} {w:World} {e:Ending} {w':World} {x:Int} (he:e=.returned (.int .i64 x)) (h:RecAns s r x) (hb:Below w.heap.size w w'):zeY s r w e w':=⟨x,he,h,hb⟩
theorem exBT {P:Prop} (h:P):true=true↔P:=⟨fun _=>h,fun _=>rfl⟩
theorem exBF {P:Prop} (h:¬ P):false=true↔P:=⟨fun h=>(by cases h),fun hh=>absurd hh h⟩
set_option maxRecDepth 20000 in
theorem zgG (s:Nat→Int) (r:RecD) (cs:List Value) (hi:Nat) (w:World) (h:zan.rd w hi r cs) (hhi:hi≤w.heap.size) (hnm:r.name.size≤1048576) :
 Calls Tryz.prog 32 #[zad s,.agg cs.toArray] w (zeY s r w):=by
 obtain ⟨kind,seq,name,length,group,row,rows,data,delta⟩:=r;obtain ⟨ao6,cap6,ao7,cap7,ao8,cap8,rfl,g6,g7,g8,k0,k1,k2,k3,k4,k5⟩:=zbz h;have HRD:=hid h;obtain ⟨v6,e6,⟨h6,hcp6⟩,_⟩:=g6
 cases e6
 have H6:=hid h6;have hm6:rows.1≤maxLen:=h6.mx;obtain ⟨v7,e7,⟨_,_,e7',hm7,_⟩,_⟩:=g7
 cases e7
 cases e7'
 obtain ⟨v8,e8,⟨_,_,e8',hm8,_⟩,_⟩:=g8
 cases e8
 cases e8'
 unfold maxLen at hm6 hm7 hm8
 simp only at k0 k1 k2 k3 k4 k5 hm6 hm7 hm8 hnm
 clear h h6 hcp6;have T0:=zaP w (rwS s).toArray #[.int .i64 kind,.int .i64 seq,.string name,.int .i64 length,.int .i64 group,.int .i64 row,.slice ao6 rows.1 cap6,.slice ao7 data.1 cap7,.slice ao8 delta.1 cap8] 31 71;have CSh:=fun w'=>za4 s w';unfold zad at CSh ⊢
 go_enter Tryz.func32,Tryz.ntmps32
 go_wp2_with fail
 refine (CSh _).mono ?_;rintro e w1 ⟨x,rfl,hx,b1⟩;have T1:Two w w1 (rwS s).toArray #[.int .i64 kind,.int .i64 seq,.string name,.int .i64 length,.int .i64 group,.int .i64 row,.slice ao6 rows.1 cap6,.slice ao7 data.1 cap7,.slice ao8 delta.1 cap8] 31 71:=T0.call b1;have HT1:=hid T1;have z1:w.heap.size+1<w1.heap.size:=T1.b2.lt;clear b1 T0 CSh;have x1_0:w1.cell? ⟨w.heap.size,0,none⟩=some (.int .i64 (s 0)):=T1.b1.cell 0;have x1_1:w1.cell? ⟨w.heap.size,1,none⟩=some (.int .i64 (s 1)):=T1.b1.cell 1;have x1_2:w1.cell? ⟨w.heap.size,2,none⟩=some (.int .i64 (s 2)):=T1.b1.cell 2;have x1_3:w1.cell? ⟨w.heap.size,3,none⟩=some (.int .i64 (s 3)):=T1.b1.cell 3;have x1_4:w1.cell? ⟨w.heap.size,4,none⟩=some (.int .i64 (s 4)):=T1.b1.cell 4;have x1_5:w1.cell? ⟨w.heap.size,5,none⟩=some (.int .i64 (s 5)):=T1.b1.cell 5;have x1_6:w1.cell? ⟨w.heap.size,6,none⟩=some (.int .i64 (s 6)):=T1.b1.cell 6;have x1_7:w1.cell? ⟨w.heap.size,7,none⟩=some (.int .i64 (s 7)):=T1.b1.cell 7;have x1_8:w1.cell? ⟨w.heap.size,8,none⟩=some (.int .i64 (s 8)):=T1.b1.cell 8;have y1_0:w1.cell? ⟨w.heap.size+1,0,none⟩=some (.int .i64 kind):=T1.b2.cell 0;have y1_1:w1.cell? ⟨w.heap.size+1,1,none⟩=some (.int .i64 seq):=T1.b2.cell 1;have y1_2:w1.cell? ⟨w.heap.size+1,2,none⟩=some (.string name):=T1.b2.cell 2;have y1_3:w1.cell? ⟨w.heap.size+1,3,none⟩=some (.int .i64 length):=T1.b2.cell 3;have y1_4:w1.cell? ⟨w.heap.size+1,4,none⟩=some (.int .i64 group):=T1.b2.cell 4;have y1_5:w1.cell? ⟨w.heap.size+1,5,none⟩=some (.int .i64 row):=T1.b2.cell 5;have y1_6:w1.cell? ⟨w.heap.size+1,6,none⟩=some (.slice ao6 rows.1 cap6):=T1.b2.cell 6;have y1_7:w1.cell? ⟨w.heap.size+1,7,none⟩=some (.slice ao7 data.1 cap7):=T1.b2.cell 7;have y1_8:w1.cell? ⟨w.heap.size+1,8,none⟩=some (.slice ao8 delta.1 cap8):=T1.b2.cell 8;clear T1
 rcases hx with ⟨rfl,hno⟩ | ⟨rfl,hok⟩
 ·go_wp2
  go_ret;exact recP rfl (Stair.fall hno) HT1.out.bel
 have HOK:=hid hok
 have hsb:1≤s 0∧s 0≤4∧0≤s 1∧s 1≤2∧1≤s 2∧s 2≤3∧1≤s 4∧s 4≤6:=by
  obtain ⟨h1,h2,h3,_⟩:=hok;unfold Shp3 at h1;unfold Shp at h2;omega
 clear hok
 by_cases hk:InP kind 1 4
 ·go_wp2_with fail
  refine (zbE (t:=true) (exBT hk) _).mono ?_;rintro e w' ⟨rfl,hw'⟩;obtain rfl:=hw'.symm
  by_cases hq:InP seq 1 1000000000
  ·go_wp2_with fail
   refine (zbE (t:=true) (exBT hq) _).mono ?_;rintro e w' ⟨rfl,hw'⟩;obtain rfl:=hw'.symm;have HK:=hid hk;have HQ:=hid hq
   go_upto_region 9 with fail
   have bA:=bAl w1 (.cells #[.int .i64 kind,.int .i64 seq,.string name,.int .i64 length,.int .i64 group,.int .i64 row,.slice ao6 rows.1 cap6,.slice ao7 data.1 cap7,.slice ao8 delta.1 cap8] 71);have T2:Two w (w1.alloc (.cells #[.int .i64 kind,.int .i64 seq,.string name,.int .i64 length,.int .i64 group,.int .i64 row,.slice ao6 rows.1 cap6,.slice ao7 data.1 cap7,.slice ao8 delta.1 cap8] 71)) (rwS s).toArray #[.int .i64 kind,.int .i64 seq,.string name,.int .i64 length,.int .i64 group,.int .i64 row,.slice ao6 rows.1 cap6,.slice ao7 data.1 cap7,.slice ao8 delta.1 cap8] 31 71:=HT1.out.call bA;have X2:=zaD w1 #[.int .i64 kind,.int .i64 seq,.string name,.int .i64 length,.int .i64 group,.int .i64 row,.slice ao6 rows.1 cap6,.slice ao7 data.1 cap7,.slice ao8 delta.1 cap8] 71;obtain ⟨W2,hW2⟩:∃ W2,W2=w1.alloc (.cells #[.int .i64 kind,.int .i64 seq,.string name,.int .i64 length,.int .i64 group,.int .i64 row,.slice ao6 rows.1 cap6,.slice ao7 data.1 cap7,.slice ao8 delta.1 cap8] 71):=⟨_,rfl⟩;rw [← hW2] at T2 X2 ⊢;have HT2:=hid T2;have HX2:=hid X2;clear bA hW2 x1_0 y1_0 x1_1 y1_1 x1_2 y1_2 x1_3 y1_3 x1_4 y1_4 x1_5 y1_5 x1_6 y1_6 x1_7 y1_7 x1_8 y1_8;have x2_0:W2.cell? ⟨w.heap.size,0,none⟩=some (.int .i64 (s 0)):=T2.b1.cell 0;have kx2_0:=cell_regrown x2_0;have x2_1:W2.cell? ⟨w.heap.size,1,none⟩=some (.int .i64 (s 1)):=T2.b1.cell 1;have kx2_1:=cell_regrown x2_1;have x2_2:W2.cell? ⟨w.heap.size,2,none⟩=some (.int .i64 (s 2)):=T2.b1.cell 2;have kx2_2:=cell_regrown x2_2;have x2_3:W2.cell? ⟨w.heap.size,3,none⟩=some (.int .i64 (s 3)):=T2.b1.cell 3;have kx2_3:=cell_regrown x2_3;have x2_4:W2.cell? ⟨w.heap.size,4,none⟩=some (.int .i64 (s 4)):=T2.b1.cell 4;have kx2_4:=cell_regrown x2_4;have x2_5:W2.cell? ⟨w.heap.size,5,none⟩=some (.int .i64 (s 5)):=T2.b1.cell 5;have kx2_5:=cell_regrown x2_5;have x2_6:W2.cell? ⟨w.heap.size,6,none⟩=some (.int .i64 (s 6)):=T2.b1.cell 6;have kx2_6:=cell_regrown x2_6;have x2_7:W2.cell? ⟨w.heap.size,7,none⟩=some (.int .i64 (s 7)):=T2.b1.cell 7
   have kx2_7:=cell_regrown x2_7;have x2_8:W2.cell? ⟨w.heap.size,8,none⟩=some (.int .i64 (s 8)):=T2.b1.cell 8;have kx2_8:=cell_regrown x2_8;have y2_0:W2.cell? ⟨w.heap.size+1,0,none⟩=some (.int .i64 kind):=T2.b2.cell 0;have ky2_0:=cell_regrown y2_0;have y2_1:W2.cell? ⟨w.heap.size+1,1,none⟩=some (.int .i64 seq):=T2.b2.cell 1;have ky2_1:=cell_regrown y2_1;have y2_2:W2.cell? ⟨w.heap.size+1,2,none⟩=some (.string name):=T2.b2.cell 2;have ky2_2:=cell_regrown y2_2;have y2_3:W2.cell? ⟨w.heap.size+1,3,none⟩=some (.int .i64 length):=T2.b2.cell 3;have ky2_3:=cell_regrown y2_3;have y2_4:W2.cell? ⟨w.heap.size+1,4,none⟩=some (.int .i64 group):=T2.b2.cell 4;have ky2_4:=cell_regrown y2_4;have y2_5:W2.cell? ⟨w.heap.size+1,5,none⟩=some (.int .i64 row):=T2.b2.cell 5;have ky2_5:=cell_regrown y2_5;have y2_6:W2.cell? ⟨w.heap.size+1,6,none⟩=some (.slice ao6 rows.1 cap6):=T2.b2.cell 6;have ky2_6:=cell_regrown y2_6;have y2_7:W2.cell? ⟨w.heap.size+1,7,none⟩=some (.slice ao7 data.1 cap7):=T2.b2.cell 7;have ky2_7:=cell_regrown y2_7;have y2_8:W2.cell? ⟨w.heap.size+1,8,none⟩=some (.slice ao8 delta.1 cap8):=T2.b2.cell 8;have ky2_8:=cell_regrown y2_8;have z2_0:W2.cell? ⟨w1.heap.size,0,none⟩=some (.int .i64 kind):=X2.cell 0;have f2_0:W2.frozen? ⟨w1.heap.size,0,none⟩=false:=X2.frozen 0;have z2_1:W2.cell? ⟨w1.heap.size,1,none⟩=some (.int .i64 seq):=X2.cell 1;have f2_1:W2.frozen? ⟨w1.heap.size,1,none⟩=false:=X2.frozen 1;have z2_2:W2.cell? ⟨w1.heap.size,2,none⟩=some (.string name):=X2.cell 2;have f2_2:W2.frozen? ⟨w1.heap.size,2,none⟩=false:=X2.frozen 2;have z2_3:W2.cell? ⟨w1.heap.size,3,none⟩=some (.int .i64 length):=X2.cell 3;have f2_3:W2.frozen? ⟨w1.heap.size,3,none⟩=false:=X2.frozen 3;have z2_4:W2.cell? ⟨w1.heap.size,4,none⟩=some (.int .i64 group):=X2.cell 4;have f2_4:W2.frozen? ⟨w1.heap.size,4,none⟩=false:=X2.frozen 4;have z2_5:W2.cell? ⟨w1.heap.size,5,none⟩=some (.int .i64 row):=X2.cell 5;have f2_5:W2.frozen? ⟨w1.heap.size,5,none⟩=false:=X2.frozen 5;have z2_6:W2.cell? ⟨w1.heap.size,6,none⟩=some (.slice ao6 rows.1 cap6):=X2.cell 6;have f2_6:W2.frozen? ⟨w1.heap.size,6,none⟩=false:=X2.frozen 6;have z2_7:W2.cell? ⟨w1.heap.size,7,none⟩=some (.slice ao7 data.1 cap7):=X2.cell 7;have f2_7:W2.frozen? ⟨w1.heap.size,7,none⟩=false:=X2.frozen 7;have z2_8:W2.cell? ⟨w1.heap.size,8,none⟩=some (.slice ao8 delta.1 cap8):=X2.cell 8;have f2_8:W2.frozen? ⟨w1.heap.size,8,none⟩=false:=X2.frozen 8;clear T2 X2
   have hk4:kind=1∨kind=2∨kind=3∨kind=4:=by unfold InP at hk;omega
   have ws0:IntKind.i64.wrap (s 0-1)=s 0-1:=by rw [IntKind.wrap_i64];omega
   have ws4:IntKind.i64.wrap (s 4-1)=s 4-1:=by rw [IntKind.wrap_i64];omega
   have wsA:IntKind.i64.wrap (s 0+s 1-1)=s 0+s 1-1:=by rw [IntKind.wrap_i64];omega
   clear hk hq
   rcases hk4 with rfl | rfl | rfl | rfl
   ·go_wp2_with fail
    refine (zfL name hnm _).mono ?_;rintro e w' ⟨x,rfl,hx,hw'⟩;obtain rfl:=hw'.symm
    rcases hx with ⟨rfl,hno⟩ | ⟨rfl,hyes⟩
    ·go_wp2
     go_ret;exact recP rfl (Stair.pass HOK.out (Stair.pass HK.out (Stair.pass HQ.out (Stair.fall (fun h=>hno (h rfl)))))) HT2.out.bel
    ·have HN:Hid (zdb ⟨1,seq,name,length,group,row,rows,data,delta⟩):=fun _=>hyes
     clear hyes;obtain ⟨t3,h3⟩:=exB (zbf s ⟨1,seq,name,length,group,row,rows,data,delta⟩);have CI:=zbo (zhT s HOK.out ⟨1,seq,name,length,group,row,rows,data,delta⟩ _ hi W2 (zan.rd_below HRD.out HT2.out.bel hhi) (Nat.le_trans hhi HT2.out.bel.size)) h3;unfold zad at CI
     go_wp2_with fail
     refine CI.mono ?_;rintro e w3 ⟨rfl,b3⟩;have X3:Box w3 w1.heap.size #[.int .i64 1,.int .i64 seq,.string name,.int .i64 length,.int .i64 group,.int .i64 row,.slice ao6 rows.1 cap6,.slice ao7 data.1 cap7,.slice ao8 delta.1 cap8] 71:=HX2.out.call b3;have HB3:Hid (Below w.heap.size w w3):=(HT2.out.call b3).bel;have z3_0:w3.cell? ⟨w1.heap.size,0,none⟩=some (.int .i64 1):=X3.cell 0;have f3_0:w3.frozen? ⟨w1.heap.size,0,none⟩=false:=X3.frozen 0;have z3_1:w3.cell? ⟨w1.heap.size,1,none⟩=some (.int .i64 seq):=X3.cell 1;have f3_1:w3.frozen? ⟨w1.heap.size,1,none⟩=false:=X3.frozen 1;have z3_2:w3.cell? ⟨w1.heap.size,2,none⟩=some (.string name):=X3.cell 2;have f3_2:w3.frozen? ⟨w1.heap.size,2,none⟩=false:=X3.frozen 2;have z3_3:w3.cell? ⟨w1.heap.size,3,none⟩=some (.int .i64 length):=X3.cell 3;have f3_3:w3.frozen? ⟨w1.heap.size,3,none⟩=false:=X3.frozen 3;have z3_4:w3.cell? ⟨w1.heap.size,4,none⟩=some (.int .i64 group):=X3.cell 4;have f3_4:w3.frozen? ⟨w1.heap.size,4,none⟩=false:=X3.frozen 4;have z3_5:w3.cell? ⟨w1.heap.size,5,none⟩=some (.int .i64 row):=X3.cell 5;have f3_5:w3.frozen? ⟨w1.heap.size,5,none⟩=false:=X3.frozen 5;have z3_6:w3.cell? ⟨w1.heap.size,6,none⟩=some (.slice ao6 rows.1 cap6):=X3.cell 6;have f3_6:w3.frozen? ⟨w1.heap.size,6,none⟩=false:=X3.frozen 6;have z3_7:w3.cell? ⟨w1.heap.size,7,none⟩=some (.slice ao7 data.1 cap7):=X3.cell 7;have f3_7:w3.frozen? ⟨w1.heap.size,7,none⟩=false:=X3.frozen 7;have z3_8:w3.cell? ⟨w1.heap.size,8,none⟩=some (.slice ao8 delta.1 cap8):=X3.cell 8;have f3_8:w3.frozen? ⟨w1.heap.size,8,none⟩=false:=X3.frozen 8;clear X3 b3;clear x2_0 kx2_0 y2_0 ky2_0 z2_0 f2_0 x2_1 kx2_1 y2_1 ky2_1 z2_1 f2_1 x2_2 kx2_2 y2_2 ky2_2 z2_2 f2_2 x2_3 kx2_3 y2_3 ky2_3 z2_3 f2_3 x2_4 kx2_4 y2_4 ky2_4 z2_4 f2_4 x2_5 kx2_5 y2_5 ky2_5 z2_5 f2_5 x2_6 kx2_6 y2_6 ky2_6 z2_6 f2_6 x2_7 kx2_7 y2_7 ky2_7 z2_7 f2_7 x2_8 kx2_8 y2_8 ky2_8 z2_8 f2_8 CI;have H3:=hid h3;clear h3
     cases t3 with
     | false=>
      go_wp2;go_ret
      exact recP rfl (Stair.pass HOK.out (Stair.pass HK.out (Stair.pass HQ.out (Stair.pass HN.out (Stair.fall (fun h=>by
       have:zbf s ⟨1,seq,name,length,group,row,rows,data,delta⟩:=by
        unfold za1 at h
        simpa using h
       have:=H3.out.2 this
       simp at this)))))) HB3.out
     | true=>
      have HKP:Hid (za1 s ⟨1,seq,name,length,group,row,rows,data,delta⟩):=.inl ⟨rfl,H3.out.1 (by simp)⟩
      go_wp2_with fail
      refine (zcc _ _ _ _ _ _ _ _ _ _ _ _ _ _ _ _).mono ?_;rintro e w9 ⟨t9,rfl,ht9,b9⟩
      have HB9:Hid (Below w.heap.size w w9):=by
       show Below w.heap.size w w9
       refine Below.trans ?_ (b9.mono ?_)
       ·repeat (refine zc8 ?_ (by omega))
        exact HB3.out
       ·simp
        exact HB3.out.size
      clear b9
      have HT9:Hid (t9=true↔zaX ⟨1,seq,name,length,group,row,rows,data,delta⟩):=by
       show t9=true↔zaX ⟨1,seq,name,length,group,row,rows,data,delta⟩
       rw [ht9];unfold zbW zaX zcA
       simp [and_assoc]
       try (intros;rfl)
      clear ht9
      cases t9 with
      | false=>
       go_wp2;go_ret;exact recP rfl (Stair.pass HOK.out (Stair.pass HK.out (Stair.pass HQ.out (Stair.pass HN.out (Stair.pass HKP.out (Stair.fall (fun h=>by have:=HT9.out.2 h;simp at this))))))) HB9.out
      | true=>
       go_wp2;go_ret;exact recP rfl (Stair.pass HOK.out (Stair.pass HK.out (Stair.pass HQ.out (Stair.pass HN.out (Stair.pass HKP.out (Stair.pass (HT9.out.1 (by simp)) (Stair.last rfl))))))) HB9.out
   ·have HN:Hid (zdb ⟨2,seq,name,length,group,row,rows,data,delta⟩):=fun h=>by simp at h
    obtain ⟨t1,h1⟩:=exB (InP group 0 (s 0-1));obtain ⟨t2,h2⟩:=exB (InP row 0 (s 4-1));obtain ⟨b3',h3⟩:∃ b,((data.1:Int) != s 2*4)=b:=⟨_,rfl⟩;obtain ⟨b4',h4⟩:∃ b,((delta.1:Int) != s 2*4)=b:=⟨_,rfl⟩;have cG:=zeB (W:=W2) (fun w'=>zbE h1 w');have cR:=zeB (W:=W2) (fun w'=>zbE h2 w');have cW:=zas (W:=W2) (fun w' _=>zcJ s (by omega) (by omega) w');unfold zad at cW
    have HE:Hid (za1 s ⟨2,seq,name,length,group,row,rows,data,delta⟩↔(t1=true∧t2=true∧b3'=false∧b4'=false)):=by
     show za1 s ⟨2,seq,name,length,group,row,rows,data,delta⟩↔_
     rw [h1,h2,← h3,← h4];unfold za1 zjS
     simp
    have hst:(t1=false)∨(t1=true∧t2=false)∨(t1=true∧t2=true∧b3'=true)∨(t1=true∧t2=true∧b3'=false∧b4'=true)∨(t1=true∧t2=true∧b3'=false∧b4'=false):=by
     clear HE h1 h2 h3 h4 cG cR
     cases t1<;>simp
     cases t2<;>simp
     cases b3'<;>simp
    clear h1 h2;go_wp2
    rcases hst with rfl | ⟨rfl,rfl⟩ | ⟨rfl,rfl,rfl⟩ | ⟨rfl,rfl,rfl,rfl⟩ | ⟨rfl,rfl,rfl,rfl⟩
    all_goals
     refine WQ.region (by kernel_rfl) (by kernel_rfl) ?_
     repeat (first | (apply WQ.skip;(case hw=>rfl);intro K hK;go_simp;apply hK;clear hK K) | (apply WQ.want;(case hw=>rfl);intro K hK;go_simp;first | (apply hK;clear hK K) | (apply Exists.intro;apply And.intro;(case left=>intro p;(first | (go_at_call_of 33 (Value.int .i64 group);exact cG _ _) | (go_at_call_of 33 (Value.int .i64 row);exact cR _ _) | (go_at_call 55;exact cW _ _)));apply hK;clear hK K)))
     refine WQ.nil ?_;intro w3 hw3;have b3:=zaB hw3;have X3:Box w3 w1.heap.size #[.int .i64 2,.int .i64 seq,.string name,.int .i64 length,.int .i64 group,.int .i64 row,.slice ao6 rows.1 cap6,.slice ao7 data.1 cap7,.slice ao8 delta.1 cap8] 71:=HX2.out.call b3;have HB3:Hid (Below w.heap.size w w3):=(HT2.out.call b3).bel;have z3_0:w3.cell? ⟨w1.heap.size,0,none⟩=some (.int .i64 2):=X3.cell 0;have f3_0:w3.frozen? ⟨w1.heap.size,0,none⟩=false:=X3.frozen 0;have z3_1:w3.cell? ⟨w1.heap.size,1,none⟩=some (.int .i64 seq):=X3.cell 1;have f3_1:w3.frozen? ⟨w1.heap.size,1,none⟩=false:=X3.frozen 1;have z3_2:w3.cell? ⟨w1.heap.size,2,none⟩=some (.string name):=X3.cell 2;have f3_2:w3.frozen? ⟨w1.heap.size,2,none⟩=false:=X3.frozen 2;have z3_3:w3.cell? ⟨w1.heap.size,3,none⟩=some (.int .i64 length):=X3.cell 3;have f3_3:w3.frozen? ⟨w1.heap.size,3,none⟩=false:=X3.frozen 3;have z3_4:w3.cell? ⟨w1.heap.size,4,none⟩=some (.int .i64 group):=X3.cell 4;have f3_4:w3.frozen? ⟨w1.heap.size,4,none⟩=false:=X3.frozen 4;have z3_5:w3.cell? ⟨w1.heap.size,5,none⟩=some (.int .i64 row):=X3.cell 5;have f3_5:w3.frozen? ⟨w1.heap.size,5,none⟩=false:=X3.frozen 5;have z3_6:w3.cell? ⟨w1.heap.size,6,none⟩=some (.slice ao6 rows.1 cap6):=X3.cell 6;have f3_6:w3.frozen? ⟨w1.heap.size,6,none⟩=false:=X3.frozen 6;have z3_7:w3.cell? ⟨w1.heap.size,7,none⟩=some (.slice ao7 data.1 cap7):=X3.cell 7;have f3_7:w3.frozen? ⟨w1.heap.size,7,none⟩=false:=X3.frozen 7;have z3_8:w3.cell? ⟨w1.heap.size,8,none⟩=some (.slice ao8 delta.1 cap8):=X3.cell 8;have f3_8:w3.frozen? ⟨w1.heap.size,8,none⟩=false:=X3.frozen 8;clear X3 b3;clear hw3 x2_0 kx2_0 y2_0 ky2_0 z2_0 f2_0 x2_1 kx2_1 y2_1 ky2_1 z2_1 f2_1 x2_2 kx2_2 y2_2 ky2_2 z2_2 f2_2 x2_3 kx2_3 y2_3 ky2_3 z2_3 f2_3 x2_4 kx2_4 y2_4 ky2_4 z2_4 f2_4 x2_5 kx2_5 y2_5 ky2_5 z2_5 f2_5 x2_6 kx2_6 y2_6 ky2_6 z2_6 f2_6 x2_7 kx2_7 y2_7 ky2_7 z2_7 f2_7 x2_8 kx2_8 y2_8 ky2_8 z2_8 f2_8
    ·go_wp2
     go_ret;exact recP rfl (Stair.pass HOK.out (Stair.pass HK.out (Stair.pass HQ.out (Stair.pass HN.out (Stair.fall (fun h=>by have:=HE.out.1 h;simp at this)))))) HB3.out
    ·go_wp2
     go_ret;exact recP rfl (Stair.pass HOK.out (Stair.pass HK.out (Stair.pass HQ.out (Stair.pass HN.out (Stair.fall (fun h=>by have:=HE.out.1 h;simp at this)))))) HB3.out
    ·go_wp2
     go_ret;exact recP rfl (Stair.pass HOK.out (Stair.pass HK.out (Stair.pass HQ.out (Stair.pass HN.out (Stair.fall (fun h=>by have:=HE.out.1 h;simp at this)))))) HB3.out
    ·go_wp2
     go_ret;exact recP rfl (Stair.pass HOK.out (Stair.pass HK.out (Stair.pass HQ.out (Stair.pass HN.out (Stair.fall (fun h=>by have:=HE.out.1 h;simp at this)))))) HB3.out
    ·have HKP:Hid (za1 s ⟨2,seq,name,length,group,row,rows,data,delta⟩):=HE.out.2 (by simp)
     go_wp2_with fail
     refine (zcc _ _ _ _ _ _ _ _ _ _ _ _ _ _ _ _).mono ?_;rintro e w9 ⟨t9,rfl,ht9,b9⟩
     have HB9:Hid (Below w.heap.size w w9):=by
      show Below w.heap.size w w9
      refine Below.trans ?_ (b9.mono ?_)
      ·repeat (refine zc8 ?_ (by omega))
       exact HB3.out
      ·simp
       exact HB3.out.size
     clear b9
     have HT9:Hid (t9=true↔zaX ⟨2,seq,name,length,group,row,rows,data,delta⟩):=by
      show t9=true↔zaX ⟨2,seq,name,length,group,row,rows,data,delta⟩
      rw [ht9];unfold zbW zaX zcA
      simp [and_assoc]
      try (intros;rfl)
     clear ht9
     cases t9 with
     | false=>
      go_wp2;go_ret;exact recP rfl (Stair.pass HOK.out (Stair.pass HK.out (Stair.pass HQ.out (Stair.pass HN.out (Stair.pass HKP.out (Stair.fall (fun h=>by have:=HT9.out.2 h;simp at this))))))) HB9.out
     | true=>
      go_wp2;go_ret;exact recP rfl (Stair.pass HOK.out (Stair.pass HK.out (Stair.pass HQ.out (Stair.pass HN.out (Stair.pass HKP.out (Stair.pass (HT9.out.1 (by simp)) (Stair.last rfl))))))) HB9.out
   ·have HN:Hid (zdb ⟨3,seq,name,length,group,row,rows,data,delta⟩):=fun h=>by simp at h
    obtain ⟨t1,h1⟩:=exB (InP group 0 (s 0+s 1-1));have cG:=zeB (W:=W2) (fun w'=>zbE h1 w');have cA:=zas (W:=W2) (fun w' _=>zbk s HOK.out w');unfold zad at cA
    have HE:Hid (za1 s ⟨3,seq,name,length,group,row,rows,data,delta⟩↔(t1=true)):=by
     show za1 s ⟨3,seq,name,length,group,row,rows,data,delta⟩↔_
     rw [h1];unfold za1 zjT
     simp
    have hst:(t1=false)∨(t1=true):=by
     clear HE h1 cG
     cases t1<;>simp
    clear h1;go_wp2
    rcases hst with rfl | rfl
    all_goals
     refine WQ.region (by kernel_rfl) (by kernel_rfl) ?_
     repeat (first | (apply WQ.skip;(case hw=>rfl);intro K hK;go_simp;apply hK;clear hK K) | (apply WQ.want;(case hw=>rfl);intro K hK;go_simp;first | (apply hK;clear hK K) | (apply Exists.intro;apply And.intro;(case left=>intro p;(first | (go_at_call 33;exact cG _ _) | (go_at_call 31;exact cA _ _)));apply hK;clear hK K)))
     refine WQ.nil ?_;intro w3 hw3;have b3:=zaB hw3;have X3:Box w3 w1.heap.size #[.int .i64 3,.int .i64 seq,.string name,.int .i64 length,.int .i64 group,.int .i64 row,.slice ao6 rows.1 cap6,.slice ao7 data.1 cap7,.slice ao8 delta.1 cap8] 71:=HX2.out.call b3;have HB3:Hid (Below w.heap.size w w3):=(HT2.out.call b3).bel;have z3_0:w3.cell? ⟨w1.heap.size,0,none⟩=some (.int .i64 3):=X3.cell 0;have f3_0:w3.frozen? ⟨w1.heap.size,0,none⟩=false:=X3.frozen 0;have z3_1:w3.cell? ⟨w1.heap.size,1,none⟩=some (.int .i64 seq):=X3.cell 1;have f3_1:w3.frozen? ⟨w1.heap.size,1,none⟩=false:=X3.frozen 1;have z3_2:w3.cell? ⟨w1.heap.size,2,none⟩=some (.string name):=X3.cell 2;have f3_2:w3.frozen? ⟨w1.heap.size,2,none⟩=false:=X3.frozen 2;have z3_3:w3.cell? ⟨w1.heap.size,3,none⟩=some (.int .i64 length):=X3.cell 3;have f3_3:w3.frozen? ⟨w1.heap.size,3,none⟩=false:=X3.frozen 3;have z3_4:w3.cell? ⟨w1.heap.size,4,none⟩=some (.int .i64 group):=X3.cell 4;have f3_4:w3.frozen? ⟨w1.heap.size,4,none⟩=false:=X3.frozen 4;have z3_5:w3.cell? ⟨w1.heap.size,5,none⟩=some (.int .i64 row):=X3.cell 5;have f3_5:w3.frozen? ⟨w1.heap.size,5,none⟩=false:=X3.frozen 5;have z3_6:w3.cell? ⟨w1.heap.size,6,none⟩=some (.slice ao6 rows.1 cap6):=X3.cell 6;have f3_6:w3.frozen? ⟨w1.heap.size,6,none⟩=false:=X3.frozen 6;have z3_7:w3.cell? ⟨w1.heap.size,7,none⟩=some (.slice ao7 data.1 cap7):=X3.cell 7;have f3_7:w3.frozen? ⟨w1.heap.size,7,none⟩=false:=X3.frozen 7;have z3_8:w3.cell? ⟨w1.heap.size,8,none⟩=some (.slice ao8 delta.1 cap8):=X3.cell 8;have f3_8:w3.frozen? ⟨w1.heap.size,8,none⟩=false:=X3.frozen 8;clear X3 b3;clear hw3 x2_0 kx2_0 y2_0 ky2_0 z2_0 f2_0 x2_1 kx2_1 y2_1 ky2_1 z2_1 f2_1 x2_2 kx2_2 y2_2 ky2_2 z2_2 f2_2 x2_3 kx2_3 y2_3 ky2_3 z2_3 f2_3 x2_4 kx2_4 y2_4 ky2_4 z2_4 f2_4 x2_5 kx2_5 y2_5 ky2_5 z2_5 f2_5 x2_6 kx2_6 y2_6 ky2_6 z2_6 f2_6 x2_7 kx2_7 y2_7 ky2_7 z2_7 f2_7 x2_8 kx2_8 y2_8 ky2_8 z2_8 f2_8
    ·go_wp2
     go_ret;exact recP rfl (Stair.pass HOK.out (Stair.pass HK.out (Stair.pass HQ.out (Stair.pass HN.out (Stair.fall (fun h=>by have:=HE.out.1 h;simp at this)))))) HB3.out
    ·have HKP:Hid (za1 s ⟨3,seq,name,length,group,row,rows,data,delta⟩):=HE.out.2 (by simp)
     go_wp2_with fail
     refine (zcc _ _ _ _ _ _ _ _ _ _ _ _ _ _ _ _).mono ?_;rintro e w9 ⟨t9,rfl,ht9,b9⟩
     have HB9:Hid (Below w.heap.size w w9):=by
      show Below w.heap.size w w9
      refine Below.trans ?_ (b9.mono ?_)
      ·repeat (refine zc8 ?_ (by omega))
       exact HB3.out
      ·simp
       exact HB3.out.size
     clear b9
     have HT9:Hid (t9=true↔zaX ⟨3,seq,name,length,group,row,rows,data,delta⟩):=by
      show t9=true↔zaX ⟨3,seq,name,length,group,row,rows,data,delta⟩
      rw [ht9];unfold zbW zaX zcA
      simp [and_assoc]
      try (intros;rfl)
     clear ht9
     cases t9 with
     | false=>
      go_wp2;go_ret;exact recP rfl (Stair.pass HOK.out (Stair.pass HK.out (Stair.pass HQ.out (Stair.pass HN.out (Stair.pass HKP.out (Stair.fall (fun h=>by have:=HT9.out.2 h;simp at this))))))) HB9.out
     | true=>
      go_wp2;go_ret;exact recP rfl (Stair.pass HOK.out (Stair.pass HK.out (Stair.pass HQ.out (Stair.pass HN.out (Stair.pass HKP.out (Stair.pass (HT9.out.1 (by simp)) (Stair.last rfl))))))) HB9.out
   ·have HN:Hid (zdb ⟨4,seq,name,length,group,row,rows,data,delta⟩):=fun h=>by simp at h
    obtain ⟨t1,h1⟩:=exB (InP group 0 (s 0+s 1-1));obtain ⟨t2,h2⟩:=exB (InP row 0 (s 4-1));obtain ⟨t3,h3⟩:=exB (zcy rows.1 rows.2 (s 0+s 1-1));obtain ⟨b4',h4⟩:∃ b,((data.1:Int) != s 2*4)=b:=⟨_,rfl⟩;obtain ⟨t5,h5⟩:=exB (zeV s ⟨4,seq,name,length,group,row,rows,data,delta⟩);have cG:=zeB (W:=W2) (fun w'=>zbE h1 w');have cR:=zeB (W:=W2) (fun w'=>zbE h2 w');have cA:=zas (W:=W2) (fun w' _=>zbk s HOK.out w');have cW:=zas (W:=W2) (fun w' _=>zcJ s (by omega) (by omega) w');have cS:=zas (W:=W2) (fun w' hw'=>zbo (zhE _ rows.1 rows.2 hi (s 0+s 1-1) w' ((H6.out.below HT2.out.bel hhi).below hw' (Nat.le_trans hhi HT2.out.bel.size))) h3);have cX:t1=true→t3=true→∀ d os,Calls Tryz.prog 57 #[zad s,.agg #[.int .i64 4,.int .i64 seq,.string name,.int .i64 length,.int .i64 group,.int .i64 row,.slice ao6 rows.1 cap6,.slice ao7 data.1 cap7,.slice ao8 delta.1 cap8]] (Go.Sort.grow (redrawn W2 d) os) fun e w''=>e=.returned (.bool t5)∧∃ p:Regrown,w''=Go.Sort.grow (redrawn W2 p.d) p.os:=fun e1 e3=>zas (W:=W2) (fun w' hw'=>zbo (zeX s HOK.out ⟨4,seq,name,length,group,row,rows,data,delta⟩ _ hi w' (zan.rd_below (zan.rd_below HRD.out HT2.out.bel hhi) hw' (Nat.le_trans hhi HT2.out.bel.size)) (Nat.le_trans hhi (Nat.le_trans HT2.out.bel.size hw'.size)) (h1.1 e1) (h3.1 e3)) h5);unfold zad at cW cA cX
    have HE:Hid (za1 s ⟨4,seq,name,length,group,row,rows,data,delta⟩↔(t1=true∧t2=true∧t3=true∧b4'=false∧t5=true)):=by
     show za1 s ⟨4,seq,name,length,group,row,rows,data,delta⟩↔_
     rw [h1,h2,h3,← h4,h5];unfold za1 zhd
     simp
    have hst:(t1=false)∨(t1=true∧t2=false)∨(t1=true∧t2=true∧t3=false)∨(t1=true∧t2=true∧t3=true∧b4'=true)∨(t1=true∧t2=true∧t3=true∧b4'=false∧t5=false)∨(t1=true∧t2=true∧t3=true∧b4'=false∧t5=true):=by
     clear HE h1 h2 h3 h4 h5 cG cR cS cX
     cases t1<;>simp
     cases t2<;>simp
     cases t3<;>simp
     cases b4'<;>simp
    clear h1 h2 h3 h5;go_wp2
    rcases hst with rfl | ⟨rfl,rfl⟩ | ⟨rfl,rfl,rfl⟩ | ⟨rfl,rfl,rfl,rfl⟩ | ⟨rfl,rfl,rfl,rfl,rfl⟩ | ⟨rfl,rfl,rfl,rfl,rfl⟩
    all_goals
     refine WQ.region (by kernel_rfl) (by kernel_rfl) ?_
     repeat (first | (apply WQ.skip;(case hw=>rfl);intro K hK;go_simp;apply hK;clear hK K) | (apply WQ.want;(case hw=>rfl);intro K hK;go_simp;first | (apply hK;clear hK K) | (apply Exists.intro;apply And.intro;(case left=>intro p;(first | (go_at_call_of 33 (Value.int .i64 group);exact cG _ _) | (go_at_call_of 33 (Value.int .i64 row);exact cR _ _) | (go_at_call 55;exact cW _ _) | (go_at_call 31;exact cA _ _) | (go_at_call 56;exact cS _ _) | (go_at_call 57;exact cX rfl rfl _ _)));apply hK;clear hK K)))
     refine WQ.nil ?_;intro w3 hw3;have b3:=zaB hw3;have X3:Box w3 w1.heap.size #[.int .i64 4,.int .i64 seq,.string name,.int .i64 length,.int .i64 group,.int .i64 row,.slice ao6 rows.1 cap6,.slice ao7 data.1 cap7,.slice ao8 delta.1 cap8] 71:=HX2.out.call b3;have HB3:Hid (Below w.heap.size w w3):=(HT2.out.call b3).bel;have z3_0:w3.cell? ⟨w1.heap.size,0,none⟩=some (.int .i64 4):=X3.cell 0;have f3_0:w3.frozen? ⟨w1.heap.size,0,none⟩=false:=X3.frozen 0;have z3_1:w3.cell? ⟨w1.heap.size,1,none⟩=some (.int .i64 seq):=X3.cell 1;have f3_1:w3.frozen? ⟨w1.heap.size,1,none⟩=false:=X3.frozen 1;have z3_2:w3.cell? ⟨w1.heap.size,2,none⟩=some (.string name):=X3.cell 2;have f3_2:w3.frozen? ⟨w1.heap.size,2,none⟩=false:=X3.frozen 2;have z3_3:w3.cell? ⟨w1.heap.size,3,none⟩=some (.int .i64 length):=X3.cell 3;have f3_3:w3.frozen? ⟨w1.heap.size,3,none⟩=false:=X3.frozen 3;have z3_4:w3.cell? ⟨w1.heap.size,4,none⟩=some (.int .i64 group):=X3.cell 4;have f3_4:w3.frozen? ⟨w1.heap.size,4,none⟩=false:=X3.frozen 4;have z3_5:w3.cell? ⟨w1.heap.size,5,none⟩=some (.int .i64 row):=X3.cell 5;have f3_5:w3.frozen? ⟨w1.heap.size,5,none⟩=false:=X3.frozen 5;have z3_6:w3.cell? ⟨w1.heap.size,6,none⟩=some (.slice ao6 rows.1 cap6):=X3.cell 6;have f3_6:w3.frozen? ⟨w1.heap.size,6,none⟩=false:=X3.frozen 6;have z3_7:w3.cell? ⟨w1.heap.size,7,none⟩=some (.slice ao7 data.1 cap7):=X3.cell 7;have f3_7:w3.frozen? ⟨w1.heap.size,7,none⟩=false:=X3.frozen 7;have z3_8:w3.cell? ⟨w1.heap.size,8,none⟩=some (.slice ao8 delta.1 cap8):=X3.cell 8;have f3_8:w3.frozen? ⟨w1.heap.size,8,none⟩=false:=X3.frozen 8;clear X3 b3;clear hw3 x2_0 kx2_0 y2_0 ky2_0 z2_0 f2_0 x2_1 kx2_1 y2_1 ky2_1 z2_1 f2_1 x2_2 kx2_2 y2_2 ky2_2 z2_2 f2_2 x2_3 kx2_3 y2_3 ky2_3 z2_3 f2_3 x2_4 kx2_4 y2_4 ky2_4 z2_4 f2_4 x2_5 kx2_5 y2_5 ky2_5 z2_5 f2_5 x2_6 kx2_6 y2_6 ky2_6 z2_6 f2_6 x2_7 kx2_7 y2_7 ky2_7 z2_7 f2_7 x2_8 kx2_8 y2_8 ky2_8 z2_8 f2_8
    ·go_wp2
     go_ret;exact recP rfl (Stair.pass HOK.out (Stair.pass HK.out (Stair.pass HQ.out (Stair.pass HN.out (Stair.fall (fun h=>by have:=HE.out.1 h;simp at this)))))) HB3.out
    ·go_wp2
     go_ret;exact recP rfl (Stair.pass HOK.out (Stair.pass HK.out (Stair.pass HQ.out (Stair.pass HN.out (Stair.fall (fun h=>by have:=HE.out.1 h;simp at this)))))) HB3.out
    ·go_wp2
     go_ret;exact recP rfl (Stair.pass HOK.out (Stair.pass HK.out (Stair.pass HQ.out (Stair.pass HN.out (Stair.fall (fun h=>by have:=HE.out.1 h;simp at this)))))) HB3.out
    ·go_wp2
     go_ret;exact recP rfl (Stair.pass HOK.out (Stair.pass HK.out (Stair.pass HQ.out (Stair.pass HN.out (Stair.fall (fun h=>by have:=HE.out.1 h;simp at this)))))) HB3.out
    ·go_wp2
     go_ret;exact recP rfl (Stair.pass HOK.out (Stair.pass HK.out (Stair.pass HQ.out (Stair.pass HN.out (Stair.fall (fun h=>by have:=HE.out.1 h;simp at this)))))) HB3.out
    ·have HKP:Hid (za1 s ⟨4,seq,name,length,group,row,rows,data,delta⟩):=HE.out.2 (by simp)
     go_wp2_with fail
     refine (zcc _ _ _ _ _ _ _ _ _ _ _ _ _ _ _ _).mono ?_;rintro e w9 ⟨t9,rfl,ht9,b9⟩
     have HB9:Hid (Below w.heap.size w w9):=by
      show Below w.heap.size w w9
      refine Below.trans ?_ (b9.mono ?_)
      ·repeat (refine zc8 ?_ (by omega))
       exact HB3.out
      ·simp
       exact HB3.out.size
     clear b9
     have HT9:Hid (t9=true↔zaX ⟨4,seq,name,length,group,row,rows,data,delta⟩):=by
      show t9=true↔zaX ⟨4,seq,name,length,group,row,rows,data,delta⟩
      rw [ht9];unfold zbW zaX zcA
      simp [and_assoc]
      try (intros;rfl)
     clear ht9
     cases t9 with
     | false=>
      go_wp2;go_ret;exact recP rfl (Stair.pass HOK.out (Stair.pass HK.out (Stair.pass HQ.out (Stair.pass HN.out (Stair.pass HKP.out (Stair.fall (fun h=>by have:=HT9.out.2 h;simp at this))))))) HB9.out
     | true=>
      go_wp2;go_ret;exact recP rfl (Stair.pass HOK.out (Stair.pass HK.out (Stair.pass HQ.out (Stair.pass HN.out (Stair.pass HKP.out (Stair.pass (HT9.out.1 (by simp)) (Stair.last rfl))))))) HB9.out
  ·go_wp2_with fail
   refine (zbE (t:=false) (exBF hq) _).mono ?_;rintro e w' ⟨rfl,hw'⟩;obtain rfl:=hw'.symm;go_wp2;go_ret;exact recP rfl (Stair.pass HOK.out (Stair.pass hk (Stair.fall hq))) HT1.out.bel
 ·go_wp2_with fail
  refine (zbE (t:=false) (exBF hk) _).mono ?_;rintro e w' ⟨rfl,hw'⟩;obtain rfl:=hw'.symm;go_wp2;go_ret;exact recP rfl (Stair.pass HOK.out (Stair.fall hk)) HT1.out.bel
theorem zeZ {K:Int→Prop} (hK:∃ x,K x):∀ l:List (Prop×Int),∃ x,Stair l K x
 | []=>hK
 | (p,c)::l=>by
  by_cases h:p
  ·obtain ⟨x,hx⟩:=zeZ hK l
   exact ⟨x,.inr ⟨h,hx⟩⟩
  ·exact ⟨c,.inl ⟨h,rfl⟩⟩
theorem ziO {s:Nat→Int} {d:RecD} {X:Int} {w:World} {f:Nat} {args:Array Value} (hX:RecAns s d X) (h:Calls Tryz.prog f args w (zeY s d w)):Calls Tryz.prog f args w fun e w'=>e=.returned (.int .i64 X)∧Below w.heap.size w w':=
 h.mono fun e w' ⟨x,h1,h2,h3⟩=>⟨by rw [h1,h2.one hX],h3⟩
def zcB (d:WorldD) (w:World) (e:Ending) (w':World):Prop:=∃ x,e=.returned (.int .i64 x)∧WldAns d x∧Below w.heap.size w w'
theorem wldP {d:WorldD} {w:World} {e:Ending} {w':World} {x:Int} (he:e=.returned (.int .i64 x)) (h:WldAns d x) (hb:Below w.heap.size w w'):zcB d w e w':=⟨x,he,h,hb⟩
def zjW (s:Nat→Int) (p:Nat×(Nat→TapeD)) (w:World) (e:Ending) (w':World):Prop:=∃ x,e=.returned (.int .i64 x)∧RecsAns s p.1 p.2 x∧Below w.heap.size w w'
theorem WQ.free {P:Program} {ops:Array Oper} {C:World→Prop} {Q:Act→Prop} {a:Act} {o:Oper} {rest:List Oper} (hw:o.guard=none)
 (h:∀ K:Act→Prop,(∀ a,WQ P ops C Q rest a→K a)→o.quiet P a C K):WQ P ops C Q (o::rest) a:=WQ.want (by simp [Region.wanted,hw]) h
structure ElInfo {α:Type} (E:Lay α) (T e:TypeId) (by_:Nat) (zs:List Value):Prop where
 hs:0<E.sz
 hzs:zs.length=E.sz
 hu:Tryz.prog.underlying T=some (.slice e)
 hi:(Tryz.prog.info? e).map (fun i=>(i.zero.map (·.cells),i.size,i.bytes))=some (some zs.toArray,E.sz,by_)
 few:by_≤1000
section
variable {α:Type} {E:Lay α} {t:TypeId} {w w':World} {lo n:Nat} {v:Value} {x:Nat→α}
end
section
variable {α:Type} {E:Lay α} {t:TypeId} {w w1:World} {lo g cap n k:Nat} {x:Nat→α} {ce:Nat→List Value} {Ls:Nat→List Nat}
end
theorem ziP {α:Type} {E:Lay α} {T e:TypeId} {by_:Nat} {zs:List Value} (I:ElInfo E T e by_ zs) (x:Nat→α) (Ls:Nat→List Nat) (w:World) (n:Nat) (hn:n≤10000000) :
 ∃ w',(Instr.makeSlice T (.int .i64 (n:Int)) (.int .i64 (n:Int))).run Tryz.prog w=.ok (.slice (some ⟨w.heap.size,0,none⟩) n n) w'∧SlP E e w' w.heap.size w.heap.size n n 0 x (fun _=>zs) Ls∧Below w.heap.size w w':=by
 obtain ⟨hs,hzs,hu,hi,few⟩:=I
 obtain ⟨i0,hi0⟩:∃ i0,Tryz.prog.info? e=some i0:=by
  cases h:Tryz.prog.info? e with
  | none=>rw [h] at hi;cases hi
  | some i0=>exact ⟨i0,rfl⟩
 rw [hi0] at hi
 simp only [Option.map_some,Option.some.injEq,Prod.mk.injEq] at hi
 obtain ⟨h1,h2,h3⟩:=hi
 obtain ⟨z,hz,hzc⟩:∃ z,i0.zero=some z∧z.cells=zs.toArray:=by
  cases h:i0.zero with
  | none=>rw [h] at h1;cases h1
  | some z=>rw [h] at h1;exact ⟨z,rfl,by simpa using h1⟩
 obtain ⟨w',hrun,hown,hgrow⟩:=run_make_full (P:=Tryz.prog) w w.heap.size T e i0 z E.sz hu hi0 hz h2 .i64 .i64 n (by
  rw [h3];have:by_*n≤1000*10000000:=Nat.mul_le_mul few hn
  omega) (by unfold maxLen;omega) (Nat.le_refl _)
 rw [hzc,← hzs,zfu zs (by omega)] at hown;rw [hzs] at hown;exact ⟨w',hrun,⟨hown,fun _ _=>hzs,fun i hi=>by omega,by simp [zbw],fun b hb=>by rw [zbw] at hb;cases hb⟩,zaO hgrow⟩
def noRec:RecD:=⟨0,0,ByteArray.empty,0,0,0,(0,fun _=>0),(0,fun _=>0),(0,fun _=>0)⟩
def zeroT:TapeD:=⟨false,(0,fun _=>noRec)⟩
structure NewBx (cs:Array Value) (w1 wx:World) (P t:Nat):Prop where
 box:Box wx P cs 35
 tp:(zav.slice 67).own wx (2,fun _=>zeroT) [.slice (some ⟨t,0,none⟩) 2 2] [t]
 p1:w1.heap.size≤P
 t1:w1.heap.size≤t
 ne:t≠P
 bel:Below w1.heap.size w1 wx
theorem OwnT.one {α:Type} {A:Lay α} {w:World} {lo hi:Nat} {a:α} {cs:List Value} (h:OwnT A w lo hi a cs):∀ v,v∈cs→v.oneCell'=true:=by
 obtain ⟨L,h1,_⟩:=h;exact fun v hv=>A.own_one h1 v hv
theorem ze0 {ops:Array Oper} {rest:List Oper} {o1 o2:Oper} {a:Act} {w:World} {Q:Exit→Act→World→Prop} (T:TypeId) (k:Nat) (x:Operand) (cs:List Value) (zs:Array Value) (n:Nat)
 (hop1:o1.op=Op.alloc T) (hop2:o2.op=Op.store T (.tmp k) x) (hg1:o1.guard=none) (hg2:o2.guard=none) (hd1:o1.dst=some k) (hd2:o2.dst=none)
 (hp:(a.put (some k) (.pointer (some ⟨w.heap.size,0,none⟩))).eval (.tmp k)=.pointer (some ⟨w.heap.size,0,none⟩)) (hx:(a.put (some k) (.pointer (some ⟨w.heap.size,0,none⟩))).eval x=.agg cs.toArray)
 (hi:(Tryz.prog.info? T).map (fun i=>(i.zero.map (·.cells),i.size))=some (some zs,n)) (hz:zs.size=n) (hl:cs.length=n) (h1:∀ v,v∈cs→v.oneCell'=true)
 (h:wpList Tryz.prog ops Q rest (a.put (some k) (.pointer (some ⟨w.heap.size,0,none⟩))) (w.alloc (.cells cs.toArray T))):wpList Tryz.prog ops Q (o1::o2::rest) a w:=by
 obtain ⟨i0,hi0⟩:∃ i0,Tryz.prog.info? T=some i0:=by
  cases h:Tryz.prog.info? T with
  | none=>rw [h] at hi;cases hi
  | some i0=>exact ⟨i0,rfl⟩
 rw [hi0] at hi
 simp only [Option.map_some,Option.some.injEq,Prod.mk.injEq] at hi
 obtain ⟨h2,h3⟩:=hi
 obtain ⟨z,hzz,hzc⟩:∃ z,i0.zero=some z∧z.cells=zs:=by
  cases h:i0.zero with
  | none=>rw [h] at h2;cases h2
  | some z=>rw [h] at h2;exact ⟨z,rfl,by simpa using h2⟩
 have hr:(Instr.alloc T true (.tuple #[])).run Tryz.prog w=.ok (.pointer (some ⟨w.heap.size,0,none⟩)) (w.alloc (.cells zs T)):=by
  simp [Instr.alloc,zeroValue,typeInfo,hi0,hzz,hzc,newVar,newRow]
 have hw:(w.alloc (.cells zs T)).setRow w.heap.size cs.toArray=w.alloc (.cells cs.toArray T):=by
  have hh:((w.alloc (.cells zs T)).setRow w.heap.size cs.toArray).heap=w.heap.push (.cells cs.toArray T):=by
   apply Array.ext_getElem?
   intro i
   by_cases c:i=w.heap.size
   ·subst c
    rw [setRow_heap (w.alloc (.cells zs T)) w.heap.size zs cs.toArray T (0,0) (zaD w zs T),Array.getElem?_push,if_pos rfl]
   ·rw [setRow_other _ _ _ _ c,Array.getElem?_push,if_neg c]
    show (w.heap.push _)[i]?=_
    rw [Array.getElem?_push,if_neg c]
  show ({ w with heap:=((w.alloc (.cells zs T)).setRow w.heap.size cs.toArray).heap }:World)=_
  rw [hh];rfl
 refine wpList_plain hg1 fun K hK=>?_;unfold Oper.wp execOp
 simp only [hop1,Sem.run_bind,hr,Result.andThen_ok]
 refine hK _ _ ?_;rw [hd1];refine wpList_store_row hg2 T (.tmp k) x hop2 w.heap.size cs.toArray hp hx T zs (zaD w zs T) (by rw [hi0];simp [h3,hl]) (by simp [hz,hl]) (by simp;exact h1) ?_;rw [hw,hd2];exact h
theorem za5 {ops:Array Oper} {rest:List Oper} {o:Oper} {a:Act} {w:World} {Q:Exit→Act→World→Prop} (T:TypeId) (x:Operand) (ho:o.op=.load T x) (hgd:o.guard=none) (b:Nat) (hx:a.eval x=.pointer (some ⟨b,0,none⟩)) {cs:List Value} (hB:Box w b cs.toArray T) {fs:Array Field} (hu:Tryz.prog.underlying T=some (.struct fs)) {n:Nat} (hi:(Tryz.prog.info? T).map (·.size)=some n) (hl:cs.length=n)
 (h:wpList Tryz.prog ops Q rest (a.put o.dst (.agg cs.toArray)) w):wpList Tryz.prog ops Q (o::rest) a w:=
 wpList_load_row hgd T x ho b hx T cs.toArray (0,0) (.struct fs) hB hu rfl (by rw [hi];simp [hl]) h
theorem zeC:(Tryz.prog.info? 35).map (·.size)=some 15:=by kernel_rfl
theorem ze1:(Tryz.prog.info? 28).map (·.size)=some 15:=by kernel_rfl
theorem zkc:(Tryz.prog.info? 35).map (fun i=>(i.zero.map (·.cells),i.size))=some (some #[.int .i64 0,.int .i64 0,.int .i64 0,.int .i64 0,.int .i64 0,.int .i64 0,.int .i64 0,.int .i64 0,.int .i64 0,.slice none 0 0,.slice none 0 0,.slice none 0 0,.int .i64 0,.int .i64 0,.bool false],15):=by kernel_rfl
end Go.Proofs.YtfhgcadinjfooaaGreat
namespace Go.Proofs.YtfhgcadinjfooaaGreat
open Go.RowKit
section
variable {P:Program} {ops:Array Oper} {Q:Exit→Act→World→Prop} {md:Region.Mode} {S:World→Prop} {L:Nat}
def zbF (P:Program) (md:Region.Mode) (ops:Array Oper) (Q:Exit→Act→World→Prop) (S:World→Prop) (L:Nat):Nat→Array Bool→Act→World→Prop
 | 0,listed,a,w=>Region.ready md ops listed=[]∧Q .normal a w
 | fuel+1,listed,a,w=>
  (Region.ready md ops listed=[]→Q .normal a w)∧
  ∀ i∈Region.ready md ops listed,wpOp P ops Q i (fun a' w'=>(i≠L→S w')∧zbF P md ops Q S L fuel (listed.setIfInBounds i true) a' w') a w
theorem zeD:∀ (fuel:Nat) (listed:Array Bool) (a:Act) (w:World),zbF P md ops Q S L fuel listed a w→wpAny P md ops Q fuel listed a w
 | 0,_,_,_,h=>h
 | fuel+1,_,_,_,h=>⟨h.1,fun i hi=>wpOp_mono (fun a' w' h'=>zeD fuel _ a' w' h'.2) (h.2 i hi)⟩
def zcC (md:Region.Mode) (ops:Array Oper) (listed:Array Bool):Prop:=
 ∀ j oj,ops[j]?=some oj→listed.getD j false=true→∀ e∈oj.after,Region.binds md e=true→listed.getD e.on false=true
def zbl (md:Region.Mode) (ops:Array Oper) (listed:Array Bool):Bool:=
 (List.range ops.size).all fun j=>!listed.getD j false||((ops[j]?).map (·.after.all fun e=>!Region.binds md e||listed.getD e.on false)).getD false
theorem zdc {listed:Array Bool} (h:zbl md ops listed=true):zcC md ops listed:=fun j oj hj hl e he hb=>by
 unfold zbl at h;have hlt:j<ops.size:=(Array.getElem?_eq_some_iff.1 hj).1;have h1:=List.all_eq_true.1 h j (List.mem_range.2 hlt);rw [hl,hj] at h1
 simp only [Bool.not_true,Bool.false_or,Option.map_some,Option.getD_some,Array.all_eq_true_iff_forall_mem] at h1
 have h2:=h1 e he;rw [hb] at h2
 simpa using h2
theorem zc0 {listed:Array Bool} {j:Nat} (h:zcC md ops listed) (hj:j∈Region.ready md ops listed):zcC md ops (listed.setIfInBounds j true):=fun k ok hk hl e he hb=>by
 obtain ⟨_,o,ho,hall⟩:=mem_ready.1 hj
 by_cases c:j=k
 ·subst c
  rw [hk] at ho
  cases ho
  exact getD_set_true (hall e he hb)
 ·rw [getD_set_ne false c] at hl
  exact getD_set_true (h k ok hk hl e he hb)
def depB (md:Region.Mode) (ops:Array Oper):Nat→Nat→Nat→Bool
 | 0,l,i=>l==i
 | n+1,l,i=>l==i||((ops[l]?).map (·.after.any fun e=>Region.binds md e&&depB md ops n e.on i)).getD false
theorem zdv {listed:Array Bool} (hc:zcC md ops listed):∀ (n l i:Nat),depB md ops n l i=true→listed.getD l false=true→listed.getD i false=true
 | 0,l,i,h,hl=>by
  unfold depB at h
  have:l=i:=by simpa using h
  rw [← this];exact hl
 | n+1,l,i,h,hl=>by
  unfold depB at h
  rcases Bool.or_eq_true _ _ ▸ h with h1 | h1
  ·have:l=i:=by simpa using h1
   rw [← this];exact hl
  ·cases ho:ops[l]? with
   | none=>rw [ho] at h1;simp at h1
   | some o=>
    rw [ho] at h1
    simp only [Option.map_some,Option.getD_some] at h1
    obtain ⟨k,hk,hbk⟩:=Array.any_eq_true.1 h1;obtain ⟨hb,hd⟩:=Bool.and_eq_true _ _ ▸ hbk;exact zdv hc n _ i hd (hc l o ho hl _ (Array.getElem_mem hk) hb)
theorem zfM {listed:Array Bool} (hc:zcC md ops listed) {n i:Nat} (hne:L≠i) (hd:depB md ops n L i=true) (hi:listed.getD i false=false):L∉Region.ready md ops listed:=fun hL=>by
 obtain ⟨_,o,ho,hall⟩:=mem_ready.1 hL
 cases n with
 | zero=>unfold depB at hd;exact hne (by simpa using hd)
 | succ n=>
  unfold depB at hd
  rcases Bool.or_eq_true _ _ ▸ hd with h1 | h1
  ·exact hne (by simpa using h1)
  ·rw [ho] at h1
   simp only [Option.map_some,Option.getD_some] at h1
   obtain ⟨k,hk,hbk⟩:=Array.any_eq_true.1 h1;obtain ⟨hb,hd'⟩:=Bool.and_eq_true _ _ ▸ hbk;have:=zdv hc n _ i hd' (hall _ (Array.getElem_mem hk) hb);rw [hi] at this
   cases this
theorem zaY {listed:Array Bool} {i:Nat} (h:listed.getD i true=false):listed.getD i false=false:=by
 rcases Nat.lt_or_ge i listed.size with h' | h'
 ·simpa [h'] using h
 ·simp [Array.getElem?_eq_none h'] at h
theorem zfN {i:Nat} {oi:Oper} {v:Value} (hi:ops[i]?=some oi) (hsel:∀ (j:Nat) (o:Oper) cs b,ops[j]?=some o→o.op≠.select cs b)
 (hQ:∀ c a w,Q (.panic c) (a.put oi.dst v) w→Q (.panic c) a w) (hLi:L≠i) {n:Nat} (hd:depB md ops n L i=true) :
 ∀ (fuel:Nat) (listed:Array Bool) (a:Act) (w:World),zcC md ops listed→
  (∀ j oj,ops[j]?=some oj→j≠i→listed.getD j true=false→(∀ e∈oj.after,Region.binds md e=true→e.on≠i)→oi.apart ops oj=true)→
  i∈Region.ready md ops listed→YieldsIf P ops S oi v a→S w→
  zbF P md ops Q S L fuel (listed.setIfInBounds i true) (a.put oi.dst v) w→zbF P md ops Q S L (fuel+1) listed a w:=by
 intro fuel
 induction fuel with
 | zero=>
  intro listed a w _ _ hr hy hS H;refine ⟨fun h=>(by rw [h] at hr;cases hr),fun j hj=>?_⟩
  by_cases hji:j=i
  ·subst hji;exact hy.wpOp hi hS ⟨fun _=>hS,H⟩
  ·have:=ready_mono hj hji
   rw [H.1] at this
   cases this
 | succ fuel ih=>
  intro listed a w hcl hfree hr hy hS H;refine ⟨fun h=>(by rw [h] at hr;cases hr),fun j hj=>?_⟩
  by_cases hji:j=i
  ·subst hji;exact hy.wpOp hi hS ⟨fun _=>hS,H⟩
  ·have hjL:j≠L:=fun h=>by
    subst h;exact zfM hcl hLi hd (zaY (mem_ready.1 hr).1) hj
   have h1:=H.2 j (ready_mono hj hji);obtain ⟨hjun,oj,hoj,hall⟩:=mem_ready.1 hj
   have hnot:∀ e∈oj.after,Region.binds md e=true→e.on≠i:=fun e he hb heq=>by
    have h1:=hall e he hb;have h0:=zaY (mem_ready.1 hr).1;rw [heq,h0] at h1
    cases h1
   have h2:=wpOp_putIf hoj (hfree j oj hoj hji hjun hnot) (fun cs b=>hsel i oi cs b hi) (fun cs b=>hsel j oj cs b hoj) hQ hy h1
   have hfree':∀ k ok,ops[k]?=some ok→k≠i→(listed.setIfInBounds j true).getD k true=false→
    (∀ e∈ok.after,Region.binds md e=true→e.on≠i)→oi.apart ops ok=true:=fun k ok hk hki hun hno=>by
    refine hfree k ok hk hki ?_ hno
    by_cases hjk:j=k
    ·subst hjk;exact hjun
    ·rw [getD_set_ne true hjk] at hun;exact hun
   refine wpOp_mono (fun a' w' h3=>⟨h3.2.1,ih (listed.setIfInBounds j true) a' w' (zc0 hcl hj) hfree' (ready_mono hr (Ne.symm hji)) h3.1 (h3.2.1 hjL) ?_⟩) h2;rw [Array.setIfInBounds_comm _ _ hji];exact h3.2.2
theorem zcd {i:Nat} {oi:Oper} {v:Value} {fuel:Nat} {listed:Array Bool} {a:Act} {w:World} (n:Nat) (hi:ops[i]?=some oi)
 (hs:(Region.noSelect ops&&Region.free md ops listed i&&(Region.ready md ops listed).contains i&&!(L==i)&&depB md ops n L i&&zbl md ops listed)=true)
 (hQ:∀ c a w,Q (.panic c) (a.put oi.dst v) w→Q (.panic c) a w) (hy:YieldsIf P ops S oi v a) (hS:S w)
 (h:zbF P md ops Q S L fuel (listed.setIfInBounds i true) (a.put oi.dst v) w):zbF P md ops Q S L (fuel+1) listed a w:=by
 simp only [Bool.and_eq_true,Bool.not_eq_true',beq_eq_false_iff_ne] at hs
 obtain ⟨⟨⟨⟨⟨h1,h2⟩,h3⟩,h4⟩,h5⟩,h6⟩:=hs;exact zfN hi (Region.noSelect_spec h1) hQ h4 h5 fuel listed a w (zdc h6) (Region.free_spec hi h2) (by simpa using h3) hy hS h
theorem zkd (i:Nat) {oi:Oper} {v:Value} {fuel:Nat} {listed:Array Bool} {a:Act} {w:World} (hi:ops[i]?=some oi) (hy:∀ w,S w→(execOp a.eval oi).run P w=.ok (.value v) w) (h:zbF P md ops Q S L fuel (listed.setIfInBounds i true) (a.put oi.dst v) w) (hs:(Region.noSelect ops && Region.free md ops listed i && (Region.ready md ops listed).contains i && !(L==i) && depB md ops 16 L i && zbl md ops listed)=true:=by kernel_rfl) (hQ:∀ c a w,Q (.panic c) (a.put oi.dst v) w→Q (.panic c) a w:=by exact fun _ _ _ h=>h) (hw:Region.wanted oi (yielded ops a.tmps)=true:=by first | rfl | kernel_rfl) (hS:S w:=by assumption):zbF P md ops Q S L (fuel+1) listed a w:=zcd 16 hi hs hQ (Or.inl ⟨hw,hy⟩) hS h
theorem zke (i:Nat) {oi:Oper} {v:Value} {fuel:Nat} {listed:Array Bool} {a:Act} {w:World} (hi:ops[i]?=some oi) (h:zbF P md ops Q S L fuel (listed.setIfInBounds i true) (a.put oi.dst v) w) (hy:∀ w,S w→(execOp a.eval oi).run P w=.ok (.value v) w:=by intro w' hSw;(try dsimp only at hSw);(repeat (have _q:=And.left hSw;replace hSw:=And.right hSw));go_simp;try with_reducible rfl) (hs:(Region.noSelect ops && Region.free md ops listed i && (Region.ready md ops listed).contains i && !(L==i) && depB md ops 16 L i && zbl md ops listed)=true:=by kernel_rfl) (hQ:∀ c a w,Q (.panic c) (a.put oi.dst v) w→Q (.panic c) a w:=by exact fun _ _ _ h=>h) (hw:Region.wanted oi (yielded ops a.tmps)=true:=by first | kernel_rfl | rfl) (hS:S w:=by assumption):zbF P md ops Q S L (fuel+1) listed a w:=zcd 16 hi hs hQ (Or.inl ⟨hw,hy⟩) hS h
theorem zeE {i:Nat} {o:Oper} {fuel:Nat} {listed:Array Bool} {a:Act} {w:World} (ho:ops[i]?=some o) (hr:Region.ready md ops listed=[i])
 (h:∀ K':Act→World→Prop,Shut (∀ a w,S w→(S w→zbF P md ops Q S L fuel (listed.setIfInBounds i true) a w)→K' a w)→if Region.wanted o (yielded ops a.tmps)=true then Oper.wp P o a w K' Q else K' (a.put o.dst undef) w):zbF P md ops Q S L (fuel+1) listed a w:=by
 refine ⟨fun h0=>(by rw [hr] at h0;cases h0),fun j hj=>?_⟩;rw [hr] at hj
 obtain rfl:j=i:=by simpa using hj
 exact wpOp_step ho (fun K' hK=>h K' (fun a w hS hW=>hK a w ⟨fun _=>hS,hW hS⟩))
theorem zgH {o:Oper} {fuel:Nat} {listed:Array Bool} {a:Act} {w:World} (ho:ops[L]?=some o) (hr:Region.ready md ops listed=[L])
 (h:∀ K':Act→World→Prop,Shut (∀ a w,zbF P md ops Q S L fuel (listed.setIfInBounds L true) a w→K' a w)→if Region.wanted o (yielded ops a.tmps)=true then Oper.wp P o a w K' Q else K' (a.put o.dst undef) w):zbF P md ops Q S L (fuel+1) listed a w:=by
 refine ⟨fun h0=>(by rw [hr] at h0;cases h0),fun j hj=>?_⟩;rw [hr] at hj
 obtain rfl:j=L:=by simpa using hj
 exact wpOp_step ho (fun K' hK=>h K' (fun a w hW=>hK a w ⟨fun hn=>absurd rfl hn,hW⟩))
theorem zgI {listed:Array Bool} {a:Act} {w:World} (hr:Region.ready md ops listed=[]) (h:Q .normal a w):∀ fuel,zbF P md ops Q S L fuel listed a w
 | 0=>⟨hr,h⟩
 | _+1=>⟨fun _=>h,by rw [hr];simp⟩
theorem zgJ {id:Nat} {a:Act} {w:World} (L:Nat) (S:World→Prop) (hm:P.follows .mixedOrders=true) (hS:S w.drew)
 (h:S w.drew→zbF P .any ops Q S L ops.size (Array.replicate ops.size false) a w.drew):(Code.region id ops true).wp P Q a w:=
 wp_region_any hm (zeD _ _ _ _ (h hS))
end
end Go.Proofs.YtfhgcadinjfooaaGreat
namespace Go.Proofs.YtfhgcadinjfooaaGreat
open Go.RowKit F256
end Go.Proofs.YtfhgcadinjfooaaGreat
namespace Go.Proofs.YtfhgcadinjfooaaGreat
open Go.RowKit
section
variable {ops:Array Oper} {Q:Exit→Act→World→Prop} {md:Region.Mode} {S:World→Prop} {L:Nat}
theorem zeF {o:Oper} {a:Act} (T:TypeId) (x:Operand) (ho:o.op=.load T x) (hg:o.guard=none) (b:Nat) (hx:a.eval x=.pointer (some ⟨b,0,none⟩)) {cs:List Value} (hB:∀ w,S w→Box w b cs.toArray T) {fs:Array Field} (hu:Tryz.prog.underlying T=some (.struct fs)) {n:Nat} (hi:(Tryz.prog.info? T).map (·.size)=some n) (hl:cs.length=n):YieldsIf Tryz.prog ops S o (.agg cs.toArray) a:=by
 refine .inl ⟨by simp [Region.wanted,hg],fun w hS=>?_⟩;unfold execOp
 simp only [ho,hx,Instr.loadAt,Instr.sureAddr,Sem.run_bind,Sem.run_pure,Result.andThen_ok,run_loadVar_row w b T T cs.toArray (0,0) (.struct fs) (hB w hS) hu rfl (by rw [hi];simp [hl])]
end
theorem zhU (w:World):Below w.heap.size w w.drew:=⟨rfl,rfl,rfl,Nat.le_refl _,fun _ _=>rfl⟩
end Go.Proofs.YtfhgcadinjfooaaGreat
namespace Go.Proofs.YtfhgcadinjfooaaGreat
open Go.RowKit F256
def zaT (x:Nat→DriveD):Nat→Nat
 | 0=>0
 | n+1=>zaT x n+(if (x n).wiped=true then 1 else 0)
theorem zeb (x:Nat→DriveD):∀ n,zaT x n≤n
 | 0=>Nat.le_refl _
 | n+1=>by
  have:=zeb x n;unfold zaT
  split<;>omega
def zcL (d:WorldD) (G:Nat):Prop:=d.shape 3<(zaT (d.groups.2 G).2 (d.groups.2 G).1:Int)
set_option maxRecDepth 20000 in
theorem zhV (d:WorldD) (cs:List Value) (hi:Nat) (G:Nat) (w:World) (h:zaf.rd w hi d cs) (hhi:hi≤w.heap.size) (hG:G<d.groups.1) :
 Calls Tryz.prog 20 #[.agg cs.toArray,.int .i64 (G:Int)] w (zaR (zcL d G) w):=by
 obtain ⟨ao1,cap1,ao2,cap2,ao3,cap3,rfl,g1,g2,g3,k0,k4,k5⟩:=zaz h;obtain ⟨_,_,e1,hm1,hc1⟩:=g1
 cases e1
 obtain ⟨b1,off1,he1,hb1,hel1⟩:=hc1 (by omega);subst he1;obtain ⟨cg,hrg,hcg⟩:=hel1 G hG;obtain ⟨ao9,cap9,rfl⟩:=za0 hrg
 have c0:w.cell? ⟨b1,off1+G,none⟩=some (.slice ao9 (d.groups.2 G).1 cap9):=by
  have:=hcg 0 (by decide)
  have e:off1+(G*(zae.slice 79).sz+0)=off1+G:=by show off1+(G*1+0)=off1+G;omega
  rw [e] at this;exact this
 obtain ⟨_,_,e9,hm9,hc9⟩:=hrg
 cases e9
 unfold maxLen at hm9
 have i1:(0:Int)≤(G:Int):=by omega
 have i2:(G:Int)<(d.groups.1:Int):=by omega
 clear g2 g3 k0 k4 k5 hcg hel1 hc1 hm1;have T0:=zaw w (rwW d (some ⟨b1,off1,none⟩) cap1 ao2 cap2 ao3 cap3).toArray 35;have x9:=T0.b1.cell 9;have c0':=(T0.bel.cell (p:=⟨b1,off1+G,none⟩) (by show b1<w.heap.size;omega)).trans c0
 go_enter Tryz.func20,Tryz.ntmps20
 go_wp2
 go_loopw [5,14] (fun v i wr=>∃ k:Nat,k≤(d.groups.2 G).1∧i=.int .i64 k∧v=.int .i64 (zaT (d.groups.2 G).2 k:Int)∧One w wr (rwW d (some ⟨b1,off1,none⟩) cap1 ao2 cap2 ao3 cap3).toArray 35) (fun _ i _=>(d.groups.2 G).1-(intOf i).toNat)
 case atStart=>exact ⟨0,Nat.zero_le _,rfl,rfl,T0⟩
 case round=>
  clear T0 x9 c0';obtain ⟨k,hk,rfl,rfl,T⟩:=hrel;have HT:Hid (One w wr (rwW d (some ⟨b1,off1,none⟩) cap1 ao2 cap2 ao3 cap3).toArray 35):=T;have x3:wr.cell? ⟨w.heap.size,3,none⟩=some (.int .i64 (d.shape 3)):=T.b1.cell 3;have hwk:=zeb (d.groups.2 G).2 k
  by_cases hlt:k<(d.groups.2 G).1
  ·have t1:(k:Int)<((d.groups.2 G).1:Int):=by omega
   obtain ⟨b,off,rfl,hblt,hcell⟩:=hc9 (by omega);obtain ⟨cd,hrd,hcd⟩:=hcell k hlt;obtain ⟨ao5,cap5,rfl,g5⟩:=zaM hrd;have c2:wr.cell? ⟨b,off+k*2,none⟩=some (.bool ((d.groups.2 G).2 k).wiped):=(T.bel.cell (p:=⟨b,off+k*2,none⟩) (by show b<w.heap.size;omega)).trans (hcd 0 (by decide));have c3:wr.cell? ⟨b,off+k*2+1,none⟩=some (.slice ao5 ((d.groups.2 G).2 k).blocks.1 cap5):=(T.bel.cell (p:=⟨b,off+k*2+1,none⟩) (by show b<w.heap.size;omega)).trans (hcd 1 (by decide));obtain ⟨D,hD⟩:∃ D,D=(d.groups.2 G).2 k:=⟨_,rfl⟩;have HD:Hid (D=(d.groups.2 G).2 k):=hD;rw [← hD] at c2 c3;obtain ⟨m,hm⟩:∃ m,m=zaT (d.groups.2 G).2 k:=⟨_,rfl⟩;have HM:Hid (m=zaT (d.groups.2 G).2 k):=hm;rw [← hm] at hwk ⊢;have HT9:Hid (One w (wr.alloc (.cells #[.bool D.wiped,.slice ao5 D.blocks.1 cap5] 79)) (rwW d (some ⟨b1,off1,none⟩) cap1 ao2 cap2 ao3 cap3).toArray 35):=HT.out.call ((Below.refl _ _).alloc (Nat.le_refl _) _);clear hc9 hcell hcd hrd g5 T hD hm x3
   cases hw:D.wiped with
   | true=>
    rw [hw] at c2 HT9;have HW:Hid (D.wiped=true):=hw
    have zz:IntKind.i64.wrap ((m:Int)+1)=(m:Int)+1:=by rw [IntKind.wrap_i64];omega
    clear hw;go_wp2
    go_roundw
    case rel=>exact ⟨k+1,by omega,by go_num,by
     have e:zaT (d.groups.2 G).2 (k+1)=m+1:=by
      show zaT (d.groups.2 G).2 k+(if ((d.groups.2 G).2 k).wiped=true then 1 else 0)=m+1
      rw [← HD.out,if_pos HW.out,← HM.out]
     rw [e];go_num,HT9.out⟩
    case measure=>simp [intOf];omega
   | false=>
    rw [hw] at c2 HT9;have HW:Hid (D.wiped=false):=hw;clear hw;go_wp2
    go_roundw
    case rel=>exact ⟨k+1,by omega,by go_num,by
     have e:zaT (d.groups.2 G).2 (k+1)=m:=by
      show zaT (d.groups.2 G).2 k+(if ((d.groups.2 G).2 k).wiped=true then 1 else 0)=m
      rw [← HD.out,if_neg (by rw [HW.out];decide),← HM.out];rfl
     rw [e],HT9.out⟩
    case measure=>simp [intOf];omega
  ·obtain rfl:k=(d.groups.2 G).1:=by omega
   clear hlt T hc9
   by_cases hd:d.shape 3<(zaT (d.groups.2 G).2 (d.groups.2 G).1:Int)
   ·have HD:Hid (zcL d G):=hd
    have dd:decide (d.shape 3<(zaT (d.groups.2 G).2 (d.groups.2 G).1:Int))=true:=decide_eq_true hd;clear hd;go_wp2;go_ret;exact zam rfl HD.out HT.out.bel
   ·have HD:Hid (¬ zcL d G):=hd
    have dd:decide (d.shape 3<(zaT (d.groups.2 G).2 (d.groups.2 G).1:Int))=false:=decide_eq_false hd;clear hd;go_wp2;go_ret;exact zai rfl HD.out HT.out.bel
set_option maxRecDepth 20000 in
theorem zhW (d:WorldD) (cs:List Value) (hi B:Nat) (G:Nat) (w:World) (h:zaf.rd w hi d cs) (hhi:hi≤w.heap.size) (hB:Box w B cs.toArray 35) (hG:G<d.groups.1) :
 Calls Tryz.prog 35 #[.pointer (some ⟨B,0,none⟩),.int .i64 (G:Int)] w (zaR (zcL d G) w):=by
 obtain ⟨ao1,cap1,ao2,cap2,ao3,cap3,rfl,g1,g2,g3,k0,k4,k5⟩:=zaz h;obtain ⟨_,_,e1,hm1,hc1⟩:=g1
 cases e1
 obtain ⟨b1,off1,he1,hb1,hel1⟩:=hc1 (by omega);subst he1;obtain ⟨cg,hrg,hcg⟩:=hel1 G hG;obtain ⟨ao9,cap9,rfl⟩:=za0 hrg
 have c0:w.cell? ⟨b1,off1+G,none⟩=some (.slice ao9 (d.groups.2 G).1 cap9):=by
  have:=hcg 0 (by decide)
  have e:off1+(G*(zae.slice 79).sz+0)=off1+G:=by show off1+(G*1+0)=off1+G;omega
  rw [e] at this;exact this
 obtain ⟨_,_,e9,hm9,hc9⟩:=hrg
 cases e9
 unfold maxLen at hm9
 have i1:(0:Int)≤(G:Int):=by omega
 have i2:(G:Int)<(d.groups.1:Int):=by omega
 clear g2 g3 k0 k4 k5 hcg hel1 hc1 hm1;have x9:w.cell? ⟨B,9,none⟩=some (.slice (some ⟨b1,off1,none⟩) d.groups.1 cap1):=hB.cell 9;have x3:w.cell? ⟨B,3,none⟩=some (.int .i64 (d.shape 3)):=hB.cell 3;clear hB
 go_enter Tryz.func35,Tryz.ntmps35
 go_wp2
 go_loopw [5,6] (fun v i wr=>∃ k:Nat,k≤(d.groups.2 G).1∧i=.int .i64 k∧v=.int .i64 (zaT (d.groups.2 G).2 k:Int)∧wr=w) (fun _ i _=>(d.groups.2 G).1-(intOf i).toNat)
 case atStart=>exact ⟨0,Nat.zero_le _,rfl,rfl,rfl⟩
 case round=>
  obtain ⟨k,hk,rfl,rfl,e⟩:=hrel;obtain rfl:=e.symm;have hwk:=zeb (d.groups.2 G).2 k
  by_cases hlt:k<(d.groups.2 G).1
  ·have t1:(k:Int)<((d.groups.2 G).1:Int):=by omega
   obtain ⟨b,off,rfl,hblt,hcell⟩:=hc9 (by omega);obtain ⟨cd,hrd,hcd⟩:=hcell k hlt;obtain ⟨ao5,cap5,rfl,g5⟩:=zaM hrd;have c2:w.cell? ⟨b,off+k*2,none⟩=some (.bool ((d.groups.2 G).2 k).wiped):=hcd 0 (by decide);obtain ⟨D,hD⟩:∃ D,D=(d.groups.2 G).2 k:=⟨_,rfl⟩;have HD:Hid (D=(d.groups.2 G).2 k):=hD;rw [← hD] at c2;obtain ⟨m,hm⟩:∃ m,m=zaT (d.groups.2 G).2 k:=⟨_,rfl⟩;have HM:Hid (m=zaT (d.groups.2 G).2 k):=hm;rw [← hm] at hwk ⊢;clear hc9 hcell hcd hrd g5 hD hm
   cases hw:D.wiped with
   | true=>
    rw [hw] at c2;have HW:Hid (D.wiped=true):=hw
    have zz:IntKind.i64.wrap ((m:Int)+1)=(m:Int)+1:=by rw [IntKind.wrap_i64];omega
    clear hw;go_wp2
    go_roundw
    case rel=>exact ⟨k+1,by omega,by go_num,by
     have e:zaT (d.groups.2 G).2 (k+1)=m+1:=by
      show zaT (d.groups.2 G).2 k+(if ((d.groups.2 G).2 k).wiped=true then 1 else 0)=m+1
      rw [← HD.out,if_pos HW.out,← HM.out]
     rw [e];go_num,trivial⟩
    case measure=>simp [intOf];omega
   | false=>
    rw [hw] at c2;have HW:Hid (D.wiped=false):=hw;clear hw;go_wp2
    go_roundw
    case rel=>exact ⟨k+1,by omega,by go_num,by
     have e:zaT (d.groups.2 G).2 (k+1)=m:=by
      show zaT (d.groups.2 G).2 k+(if ((d.groups.2 G).2 k).wiped=true then 1 else 0)=m
      rw [← HD.out,if_neg (by rw [HW.out];decide),← HM.out];rfl
     rw [e],trivial⟩
    case measure=>simp [intOf];omega
  ·obtain rfl:k=(d.groups.2 G).1:=by omega
   clear hlt hc9
   by_cases hd:d.shape 3<(zaT (d.groups.2 G).2 (d.groups.2 G).1:Int)
   ·have HD:Hid (zcL d G):=hd
    have dd:decide (d.shape 3<(zaT (d.groups.2 G).2 (d.groups.2 G).1:Int))=true:=decide_eq_true hd;clear hd;go_wp2;go_ret;exact zam rfl HD.out (Below.refl _ _)
   ·have HD:Hid (¬ zcL d G):=hd
    have dd:decide (d.shape 3<(zaT (d.groups.2 G).2 (d.groups.2 G).1:Int))=false:=decide_eq_false hd;clear hd;go_wp2;go_ret;exact zai rfl HD.out (Below.refl _ _)
end Go.Proofs.YtfhgcadinjfooaaGreat
namespace Go.Proofs.YtfhgcadinjfooaaGreat
end Go.Proofs.YtfhgcadinjfooaaGreat
