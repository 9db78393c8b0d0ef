/- Walks: marks of blocks and drives that are held. -/
import Derived.Lib.QuietBelow
import Derived.Test.YtonemlgejkapbaaGreatZPappenad
set_option linter.unusedVariables false
set_option linter.unusedSimpArgs false
set_option maxHeartbeats 16000000
namespace Go.Proofs.YtonemlgejkapbaaGreat
open Go.RowKit F256
set_option maxRecDepth 20000 in
theorem zeJ:HdS (zah.slice 43) (cSl zau) (mkSl zau za4) 158:=fun v d hi j w h hhi hj=>by
 obtain ⟨n,x⟩:=d;obtain ⟨ao,cap,hv,hm,hc⟩:=h;have hv':v=.slice ao n cap:=zaL hv;subst hv';clear hv;have hj':j+sumN (fun i=>zau (x i)) n≤100000000:=hj;have hm':n≤maxLen:=hm;have hc':n≠0→∃ b off,ao=some ⟨b,off,none⟩∧b<hi∧∀ i,i<n→∃ ce,zah.rd w hi (za4 (j+sumN (fun i=>zau (x i)) i) (x i)) ce∧∀ jj,jj<zah.sz→w.cell? ⟨b,off+(i*zah.sz+jj),none⟩=ce[jj]?:=hc;clear hc hm hj;unfold maxLen at hm'
 go_enter Tryz.func158,Tryz.ntmps158
 go_wp2
 go_loopw [1,5] (fun y i wr=>∃ k:Nat,k≤n∧i=.int .i64 k∧y=.int .i64 ((j+sumN (fun i=>zau (x i)) k:Nat):Int)∧Below w.heap.size w wr) (fun _ i _=>n-(intOf i).toNat)
 case atStart=>exact ⟨0,Nat.zero_le _,rfl,rfl,Below.refl _ _⟩
 case round=>
  obtain ⟨k,hk,rfl,rfl,hb⟩:=hrel
  by_cases hlt:k<n
  ·obtain ⟨b,off,rfl,hblt,hel⟩:=hc' (by omega)
   obtain ⟨ck,hrk,hcell⟩:=zas (t:=0) (x:=fun i=>za4 (j+sumN (fun i=>zau (x i)) i) (x i)) hel hb hhi hblt hlt;have hs1:sumN (fun i=>zau (x i)) (k+1)≤sumN (fun i=>zau (x i)) n:=zbc _ (show k+1≤n from hlt);rw [zaG] at hs1;have hrk1:zah.rd wr hi (za4 (j+sumN (fun i=>zau (x i)) k) (x k)) ck:=hrk;clear hrk;obtain ⟨J,hJ⟩:∃ J,J=j+sumN (fun i=>zau (x i)) k:=⟨_,rfl⟩
   have hJb:J+zau (x k)≤100000000:=by omega
   have HJ:=hid hJ;rw [← hJ] at hrk1 ⊢;clear hs1 hJ hc' hel;have zr:=hb.size;unfold zau at hJb;obtain ⟨ao1,cap1,hck,r1,-⟩:=zba hrk1;subst hck;clear hrk1;have c0_0:wr.cell? ⟨b,off+k*2,none⟩=some (.int .i64 ((J:Int))):=hcell 0 (by decide);have c0_1:wr.cell? ⟨b,off+k*2+1,none⟩=some (.slice ao1 (x k).bytes.1 cap1):=hcell 1 (by decide);have R0_1:=hid r1;clear hcell r1;have HB0:=hid hb;clear hb
   go_wp2_with fail
   refine (zcw _ (x k).bytes hi (J+1) _ R0_1.out (by omega) (by omega)).mono ?_;rintro e w1 ⟨rfl,b1⟩;have z1:wr.heap.size≤w1.heap.size:=b1.size
   have hz1:¬ (((J+1+lenD (x k).bytes:Nat):Int)<0):=by omega
   have HB1:=hid (HB0.out.trans (b1.mono HB0.out.size));clear b1
   go_wp2_with fail
   go_roundw
   case rel=>
    exact ⟨k+1,by omega,by go_num,zbr (by
     have e1:=HJ.out;have e2:sumN (fun i=>zau (x i)) (k+1)=sumN (fun i=>zau (x i)) k+zau (x k):=rfl;have e3:zau (x k)=1+lenD (x k).bytes:=rfl
     omega),HB1.out⟩
   case measure=>simp [intOf];omega
  ·obtain rfl:k=n:=by omega
   go_wp2;go_ret;exact ⟨rfl,hb⟩
set_option maxRecDepth 20000 in
theorem zeK:HdS (zab.slice 75) (cSl zaf) (mkSl zaf zaD) 132:=fun v d hi j w h hhi hj=>by
 obtain ⟨n,x⟩:=d;obtain ⟨ao,cap,hv,hm,hc⟩:=h;have hv':v=.slice ao n cap:=zaL hv;subst hv';clear hv;have hj':j+sumN (fun i=>zaf (x i)) n≤100000000:=hj;have hm':n≤maxLen:=hm;have hc':n≠0→∃ b off,ao=some ⟨b,off,none⟩∧b<hi∧∀ i,i<n→∃ ce,zab.rd w hi (zaD (j+sumN (fun i=>zaf (x i)) i) (x i)) ce∧∀ jj,jj<zab.sz→w.cell? ⟨b,off+(i*zab.sz+jj),none⟩=ce[jj]?:=hc;clear hc hm hj;unfold maxLen at hm'
 go_enter Tryz.func132,Tryz.ntmps132
 go_wp2
 go_loopw [1,5] (fun y i wr=>∃ k:Nat,k≤n∧i=.int .i64 k∧y=.int .i64 ((j+sumN (fun i=>zaf (x i)) k:Nat):Int)∧Below w.heap.size w wr) (fun _ i _=>n-(intOf i).toNat)
 case atStart=>exact ⟨0,Nat.zero_le _,rfl,rfl,Below.refl _ _⟩
 case round=>
  obtain ⟨k,hk,rfl,rfl,hb⟩:=hrel
  by_cases hlt:k<n
  ·obtain ⟨b,off,rfl,hblt,hel⟩:=hc' (by omega)
   obtain ⟨ck,hrk,hcell⟩:=zas (t:=0) (x:=fun i=>zaD (j+sumN (fun i=>zaf (x i)) i) (x i)) hel hb hhi hblt hlt;have hs1:sumN (fun i=>zaf (x i)) (k+1)≤sumN (fun i=>zaf (x i)) n:=zbc _ (show k+1≤n from hlt);rw [zaG] at hs1;have hrk1:zab.rd wr hi (zaD (j+sumN (fun i=>zaf (x i)) k) (x k)) ck:=hrk;clear hrk;obtain ⟨J,hJ⟩:∃ J,J=j+sumN (fun i=>zaf (x i)) k:=⟨_,rfl⟩
   have hJb:J+zaf (x k)≤100000000:=by omega
   have HJ:=hid hJ;rw [← hJ] at hrk1 ⊢;clear hs1 hJ hc' hel;have zr:=hb.size;unfold zaf at hJb;obtain ⟨ao1,cap1,hck,r1⟩:=zbh hrk1;subst hck;clear hrk1;have c0_0:wr.cell? ⟨b,off+k*2,none⟩=some (.bool (decide (J%3=0))):=hcell 0 (by decide);have c0_1:wr.cell? ⟨b,off+k*2+1,none⟩=some (.slice ao1 (x k).blocks.1 cap1):=hcell 1 (by decide);have R0_1:=hid r1;clear hcell r1;have hb3:((J:Int)%3==0)=decide (J%3=0):=zis J;have HB0:=hid hb;clear hb
   go_wp2_with fail
   refine (zeJ _ (x k).blocks hi (J+1) _ R0_1.out (by omega) (by omega)).mono ?_;rintro e w1 ⟨rfl,b1⟩;have z1:wr.heap.size≤w1.heap.size:=b1.size
   have hz1:¬ (((J+1+(cSl zau) (x k).blocks:Nat):Int)<0):=by omega
   have HB1:=hid (HB0.out.trans (b1.mono HB0.out.size));clear b1
   go_wp2_with fail
   go_roundw
   case rel=>
    exact ⟨k+1,by omega,by go_num,zbr (by
     have e1:=HJ.out;have e2:sumN (fun i=>zaf (x i)) (k+1)=sumN (fun i=>zaf (x i)) k+zaf (x k):=rfl;have e3:zaf (x k)=1+(cSl zau) (x k).blocks:=rfl
     omega),HB1.out⟩
   case measure=>simp [intOf];omega
  ·obtain rfl:k=n:=by omega
   go_wp2;go_ret;exact ⟨rfl,hb⟩
set_option maxRecDepth 20000 in
theorem zeh:HdS ((zab.slice 75).slice 76) (cSl (cSl zaf)) (mkSl (cSl zaf) (mkSl zaf zaD)) 86:=fun v d hi j w h hhi hj=>by
 obtain ⟨n,x⟩:=d;obtain ⟨ao,cap,hv,hm,hc⟩:=h;have hv':v=.slice ao n cap:=zaL hv;subst hv';clear hv;have hj':j+sumN (fun i=>(cSl zaf) (x i)) n≤100000000:=hj;have hm':n≤maxLen:=hm;have hc':n≠0→∃ b off,ao=some ⟨b,off,none⟩∧b<hi∧∀ i,i<n→∃ ce,(zab.slice 75).rd w hi ((mkSl zaf zaD) (j+sumN (fun i=>(cSl zaf) (x i)) i) (x i)) ce∧∀ jj,jj<(zab.slice 75).sz→w.cell? ⟨b,off+(i*(zab.slice 75).sz+jj),none⟩=ce[jj]?:=hc;clear hc hm hj;unfold maxLen at hm'
 go_enter Tryz.func86,Tryz.ntmps86
 go_wp2
 go_loopw [1,5] (fun y i wr=>∃ k:Nat,k≤n∧i=.int .i64 k∧y=.int .i64 ((j+sumN (fun i=>(cSl zaf) (x i)) k:Nat):Int)∧Below w.heap.size w wr) (fun _ i _=>n-(intOf i).toNat)
 case atStart=>exact ⟨0,Nat.zero_le _,rfl,rfl,Below.refl _ _⟩
 case round=>
  obtain ⟨k,hk,rfl,rfl,hb⟩:=hrel
  by_cases hlt:k<n
  ·obtain ⟨b,off,rfl,hblt,hel⟩:=hc' (by omega)
   obtain ⟨ck,hrk,hcell⟩:=zas (t:=0) (x:=fun i=>(mkSl zaf zaD) (j+sumN (fun i=>(cSl zaf) (x i)) i) (x i)) hel hb hhi hblt hlt;have hs1:sumN (fun i=>(cSl zaf) (x i)) (k+1)≤sumN (fun i=>(cSl zaf) (x i)) n:=zbc _ (show k+1≤n from hlt);rw [zaG] at hs1;have hrk1:(zab.slice 75).rd wr hi ((mkSl zaf zaD) (j+sumN (fun i=>(cSl zaf) (x i)) k) (x k)) ck:=hrk;clear hrk;obtain ⟨J,hJ⟩:∃ J,J=j+sumN (fun i=>(cSl zaf) (x i)) k:=⟨_,rfl⟩
   have hJb:J+(cSl zaf) (x k)≤100000000:=by omega
   have HJ:=hid hJ;rw [← hJ] at hrk1 ⊢;clear hs1 hJ hc' hel;have zr:=hb.size;obtain ⟨ao9,cap9,hck⟩:=zbq hrk1;subst hck
   have c0:wr.cell? ⟨b,off+k,none⟩=some (.slice ao9 (x k).1 cap9):=by
    have h:=hcell 0 (show 0<1 by decide);rw [show (zab.slice 75).sz=1 from rfl,Nat.mul_one,Nat.add_zero] at h;exact h
   have R0:=hid hrk1;clear hrk1 hcell
   go_wp2_with fail
   refine (zeK _ (x k) hi J _ R0.out (by omega) (by omega)).mono ?_;rintro e w1 ⟨rfl,b1⟩;have HB1:=hid (hb.trans (b1.mono hb.size))
   have hz:¬ (((J+(cSl zaf) (x k):Nat):Int)<0):=by omega
   clear b1 hb
   go_wp2_with fail
   go_roundw
   case rel=>
    exact ⟨k+1,by omega,by go_num,zbr (by
     have e1:=HJ.out;have e2:sumN (fun i=>(cSl zaf) (x i)) (k+1)=sumN (fun i=>(cSl zaf) (x i)) k+(cSl zaf) (x k):=rfl;have e3:(cSl zaf) (x k)=(cSl zaf) (x k):=rfl
     omega),HB1.out⟩
   case measure=>simp [intOf];omega
  ·obtain rfl:k=n:=by omega
   go_wp2;go_ret;exact ⟨rfl,hb⟩
set_option maxRecDepth 20000 in
theorem zgo:HdS (zac.slice 56) (cSl zaM) (mkSl zaM zbi) 133:=fun v d hi j w h hhi hj=>by
 obtain ⟨n,x⟩:=d;obtain ⟨ao,cap,hv,hm,hc⟩:=h;have hv':v=.slice ao n cap:=zaL hv;subst hv';clear hv;have hj':j+sumN (fun i=>zaM (x i)) n≤100000000:=hj;have hm':n≤maxLen:=hm;have hc':n≠0→∃ b off,ao=some ⟨b,off,none⟩∧b<hi∧∀ i,i<n→∃ ce,zac.rd w hi (zbi (j+sumN (fun i=>zaM (x i)) i) (x i)) ce∧∀ jj,jj<zac.sz→w.cell? ⟨b,off+(i*zac.sz+jj),none⟩=ce[jj]?:=hc;clear hc hm hj;unfold maxLen at hm'
 go_enter Tryz.func133,Tryz.ntmps133
 go_wp2
 go_loopw [1,5] (fun y i wr=>∃ k:Nat,k≤n∧i=.int .i64 k∧y=.int .i64 ((j+sumN (fun i=>zaM (x i)) k:Nat):Int)∧Below w.heap.size w wr) (fun _ i _=>n-(intOf i).toNat)
 case atStart=>exact ⟨0,Nat.zero_le _,rfl,rfl,Below.refl _ _⟩
 case round=>
  obtain ⟨k,hk,rfl,rfl,hb⟩:=hrel
  by_cases hlt:k<n
  ·obtain ⟨b,off,rfl,hblt,hel⟩:=hc' (by omega)
   obtain ⟨ck,hrk,hcell⟩:=zas (t:=0) (x:=fun i=>zbi (j+sumN (fun i=>zaM (x i)) i) (x i)) hel hb hhi hblt hlt;have hs1:sumN (fun i=>zaM (x i)) (k+1)≤sumN (fun i=>zaM (x i)) n:=zbc _ (show k+1≤n from hlt);rw [zaG] at hs1;have hrk1:zac.rd wr hi (zbi (j+sumN (fun i=>zaM (x i)) k) (x k)) ck:=hrk;clear hrk;obtain ⟨J,hJ⟩:∃ J,J=j+sumN (fun i=>zaM (x i)) k:=⟨_,rfl⟩
   have hJb:J+zaM (x k)≤100000000:=by omega
   have HJ:=hid hJ;rw [← hJ] at hrk1 ⊢;clear hs1 hJ hc' hel;have zr:=hb.size;unfold zaM at hJb;obtain ⟨ao6,cap6,ao7,cap7,ao8,cap8,hck,r6,r7,r8,-⟩:=zbd hrk1;subst hck;clear hrk1;have c0_0:wr.cell? ⟨b,off+k*9,none⟩=some (.int .i64 ((J:Int))):=hcell 0 (by decide);have c0_1:wr.cell? ⟨b,off+k*9+1,none⟩=some (.int .i64 ((J:Int)+1)):=hcell 1 (by decide);have c0_2:wr.cell? ⟨b,off+k*9+2,none⟩=some (.string (zbg (J+2))):=hcell 2 (by decide);have c0_3:wr.cell? ⟨b,off+k*9+3,none⟩=some (.int .i64 ((J:Int)+3)):=hcell 3 (by decide);have c0_4:wr.cell? ⟨b,off+k*9+4,none⟩=some (.int .i64 ((J:Int)+4)):=hcell 4 (by decide);have c0_5:wr.cell? ⟨b,off+k*9+5,none⟩=some (.int .i64 ((J:Int)+5)):=hcell 5 (by decide);have c0_6:wr.cell? ⟨b,off+k*9+6,none⟩=some (.slice ao6 (x k).rows.1 cap6):=hcell 6 (by decide);have c0_7:wr.cell? ⟨b,off+k*9+7,none⟩=some (.slice ao7 (x k).data.1 cap7):=hcell 7 (by decide);have c0_8:wr.cell? ⟨b,off+k*9+8,none⟩=some (.slice ao8 (x k).delta.1 cap8):=hcell 8 (by decide);have R0_6:=hid r6;have R0_7:=hid r7;have R0_8:=hid r8;clear hcell r6 r7 r8;have HB0:=hid hb;clear hb;have C1:=zdm (J+2) (by omega) (by omega) (wr.drewN 1);go_wp2
   go_region_with (go_at_call 131;refine C1.mono ?_;rintro ee w1 ⟨rfl,bt⟩;have cx:w1.cell? ⟨b,off+k*9+2,none⟩=some (.string (zbg (J+2))):=(bt.cell (p:=⟨b,off+k*9+2,none⟩) (by show b<wr.heap.size;omega)).trans c0_2)
   all_goals
    have bu:Below wr.heap.size wr w1:=(below_drewN (Below.refl wr.heap.size wr) 1).trans bt;have zt:wr.heap.size≤w1.heap.size:=bt.size;have c1_3:w1.cell? ⟨b,off+k*9+3,none⟩=some (.int .i64 ((J:Int)+3)):=(bt.cell (p:=⟨b,off+k*9+3,none⟩) (by show b<wr.heap.size;omega)).trans c0_3;have c1_4:w1.cell? ⟨b,off+k*9+4,none⟩=some (.int .i64 ((J:Int)+4)):=(bt.cell (p:=⟨b,off+k*9+4,none⟩) (by show b<wr.heap.size;omega)).trans c0_4;have c1_5:w1.cell? ⟨b,off+k*9+5,none⟩=some (.int .i64 ((J:Int)+5)):=(bt.cell (p:=⟨b,off+k*9+5,none⟩) (by show b<wr.heap.size;omega)).trans c0_5;have c1_6:w1.cell? ⟨b,off+k*9+6,none⟩=some (.slice ao6 (x k).rows.1 cap6):=(bt.cell (p:=⟨b,off+k*9+6,none⟩) (by show b<wr.heap.size;omega)).trans c0_6;have c1_7:w1.cell? ⟨b,off+k*9+7,none⟩=some (.slice ao7 (x k).data.1 cap7):=(bt.cell (p:=⟨b,off+k*9+7,none⟩) (by show b<wr.heap.size;omega)).trans c0_7;have c1_8:w1.cell? ⟨b,off+k*9+8,none⟩=some (.slice ao8 (x k).delta.1 cap8):=(bt.cell (p:=⟨b,off+k*9+8,none⟩) (by show b<wr.heap.size;omega)).trans c0_8;have R1_6:Hid (zai.rd w1 hi ((zbG (J+6) (x k).rows)) [.slice ao6 (x k).rows.1 cap6]):=zai.rd_below R0_6.out bu (by show hi≤wr.heap.size;omega);have R1_7:Hid (zad.rd w1 hi ((za0 (J+6+lenD (x k).rows) (x k).data)) [.slice ao7 (x k).data.1 cap7]):=zad.rd_below R0_7.out bu (by show hi≤wr.heap.size;omega);have R1_8:Hid (zad.rd w1 hi ((za0 (J+6+lenD (x k).rows+lenD (x k).data) (x k).delta)) [.slice ao8 (x k).delta.1 cap8]):=zad.rd_below R0_8.out bu (by show hi≤wr.heap.size;omega);have HB1:Hid (Below w.heap.size w w1):=HB0.out.trans ((below_drewN (Below.refl wr.heap.size wr) 1).trans bt |>.mono HB0.out.size);clear bt bu C1
    go_wp2_with fail
    refine (zdH _ (x k).rows hi (J+6) _ R1_6.out (by omega) (by omega)).mono ?_;rintro e w2 ⟨rfl,b2⟩;have z2:w1.heap.size≤w2.heap.size:=b2.size
    have hz2:¬ (((J+6+lenD (x k).rows:Nat):Int)<0):=by omega
    have c2_7:w2.cell? ⟨b,off+k*9+7,none⟩=some (.slice ao7 (x k).data.1 cap7):=(b2.cell (p:=⟨b,off+k*9+7,none⟩) (by show b<w1.heap.size;omega)).trans c1_7;have c2_8:w2.cell? ⟨b,off+k*9+8,none⟩=some (.slice ao8 (x k).delta.1 cap8):=(b2.cell (p:=⟨b,off+k*9+8,none⟩) (by show b<w1.heap.size;omega)).trans c1_8;have R2_7:Hid (zad.rd w2 hi ((za0 (J+6+lenD (x k).rows) (x k).data)) [.slice ao7 (x k).data.1 cap7]):=zad.rd_below R1_7.out b2 (by omega);have R2_8:Hid (zad.rd w2 hi ((za0 (J+6+lenD (x k).rows+lenD (x k).data) (x k).delta)) [.slice ao8 (x k).delta.1 cap8]):=zad.rd_below R1_8.out b2 (by omega);have HB2:=hid (HB1.out.trans (b2.mono HB1.out.size));clear b2
    go_wp2_with fail
    refine (zcw _ (x k).data hi (J+6+lenD (x k).rows) _ R2_7.out (by omega) (by omega)).mono ?_;rintro e w3 ⟨rfl,b3⟩;have z3:w2.heap.size≤w3.heap.size:=b3.size
    have hz3:¬ (((J+6+lenD (x k).rows+lenD (x k).data:Nat):Int)<0):=by omega
    have c3_8:w3.cell? ⟨b,off+k*9+8,none⟩=some (.slice ao8 (x k).delta.1 cap8):=(b3.cell (p:=⟨b,off+k*9+8,none⟩) (by show b<w2.heap.size;omega)).trans c2_8;have R3_8:Hid (zad.rd w3 hi ((za0 (J+6+lenD (x k).rows+lenD (x k).data) (x k).delta)) [.slice ao8 (x k).delta.1 cap8]):=zad.rd_below R2_8.out b3 (by omega);have HB3:=hid (HB2.out.trans (b3.mono HB2.out.size));clear b3
    go_wp2_with fail
    refine (zcw _ (x k).delta hi (J+6+lenD (x k).rows+lenD (x k).data) _ R3_8.out (by omega) (by omega)).mono ?_;rintro e w4 ⟨rfl,b4⟩;have z4:w3.heap.size≤w4.heap.size:=b4.size
    have hz4:¬ (((J+6+lenD (x k).rows+lenD (x k).data+lenD (x k).delta:Nat):Int)<0):=by omega
    have HB4:=hid (HB3.out.trans (b4.mono HB3.out.size));clear b4
    go_wp2_with fail
    go_roundw
    case rel=>
     exact ⟨k+1,by omega,by go_num,zbr (by
      have e1:=HJ.out;have e2:sumN (fun i=>zaM (x i)) (k+1)=sumN (fun i=>zaM (x i)) k+zaM (x k):=rfl;have e3:zaM (x k)=6+lenD (x k).rows+lenD (x k).data+lenD (x k).delta:=rfl
      omega),HB4.out⟩
    case measure=>simp [intOf];omega
  ·obtain rfl:k=n:=by omega
   go_wp2;go_ret;exact ⟨rfl,hb⟩
set_option maxRecDepth 20000 in
theorem zfz:HdS (zag.slice 100) (cSl zaC) (mkSl zaC zbB) 88:=fun v d hi j w h hhi hj=>by
 obtain ⟨n,x⟩:=d;obtain ⟨ao,cap,hv,hm,hc⟩:=h;have hv':v=.slice ao n cap:=zaL hv;subst hv';clear hv;have hj':j+sumN (fun i=>zaC (x i)) n≤100000000:=hj;have hm':n≤maxLen:=hm;have hc':n≠0→∃ b off,ao=some ⟨b,off,none⟩∧b<hi∧∀ i,i<n→∃ ce,zag.rd w hi (zbB (j+sumN (fun i=>zaC (x i)) i) (x i)) ce∧∀ jj,jj<zag.sz→w.cell? ⟨b,off+(i*zag.sz+jj),none⟩=ce[jj]?:=hc;clear hc hm hj;unfold maxLen at hm'
 go_enter Tryz.func88,Tryz.ntmps88
 go_wp2
 go_loopw [1,5] (fun y i wr=>∃ k:Nat,k≤n∧i=.int .i64 k∧y=.int .i64 ((j+sumN (fun i=>zaC (x i)) k:Nat):Int)∧Below w.heap.size w wr) (fun _ i _=>n-(intOf i).toNat)
 case atStart=>exact ⟨0,Nat.zero_le _,rfl,rfl,Below.refl _ _⟩
 case round=>
  obtain ⟨k,hk,rfl,rfl,hb⟩:=hrel
  by_cases hlt:k<n
  ·obtain ⟨b,off,rfl,hblt,hel⟩:=hc' (by omega)
   obtain ⟨ck,hrk,hcell⟩:=zas (t:=0) (x:=fun i=>zbB (j+sumN (fun i=>zaC (x i)) i) (x i)) hel hb hhi hblt hlt;have hs1:sumN (fun i=>zaC (x i)) (k+1)≤sumN (fun i=>zaC (x i)) n:=zbc _ (show k+1≤n from hlt);rw [zaG] at hs1;have hrk1:zag.rd wr hi (zbB (j+sumN (fun i=>zaC (x i)) k) (x k)) ck:=hrk;clear hrk;obtain ⟨J,hJ⟩:∃ J,J=j+sumN (fun i=>zaC (x i)) k:=⟨_,rfl⟩
   have hJb:J+zaC (x k)≤100000000:=by omega
   have HJ:=hid hJ;rw [← hJ] at hrk1 ⊢;clear hs1 hJ hc' hel;have zr:=hb.size;unfold zaC at hJb;obtain ⟨ao1,cap1,hck,r1⟩:=za1 hrk1;subst hck;clear hrk1;have c0_0:wr.cell? ⟨b,off+k*2,none⟩=some (.bool (decide (J%3=0))):=hcell 0 (by decide);have c0_1:wr.cell? ⟨b,off+k*2+1,none⟩=some (.slice ao1 (x k).recs.1 cap1):=hcell 1 (by decide);have R0_1:=hid r1;clear hcell r1;have hb3:((J:Int)%3==0)=decide (J%3=0):=zis J;have HB0:=hid hb;clear hb
   go_wp2_with fail
   refine (zgo _ (x k).recs hi (J+1) _ R0_1.out (by omega) (by omega)).mono ?_;rintro e w1 ⟨rfl,b1⟩;have z1:wr.heap.size≤w1.heap.size:=b1.size
   have hz1:¬ (((J+1+(cSl zaM) (x k).recs:Nat):Int)<0):=by omega
   have HB1:=hid (HB0.out.trans (b1.mono HB0.out.size));clear b1
   go_wp2_with fail
   go_roundw
   case rel=>
    exact ⟨k+1,by omega,by go_num,zbr (by
     have e1:=HJ.out;have e2:sumN (fun i=>zaC (x i)) (k+1)=sumN (fun i=>zaC (x i)) k+zaC (x k):=rfl;have e3:zaC (x k)=1+(cSl zaM) (x k).recs:=rfl
     omega),HB1.out⟩
   case measure=>simp [intOf];omega
  ·obtain rfl:k=n:=by omega
   go_wp2;go_ret;exact ⟨rfl,hb⟩
theorem zfA:HdV zae za5 zcB 57:=fun cs d hi j w h hhi hj=>by
 obtain ⟨ao1,cap1,ao2,cap2,ao3,cap3,rfl,r1,r2,r3,-⟩:=zaR h;clear h;unfold za5 at hj ⊢;have R1:=hid r1;have R2:=hid r2;have R3:=hid r3;clear r1 r2 r3
 change Calls Tryz.prog 57 #[.agg (rwW d ao1 cap1 ao2 cap2 ao3 cap3).toArray,.int .i64 j] w _
 go_enter Tryz.func57,Tryz.ntmps57
 go_wp2_with fail
 have T0:=zaQ w (rwW d ao1 cap1 ao2 cap2 ao3 cap3).toArray 38;refine (zeh _ d.groups hi (j) _ (((zab.slice 75).slice 76).rd_below R1.out T0.bel hhi) (Nat.le_trans hhi T0.bel.size) (by omega)).mono ?_;rintro e w1 ⟨rfl,b1⟩;have T1:One w w1 (rwW d ao1 cap1 ao2 cap2 ao3 cap3).toArray 38:=T0.call b1
 have hz1:¬ (((j+(cSl (cSl zaf)) d.groups:Nat):Int)<0):=by omega
 have x1_10:w1.cell? ⟨w.heap.size,10,none⟩=some (.slice ao2 d.on.1 cap2):=T1.b1.cell 10;clear b1
 go_wp2_with fail
 refine (zdH _ d.on hi (j+(cSl (cSl zaf)) d.groups) _ (zai.rd_below R2.out T1.bel hhi) (Nat.le_trans hhi T1.bel.size) (by omega)).mono ?_;rintro e w2 ⟨rfl,b2⟩;have T2:One w w2 (rwW d ao1 cap1 ao2 cap2 ao3 cap3).toArray 38:=T1.call b2
 have hz2:¬ (((j+(cSl (cSl zaf)) d.groups+lenD d.on:Nat):Int)<0):=by omega
 have x2_11:w2.cell? ⟨w.heap.size,11,none⟩=some (.slice ao3 d.tapes.1 cap3):=T2.b1.cell 11;clear b2
 go_wp2_with fail
 refine (zfz _ d.tapes hi (j+(cSl (cSl zaf)) d.groups+lenD d.on) _ ((zag.slice 100).rd_below R3.out T2.bel hhi) (Nat.le_trans hhi T2.bel.size) (by omega)).mono ?_;rintro e w3 ⟨rfl,b3⟩;have T3:One w w3 (rwW d ao1 cap1 ao2 cap2 ao3 cap3).toArray 38:=T2.call b3
 have hz3:¬ (((j+(cSl (cSl zaf)) d.groups+lenD d.on+(cSl zaC) d.tapes:Nat):Int)<0):=by omega
 have HB:=hid T3.bel;clear b3 T3;go_wp2;go_ret;exact ⟨zcp (by omega),HB.out⟩
theorem zc7:HdV zaj za2 zbC 17:=fun cs d hi j w h hhi hj=>by
 obtain ⟨ao1_1,cap1_1,ao1_2,cap1_2,ao1_3,cap1_3,rfl,r1,-⟩:=zbO h;clear h;unfold za2 at hj ⊢;have R1:=(show Hid (zae.rd w hi (zcB (j) d.world) _) from r1);clear r1
 change Calls Tryz.prog 17 #[.agg #[.int .i64 d.code,.int .i64 (d.world.shape 0),.int .i64 (d.world.shape 1),.int .i64 (d.world.shape 2),.int .i64 (d.world.shape 3),.int .i64 (d.world.shape 4),.int .i64 (d.world.shape 5),.int .i64 (d.world.shape 6),.int .i64 (d.world.shape 7),.int .i64 (d.world.shape 8),.slice ao1_1 d.world.groups.1 cap1_1,.slice ao1_2 d.world.on.1 cap1_2,.slice ao1_3 d.world.tapes.1 cap1_3,.int .i64 d.world.writes,.int .i64 d.world.stop,.bool d.world.down],.int .i64 j] w _
 go_enter Tryz.func17,Tryz.ntmps17
 go_wp2_with fail
 have T0:=zaQ w #[.int .i64 d.code,.int .i64 (d.world.shape 0),.int .i64 (d.world.shape 1),.int .i64 (d.world.shape 2),.int .i64 (d.world.shape 3),.int .i64 (d.world.shape 4),.int .i64 (d.world.shape 5),.int .i64 (d.world.shape 6),.int .i64 (d.world.shape 7),.int .i64 (d.world.shape 8),.slice ao1_1 d.world.groups.1 cap1_1,.slice ao1_2 d.world.on.1 cap1_2,.slice ao1_3 d.world.tapes.1 cap1_3,.int .i64 d.world.writes,.int .i64 d.world.stop,.bool d.world.down] 40;refine (zfA _ d.world hi (j) _ (zae.rd_below R1.out T0.bel hhi) (Nat.le_trans hhi T0.bel.size) (by omega)).mono ?_;rintro e w1 ⟨rfl,b1⟩;have T1:One w w1 #[.int .i64 d.code,.int .i64 (d.world.shape 0),.int .i64 (d.world.shape 1),.int .i64 (d.world.shape 2),.int .i64 (d.world.shape 3),.int .i64 (d.world.shape 4),.int .i64 (d.world.shape 5),.int .i64 (d.world.shape 6),.int .i64 (d.world.shape 7),.int .i64 (d.world.shape 8),.slice ao1_1 d.world.groups.1 cap1_1,.slice ao1_2 d.world.on.1 cap1_2,.slice ao1_3 d.world.tapes.1 cap1_3,.int .i64 d.world.writes,.int .i64 d.world.stop,.bool d.world.down] 40:=T0.call b1
 have hz1:¬ (((j+za5 d.world:Nat):Int)<0):=by omega
 have HB:=hid T1.bel;clear b1 T1;go_wp2;go_ret;exact ⟨zcp (by omega),HB.out⟩
theorem zhr:SzV zah zaB 6:=fun cs d hi L w r hhi hL=>by
 obtain ⟨ao1,cap1,rfl,r1,k0⟩:=zba r;clear r;unfold zaB;have R1:=hid r1;clear r1
 go_enter Tryz.func6,Tryz.ntmps6
 go_wp2_with fail
 have T0:=zaQ w #[.int .i64 d.stamp,.slice ao1 d.bytes.1 cap1] 31;refine (zdh _ d.bytes hi L _ (zad.rd_below R1.out T0.bel hhi) (Nat.le_trans hhi T0.bel.size) (by omega)).mono ?_;rintro e w1 ⟨y1,rfl,s1,b1⟩;have T1:One w w1 #[.int .i64 d.stamp,.slice ao1 d.bytes.1 cap1] 31:=T0.call b1;have HB1:=hid T1.bel
 rcases s1 with rfl | ⟨l1,hy1⟩
 ·clear T1 T0 b1
  go_wp2;go_ret;exact ⟨-1,rfl,.inl rfl,HB1.out⟩
 obtain ⟨M1,hM1⟩:∃ M:Nat,M+lenD d.bytes=L:=⟨L-lenD d.bytes,by omega⟩
 obtain rfl:y1=((M1:Nat):Int):=by omega
 have HM1:=hid hM1
 have hML1:M1≤L:=by omega
 have hz1:¬ ((M1:Int)<0):=by omega
 clear hM1 hy1 l1 T0 b1;clear T1;go_wp2;go_ret;exact ⟨M1,rfl,.inr ⟨by have e0:=HM1.out;omega,by have e0:=HM1.out;omega⟩,HB1.out⟩
theorem zgp:SzS (zah.slice 43) (szSl zaB) 145:=fun v d hi L w h hhi hL=>by
 obtain ⟨n,x⟩:=d;obtain ⟨ao,cap,hv,hm,hc⟩:=h
 cases hv
 simp only at hm hc
 unfold maxLen at hm
 by_cases hnL:L<n
 ·clear hc
  have hz:(L:Int)-(n:Int)<0:=by omega
  go_enter Tryz.func145,Tryz.ntmps145
  go_wp2;go_ret;exact ⟨-1,rfl,.inl rfl,Below.refl _ _⟩
 ·have hz:¬ (L:Int)-(n:Int)<0:=by omega
  go_enter Tryz.func145,Tryz.ntmps145
  go_wp2
  go_loopw [1,5] (fun y i wr=>∃ k M:Nat,k≤n∧i=.int .i64 k∧y=.int .i64 M∧M+n+sumN (fun i=>zaB (x i)) k=L∧Below w.heap.size w wr) (fun _ i _=>n-(intOf i).toNat)
  case atStart=>exact ⟨0,L-n,Nat.zero_le _,rfl,zbr (by omega),by simp [sumN];omega,Below.refl _ _⟩
  case round=>
   obtain ⟨k,M,hk,rfl,rfl,hM,hb⟩:=hrel;have HM:=hid hM
   have hML:M≤L:=by omega
   clear hM
   by_cases hlt:k<n
   ·obtain ⟨b,off,rfl,hblt,hel⟩:=hc (by omega)
    obtain ⟨ck,hrk,hcell⟩:=zas (t:=0) hel hb hhi hblt hlt;obtain ⟨ao1,cap1,rfl,-⟩:=zba hrk;have c0:wr.cell? ⟨b,off+k*2,none⟩=some (.int .i64 (x k).stamp):=hcell 0 (by decide);have c1:wr.cell? ⟨b,off+k*2+1,none⟩=some (.slice ao1 (x k).bytes.1 cap1):=hcell 1 (by decide);clear hc hel hcell
    go_wp2_with fail
    refine (zhr _ (x k) hi M _ hrk (Nat.le_trans hhi hb.size) (by omega)).mono ?_;rintro e w2 ⟨y,rfl,s,b2⟩;have HB:=hid (hb.trans (b2.mono hb.size));clear b2 hb hrk
    rcases s with rfl | ⟨l1,hy⟩
    ·go_wp2
     go_ret;exact ⟨-1,rfl,.inl rfl,HB.out⟩
    ·obtain ⟨M',hM'⟩:∃ M':Nat,M'+zaB (x k)=M:=⟨M-zaB (x k),by omega⟩
     obtain rfl:y=(M':Int):=by omega
     have HM':=hid hM'
     have hz2:¬ ((M':Int)<0):=by omega
     clear hM' hy l1
     go_wp2_with fail
     go_roundw
     case rel=>exact ⟨k+1,M',by omega,by go_num,rfl,by
      have e1:=HM.out;have e2:=HM'.out;have e3:sumN (fun i=>zaB (x i)) (k+1)=sumN (fun i=>zaB (x i)) k+zaB (x k):=rfl
      omega,HB.out⟩
     case measure=>simp [intOf];omega
   ·obtain rfl:k=n:=by omega
    go_wp2;go_ret
    exact ⟨M,rfl,.inr ⟨by
     have e1:=HM.out
     show k+sumN (fun i=>zaB (x i)) k≤L
     omega,by
     have e1:=HM.out
     show (M:Int)=(L:Int)-((k+sumN (fun i=>zaB (x i)) k:Nat):Int)
     omega⟩,hb⟩
theorem zhs:SzV zab zap 103:=fun cs d hi L w r hhi hL=>by
 obtain ⟨ao1,cap1,rfl,r1⟩:=zbh r;clear r;unfold zap;have R1:=hid r1;clear r1
 go_enter Tryz.func103,Tryz.ntmps103
 go_wp2_with fail
 have T0:=zaQ w #[.bool d.wiped,.slice ao1 d.blocks.1 cap1] 140;refine (zgp _ d.blocks hi L _ ((zah.slice 43).rd_below R1.out T0.bel hhi) (Nat.le_trans hhi T0.bel.size) (by omega)).mono ?_;rintro e w1 ⟨y1,rfl,s1,b1⟩;have T1:One w w1 #[.bool d.wiped,.slice ao1 d.blocks.1 cap1] 140:=T0.call b1;have HB1:=hid T1.bel
 rcases s1 with rfl | ⟨l1,hy1⟩
 ·clear T1 T0 b1
  go_wp2;go_ret;exact ⟨-1,rfl,.inl rfl,HB1.out⟩
 obtain ⟨M1,hM1⟩:∃ M:Nat,M+(szSl zaB) d.blocks=L:=⟨L-(szSl zaB) d.blocks,by omega⟩
 obtain rfl:y1=((M1:Nat):Int):=by omega
 have HM1:=hid hM1
 have hML1:M1≤L:=by omega
 have hz1:¬ ((M1:Int)<0):=by omega
 clear hM1 hy1 l1 T0 b1;clear T1;go_wp2;go_ret;exact ⟨M1,rfl,.inr ⟨by have e0:=HM1.out;omega,by have e0:=HM1.out;omega⟩,HB1.out⟩
theorem zgq:SzS (zab.slice 75) (szSl zap) 64:=fun v d hi L w h hhi hL=>by
 obtain ⟨n,x⟩:=d;obtain ⟨ao,cap,hv,hm,hc⟩:=h
 cases hv
 simp only at hm hc
 unfold maxLen at hm
 by_cases hnL:L<n
 ·clear hc
  have hz:(L:Int)-(n:Int)<0:=by omega
  go_enter Tryz.func64,Tryz.ntmps64
  go_wp2;go_ret;exact ⟨-1,rfl,.inl rfl,Below.refl _ _⟩
 ·have hz:¬ (L:Int)-(n:Int)<0:=by omega
  go_enter Tryz.func64,Tryz.ntmps64
  go_wp2
  go_loopw [1,5] (fun y i wr=>∃ k M:Nat,k≤n∧i=.int .i64 k∧y=.int .i64 M∧M+n+sumN (fun i=>zap (x i)) k=L∧Below w.heap.size w wr) (fun _ i _=>n-(intOf i).toNat)
  case atStart=>exact ⟨0,L-n,Nat.zero_le _,rfl,zbr (by omega),by simp [sumN];omega,Below.refl _ _⟩
  case round=>
   obtain ⟨k,M,hk,rfl,rfl,hM,hb⟩:=hrel;have HM:=hid hM
   have hML:M≤L:=by omega
   clear hM
   by_cases hlt:k<n
   ·obtain ⟨b,off,rfl,hblt,hel⟩:=hc (by omega)
    obtain ⟨ck,hrk,hcell⟩:=zas (t:=0) hel hb hhi hblt hlt;obtain ⟨ao1,cap1,rfl,-⟩:=zbh hrk;have c0:wr.cell? ⟨b,off+k*2,none⟩=some (.bool (x k).wiped):=hcell 0 (by decide);have c1:wr.cell? ⟨b,off+k*2+1,none⟩=some (.slice ao1 (x k).blocks.1 cap1):=hcell 1 (by decide);clear hc hel hcell
    go_wp2_with fail
    refine (zhs _ (x k) hi M _ hrk (Nat.le_trans hhi hb.size) (by omega)).mono ?_;rintro e w2 ⟨y,rfl,s,b2⟩;have HB:=hid (hb.trans (b2.mono hb.size));clear b2 hb hrk
    rcases s with rfl | ⟨l1,hy⟩
    ·go_wp2
     go_ret;exact ⟨-1,rfl,.inl rfl,HB.out⟩
    ·obtain ⟨M',hM'⟩:∃ M':Nat,M'+zap (x k)=M:=⟨M-zap (x k),by omega⟩
     obtain rfl:y=(M':Int):=by omega
     have HM':=hid hM'
     have hz2:¬ ((M':Int)<0):=by omega
     clear hM' hy l1
     go_wp2_with fail
     go_roundw
     case rel=>exact ⟨k+1,M',by omega,by go_num,rfl,by
      have e1:=HM.out;have e2:=HM'.out;have e3:sumN (fun i=>zap (x i)) (k+1)=sumN (fun i=>zap (x i)) k+zap (x k):=rfl
      omega,HB.out⟩
     case measure=>simp [intOf];omega
   ·obtain rfl:k=n:=by omega
    go_wp2;go_ret
    exact ⟨M,rfl,.inr ⟨by
     have e1:=HM.out
     show k+sumN (fun i=>zap (x i)) k≤L
     omega,by
     have e1:=HM.out
     show (M:Int)=(L:Int)-((k+sumN (fun i=>zap (x i)) k:Nat):Int)
     omega⟩,hb⟩
theorem zfB:SzS ((zab.slice 75).slice 76) (szSl (szSl zap)) 24:=fun v d hi L w h hhi hL=>by
 obtain ⟨n,x⟩:=d;obtain ⟨ao,cap,hv,hm,hc⟩:=h
 cases hv
 simp only at hm hc
 unfold maxLen at hm
 by_cases hnL:L<n
 ·clear hc
  have hz:(L:Int)-(n:Int)<0:=by omega
  go_enter Tryz.func24,Tryz.ntmps24
  go_wp2;go_ret;exact ⟨-1,rfl,.inl rfl,Below.refl _ _⟩
 ·have hz:¬ (L:Int)-(n:Int)<0:=by omega
  go_enter Tryz.func24,Tryz.ntmps24
  go_wp2
  go_loopw [1,5] (fun y i wr=>∃ k M:Nat,k≤n∧i=.int .i64 k∧y=.int .i64 M∧M+n+sumN (fun i=>(szSl zap) (x i)) k=L∧Below w.heap.size w wr) (fun _ i _=>n-(intOf i).toNat)
  case atStart=>exact ⟨0,L-n,Nat.zero_le _,rfl,zbr (by omega),by simp [sumN];omega,Below.refl _ _⟩
  case round=>
   obtain ⟨k,M,hk,rfl,rfl,hM,hb⟩:=hrel;have HM:=hid hM
   have hML:M≤L:=by omega
   clear hM
   by_cases hlt:k<n
   ·obtain ⟨b,off,rfl,hblt,hel⟩:=hc (by omega)
    obtain ⟨ck,hrk,hcell⟩:=zas (t:=0) hel hb hhi hblt hlt;obtain ⟨ao9,cap9,rfl⟩:=zbq hrk
    have c0:wr.cell? ⟨b,off+k,none⟩=some (.slice ao9 (x k).1 cap9):=by
     have h:=hcell 0 (show 0<1 by decide);rw [show (zab.slice 75).sz=1 from rfl,Nat.mul_one,Nat.add_zero] at h;exact h
    clear hc hel hcell
    go_wp2_with fail
    refine (zgq _ (x k) hi M _ hrk (Nat.le_trans hhi hb.size) (by omega)).mono ?_;rintro e w2 ⟨y,rfl,s,b2⟩;have HB:=hid (hb.trans (b2.mono hb.size));clear b2 hb hrk
    rcases s with rfl | ⟨l1,hy⟩
    ·go_wp2
     go_ret;exact ⟨-1,rfl,.inl rfl,HB.out⟩
    ·obtain ⟨M',hM'⟩:∃ M':Nat,M'+(szSl zap) (x k)=M:=⟨M-(szSl zap) (x k),by omega⟩
     obtain rfl:y=(M':Int):=by omega
     have HM':=hid hM'
     have hz2:¬ ((M':Int)<0):=by omega
     clear hM' hy l1
     go_wp2_with fail
     go_roundw
     case rel=>exact ⟨k+1,M',by omega,by go_num,rfl,by
      have e1:=HM.out;have e2:=HM'.out;have e3:sumN (fun i=>(szSl zap) (x i)) (k+1)=sumN (fun i=>(szSl zap) (x i)) k+(szSl zap) (x k):=rfl
      omega,HB.out⟩
     case measure=>simp [intOf];omega
   ·obtain rfl:k=n:=by omega
    go_wp2;go_ret
    exact ⟨M,rfl,.inr ⟨by
     have e1:=HM.out
     show k+sumN (fun i=>(szSl zap) (x i)) k≤L
     omega,by
     have e1:=HM.out
     show (M:Int)=(L:Int)-((k+sumN (fun i=>(szSl zap) (x i)) k:Nat):Int)
     omega⟩,hb⟩
theorem zgZ:SzV zac zaH 18:=fun cs d hi L w r hhi hL=>by
 obtain ⟨ao6,cap6,ao7,cap7,ao8,cap8,rfl,r6,r7,r8,k0,k1,k2,k3,k4,k5⟩:=zbd r;clear r;unfold zaH;have R6:=hid r6;have R7:=hid r7;have R8:=hid r8;clear r6 r7 r8;unfold maxLen at k2
 by_cases hnm:L<d.name.size
 ·have hz:(L:Int)-(d.name.size:Int)<0:=by omega
  go_enter Tryz.func18,Tryz.ntmps18
  go_wp2;go_ret;exact ⟨-1,rfl,.inl rfl,(zaQ w _ _).bel⟩
 ·have hz:¬ (L:Int)-(d.name.size:Int)<0:=by omega
  obtain ⟨M0,hM0⟩:∃ M0:Nat,M0+d.name.size=L:=⟨L-d.name.size,by omega⟩
  have eM0:(L:Int)-(d.name.size:Int)=(M0:Int):=by omega
  go_enter Tryz.func18,Tryz.ntmps18
  go_wp2_with fail
  have T0:=zaQ w (rwR d ao6 cap6 ao7 cap7 ao8 cap8).toArray 53;have HM0:=hid hM0
  have hML0:M0≤L:=by omega
  first | rw [eM0] | skip
  clear hM0;refine (zfm _ d.rows hi M0 _ (zai.rd_below R6.out T0.bel hhi) (Nat.le_trans hhi T0.bel.size) (by omega)).mono ?_;rintro e w1 ⟨y1,rfl,s1,b1⟩;have T1:One w w1 (rwR d ao6 cap6 ao7 cap7 ao8 cap8).toArray 53:=T0.call b1;have x1_7:w1.cell? ⟨w.heap.size,7,none⟩=some (.slice ao7 d.data.1 cap7):=T1.b1.cell 7;have HB1:=hid T1.bel
  rcases s1 with rfl | ⟨l1,hy1⟩
  ·clear T1 T0 b1
   go_wp2;go_ret;exact ⟨-1,rfl,.inl rfl,HB1.out⟩
  obtain ⟨M1,hM1⟩:∃ M:Nat,M+lenD d.rows=M0:=⟨M0-lenD d.rows,by omega⟩
  obtain rfl:y1=((M1:Nat):Int):=by omega
  have HM1:=hid hM1
  have hML1:M1≤M0:=by omega
  have hz1:¬ ((M1:Int)<0):=by omega
  clear hM1 hy1 l1 T0 b1
  go_wp2_with fail
  refine (zdh _ d.data hi M1 _ (zad.rd_below R7.out T1.bel hhi) (Nat.le_trans hhi T1.bel.size) (by omega)).mono ?_;rintro e w2 ⟨y2,rfl,s2,b2⟩;have T2:One w w2 (rwR d ao6 cap6 ao7 cap7 ao8 cap8).toArray 53:=T1.call b2;have x2_8:w2.cell? ⟨w.heap.size,8,none⟩=some (.slice ao8 d.delta.1 cap8):=T2.b1.cell 8;have HB2:=hid T2.bel
  rcases s2 with rfl | ⟨l2,hy2⟩
  ·clear T2 T1 b2
   go_wp2;go_ret;exact ⟨-1,rfl,.inl rfl,HB2.out⟩
  obtain ⟨M2,hM2⟩:∃ M:Nat,M+lenD d.data=M1:=⟨M1-lenD d.data,by omega⟩
  obtain rfl:y2=((M2:Nat):Int):=by omega
  have HM2:=hid hM2
  have hML2:M2≤M1:=by omega
  have hz2:¬ ((M2:Int)<0):=by omega
  clear hM2 hy2 l2 T1 b2
  go_wp2_with fail
  refine (zdh _ d.delta hi M2 _ (zad.rd_below R8.out T2.bel hhi) (Nat.le_trans hhi T2.bel.size) (by omega)).mono ?_;rintro e w3 ⟨y3,rfl,s3,b3⟩;have T3:One w w3 (rwR d ao6 cap6 ao7 cap7 ao8 cap8).toArray 53:=T2.call b3;have HB3:=hid T3.bel
  rcases s3 with rfl | ⟨l3,hy3⟩
  ·clear T3 T2 b3
   go_wp2;go_ret;exact ⟨-1,rfl,.inl rfl,HB3.out⟩
  obtain ⟨M3,hM3⟩:∃ M:Nat,M+lenD d.delta=M2:=⟨M2-lenD d.delta,by omega⟩
  obtain rfl:y3=((M3:Nat):Int):=by omega
  have HM3:=hid hM3
  have hML3:M3≤M2:=by omega
  have hz3:¬ ((M3:Int)<0):=by omega
  clear hM3 hy3 l3 T2 b3;clear T3;go_wp2;go_ret;exact ⟨M3,rfl,.inr ⟨by have e0:=HM0.out;have e1:=HM1.out;have e2:=HM2.out;have e3:=HM3.out;omega,by have e0:=HM0.out;have e1:=HM1.out;have e2:=HM2.out;have e3:=HM3.out;omega⟩,HB3.out⟩
theorem zhX:SzS (zac.slice 56) (szSl zaH) 104:=fun v d hi L w h hhi hL=>by
 obtain ⟨n,x⟩:=d;obtain ⟨ao,cap,hv,hm,hc⟩:=h
 cases hv
 simp only at hm hc
 unfold maxLen at hm
 by_cases hnL:L<n
 ·clear hc
  have hz:(L:Int)-(n:Int)<0:=by omega
  go_enter Tryz.func104,Tryz.ntmps104
  go_wp2;go_ret;exact ⟨-1,rfl,.inl rfl,Below.refl _ _⟩
 ·have hz:¬ (L:Int)-(n:Int)<0:=by omega
  go_enter Tryz.func104,Tryz.ntmps104
  go_wp2
  go_loopw [1,5] (fun y i wr=>∃ k M:Nat,k≤n∧i=.int .i64 k∧y=.int .i64 M∧M+n+sumN (fun i=>zaH (x i)) k=L∧Below w.heap.size w wr) (fun _ i _=>n-(intOf i).toNat)
  case atStart=>exact ⟨0,L-n,Nat.zero_le _,rfl,zbr (by omega),by simp [sumN];omega,Below.refl _ _⟩
  case round=>
   obtain ⟨k,M,hk,rfl,rfl,hM,hb⟩:=hrel;have HM:=hid hM
   have hML:M≤L:=by omega
   clear hM
   by_cases hlt:k<n
   ·obtain ⟨b,off,rfl,hblt,hel⟩:=hc (by omega)
    obtain ⟨ck,hrk,hcell⟩:=zas (t:=0) hel hb hhi hblt hlt;obtain ⟨ao6,cap6,ao7,cap7,ao8,cap8,rfl,-⟩:=zbd hrk;have c0:wr.cell? ⟨b,off+k*9,none⟩=some (.int .i64 (x k).kind):=hcell 0 (by decide);have c1:wr.cell? ⟨b,off+k*9+1,none⟩=some (.int .i64 (x k).seq):=hcell 1 (by decide);have c2:wr.cell? ⟨b,off+k*9+2,none⟩=some (.string (x k).name):=hcell 2 (by decide);have c3:wr.cell? ⟨b,off+k*9+3,none⟩=some (.int .i64 (x k).length):=hcell 3 (by decide);have c4:wr.cell? ⟨b,off+k*9+4,none⟩=some (.int .i64 (x k).group):=hcell 4 (by decide);have c5:wr.cell? ⟨b,off+k*9+5,none⟩=some (.int .i64 (x k).row):=hcell 5 (by decide);have c6:wr.cell? ⟨b,off+k*9+6,none⟩=some (.slice ao6 (x k).rows.1 cap6):=hcell 6 (by decide);have c7:wr.cell? ⟨b,off+k*9+7,none⟩=some (.slice ao7 (x k).data.1 cap7):=hcell 7 (by decide);have c8:wr.cell? ⟨b,off+k*9+8,none⟩=some (.slice ao8 (x k).delta.1 cap8):=hcell 8 (by decide);clear hc hel hcell
    go_wp2_with fail
    refine (zgZ _ (x k) hi M _ hrk (Nat.le_trans hhi hb.size) (by omega)).mono ?_;rintro e w2 ⟨y,rfl,s,b2⟩;have HB:=hid (hb.trans (b2.mono hb.size));clear b2 hb hrk
    rcases s with rfl | ⟨l1,hy⟩
    ·go_wp2
     go_ret;exact ⟨-1,rfl,.inl rfl,HB.out⟩
    ·obtain ⟨M',hM'⟩:∃ M':Nat,M'+zaH (x k)=M:=⟨M-zaH (x k),by omega⟩
     obtain rfl:y=(M':Int):=by omega
     have HM':=hid hM'
     have hz2:¬ ((M':Int)<0):=by omega
     clear hM' hy l1
     go_wp2_with fail
     go_roundw
     case rel=>exact ⟨k+1,M',by omega,by go_num,rfl,by
      have e1:=HM.out;have e2:=HM'.out;have e3:sumN (fun i=>zaH (x i)) (k+1)=sumN (fun i=>zaH (x i)) k+zaH (x k):=rfl
      omega,HB.out⟩
     case measure=>simp [intOf];omega
   ·obtain rfl:k=n:=by omega
    go_wp2;go_ret
    exact ⟨M,rfl,.inr ⟨by
     have e1:=HM.out
     show k+sumN (fun i=>zaH (x i)) k≤L
     omega,by
     have e1:=HM.out
     show (M:Int)=(L:Int)-((k+sumN (fun i=>zaH (x i)) k:Nat):Int)
     omega⟩,hb⟩
theorem zhY:SzV zag zaN 65:=fun cs d hi L w r hhi hL=>by
 obtain ⟨ao1,cap1,rfl,r1⟩:=za1 r;clear r;unfold zaN;have R1:=hid r1;clear r1
 go_enter Tryz.func65,Tryz.ntmps65
 go_wp2_with fail
 have T0:=zaQ w #[.bool d.wiped,.slice ao1 d.recs.1 cap1] 109;refine (zhX _ d.recs hi L _ ((zac.slice 56).rd_below R1.out T0.bel hhi) (Nat.le_trans hhi T0.bel.size) (by omega)).mono ?_;rintro e w1 ⟨y1,rfl,s1,b1⟩;have T1:One w w1 #[.bool d.wiped,.slice ao1 d.recs.1 cap1] 109:=T0.call b1;have HB1:=hid T1.bel
 rcases s1 with rfl | ⟨l1,hy1⟩
 ·clear T1 T0 b1
  go_wp2;go_ret;exact ⟨-1,rfl,.inl rfl,HB1.out⟩
 obtain ⟨M1,hM1⟩:∃ M:Nat,M+(szSl zaH) d.recs=L:=⟨L-(szSl zaH) d.recs,by omega⟩
 obtain rfl:y1=((M1:Nat):Int):=by omega
 have HM1:=hid hM1
 have hML1:M1≤L:=by omega
 have hz1:¬ ((M1:Int)<0):=by omega
 clear hM1 hy1 l1 T0 b1;clear T1;go_wp2;go_ret;exact ⟨M1,rfl,.inr ⟨by have e0:=HM1.out;omega,by have e0:=HM1.out;omega⟩,HB1.out⟩
theorem zht:SzS (zag.slice 100) (szSl zaN) 26:=fun v d hi L w h hhi hL=>by
 obtain ⟨n,x⟩:=d;obtain ⟨ao,cap,hv,hm,hc⟩:=h
 cases hv
 simp only at hm hc
 unfold maxLen at hm
 by_cases hnL:L<n
 ·clear hc
  have hz:(L:Int)-(n:Int)<0:=by omega
  go_enter Tryz.func26,Tryz.ntmps26
  go_wp2;go_ret;exact ⟨-1,rfl,.inl rfl,Below.refl _ _⟩
 ·have hz:¬ (L:Int)-(n:Int)<0:=by omega
  go_enter Tryz.func26,Tryz.ntmps26
  go_wp2
  go_loopw [1,5] (fun y i wr=>∃ k M:Nat,k≤n∧i=.int .i64 k∧y=.int .i64 M∧M+n+sumN (fun i=>zaN (x i)) k=L∧Below w.heap.size w wr) (fun _ i _=>n-(intOf i).toNat)
  case atStart=>exact ⟨0,L-n,Nat.zero_le _,rfl,zbr (by omega),by simp [sumN];omega,Below.refl _ _⟩
  case round=>
   obtain ⟨k,M,hk,rfl,rfl,hM,hb⟩:=hrel;have HM:=hid hM
   have hML:M≤L:=by omega
   clear hM
   by_cases hlt:k<n
   ·obtain ⟨b,off,rfl,hblt,hel⟩:=hc (by omega)
    obtain ⟨ck,hrk,hcell⟩:=zas (t:=0) hel hb hhi hblt hlt;obtain ⟨ao1,cap1,rfl,-⟩:=za1 hrk;have c0:wr.cell? ⟨b,off+k*2,none⟩=some (.bool (x k).wiped):=hcell 0 (by decide);have c1:wr.cell? ⟨b,off+k*2+1,none⟩=some (.slice ao1 (x k).recs.1 cap1):=hcell 1 (by decide);clear hc hel hcell
    go_wp2_with fail
    refine (zhY _ (x k) hi M _ hrk (Nat.le_trans hhi hb.size) (by omega)).mono ?_;rintro e w2 ⟨y,rfl,s,b2⟩;have HB:=hid (hb.trans (b2.mono hb.size));clear b2 hb hrk
    rcases s with rfl | ⟨l1,hy⟩
    ·go_wp2
     go_ret;exact ⟨-1,rfl,.inl rfl,HB.out⟩
    ·obtain ⟨M',hM'⟩:∃ M':Nat,M'+zaN (x k)=M:=⟨M-zaN (x k),by omega⟩
     obtain rfl:y=(M':Int):=by omega
     have HM':=hid hM'
     have hz2:¬ ((M':Int)<0):=by omega
     clear hM' hy l1
     go_wp2_with fail
     go_roundw
     case rel=>exact ⟨k+1,M',by omega,by go_num,rfl,by
      have e1:=HM.out;have e2:=HM'.out;have e3:sumN (fun i=>zaN (x i)) (k+1)=sumN (fun i=>zaN (x i)) k+zaN (x k):=rfl
      omega,HB.out⟩
     case measure=>simp [intOf];omega
   ·obtain rfl:k=n:=by omega
    go_wp2;go_ret
    exact ⟨M,rfl,.inr ⟨by
     have e1:=HM.out
     show k+sumN (fun i=>zaN (x i)) k≤L
     omega,by
     have e1:=HM.out
     show (M:Int)=(L:Int)-((k+sumN (fun i=>zaN (x i)) k:Nat):Int)
     omega⟩,hb⟩
theorem zhu:SzV zae zaS 5:=fun cs d hi L w r hhi hL=>by
 obtain ⟨ao1,cap1,ao2,cap2,ao3,cap3,rfl,r1,r2,r3,k0,k4,k5⟩:=zaR r;clear r;unfold zaS;have R1:=hid r1;have R2:=hid r2;have R3:=hid r3;clear r1 r2 r3
 go_enter Tryz.func5,Tryz.ntmps5
 go_wp2_with fail
 have T0:=zaQ w (rwW d ao1 cap1 ao2 cap2 ao3 cap3).toArray 28;refine (zfB _ d.groups hi L _ (((zab.slice 75).slice 76).rd_below R1.out T0.bel hhi) (Nat.le_trans hhi T0.bel.size) (by omega)).mono ?_;rintro e w1 ⟨y1,rfl,s1,b1⟩;have T1:One w w1 (rwW d ao1 cap1 ao2 cap2 ao3 cap3).toArray 28:=T0.call b1;have x1_10:w1.cell? ⟨w.heap.size,10,none⟩=some (.slice ao2 d.on.1 cap2):=T1.b1.cell 10;have HB1:=hid T1.bel
 rcases s1 with rfl | ⟨l1,hy1⟩
 ·clear T1 T0 b1
  go_wp2;go_ret;exact ⟨-1,rfl,.inl rfl,HB1.out⟩
 obtain ⟨M1,hM1⟩:∃ M:Nat,M+(szSl (szSl zap)) d.groups=L:=⟨L-(szSl (szSl zap)) d.groups,by omega⟩
 obtain rfl:y1=((M1:Nat):Int):=by omega
 have HM1:=hid hM1
 have hML1:M1≤L:=by omega
 have hz1:¬ ((M1:Int)<0):=by omega
 clear hM1 hy1 l1 T0 b1
 go_wp2_with fail
 refine (zfm _ d.on hi M1 _ (zai.rd_below R2.out T1.bel hhi) (Nat.le_trans hhi T1.bel.size) (by omega)).mono ?_;rintro e w2 ⟨y2,rfl,s2,b2⟩;have T2:One w w2 (rwW d ao1 cap1 ao2 cap2 ao3 cap3).toArray 28:=T1.call b2;have x2_11:w2.cell? ⟨w.heap.size,11,none⟩=some (.slice ao3 d.tapes.1 cap3):=T2.b1.cell 11;have HB2:=hid T2.bel
 rcases s2 with rfl | ⟨l2,hy2⟩
 ·clear T2 T1 b2
  go_wp2;go_ret;exact ⟨-1,rfl,.inl rfl,HB2.out⟩
 obtain ⟨M2,hM2⟩:∃ M:Nat,M+lenD d.on=M1:=⟨M1-lenD d.on,by omega⟩
 obtain rfl:y2=((M2:Nat):Int):=by omega
 have HM2:=hid hM2
 have hML2:M2≤M1:=by omega
 have hz2:¬ ((M2:Int)<0):=by omega
 clear hM2 hy2 l2 T1 b2
 go_wp2_with fail
 refine (zht _ d.tapes hi M2 _ ((zag.slice 100).rd_below R3.out T2.bel hhi) (Nat.le_trans hhi T2.bel.size) (by omega)).mono ?_;rintro e w3 ⟨y3,rfl,s3,b3⟩;have T3:One w w3 (rwW d ao1 cap1 ao2 cap2 ao3 cap3).toArray 28:=T2.call b3;have HB3:=hid T3.bel
 rcases s3 with rfl | ⟨l3,hy3⟩
 ·clear T3 T2 b3
  go_wp2;go_ret;exact ⟨-1,rfl,.inl rfl,HB3.out⟩
 obtain ⟨M3,hM3⟩:∃ M:Nat,M+(szSl zaN) d.tapes=M2:=⟨M2-(szSl zaN) d.tapes,by omega⟩
 obtain rfl:y3=((M3:Nat):Int):=by omega
 have HM3:=hid hM3
 have hML3:M3≤M2:=by omega
 have hz3:¬ ((M3:Int)<0):=by omega
 clear hM3 hy3 l3 T2 b3;clear T3;go_wp2;go_ret;exact ⟨M3,rfl,.inr ⟨by have e0:=HM1.out;have e1:=HM2.out;have e2:=HM3.out;omega,by have e0:=HM1.out;have e1:=HM2.out;have e2:=HM3.out;omega⟩,HB3.out⟩
def zaJ (b:ByteArray) (i:Nat):Nat:=if h:i<b.size then (b[i]'h).toNat else 0
theorem zcM (b:ByteArray) (i:Nat) (h:i<b.size) (w:World):(Instr.index 9 (.string b) (.int .i64 (i:Int))).run Tryz.prog w=.ok (.int .u8 (zaJ b i)) w:=by
 rw [run_index_string w 9 b .i64 (i:Int) Tryz.underlying9,dif_pos ⟨by omega,by omega⟩]
 simp [zaJ,h]
def LetP (y:Nat):Prop:=97≤y∧y≤122
def DigP (y:Nat):Prop:=48≤y∧y≤57
def zbT (b:ByteArray):Prop:=1≤b.size∧b.size≤8∧LetP (zaJ b 0)∧∀ i,i<b.size→LetP (zaJ b i)∨DigP (zaJ b i)
def zi7 (b:ByteArray) (x:Int):Prop:=(x=5∧¬ zbT b)∨(x=0∧zbT b)
theorem zfC (
 b:ByteArray) (hb:b.size≤1048576) (w:World) :
 Calls Tryz.prog 90 #[.string b] w fun e w'=>∃ x,e=.returned (.int .i64 x)∧zi7 b x∧w'=w:=by
 by_cases h1:1≤b.size
 ·have t1:decide (
   (b.size:Int)<1)=false:=by simp;omega
  have t1n:decide (b.size<1)=false:=decide_eq_false (by omega);have t1z:decide (b.size=0)=false:=decide_eq_false (by omega)
  by_cases h2:b.size≤8
  ·have t2:decide ((8:Int)<(b.size:Int))=false:=by simp;omega
   have t2n:decide (8<b.size)=false:=by simp;omega
   have hix:=zcM b 0 h1;have e0:((0:Nat):Int)=0:=rfl;rw [e0] at hix;obtain ⟨y,hy⟩:∃ y,y=zaJ b 0:=⟨_,rfl⟩;rw [← hy] at hix;have HY:=hid hy;clear e0 hy
   by_cases h3:y<97
   ·have HN:Hid (¬ zbT b):=fun h=>by have:=h.2.2.1.1;rw [← HY.out] at this;omega
    have t3:decide ((y:Int)<97)=true:=by simp;omega
    go_enter Tryz.func90,Tryz.ntmps90
    go_wp2;go_ret;exact ⟨5,rfl,.inl ⟨rfl,HN.out⟩,rfl⟩
   ·have t3:decide ((y:Int)<97)=false:=by simp;omega
    have t3n:decide (y<97)=false:=by simp;omega
    by_cases h4:122<y
    ·have HN:Hid (¬ zbT b):=fun h=>by have:=h.2.2.1.2;rw [← HY.out] at this;omega
     have t4:decide ((122:Int)<(y:Int))=true:=by simp;omega
     clear h3
     go_enter Tryz.func90,Tryz.ntmps90
     go_wp2;go_ret;exact ⟨5,rfl,.inl ⟨rfl,HN.out⟩,rfl⟩
    ·have t4:decide ((122:Int)<(y:Int))=false:=by simp;omega
     have t4n:decide (122<y)=false:=by simp;omega
     have HL:Hid (LetP (zaJ b 0)):=by show LetP (zaJ b 0);rw [← HY.out];exact ⟨by omega,by omega⟩
     clear h3 h4
     go_enter Tryz.func90,Tryz.ntmps90
     go_wp2
     go_loop [3] (fun i=>∃ k:Nat,k≤b.size∧i=.int .i64 k∧∀ i,i<k→LetP (zaJ b i)∨DigP (zaJ b i)) (fun i=>b.size-(intOf i).toNat)
     case atStart=>exact ⟨0,Nat.zero_le _,rfl,fun i hi=>by omega⟩
     case round=>
      obtain ⟨k,hk,rfl,hall⟩:=hrel;have HALL:=hid hall;clear hall
      by_cases hlt:k<b.size
      ·have hik:=zcM b k hlt
       obtain ⟨z,hz⟩:∃ z,z=zaJ b k:=⟨_,rfl⟩;rw [← hz] at hik;have HZ:=hid hz;clear hz
       by_cases c1:z<97
       ·have s1:decide (
         (z:Int)<97)=true:=by simp;omega
        by_cases c3:z<48
        ·have s3:decide ((z:Int)<48)=true:=by simp;omega
         have HN:Hid (¬ zbT b):=fun h=>by
          have:=h.2.2.2 k hlt;rw [← HZ.out] at this;unfold LetP DigP at this;omega
         go_wp2;go_ret;exact ⟨5,rfl,.inl ⟨rfl,HN.out⟩,rfl⟩
        ·have s3:decide ((z:Int)<48)=false:=by simp;omega
         have s3n:decide (z<48)=false:=by simp;omega
         by_cases c4:57<z
         ·have s4:decide ((57:Int)<(z:Int))=true:=by simp;omega
          have HN:Hid (¬ zbT b):=fun h=>by
           have:=h.2.2.2 k hlt;rw [← HZ.out] at this;unfold LetP DigP at this;omega
          clear c3;go_wp2;go_ret;exact ⟨5,rfl,.inl ⟨rfl,HN.out⟩,rfl⟩
         ·have s4:decide ((57:Int)<(z:Int))=false:=by simp;omega
          have s4n:decide (57<z)=false:=by simp;omega
          have HD:Hid (DigP (zaJ b k)):=by show DigP (zaJ b k);rw [← HZ.out];exact ⟨by omega,by omega⟩
          clear c3 c4;go_wp2
          go_round
          case rel=>exact ⟨k+1,by omega,by go_num,fun i hi=>by
           by_cases c:i=k
           ·right;rw [c];exact HD.out
           ·exact HALL.out i (by omega)⟩
          case measure=>simp [intOf];omega
       ·have s1:decide ((z:Int)<97)=false:=by simp;omega
        have s1n:decide (z<97)=false:=by simp;omega
        by_cases c2:122<z
        ·have s2:decide ((122:Int)<(z:Int))=true:=by simp;omega
         have s3:decide ((z:Int)<48)=false:=by simp;omega
         have s3n:decide (z<48)=false:=by simp;omega
         have s4:decide ((57:Int)<(z:Int))=true:=by simp;omega
         have HN:Hid (¬ zbT b):=fun h=>by
          have:=h.2.2.2 k hlt;rw [← HZ.out] at this;unfold LetP DigP at this;omega
         clear c1;go_wp2;go_ret;exact ⟨5,rfl,.inl ⟨rfl,HN.out⟩,rfl⟩
        ·have s2:decide ((122:Int)<(z:Int))=false:=by simp;omega
         have s2n:decide (122<z)=false:=by simp;omega
         have HD:Hid (LetP (zaJ b k)):=by show LetP (zaJ b k);rw [← HZ.out];exact ⟨by omega,by omega⟩
         clear c1 c2;go_wp2
         go_round
         case rel=>exact ⟨k+1,by omega,by go_num,fun i hi=>by
          by_cases c:i=k
          ·left;rw [c];exact HD.out
          ·exact HALL.out i (by omega)⟩
         case measure=>simp [intOf];omega
      ·obtain rfl:k=b.size:=by omega
       have HY2:Hid (zbT b):=⟨h1,h2,HL.out,HALL.out⟩;go_wp2;go_ret;exact ⟨0,rfl,.inr ⟨rfl,HY2.out⟩,rfl⟩
  ·have HN:Hid (¬ zbT b):=fun h=>h2 h.2.1
   have t2:decide ((8:Int)<(b.size:Int))=true:=by simp;omega
   have t2i:(8:Int)<(b.size:Int):=by omega
   clear h2
   go_enter Tryz.func90,Tryz.ntmps90
   go_wp2;go_ret;exact ⟨5,rfl,.inl ⟨rfl,HN.out⟩,rfl⟩
 ·have HN:Hid (¬ zbT b):=fun h=>h1 h.1
  have t1:decide ((b.size:Int)<1)=true:=by simp;omega
  have t1i:(b.size:Int)<1:=by omega
  clear h1
  go_enter Tryz.func90,Tryz.ntmps90
  go_wp2;go_ret;exact ⟨5,rfl,.inl ⟨rfl,HN.out⟩,rfl⟩
def InP (x a b:Int):Prop:=a≤x∧x≤b
def zbR (n:Nat) (g:Nat→Int) (most:Int):Prop:=∀ i,i<n→InP (g i) 0 most∧∀ t,t<i→g t≠g i
def zby (s:Nat→Int) (r:RecD):Prop:=
 (r.length=-1∧r.data.1=0∧r.rows.1=0) ∨
 (r.length≠-1∧1≤r.length∧r.length≤3*(s 2*4)∧
  (
   (0<r.data.1∧(r.data.1:Int)=r.length∧r.rows.1=0) ∨
   (r.data.1=0∧(r.rows.1:Int)=(r.length+s 2*4-1)/(s 2*4)∧zbR r.rows.1 r.rows.2 (s 4-1))))
def ziP (s:Nat→Int) (r:RecD):Prop:=InP r.group 0 (s 0-1)∧InP r.row 0 (s 4-1)∧(r.data.1:Int)=s 2*4∧(r.delta.1:Int)=s 2*4
def ziQ (s:Nat→Int) (r:RecD):Prop:=InP r.group 0 (s 0+s 1-1)
def zeL (s:Nat→Int) (r:RecD):Prop:=(r.delta.1:Int)=s 0+s 1∧r.delta.2 r.group.toNat=0∧∀ i,i<r.rows.1→r.delta.2 (r.rows.2 i).toNat≠0
def zg0 (s:Nat→Int) (r:RecD):Prop:=InP r.group 0 (s 0+s 1-1)∧InP r.row 0 (s 4-1)∧zcC r.rows.1 r.rows.2 (s 0+s 1-1)∧(r.data.1:Int)=s 2*4∧zeL s r
def zbj (s:Nat→Int) (r:RecD):Prop:=(r.kind=1∧zby s r)∨(r.kind=2∧ziP s r)∨(r.kind=3∧ziQ s r)∨(r.kind=4∧zg0 s r)
def zcD (r:RecD):Prop:=r.name=ByteArray.empty∧r.length=0
def zbe (r:RecD):Prop:=
 (r.kind=1∧r.group=0∧r.row=0∧r.delta.1=0)∨(r.kind=2∧zcD r∧r.rows.1=0) ∨
 (r.kind=3∧zcD r∧r.row=0∧r.rows.1=0∧r.data.1=0∧r.delta.1=0)∨(r.kind=4∧zcD r)
def zc8 (r:RecD):Prop:=r.kind=1→zbT r.name
def Stair:List (Prop×Int)→(Int→Prop)→Int→Prop
 | [],K,x=>K x
 | (p,c)::l,K,x=>(¬ p∧x=c)∨(p∧Stair l K x)
theorem Stair.fall {p:Prop} {c:Int} {l:List (Prop×Int)} {K:Int→Prop} (h:¬ p):Stair ((p,c)::l) K c:=.inl ⟨h,rfl⟩
theorem Stair.pass {p:Prop} {c:Int} {l:List (Prop×Int)} {K:Int→Prop} {x:Int} (h:p) (k:Stair l K x):Stair ((p,c)::l) K x:=.inr ⟨h,k⟩
theorem Stair.last {K:Int→Prop} {x:Int} (h:K x):Stair [] K x:=h
theorem Stair.one {K:Int→Prop} (hK:∀ x y,K x→K y→x=y):∀ (l:List (Prop×Int)) {x y:Int},Stair l K x→Stair l K y→x=y
 | [],x,y,h,k=>hK x y h k
 | (p,c)::l,x,y,h,k=>by
  rcases h with ⟨h1,h2⟩ | ⟨h1,h2⟩<;>rcases k with ⟨k1,k2⟩ | ⟨k1,k2⟩
  ·rw [h2,k2]
  ·exact absurd k1 h1
  ·exact absurd h1 k1
  ·exact Stair.one hK l h2 k2
def isZ (x:Int):Prop:=x=0
theorem zhZ (x y:Int) (h:isZ x) (k:isZ y):x=y:=by rw [show x=0 from h,show y=0 from k]
def RecAns (s:Nat→Int) (r:RecD) (x:Int):Prop:=
 Stair [(zaq s,3),(InP r.kind 1 4,5),(InP r.seq 1 1000000000,3),(zc8 r,5),(zbj s r,3),(zbe r,1)] isZ x
theorem RecAns.one {s:Nat→Int} {r:RecD} {x y:Int} (h:RecAns s r x) (k:RecAns s r y):x=y:=Stair.one zhZ _ h k
def zcS (b:BlockD):Prop:=InP b.stamp 0 1000000000∧b.bytes.1=4
def zdP (s:Nat→Int) (p:Nat×(Nat→BlockD)):Prop:=(p.1:Int)=s 4∧∀ i,i<p.1→zcS (p.2 i)
def zeM (s:Nat→Int) (p:Nat×(Nat→DriveD)):Prop:=(p.1:Int)=s 2+s 3∧∀ i,i<p.1→zdP s (p.2 i).blocks
def zcs (d:WorldD):Prop:=(d.groups.1:Int)=d.shape 0+d.shape 1∧∀ i,i<d.groups.1→zeM d.shape (d.groups.2 i)
def OnP (d:WorldD):Prop:=zbR d.on.1 d.on.2 (d.shape 0+d.shape 1-1)∧(d.on.1:Int)≤d.shape 5∧(d.down=true→d.on.1=0)
def zcg (d:WorldD):Prop:=zcs d∧OnP d∧d.tapes.1=2
def FewP (d:WorldD):Prop:=∀ t,t<d.tapes.1→(d.tapes.2 t).recs.1≤200
def RecsAns (s:Nat→Int) (n:Nat) (x:Nat→TapeD) (c:Int):Prop:=
 (c=0∧∀ t,t<n→∀ i,i<(x t).recs.1→RecAns s ((x t).recs.2 i) 0) ∨
 (c≠0∧∃ t i,t<n∧i<(x t).recs.1∧RecAns s ((x t).recs.2 i) c∧(∀ k,k<i→RecAns s ((x t).recs.2 k) 0)∧∀ u,u<t→∀ k,k<(x u).recs.1→RecAns s ((x u).recs.2 k) 0)
theorem RecsAns.one {s:Nat→Int} {n:Nat} {x:Nat→TapeD} {c e:Int} (h:RecsAns s n x c) (k:RecsAns s n x e):c=e:=by
 rcases h with ⟨rfl,h⟩ | ⟨hc,t,i,ht,hi,hr,hb,hu⟩<;>rcases k with ⟨rfl,k⟩ | ⟨kc,t',i',kt,ki,kr,kb,ku⟩
 ·rfl
 ·exact absurd (kr.one (h t' kt i' ki)) kc
 ·exact absurd (hr.one (k t ht i hi)) hc
 ·rcases Nat.lt_trichotomy t t' with c1 | c1 | c1
  ·exact absurd (hr.one (ku t c1 i hi)) hc
  ·subst c1
   rcases Nat.lt_trichotomy i i' with c2 | c2 | c2
   ·exact absurd (hr.one (kb i c2)) hc
   ·subst c2;exact hr.one kr
   ·exact absurd (kr.one (hb i' c2)) kc
  ·exact absurd (kr.one (hu t' c1 i' ki)) kc
def zg1 (d:WorldD):Prop:=∀ t,t<d.tapes.1→(d.tapes.2 t).wiped=true→(d.tapes.2 t).recs.1=0
def zeu (d:WorldD):Prop:=InP d.writes 0 1000000000∧InP d.stop (-1) 1000000000
def WldAns (d:WorldD) (x:Int):Prop:=
 Stair [(zaq d.shape,3),(zcg d,1),(FewP d,2)] (fun x=>(x≠0∧RecsAns d.shape d.tapes.1 d.tapes.2 x)∨(RecsAns d.shape d.tapes.1 d.tapes.2 0∧Stair [(zg1 d,1),(zeu d,3)] isZ x)) x
theorem WldAns.one {d:WorldD} {x y:Int} (h:WldAns d x) (k:WldAns d y):x=y:=by
 refine Stair.one (fun x y h k=>?_) _ h k
 rcases h with ⟨h1,h2⟩ | ⟨h1,h2⟩<;>rcases k with ⟨k1,k2⟩ | ⟨k1,k2⟩
 ·exact h2.one k2
 ·exact absurd (h2.one k1) h1
 ·exact absurd (k2.one h1) k1
 ·exact Stair.one zhZ _ h2 k2
structure OkWorld (d:WorldD):Prop where
 shape:zaq d.shape
 form:zcg d
 few:FewP d
 recs:∀ t,t<d.tapes.1→∀ i,i<(d.tapes.2 t).recs.1→RecAns d.shape ((d.tapes.2 t).recs.2 i) 0
 clean:zg1 d
 count:zeu d
theorem WldAns.ok {d:WorldD} (h:WldAns d 0):OkWorld d:=by
 rcases h with ⟨_,h⟩ | ⟨h1,h⟩
 ·omega
 rcases h with ⟨_,h⟩ | ⟨h2,h⟩
 ·omega
 rcases h with ⟨_,h⟩ | ⟨h3,h⟩
 ·omega
 rcases h with ⟨h,_⟩ | ⟨h4,h⟩
 ·exact absurd rfl h
 rcases h with ⟨_,h⟩ | ⟨h5,h⟩
 ·omega
 rcases h with ⟨_,h⟩ | ⟨h6,h⟩
 ·omega
 rcases h4 with ⟨_,h4⟩ | ⟨h4,_⟩
 ·exact ⟨h1,h2,h3,h4,h5,h6⟩
 ·exact absurd rfl h4
theorem exB (P:Prop):∃ b:Bool,b=true↔P:=by
 by_cases h:P
 ·exact ⟨true,by simp [h]⟩
 ·exact ⟨false,by simp [h]⟩
def intR (code value:Int):Value:=.agg #[.int .i64 code,.int .i64 value]
theorem zh0 (v:Value) (n:Nat) (g:Nat→Int) (hi:Nat) (x:Int) (w:World) (r:RdI w hi v n g) :
 Calls Tryz.prog 31 #[v,.int .i64 x] w (zbK (HasP n g x) w):=by
 obtain ⟨ao,cap,rfl,hm,hc⟩:=r;unfold maxLen at hm
 go_enter Tryz.func31,Tryz.ntmps31
 go_wp2
 go_loop [5] (fun i=>∃ k:Nat,k≤n∧i=.int .i64 k∧∀ i,i<k→g i≠x) (fun i=>n-(intOf i).toNat)
 case atStart=>exact ⟨0,Nat.zero_le _,rfl,fun i hi=>by omega⟩
 case round=>
  obtain ⟨k,hk,rfl,hall⟩:=hrel;have HALL:=hid hall;clear hall
  by_cases hlt:k<n
  ·obtain ⟨b,off,rfl,hblt,hcell⟩:=hc (by omega)
   have hck:w.cell? ⟨b,off+k,none⟩=some (.int .i64 (g k)):=hcell k hlt;obtain ⟨y,hy⟩:∃ y,y=g k:=⟨_,rfl⟩;have HY:=hid hy;rw [← hy] at hck;clear hc hcell hy
   by_cases heq:y=x
   ·have tn:(y==x)=true:=by simp [heq]
    have HE:=hid heq;clear heq;go_wp2;go_ret;exact zaI rfl ⟨k,hlt,by rw [← HY.out];exact HE.out⟩ (Below.refl _ _)
   ·have tn:(y==x)=false:=by simp [heq]
    have HE:=hid heq;clear heq;go_wp2
    go_round
    case rel=>exact ⟨k+1,by omega,by go_num,fun i hi=>by
     by_cases c:i=k
     ·rw [c,← HY.out];exact HE.out
     ·exact HALL.out i (by omega)⟩
    case measure=>simp [intOf];omega
  ·obtain rfl:k=n:=by omega
   go_wp2;go_ret;exact zat rfl (fun ⟨i,hi,h⟩=>HALL.out i hi h) (Below.refl _ _)
theorem zaE {f:Nat} {args:Array Value} {W:World} {v:Value} (h:∀ w',Below W.heap.size W w'→Calls Tryz.prog f args w' fun e w''=>e=.returned v∧Below w'.heap.size w' w'') :
 ∀ d os,Calls Tryz.prog f args (Go.Sort.grow (redrawn W d) os) fun e w''=>e=.returned v∧∃ p:Regrown,w''=Go.Sort.grow (redrawn W p.d) p.os:=fun d os=>Calls.regrown_of (h _ (below_regrown W d os))
theorem zev {f:Nat} {args:Array Value} {W:World} {v:Value} (h:∀ w',Calls Tryz.prog f args w' fun e w''=>e=.returned v∧w''=w') :
 ∀ d os,Calls Tryz.prog f args (Go.Sort.grow (redrawn W d) os) fun e w''=>e=.returned v∧∃ p:Regrown,w''=Go.Sort.grow (redrawn W p.d) p.os:=
 zaE fun w' _=>(h w').mono fun e w'' ⟨h1,h2⟩=>⟨h1,by rw [h2];exact Below.refl _ _⟩
theorem zbF {f:Nat} {args:Array Value} {w:World} {P:Prop} {b:Bool} (h:Calls Tryz.prog f args w (zbK P w)) (hb:b=true↔P):Calls Tryz.prog f args w fun e w'=>e=.returned (.bool b)∧Below w.heap.size w w':=
 h.mono fun e w' ⟨b',h1,h2,h3⟩=>⟨by rw [h1];congr 2;cases b<;>cases b'<;>simp_all,h3⟩
theorem zb6 {v a b:Int} {t:Bool} (ht:t=true↔InP v a b) (w:World) :
 Calls Tryz.prog 30 #[.int .i64 v,.int .i64 a,.int .i64 b] w fun e w'=>e=.returned (.bool t)∧w'=w:=by
 cases t with
 | true=>exact zaT v a b (ht.1 rfl).1 (ht.1 rfl).2 w
 | false=>
  have:¬ InP v a b:=fun h=>by have:=ht.2 h;cases this
  exact zca v a b (by unfold InP at this;omega) w
theorem zaO {W w':World} (h:∃ p:Regrown,w'=Go.Sort.grow (redrawn W p.d) p.os):Below W.heap.size W w':=by
 obtain ⟨p,rfl⟩:=h;exact below_regrown W p.d p.os
structure WQ (P:Program) (ops:Array Oper) (C:World→Prop) (Q:Act→Prop) (l:List Oper) (a:Act):Prop where
 out:wpQuiet P ops C Q l a
theorem WQ.skip {P:Program} {ops:Array Oper} {C:World→Prop} {Q:Act→Prop} {a:Act} {o:Oper} {rest:List Oper} (hw:Region.wanted o (yielded ops a.tmps)=false)
 (h:∀ K:Act→Prop,(∀ a,WQ P ops C Q rest a→K a)→K (a.put o.dst undef)):WQ P ops C Q (o::rest) a:=by
 refine ⟨?_⟩;unfold wpQuiet;rw [if_neg (by rw [hw];decide)];exact (h _ (fun _ h=>h)).out
theorem WQ.want {P:Program} {ops:Array Oper} {C:World→Prop} {Q:Act→Prop} {a:Act} {o:Oper} {rest:List Oper} (hw:Region.wanted o (yielded ops a.tmps)=true)
 (h:∀ K:Act→Prop,(∀ a,WQ P ops C Q rest a→K a)→o.quiet P a C K):WQ P ops C Q (o::rest) a:=by
 refine ⟨?_⟩;unfold wpQuiet;rw [if_pos hw];exact Oper.quiet_mono (fun a h=>h.out) (h _ (fun _ h=>h))
theorem WQ.nil {P:Program} {ops:Array Oper} {C:World→Prop} {Q:Act→Prop} {a:Act} (h:Q a):WQ P ops C Q [] a:=⟨wpQuiet_nil h⟩
theorem WQ.region {P:Program} {id:Nat} {Q:Exit→Act→World→Prop} {a:Act} {w:World} {l:List Oper} (hm:P.follows .mixedOrders=true) (hB:Region.lexB .any l.toArray=true)
 (h:WQ P l.toArray (fun w'=>∃ p:Regrown,w'=Go.Sort.grow (redrawn w p.d) p.os) (fun a'=>∀ w',(∃ p:Regrown,w'=Go.Sort.grow (redrawn w p.d) p.os)→Q .normal a' w') l a):(Code.region id l.toArray true).wp P Q a w:=wp_region_quiet_below hm hB h.out
theorem ziR {w w1:World} {cs ds:Array Value} {t u:TypeId} (h:Below ((w.alloc (.cells cs t)).alloc (.cells ds u)).heap.size ((w.alloc (.cells cs t)).alloc (.cells ds u)) w1) :
 Box w1 w.heap.size cs t∧Box w1 (w.heap.size+1) ds u∧Below w.heap.size w w1∧w.heap.size+1<w1.heap.size:=by
 have h2:=bnew h
 have e:(w.alloc (.cells cs t)).heap.size=w.heap.size+1:=by simp
 have k2:=zaz (w.alloc (.cells cs t)) ds u;rw [e] at k2;have z:=bsize h;rw [e] at z;exact ⟨(zaz w cs t).below h2 (by simp),k2.below h (by simp),bnew h2,z⟩
theorem zcN (s:Nat→Int) (h1:1≤s 2) (h2:s 2≤1000) (w:World) :
 Calls Tryz.prog 92 #[zak s] w fun e w'=>e=.returned (.int .i64 (s 2*4))∧Below w.heap.size w w':=by
 unfold zak;obtain ⟨a2,h0⟩:∃ a,a=s 2:=⟨_,rfl⟩;rw [← h0] at h1 h2 ⊢;clear h0;have B0:Below w.heap.size w (w.alloc (.cells #[.int .i64 (s 0),.int .i64 (s 1),.int .i64 a2,.int .i64 (s 3),.int .i64 (s 4),.int .i64 (s 5),.int .i64 (s 6),.int .i64 (s 7),.int .i64 (s 8)] 34)):=bnew (Below.refl _ _)
 go_enter Tryz.func92,Tryz.ntmps92
 go_wp2;go_ret;exact ⟨rfl,B0⟩
theorem zi8 {B:Nat} {w W w2:World} {cs:Array Value} {t:TypeId} (hX:Box W B cs t) (hB:Below B w W) (hb:Below W.heap.size W w2):Box w2 B cs t∧Below B w w2:=
 ⟨hX.below hb hX.lt,hB.trans (hb.mono (Nat.le_of_lt hX.lt))⟩
theorem zgr (s:Nat→Int) (h1:1≤s 2) (h2:s 2≤1000) (l:Int) (h3:0≤l) (h4:l≤1000000000) (w:World) :
 Calls Tryz.prog 137 #[zak s,.int .i64 l] w fun e w'=>e=.returned (.int .i64 ((l+s 2*4-1)/(s 2*4)))∧Below w.heap.size w w':=by
 have CL:=zcN s h1 h2;unfold zak;have K0:Hid (Box (w.alloc (.cells (rwS s).toArray 34)) w.heap.size (rwS s).toArray 34):=zaz w _ _;have KB:Hid (Below w.heap.size w (w.alloc (.cells (rwS s).toArray 34))):=bnew (Below.refl _ _);obtain ⟨S,hS⟩:∃ S,S=s 2*4:=⟨_,rfl⟩;rw [← hS];rw [← hS] at CL
 have q1:4≤S:=by omega
 have q2:S≤4000:=by omega
 have q3:0≤l+S-1:=by omega
 clear hS
 go_enter Tryz.func137,Tryz.ntmps137
 go_wp2_with fail
 go_region_with (go_at_call 92;refine (CL _).mono ?_;rintro ee w2 ⟨rfl,hb2⟩;(first | (obtain ⟨hX2,hB2⟩:=zi8 hX hB ⟨hb2.os,hb2.tape,hb2.output,hb2.size,hb2.block⟩;clear hb2;obtain ⟨x0,x1,x2,x3,x4,x5,x6,x7,x8⟩:=box9 hX2) | (obtain ⟨hX,hB⟩:=zi8 K0.out KB.out ⟨hb2.os,hb2.tape,hb2.output,hb2.size,hb2.block⟩;clear hb2;obtain ⟨x0,x1,x2,x3,x4,x5,x6,x7,x8⟩:=box9 hX)))
 all_goals
  clear hX hX2;go_wp2;go_ret;exact ⟨rfl,hB2⟩
theorem zhv (s:Nat→Int) (h1:1≤s 2) (h2:s 2≤1000) (l:Int) (w:World) :
 Calls Tryz.prog 136 #[zak s,.int .i64 l] w fun e w'=>∃ c,e=.returned (.int .i64 c)∧((l<1∧c=6)∨(1≤l∧3*(s 2*4)<l∧c=2)∨(1≤l∧l≤3*(s 2*4)∧c=0))∧Below w.heap.size w w':=by
 have CL:=zcN s h1 h2;have KB:Hid (Below w.heap.size w (w.alloc (.cells (rwS s).toArray 34))):=bnew (Below.refl _ _);obtain ⟨S,hS⟩:∃ S,S=s 2*4:=⟨_,rfl⟩;rw [← hS];rw [← hS] at CL
 have q1:4≤S:=by omega
 have q2:S≤4000:=by omega
 clear hS;unfold zak
 by_cases c1:l<1
 ·go_enter Tryz.func136,Tryz.ntmps136
  go_wp2;go_ret;exact ⟨6,rfl,.inl ⟨c1,rfl⟩,KB.out⟩
 ·by_cases c2:3*S<l
  ·go_enter Tryz.func136,Tryz.ntmps136
   go_wp2_with fail
   refine (CL _).mono ?_;rintro e w2 ⟨rfl,hb2⟩;have B:=bnew hb2;clear hb2;go_wp2;go_ret;exact ⟨2,rfl,.inr (.inl ⟨by omega,c2,rfl⟩),B⟩
  ·go_enter Tryz.func136,Tryz.ntmps136
   go_wp2_with fail
   refine (CL _).mono ?_;rintro e w2 ⟨rfl,hb2⟩;have B:=bnew hb2;clear hb2;go_wp2;go_ret;exact ⟨0,rfl,.inr (.inr ⟨by omega,by omega,rfl⟩),B⟩
def ziS (s:Nat→Int) (l x c:Int):Prop:=
 (¬ zaq s∧c=3∧x=0)∨(zaq s∧l<1∧c=6∧x=0)∨(zaq s∧1≤l∧3*(s 2*4)<l∧c=2∧x=0)∨(zaq s∧1≤l∧l≤3*(s 2*4)∧c=0∧x=(l+s 2*4-1)/(s 2*4))
theorem RdI.part {w:World} {hi:Nat} {b off n cap k:Nat} {g:Nat→Int} (r:RdI w hi (.slice (some ⟨b,off,none⟩) n cap) n g) (h:k≤n) (h0:n≠0):RdI w hi (.slice (some ⟨b,off,none⟩) k cap) k g:=by
 obtain ⟨ao,cap',e,hm,hc⟩:=r
 cases e
 obtain ⟨b',off',e,h1,h2⟩:=hc h0
 cases e
 exact ⟨_,_,rfl,by omega,fun _=>⟨b,off,rfl,h1,fun i hi=>h2 i (by omega)⟩⟩
theorem RdI.mx {w:World} {hi:Nat} {v:Value} {n:Nat} {g:Nat→Int} (r:RdI w hi v n g):n≤maxLen:=by
 obtain ⟨ao,cap',e,hm,hc⟩:=r;exact hm
theorem zb3 (v:Value) (n:Nat) (g:Nat→Int) (hi:Nat) (most:Int) (w:World) (r:RdI w hi v n g) (hcp:CapP v n) (hhi:hi≤w.heap.size) :
 Calls Tryz.prog 106 #[v,.int .i64 most] w (zbK (zbR n g most) w):=by
 have HR:=hid r;obtain ⟨ao,cap,rfl,hm,hc⟩:=r;obtain ⟨_,_,e,hcp⟩:=hcp
 cases e
 unfold maxLen at hm
 go_enter Tryz.func106,Tryz.ntmps106
 go_wp2
 go_loopw [5] (fun i wr=>∃ k:Nat,k≤n∧i=.int .i64 k∧zbR k g most∧Below w.heap.size w wr) (fun i _=>n-(intOf i).toNat)
 case atStart=>exact ⟨0,Nat.zero_le _,rfl,fun i hi=>by omega,Below.refl _ _⟩
 case round=>
  obtain ⟨k,hk,rfl,hall,hb⟩:=hrel;have HALL:=hid hall;clear hall
  by_cases hlt:k<n
  ·obtain ⟨b,off,rfl,hblt,hcell⟩:=hc (by omega)
   have hck:wr.cell? ⟨b,off+k,none⟩=some (.int .i64 (g k)):=(hb.cell (p:=⟨b,off+k,none⟩) (by show b<w.heap.size;omega)).trans (hcell k hlt);have k0:=cell_regrown hck;obtain ⟨t1,h1⟩:=exB (InP (g k) 0 most);obtain ⟨t2,h2⟩:=exB (HasP k g (g k));have zr:=hb.size;have cA:=zev (W:=wr) (fun w'=>zb6 h1 w');have cB:=zaE (W:=wr) (fun w' hw'=>zbF (zh0 (.slice (some ⟨b,off,none⟩) k cap) k g hi (g k) w' (((HR.out.part hk (by omega)).below hb hhi).below hw' (by omega))) h2)
   have kcp:k≤cap:=by omega
   have H1:=hid h1;have H2:=hid h2;obtain ⟨y,hy⟩:∃ y,y=g k:=⟨_,rfl⟩;have HY:=hid hy;rw [← hy] at hck k0 cA cB;clear hc hcell h1 h2 hy;have HB:=hid hb;clear hb;go_wp2
   have hs:t1=false∨(t1=true∧t2=false)∨(t1=true∧t2=true):=by cases t1<;>cases t2<;>simp
   rcases hs with rfl | ⟨rfl,rfl⟩ | ⟨rfl,rfl⟩
   all_goals
    refine WQ.region (by kernel_rfl) (by kernel_rfl) ?_
    repeat (first | (apply WQ.skip;(case hw=>rfl);intro K hK;go_simp;apply hK;clear hK K) | (apply WQ.want;(case hw=>rfl);intro K hK;go_simp;first | (apply hK;clear hK K) | (apply Exists.intro;apply And.intro;(case left=>intro p;(first | (go_at_call 30;exact cA _ _) | (go_at_call 31;exact cB _ _)));apply hK;clear hK K)))
    refine WQ.nil ?_;intro w2 hw2;have HB2:Hid (Below w.heap.size w w2):=HB.out.trans ((zaO hw2).mono HB.out.size);clear hw2;go_wp2
   ·go_ret
    exact zat rfl (fun h=>by
     have:=H1.out.2 (h k hlt).1
     cases this) HB2.out
   ·go_roundw
    case rel=>exact ⟨k+1,by omega,by go_num,fun i hi=>by
     by_cases c:i=k
     ·subst c
      exact ⟨H1.out.1 (by simp),fun t ht e=>by
       have:=H2.out.2 ⟨t,ht,e⟩
       cases this⟩
     ·exact HALL.out i (by omega),HB2.out⟩
    case measure=>simp [intOf];omega
   ·go_ret
    exact zat rfl (fun h=>by
     obtain ⟨t,ht,e⟩:=H2.out.1 (by simp)
     exact (h k hlt).2 t ht e) HB2.out
  ·obtain rfl:k=n:=by omega
   go_wp2;go_ret;exact zaI rfl HALL.out hb
theorem ziI (b:ByteArray):b.toList.isEmpty=true↔b=ByteArray.empty:=by
 have e:b.toList=b.data.toList:=ByteArray.toList_eq b;rw [e]
 cases b with | mk x=>
 constructor
 ·intro h
  have:x=#[]:=by simpa using h
  subst this;rfl
 ·intro h
  have:x=#[]:=congrArg ByteArray.data h;subst this;rfl
def zb7 (nm:ByteArray) (ln gr rw_:Int) (n6 n7 n8:Nat):Prop:=nm=ByteArray.empty∧ln=0∧gr=0∧rw_=0∧n6=0∧n7=0∧n8=0
theorem zch (kd sq ln gr rw_:Int) (nm:ByteArray) (ao6 ao7 ao8:Option Addr) (n6 n7 n8 cap6 cap7 cap8:Nat) (w:World) :
 Calls Tryz.prog 95 #[.agg #[.int .i64 kd,.int .i64 sq,.string nm,.int .i64 ln,.int .i64 gr,.int .i64 rw_,.slice ao6 n6 cap6,.slice ao7 n7 cap7,.slice ao8 n8 cap8]] w (zbK (zb7 nm ln gr rw_ n6 n7 n8) w):=by
 have B0:Hid (Below w.heap.size w (w.alloc (.cells #[.int .i64 kd,.int .i64 sq,.string nm,.int .i64 ln,.int .i64 gr,.int .i64 rw_,.slice ao6 n6 cap6,.slice ao7 n7 cap7,.slice ao8 n8 cap8] 56))):=(Below.refl _ _).alloc (Nat.le_refl _) _;obtain ⟨b0,h0⟩:∃ b,nm.toList.isEmpty=b:=⟨_,rfl⟩;obtain ⟨b1,h1⟩:∃ b,(ln==0)=b:=⟨_,rfl⟩;obtain ⟨b2,h2⟩:∃ b,(gr==0)=b:=⟨_,rfl⟩;obtain ⟨b3,h3⟩:∃ b,(rw_==0)=b:=⟨_,rfl⟩;obtain ⟨b4,h4⟩:∃ b,((n6:Int)==0)=b:=⟨_,rfl⟩;obtain ⟨b5,h5⟩:∃ b,((n7:Int)==0)=b:=⟨_,rfl⟩;obtain ⟨b6,h6⟩:∃ b,((n8:Int)==0)=b:=⟨_,rfl⟩
 have HE:Hid (zb7 nm ln gr rw_ n6 n7 n8↔(b0=true∧b1=true∧b2=true∧b3=true∧b4=true∧b5=true∧b6=true)):=by
  show zb7 nm ln gr rw_ n6 n7 n8↔_
  rw [← h0,← h1,← h2,← h3,← h4,← h5,← h6,ziI];unfold zb7
  simp
 have hs:b0=false∨(b0=true∧b1=false)∨(b0=true∧b1=true∧b2=false)∨(b0=true∧b1=true∧b2=true∧b3=false)∨(b0=true∧b1=true∧b2=true∧b3=true∧b4=false)∨(b0=true∧b1=true∧b2=true∧b3=true∧b4=true∧b5=false)∨(b0=true∧b1=true∧b2=true∧b3=true∧b4=true∧b5=true∧b6=false)∨(b0=true∧b1=true∧b2=true∧b3=true∧b4=true∧b5=true∧b6=true):=by
  clear HE h0 h1 h2 h3 h4 h5 h6
  cases b0<;>simp
  cases b1<;>simp
  cases b2<;>simp
  cases b3<;>simp
  cases b4<;>simp
  cases b5<;>simp
 go_enter Tryz.func95,Tryz.ntmps95
 rcases hs with rfl | ⟨rfl,rfl⟩ | ⟨rfl,rfl,rfl⟩ | ⟨rfl,rfl,rfl,rfl⟩ | ⟨rfl,rfl,rfl,rfl,rfl⟩ | ⟨rfl,rfl,rfl,rfl,rfl,rfl⟩ | ⟨rfl,rfl,rfl,rfl,rfl,rfl,rfl⟩ | ⟨rfl,rfl,rfl,rfl,rfl,rfl,rfl⟩
 all_goals
  go_wp2;go_ret
  first
   | exact zat rfl (fun h=>by have:=HE.out.1 h;simp at this) B0.out
   | exact zaI rfl (HE.out.2 (by simp)) B0.out
theorem zbS (s:Nat→Int) (h:zaq s) (w:World) :
 Calls Tryz.prog 67 #[zak s] w fun e w'=>e=.returned (.int .i64 (s 0+s 1))∧Below w.heap.size w w':=by
 obtain ⟨h1,h2,_⟩:=h;unfold Shp3 at h1;have B0:=(zaQ w (rwS s).toArray 34).bel;unfold zak
 have hw:-9223372036854775808≤s 0+s 1∧s 0+s 1≤9223372036854775807:=by omega
 go_enter Tryz.func67,Tryz.ntmps67
 go_wp2;go_ret;exact ⟨rfl,B0⟩
theorem zfD (s:Nat→Int) (h:zaq s) (w:World) :
 Calls Tryz.prog 68 #[zak s] w fun e w'=>e=.returned (.int .i64 (s 2+s 3))∧Below w.heap.size w w':=by
 obtain ⟨h1,h2,_⟩:=h;unfold Shp at h2;have B0:=(zaQ w (rwS s).toArray 34).bel;unfold zak
 have hw:-9223372036854775808≤s 2+s 3∧s 2+s 3≤9223372036854775807:=by omega
 go_enter Tryz.func68,Tryz.ntmps68
 go_wp2;go_ret;exact ⟨rfl,B0⟩
theorem zeN (s:Nat→Int) (hs:zaq s) (r:RecD) (cs:List Value) (hi:Nat) (w:World) (h:zac.rd w hi r cs) (hhi:hi≤w.heap.size) (hg:InP r.group 0 (s 0+s 1-1)) (hr:zcC r.rows.1 r.rows.2 (s 0+s 1-1)) :
 Calls Tryz.prog 94 #[zak s,.agg cs.toArray] w (zbK (zeL s r) w):=by
 obtain ⟨ao6,cap6,ao7,cap7,ao8,cap8,rfl,g6,g7,g8,-⟩:=zbd h;clear h;have HS:=hid hs
 have hall:0≤s 0+s 1∧s 0+s 1≤100:=by
  obtain ⟨h1,_⟩:=hs;unfold Shp3 at h1;omega
 clear hs;obtain ⟨v6,e6,⟨⟨_,_,e6',hm6,hc6⟩,_⟩,_⟩:=g6
 cases e6
 cases e6'
 obtain ⟨v8,e8,⟨_,_,e8',hm8,hc8⟩,hk8⟩:=g8
 cases e8
 cases e8'
 have HC6:=hid hc6;have HC8:=hid hc8;unfold maxLen at hm6 hm8;unfold InP at hg;have HR:=hid hr;clear g7 hc6 hc8 hr hk8;unfold zak
 go_enter Tryz.func94,Tryz.ntmps94
 go_wp2_with fail
 have T0:=zay w (rwS s).toArray (rwR r ao6 cap6 ao7 cap7 ao8 cap8).toArray 34 56;obtain ⟨W,hW⟩:∃ W,W=(w.alloc (.cells (rwS s).toArray 34)).alloc (.cells (rwR r ao6 cap6 ao7 cap7 ao8 cap8).toArray 56):=⟨_,rfl⟩;rw [← hW] at T0 ⊢;clear hW;have cA:=zaE (W:=W) (fun w' _=>zbS s HS.out w');unfold zak at cA;have zW:=T0.b2.lt;have x0_0:W.cell? ⟨w.heap.size,0,none⟩=some (.int .i64 (s 0)):=T0.b1.cell 0;have kx0_0:=cell_regrown x0_0;have x0_1:W.cell? ⟨w.heap.size,1,none⟩=some (.int .i64 (s 1)):=T0.b1.cell 1;have kx0_1:=cell_regrown x0_1;have x0_2:W.cell? ⟨w.heap.size,2,none⟩=some (.int .i64 (s 2)):=T0.b1.cell 2;have kx0_2:=cell_regrown x0_2;have x0_3:W.cell? ⟨w.heap.size,3,none⟩=some (.int .i64 (s 3)):=T0.b1.cell 3;have kx0_3:=cell_regrown x0_3;have x0_4:W.cell? ⟨w.heap.size,4,none⟩=some (.int .i64 (s 4)):=T0.b1.cell 4;have kx0_4:=cell_regrown x0_4;have x0_5:W.cell? ⟨w.heap.size,5,none⟩=some (.int .i64 (s 5)):=T0.b1.cell 5;have kx0_5:=cell_regrown x0_5;have x0_6:W.cell? ⟨w.heap.size,6,none⟩=some (.int .i64 (s 6)):=T0.b1.cell 6;have kx0_6:=cell_regrown x0_6;have x0_7:W.cell? ⟨w.heap.size,7,none⟩=some (.int .i64 (s 7)):=T0.b1.cell 7;have kx0_7:=cell_regrown x0_7;have x0_8:W.cell? ⟨w.heap.size,8,none⟩=some (.int .i64 (s 8)):=T0.b1.cell 8;have kx0_8:=cell_regrown x0_8;have y0_0:W.cell? ⟨w.heap.size+1,0,none⟩=some (.int .i64 r.kind):=T0.b2.cell 0;have ky0_0:=cell_regrown y0_0;have y0_1:W.cell? ⟨w.heap.size+1,1,none⟩=some (.int .i64 r.seq):=T0.b2.cell 1;have ky0_1:=cell_regrown y0_1;have y0_2:W.cell? ⟨w.heap.size+1,2,none⟩=some (.string r.name):=T0.b2.cell 2;have ky0_2:=cell_regrown y0_2;have y0_3:W.cell? ⟨w.heap.size+1,3,none⟩=some (.int .i64 r.length):=T0.b2.cell 3;have ky0_3:=cell_regrown y0_3;have y0_4:W.cell? ⟨w.heap.size+1,4,none⟩=some (.int .i64 r.group):=T0.b2.cell 4;have ky0_4:=cell_regrown y0_4;have y0_5:W.cell? ⟨w.heap.size+1,5,none⟩=some (.int .i64 r.row):=T0.b2.cell 5;have ky0_5:=cell_regrown y0_5;have y0_6:W.cell? ⟨w.heap.size+1,6,none⟩=some (.slice ao6 r.rows.1 cap6):=T0.b2.cell 6;have ky0_6:=cell_regrown y0_6;have y0_7:W.cell? ⟨w.heap.size+1,7,none⟩=some (.slice ao7 r.data.1 cap7):=T0.b2.cell 7;have ky0_7:=cell_regrown y0_7;have y0_8:W.cell? ⟨w.heap.size+1,8,none⟩=some (.slice ao8 r.delta.1 cap8):=T0.b2.cell 8
 have ky0_8:=cell_regrown y0_8;have HT:=hid T0;clear T0
 by_cases hlen:(r.delta.1:Int)=s 0+s 1
 ·obtain ⟨b8,off8,he8,hb8,hcell8⟩:=HC8.out (by omega)
  subst he8;obtain ⟨G,hG⟩:∃ G:Nat,r.group=(G:Int):=⟨r.group.toNat,by omega⟩
  have hGl:G<r.delta.1:=by omega
  have d0:W.cell? ⟨b8,off8+G,none⟩=some (.int .u8 (r.delta.2 G)):=(HT.out.bel.cell (p:=⟨b8,off8+G,none⟩) (by show b8<w.heap.size;omega)).trans (hcell8 G hGl);have kd0:=cell_regrown d0
  have hne:((r.delta.1:Int) != s 0+s 1)=false:=by simpa using hlen
  rw [hG] at y0_4 ky0_4;have HCE:=hid hcell8;have HLEN:=hid hlen;have HG:=hid hG;clear hcell8 hlen hG;obtain ⟨x0,hx0⟩:∃ x,x=r.delta.2 G:=⟨_,rfl⟩;have HX0:=hid hx0;rw [← hx0] at d0 kd0;clear hx0
  by_cases hz:x0=0
  ·subst hz
   refine WQ.region (by kernel_rfl) (by kernel_rfl) ?_
   repeat (first | (apply WQ.skip;(case hw=>rfl);intro K hK;go_simp;apply hK;clear hK K) | (apply WQ.want;(case hw=>rfl);intro K hK;go_simp;first | (apply hK;clear hK K) | (apply Exists.intro;apply And.intro;(case left=>intro p;(first | (go_at_call 67;exact cA _ _)));apply hK;clear hK K)))
   refine WQ.nil ?_;intro w1 hw1;have T1:=HT.out.call (zaO hw1);have H1:=hid T1;clear hw1 T1 d0 kd0;go_wp2
   go_loopw [5] (fun i wr=>∃ k:Nat,k≤r.rows.1∧i=.int .i64 k∧(∀ i,i<k→r.delta.2 (r.rows.2 i).toNat≠0)∧Two w wr (rwS s).toArray (rwR r ao6 cap6 ao7 cap7 (some ⟨b8,off8,none⟩) cap8).toArray 34 56) (fun i _=>r.rows.1-(intOf i).toNat)
   case atStart=>exact ⟨0,Nat.zero_le _,rfl,fun i hi=>by omega,H1.out⟩
   case round=>
    obtain ⟨k,hk,rfl,hal,T2⟩:=hrel;have HAL:=hid hal;have H2:=hid T2;clear hal;have y2_6:wr.cell? ⟨w.heap.size+1,6,none⟩=some (.slice ao6 r.rows.1 cap6):=T2.b2.cell 6;have y2_8:wr.cell? ⟨w.heap.size+1,8,none⟩=some (.slice (some ⟨b8,off8,none⟩) r.delta.1 cap8):=T2.b2.cell 8
    by_cases hlt:k<r.rows.1
    ·obtain ⟨b6,off6,he6,hb6,hcell6⟩:=HC6.out (by omega)
     subst he6;have hrk:=HR.out k hlt;obtain ⟨Y,hY⟩:∃ Y:Nat,r.rows.2 k=(Y:Int):=⟨(r.rows.2 k).toNat,by omega⟩
     have hYl:Y<r.delta.1:=by have:=HLEN.out;omega
     have c6:wr.cell? ⟨b6,off6+k,none⟩=some (.int .i64 (Y:Int)):=by
      rw [← hY];exact (T2.bel.cell (p:=⟨b6,off6+k,none⟩) (by show b6<w.heap.size;omega)).trans (hcell6 k hlt)
     have c8:wr.cell? ⟨b8,off8+Y,none⟩=some (.int .u8 (r.delta.2 Y)):=(T2.bel.cell (p:=⟨b8,off8+Y,none⟩) (by show b8<w.heap.size;omega)).trans (HCE.out Y hYl);have q6:=cell_regrown c6;have q8:=cell_regrown c8;have p6:=cell_regrown y2_6;have p8:=cell_regrown y2_8;have HY:=hid hY;clear hcell6 hrk hY T2;obtain ⟨z0,hz0⟩:∃ x,x=r.delta.2 Y:=⟨_,rfl⟩;have HZ0:=hid hz0;rw [← hz0] at c8 q8;clear hz0
     by_cases hz:z0=0
     ·subst hz
      go_wp2;refine WQ.region (by kernel_rfl) (by kernel_rfl) ?_
      repeat (first | (apply WQ.skip;(case hw=>rfl);intro K hK;go_simp;apply hK;clear hK K) | (apply WQ.want;(case hw=>rfl);intro K hK;go_simp;first | (apply hK;clear hK K) | (apply Exists.intro;apply And.intro;(case left=>intro p;(first | fail));apply hK;clear hK K)))
      refine WQ.nil ?_;intro w3 hw3;have HB3:Hid (Below w.heap.size w w3):=(H2.out.call (zaO hw3)).bel;clear hw3;go_wp2;go_ret;exact zat rfl (fun h=>h.2.2 k hlt (by rw [HY.out];exact HZ0.out.symm)) HB3.out
     ·have hz':((z0:Int)==0)=false:=by simp;omega
      go_wp2;refine WQ.region (by kernel_rfl) (by kernel_rfl) ?_
      repeat (first | (apply WQ.skip;(case hw=>rfl);intro K hK;go_simp;apply hK;clear hK K) | (apply WQ.want;(case hw=>rfl);intro K hK;go_simp;first | (apply hK;clear hK K) | (apply Exists.intro;apply And.intro;(case left=>intro p;(first | fail));apply hK;clear hK K)))
      refine WQ.nil ?_;intro w3 hw3;have HT3:=hid (H2.out.call (zaO hw3));clear hw3;go_wp2
      go_roundw
      case rel=>exact ⟨k+1,by omega,by go_num,fun i hi=>by
       by_cases c:i=k
       ·subst c
        rw [HY.out,Int.toNat_natCast,← HZ0.out];exact hz
       ·exact HAL.out i (by omega),HT3.out⟩
      case measure=>simp [intOf];omega
    ·obtain rfl:k=r.rows.1:=by omega
     go_wp2;go_ret;exact zaI rfl ⟨HLEN.out,by rw [HG.out,Int.toNat_natCast];exact HX0.out.symm,HAL.out⟩ H2.out.bel
  ·have hz':((x0:Int) != 0)=true:=by simp;omega
   refine WQ.region (by kernel_rfl) (by kernel_rfl) ?_
   repeat (first | (apply WQ.skip;(case hw=>rfl);intro K hK;go_simp;apply hK;clear hK K) | (apply WQ.want;(case hw=>rfl);intro K hK;go_simp;first | (apply hK;clear hK K) | (apply Exists.intro;apply And.intro;(case left=>intro p;(first | (go_at_call 67;exact cA _ _)));apply hK;clear hK K)))
   refine WQ.nil ?_;intro w1 hw1;have HB1:Hid (Below w.heap.size w w1):=(HT.out.call (zaO hw1)).bel;clear hw1 d0 kd0;go_wp2;go_ret;exact zat rfl (fun h=>hz (by rw [HX0.out,← h.2.1,HG.out,Int.toNat_natCast])) HB1.out
 ·have hne:((r.delta.1:Int) != s 0+s 1)=true:=by simpa using hlen
  have HN:=hid hlen;clear hlen;refine WQ.region (by kernel_rfl) (by kernel_rfl) ?_
  repeat (first | (apply WQ.skip;(case hw=>rfl);intro K hK;go_simp;apply hK;clear hK K) | (apply WQ.want;(case hw=>rfl);intro K hK;go_simp;first | (apply hK;clear hK K) | (apply Exists.intro;apply And.intro;(case left=>intro p;(first | (go_at_call 67;exact cA _ _)));apply hK;clear hK K)))
  refine WQ.nil ?_;intro w1 hw1;have HB1:Hid (Below w.heap.size w w1):=(HT.out.call (zaO hw1)).bel;clear hw1;go_wp2;go_ret;exact zat rfl (fun h=>HN.out h.1) HB1.out
theorem zhw (s:Nat→Int) (hs:zaq s) (r:RecD) (cs:List Value) (hi:Nat) (w:World) (h:zac.rd w hi r cs) (hhi:hi≤w.heap.size) :
 Calls Tryz.prog 91 #[zak s,.agg cs.toArray] w (zbK (zby s r) w):=by
 obtain ⟨ao6,cap6,ao7,cap7,ao8,cap8,rfl,g6,g7,g8,-,-,-,hl,-⟩:=zbd h;clear h g7 g8
 have hs2:1≤s 2∧s 2≤3∧1≤s 4∧s 4≤6:=by
  obtain ⟨_,h2,h3,_⟩:=hs;unfold Shp at h2;omega
 obtain ⟨v6,e6,⟨h6,hcp6⟩,_⟩:=g6
 cases e6
 have H6:=hid h6;have HCP:=hid hcp6;have hm6:=h6.mx;unfold maxLen at hm6;clear h6 hcp6;have T0:=zay w (rwS s).toArray (rwR r ao6 cap6 ao7 cap7 ao8 cap8).toArray 34 56;have CLong:=fun w'=>zhv s (by omega) (by omega) r.length w';have HIT:Hid (zby s r↔zby s r):=Iff.rfl;unfold zak;unfold zak at CLong
 go_enter Tryz.func91,Tryz.ntmps91
 by_cases hl1:r.length=-1
 ·have HL:=hid hl1
  have e1:(r.length==-1)=true:=by simp [hl1]
  have HB:=hid T0.bel;clear T0 CLong hl1;obtain ⟨b0,h0⟩:∃ b,((r.data.1:Int)==0)=b:=⟨_,rfl⟩;obtain ⟨b1,h1⟩:∃ b,((r.rows.1:Int)==0)=b:=⟨_,rfl⟩
  have HE:Hid (zby s r↔(b0=true∧b1=true)):=by
   show zby s r↔_
   rw [← h0,← h1];unfold zby
   simp [HL.out]
  have hst:b0=false∨(b0=true∧b1=false)∨(b0=true∧b1=true):=by
   clear HE h0 h1
   cases b0<;>simp
  rcases hst with rfl | ⟨rfl,rfl⟩ | ⟨rfl,rfl⟩
  all_goals
   go_wp2;go_ret
   first
    | exact zat rfl (fun h=>by have:=HE.out.1 h;simp at this) HB.out
    | exact zaI rfl (HE.out.2 (by simp)) HB.out
 ·have e1:(r.length==-1)=false:=by simp [hl1]
  have HL:=hid hl1;clear hl1
  go_wp2_with fail
  refine (CLong _).mono ?_;rintro e w1 ⟨c,rfl,hc,b1⟩;have T1:Two w w1 (rwS s).toArray (rwR r ao6 cap6 ao7 cap7 ao8 cap8).toArray 34 56:=T0.call b1;clear b1 T0 CLong;have HT1:=hid T1;have x1_0:w1.cell? ⟨w.heap.size,0,none⟩=some (.int .i64 (s 0)):=T1.b1.cell 0;have kx1_0:=cell_regrown x1_0;have x1_1:w1.cell? ⟨w.heap.size,1,none⟩=some (.int .i64 (s 1)):=T1.b1.cell 1;have kx1_1:=cell_regrown x1_1;have x1_2:w1.cell? ⟨w.heap.size,2,none⟩=some (.int .i64 (s 2)):=T1.b1.cell 2;have kx1_2:=cell_regrown x1_2;have x1_3:w1.cell? ⟨w.heap.size,3,none⟩=some (.int .i64 (s 3)):=T1.b1.cell 3;have kx1_3:=cell_regrown x1_3;have x1_4:w1.cell? ⟨w.heap.size,4,none⟩=some (.int .i64 (s 4)):=T1.b1.cell 4;have kx1_4:=cell_regrown x1_4;have x1_5:w1.cell? ⟨w.heap.size,5,none⟩=some (.int .i64 (s 5)):=T1.b1.cell 5;have kx1_5:=cell_regrown x1_5;have x1_6:w1.cell? ⟨w.heap.size,6,none⟩=some (.int .i64 (s 6)):=T1.b1.cell 6;have kx1_6:=cell_regrown x1_6;have x1_7:w1.cell? ⟨w.heap.size,7,none⟩=some (.int .i64 (s 7)):=T1.b1.cell 7;have kx1_7:=cell_regrown x1_7;have x1_8:w1.cell? ⟨w.heap.size,8,none⟩=some (.int .i64 (s 8)):=T1.b1.cell 8;have kx1_8:=cell_regrown x1_8;have y1_0:w1.cell? ⟨w.heap.size+1,0,none⟩=some (.int .i64 r.kind):=T1.b2.cell 0;have ky1_0:=cell_regrown y1_0;have y1_1:w1.cell? ⟨w.heap.size+1,1,none⟩=some (.int .i64 r.seq):=T1.b2.cell 1;have ky1_1:=cell_regrown y1_1;have y1_2:w1.cell? ⟨w.heap.size+1,2,none⟩=some (.string r.name):=T1.b2.cell 2;have ky1_2:=cell_regrown y1_2;have y1_3:w1.cell? ⟨w.heap.size+1,3,none⟩=some (.int .i64 r.length):=T1.b2.cell 3;have ky1_3:=cell_regrown y1_3;have y1_4:w1.cell? ⟨w.heap.size+1,4,none⟩=some (.int .i64 r.group):=T1.b2.cell 4;have ky1_4:=cell_regrown y1_4;have y1_5:w1.cell? ⟨w.heap.size+1,5,none⟩=some (.int .i64 r.row):=T1.b2.cell 5;have ky1_5:=cell_regrown y1_5;have y1_6:w1.cell? ⟨w.heap.size+1,6,none⟩=some (.slice ao6 r.rows.1 cap6):=T1.b2.cell 6;have ky1_6:=cell_regrown y1_6;have y1_7:w1.cell? ⟨w.heap.size+1,7,none⟩=some (.slice ao7 r.data.1 cap7):=T1.b2.cell 7;have ky1_7:=cell_regrown y1_7;have y1_8:w1.cell? ⟨w.heap.size+1,8,none⟩=some (.slice ao8 r.delta.1 cap8):=T1.b2.cell 8;have ky1_8:=cell_regrown y1_8
  clear T1
  by_cases hok:1≤r.length∧r.length≤3*(s 2*4)
  ·obtain rfl:c=0:=by omega
   have HOK:=hid hok;clear hc
   by_cases hd:0<r.data.1
   ·have d1:decide (0<(r.data.1:Int))=true:=by simp;omega
    obtain ⟨b0,h0⟩:∃ b,((r.data.1:Int)==r.length)=b:=⟨_,rfl⟩;obtain ⟨b1,h1⟩:∃ b,((r.rows.1:Int)==0)=b:=⟨_,rfl⟩
    have HE:Hid (zby s r↔(b0=true∧b1=true)):=by
     show zby s r↔_
     rw [← h0,← h1];unfold zby;have:=HL.out;have:=HOK.out
     constructor
     ·rintro (h | ⟨_,_,_,h | h⟩)
      ·omega
      ·simp;omega
      ·omega
     ·intro h
      simp at h
      exact .inr ⟨by omega,by omega,by omega,.inl ⟨hd,h.1,h.2⟩⟩
    have HD:=hid hd
    have hst:b0=false∨(b0=true∧b1=false)∨(b0=true∧b1=true):=by
     clear HE h0 h1
     cases b0<;>simp
    clear hd hok
    rcases hst with rfl | ⟨rfl,rfl⟩ | ⟨rfl,rfl⟩
    all_goals
     go_wp2;go_ret
     first
      | exact zat rfl (fun h=>by have:=HE.out.1 h;simp at this) HT1.out.bel
      | exact zaI rfl (HE.out.2 (by simp)) HT1.out.bel
   ·have d1:decide (0<(r.data.1:Int))=false:=by simp;omega
    have hd0:r.data.1=0:=by omega
    obtain ⟨S,hS⟩:∃ S,S=(r.length+s 2*4-1)/(s 2*4):=⟨_,rfl⟩;have HSV:=hid hS
    have hlb:r.length≤1000000000:=by omega
    have cP:=zaE (W:=w1) (fun w' _=>zgr s (by omega) (by omega) r.length (by omega) (by omega) w');unfold zak at cP;rw [← hS] at cP;obtain ⟨t2,h2⟩:=exB (zbR r.rows.1 r.rows.2 (s 4-1));have cQ:=zaE (W:=w1) (fun w' hw'=>zbF (zb3 _ r.rows.1 r.rows.2 hi (s 4-1) w' ((H6.out.below HT1.out.bel hhi).below hw' (Nat.le_trans hhi HT1.out.bel.size)) HCP.out (Nat.le_trans hhi (Nat.le_trans HT1.out.bel.size hw'.size))) h2);obtain ⟨b0,h0⟩:∃ b,((r.rows.1:Int)==S)=b:=⟨_,rfl⟩
    have HE:Hid (zby s r↔(b0=true∧t2=true)):=by
     show zby s r↔_
     rw [← h0,h2,hS];unfold zby;have:=HL.out;have:=HOK.out
     constructor
     ·rintro (h | ⟨_,_,_,h | h⟩)
      ·omega
      ·omega
      ·exact ⟨by simpa using h.2.1,h.2.2⟩
     ·intro h
      exact .inr ⟨by omega,by omega,by omega,.inr ⟨hd0,by simpa using h.1,h.2⟩⟩
    have HD:=hid hd
    have hst:b0=false∨(b0=true∧t2=false)∨(b0=true∧t2=true):=by
     clear HE h0 h2 cQ
     cases b0<;>simp
    have hw4:IntKind.i64.wrap (s 4-1)=s 4-1:=by rw [IntKind.wrap_i64];omega
    clear hd hok hS h2 hd0;go_wp2
    rcases hst with rfl | ⟨rfl,rfl⟩ | ⟨rfl,rfl⟩
    all_goals
     refine WQ.region (by kernel_rfl) (by kernel_rfl) ?_
     repeat (first | (apply WQ.skip;(case hw=>rfl);intro K hK;go_simp;apply hK;clear hK K) | (apply WQ.want;(case hw=>rfl);intro K hK;go_simp;first | (apply hK;clear hK K) | (apply Exists.intro;apply And.intro;(case left=>intro p;(first | (go_at_call 137;exact cP _ _) | (go_at_call 106;exact cQ _ _)));apply hK;clear hK K)))
     refine WQ.nil ?_;intro w2 hw2;have HB2:Hid (Below w.heap.size w w2):=(HT1.out.call (zaO hw2)).bel;clear hw2;go_wp2;go_ret
     first
      | exact zat rfl (fun h=>by have:=HE.out.1 h;simp at this) HB2.out
      | exact zaI rfl (HE.out.2 (by simp)) HB2.out
  ·have hc0:(c != 0)=true:=by
    have:c≠0:=by omega
    simp [this]
   have HNO:Hid (¬ zby s r):=fun h=>by
    have:=HL.out;unfold zby at h;omega
   clear hc hok;go_wp2;go_ret;exact zat rfl HNO.out HT1.out.bel
end Go.Proofs.YtonemlgejkapbaaGreat
