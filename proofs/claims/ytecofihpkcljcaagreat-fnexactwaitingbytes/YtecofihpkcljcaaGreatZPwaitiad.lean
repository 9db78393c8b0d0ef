/- Walks: copies of records and tapes. -/
import Derived.Lib.QuietBelow
import Derived.Test.YtecofihpkcljcaaGreatZPwaitiac
set_option linter.unusedVariables false
set_option linter.unusedSimpArgs false
set_option maxHeartbeats 16000000
namespace Go.Proofs.YtecofihpkcljcaaGreat
open Go.RowKit F256
set_option maxRecDepth 20000 in
theorem zit:ToV zab zaL 94:=fun cs d hi w r hhi hn=>by
 obtain ⟨ao6,cap6,ao7,cap7,ao8,cap8,rfl,h6,h7,h8,k0,k1,k2,k3,k4,k5⟩:=zaz r;clear r;unfold zaL at hn;have R6:=hid h6;have R7:=hid h7;have R8:=hid h8;clear h6 h7 h8;have Q0:=hid k0;have Q1:=hid k1;have Q2:=hid k2;have Q3:=hid k3;have Q4:=hid k4;have Q5:=hid k5;clear k0 k1 k2 k3 k4 k5
 go_enter Tryz.func94,Tryz.ntmps94
 go_wp2_with fail
 have T0:=zb3 w (rwR d ao6 cap6 ao7 cap7 ao8 cap8).toArray #[.int .i64 0,.int .i64 0,.string ByteArray.empty,.int .i64 0,.int .i64 0,.int .i64 0,.slice none 0 0,.slice none 0 0,.slice none 0 0] #[.int .i64 d.kind,.int .i64 d.seq,.string d.name,.int .i64 d.length,.int .i64 d.group,.int .i64 d.row,.slice none 0 0,.slice none 0 0,.slice none 0 0] 144 59 59;refine (zeL _ d.rows hi _ (zaE.rd_below R6.out T0.bel hhi) (Nat.le_trans hhi T0.bel.size) (by omega)).mono ?_;rintro e w1 ⟨v1,rfl,o1,b1⟩;have L1:=T0.lt;obtain ⟨bo6,bcap6,hv⟩:=zdX o1;obtain rfl:=zcI hv;clear hv;have T1:Three w w1 (rwR d ao6 cap6 ao7 cap7 ao8 cap8).toArray #[.int .i64 0,.int .i64 0,.string ByteArray.empty,.int .i64 0,.int .i64 0,.int .i64 0,.slice none 0 0,.slice none 0 0,.slice none 0 0] #[.int .i64 d.kind,.int .i64 d.seq,.string d.name,.int .i64 d.length,.int .i64 d.group,.int .i64 d.row,.slice none 0 0,.slice none 0 0,.slice none 0 0] 144 59 59:=T0.call b1;have O6:Hid (OwnT zaE w1 (w.heap.size+1+1+1) (w1.heap.size) d.rows [.slice bo6 d.rows.1 bcap6]):=o1.weaken (by simp<;>omega) (Nat.le_refl _);clear o1;have LT1:w.heap.size+1+1+1≤w1.heap.size:=T1.lt;have x1_7:w1.cell? ⟨w.heap.size,7,none⟩=some (.slice ao7 d.data.1 cap7):=T1.b1.cell 7;have y1_6:w1.cell? ⟨w.heap.size+1+1,6,none⟩=some (.slice none 0 0):=T1.b3.cell 6;have yf1_6:w1.frozen? ⟨w.heap.size+1+1,6,none⟩=false:=T1.b3.frozen 6;have V1:Three w (w1.setCell ⟨w.heap.size+1+1,6,none⟩ (.slice bo6 d.rows.1 bcap6)) (rwR d ao6 cap6 ao7 cap7 ao8 cap8).toArray #[.int .i64 0,.int .i64 0,.string ByteArray.empty,.int .i64 0,.int .i64 0,.int .i64 0,.slice none 0 0,.slice none 0 0,.slice none 0 0] #[.int .i64 d.kind,.int .i64 d.seq,.string d.name,.int .i64 d.length,.int .i64 d.group,.int .i64 d.row,.slice bo6 d.rows.1 bcap6,.slice none 0 0,.slice none 0 0] 144 59 59:=T1.st3 6 [.slice bo6 d.rows.1 bcap6] (c3':=[.int .i64 d.kind,.int .i64 d.seq,.string d.name,.int .i64 d.length,.int .i64 d.group,.int .i64 d.row,.slice bo6 d.rows.1 bcap6,.slice none 0 0,.slice none 0 0]) rfl;clear T1 b1
 go_wp2_with fail
 refine (zda _ d.data hi _ (zaq.rd_below R7.out V1.bel hhi) (Nat.le_trans hhi V1.bel.size) (by omega)).mono ?_;rintro e w2 ⟨v2,rfl,o2,b2⟩;have L2:=V1.lt;obtain ⟨bo7,bcap7,hv⟩:=zcM o2;obtain rfl:=zcI hv;clear hv;have T2:Three w w2 (rwR d ao6 cap6 ao7 cap7 ao8 cap8).toArray #[.int .i64 0,.int .i64 0,.string ByteArray.empty,.int .i64 0,.int .i64 0,.int .i64 0,.slice none 0 0,.slice none 0 0,.slice none 0 0] #[.int .i64 d.kind,.int .i64 d.seq,.string d.name,.int .i64 d.length,.int .i64 d.group,.int .i64 d.row,.slice bo6 d.rows.1 bcap6,.slice none 0 0,.slice none 0 0] 144 59 59:=V1.call b2;have O6x:OwnT zaE w2 (w.heap.size+1+1+1) (w1.heap.size) d.rows [.slice bo6 d.rows.1 bcap6]:=((O6.out).set (show w.heap.size+1+1<_ by omega)).call b2;clear O6;have O6:=hid O6x;clear O6x;have O7:Hid (OwnT zaq w2 (w1.heap.size) (w2.heap.size) d.data [.slice bo7 d.data.1 bcap7]):=o2.weaken (by simp<;>omega) (Nat.le_refl _);clear o2;have LT2:w.heap.size+1+1+1≤w2.heap.size:=T2.lt
 have S2:w1.heap.size≤w2.heap.size:=by
  have:=b2.size
  simpa using this
 have x2_8:w2.cell? ⟨w.heap.size,8,none⟩=some (.slice ao8 d.delta.1 cap8):=T2.b1.cell 8;have y2_7:w2.cell? ⟨w.heap.size+1+1,7,none⟩=some (.slice none 0 0):=T2.b3.cell 7;have yf2_7:w2.frozen? ⟨w.heap.size+1+1,7,none⟩=false:=T2.b3.frozen 7;have V2:Three w (w2.setCell ⟨w.heap.size+1+1,7,none⟩ (.slice bo7 d.data.1 bcap7)) (rwR d ao6 cap6 ao7 cap7 ao8 cap8).toArray #[.int .i64 0,.int .i64 0,.string ByteArray.empty,.int .i64 0,.int .i64 0,.int .i64 0,.slice none 0 0,.slice none 0 0,.slice none 0 0] #[.int .i64 d.kind,.int .i64 d.seq,.string d.name,.int .i64 d.length,.int .i64 d.group,.int .i64 d.row,.slice bo6 d.rows.1 bcap6,.slice bo7 d.data.1 bcap7,.slice none 0 0] 144 59 59:=T2.st3 7 [.slice bo7 d.data.1 bcap7] (c3':=[.int .i64 d.kind,.int .i64 d.seq,.string d.name,.int .i64 d.length,.int .i64 d.group,.int .i64 d.row,.slice bo6 d.rows.1 bcap6,.slice bo7 d.data.1 bcap7,.slice none 0 0]) rfl;clear T2 b2
 go_wp2_with fail
 refine (zda _ d.delta hi _ (zaq.rd_below R8.out V2.bel hhi) (Nat.le_trans hhi V2.bel.size) (by omega)).mono ?_;rintro e w3 ⟨v3,rfl,o3,b3⟩;have L3:=V2.lt;obtain ⟨bo8,bcap8,hv⟩:=zcM o3;obtain rfl:=zcI hv;clear hv;have T3:Three w w3 (rwR d ao6 cap6 ao7 cap7 ao8 cap8).toArray #[.int .i64 0,.int .i64 0,.string ByteArray.empty,.int .i64 0,.int .i64 0,.int .i64 0,.slice none 0 0,.slice none 0 0,.slice none 0 0] #[.int .i64 d.kind,.int .i64 d.seq,.string d.name,.int .i64 d.length,.int .i64 d.group,.int .i64 d.row,.slice bo6 d.rows.1 bcap6,.slice bo7 d.data.1 bcap7,.slice none 0 0] 144 59 59:=V2.call b3;have O6x:OwnT zaE w3 (w.heap.size+1+1+1) (w1.heap.size) d.rows [.slice bo6 d.rows.1 bcap6]:=((O6.out).set (show w.heap.size+1+1<_ by omega)).call b3;clear O6;have O6:=hid O6x;clear O6x;have O7x:OwnT zaq w3 (w1.heap.size) (w2.heap.size) d.data [.slice bo7 d.data.1 bcap7]:=((O7.out).set (show w.heap.size+1+1<_ by omega)).call b3;clear O7;have O7:=hid O7x;clear O7x;have O8:Hid (OwnT zaq w3 (w2.heap.size) (w3.heap.size) d.delta [.slice bo8 d.delta.1 bcap8]):=o3.weaken (by simp<;>omega) (Nat.le_refl _);clear o3;have LT3:w.heap.size+1+1+1≤w3.heap.size:=T3.lt
 have S3:w2.heap.size≤w3.heap.size:=by
  have:=b3.size
  simpa using this
 have y3_0:w3.cell? ⟨w.heap.size+1+1,0,none⟩=some (.int .i64 d.kind):=T3.b3.cell 0;have y3_1:w3.cell? ⟨w.heap.size+1+1,1,none⟩=some (.int .i64 d.seq):=T3.b3.cell 1;have y3_2:w3.cell? ⟨w.heap.size+1+1,2,none⟩=some (.string d.name):=T3.b3.cell 2;have y3_3:w3.cell? ⟨w.heap.size+1+1,3,none⟩=some (.int .i64 d.length):=T3.b3.cell 3;have y3_4:w3.cell? ⟨w.heap.size+1+1,4,none⟩=some (.int .i64 d.group):=T3.b3.cell 4;have y3_5:w3.cell? ⟨w.heap.size+1+1,5,none⟩=some (.int .i64 d.row):=T3.b3.cell 5;have y3_6:w3.cell? ⟨w.heap.size+1+1,6,none⟩=some (.slice bo6 d.rows.1 bcap6):=T3.b3.cell 6;have y3_7:w3.cell? ⟨w.heap.size+1+1,7,none⟩=some (.slice bo7 d.data.1 bcap7):=T3.b3.cell 7;have y3_8:w3.cell? ⟨w.heap.size+1+1,8,none⟩=some (.slice none 0 0):=T3.b3.cell 8;have yf3_8:w3.frozen? ⟨w.heap.size+1+1,8,none⟩=false:=T3.b3.frozen 8;have z3_0:w3.cell? ⟨w.heap.size+1,0,none⟩=some (.int .i64 0):=T3.b2.cell 0;have zf3_0:w3.frozen? ⟨w.heap.size+1,0,none⟩=false:=T3.b2.frozen 0;have z3_1:w3.cell? ⟨w.heap.size+1,1,none⟩=some (.int .i64 0):=T3.b2.cell 1;have zf3_1:w3.frozen? ⟨w.heap.size+1,1,none⟩=false:=T3.b2.frozen 1;have z3_2:w3.cell? ⟨w.heap.size+1,2,none⟩=some (.string ByteArray.empty):=T3.b2.cell 2;have zf3_2:w3.frozen? ⟨w.heap.size+1,2,none⟩=false:=T3.b2.frozen 2;have z3_3:w3.cell? ⟨w.heap.size+1,3,none⟩=some (.int .i64 0):=T3.b2.cell 3;have zf3_3:w3.frozen? ⟨w.heap.size+1,3,none⟩=false:=T3.b2.frozen 3;have z3_4:w3.cell? ⟨w.heap.size+1,4,none⟩=some (.int .i64 0):=T3.b2.cell 4;have zf3_4:w3.frozen? ⟨w.heap.size+1,4,none⟩=false:=T3.b2.frozen 4;have z3_5:w3.cell? ⟨w.heap.size+1,5,none⟩=some (.int .i64 0):=T3.b2.cell 5;have zf3_5:w3.frozen? ⟨w.heap.size+1,5,none⟩=false:=T3.b2.frozen 5;have z3_6:w3.cell? ⟨w.heap.size+1,6,none⟩=some (.slice none 0 0):=T3.b2.cell 6;have zf3_6:w3.frozen? ⟨w.heap.size+1,6,none⟩=false:=T3.b2.frozen 6;have z3_7:w3.cell? ⟨w.heap.size+1,7,none⟩=some (.slice none 0 0):=T3.b2.cell 7;have zf3_7:w3.frozen? ⟨w.heap.size+1,7,none⟩=false:=T3.b2.frozen 7;have z3_8:w3.cell? ⟨w.heap.size+1,8,none⟩=some (.slice none 0 0):=T3.b2.cell 8;have zf3_8:w3.frozen? ⟨w.heap.size+1,8,none⟩=false:=T3.b2.frozen 8;have Bq:=hid T3.bel;clear T3 b3;go_wp2;refine bodyPost_ret (v:=.agg (rwR d bo6 bcap6 bo7 bcap7 bo8 bcap8).toArray) (by simp [results,Tryz.results94,go_sem,y3_0,z3_0,y3_1,z3_1,y3_2,z3_2,y3_3,z3_3,y3_4,z3_4,y3_5,z3_5,y3_6,z3_6,y3_7,z3_7,y3_8,z3_8]) rfl ?_;have F:OwnT zab w3 (w.heap.size+1+1+1) w3.heap.size d ([.int .i64 d.kind]++([.int .i64 d.seq]++([.string d.name]++([.int .i64 d.length]++([.int .i64 d.group]++([.int .i64 d.row]++([.slice bo6 d.rows.1 bcap6]++([.slice bo7 d.data.1 bcap7]++[.slice bo8 d.delta.1 bcap8])))))))):=OwnT.conv (OwnT.pre (A:=layI) (a:=d.kind) (c:=[.int .i64 d.kind]) ⟨rfl,Q0.out,rfl⟩ (OwnT.pre (A:=layI) (a:=d.seq) (c:=[.int .i64 d.seq]) ⟨rfl,Q1.out,rfl⟩ (OwnT.pre (A:=layS) (a:=d.name) (c:=[.string d.name]) ⟨rfl,Q2.out,rfl⟩ (OwnT.pre (A:=layI) (a:=d.length) (c:=[.int .i64 d.length]) ⟨rfl,Q3.out,rfl⟩ (OwnT.pre (A:=layI) (a:=d.group) (c:=[.int .i64 d.group]) ⟨rfl,Q4.out,rfl⟩ (OwnT.pre (A:=layI) (a:=d.row) (c:=[.int .i64 d.row]) ⟨rfl,Q5.out,rfl⟩ (OwnT.two O6.out (OwnT.two O7.out (O8.out) (by omega) (by omega) (by omega)) (by omega) (by omega) (by omega))))))))
 exact ⟨(rwR d bo6 bcap6 bo7 bcap7 bo8 bcap8),rfl,OwnT.fin F 8 0 [.slice bo8 d.delta.1 bcap8] (rwR d bo6 bcap6 bo7 bcap7 bo8 bcap8) _ rfl,zcl Bq.out 8 0 [.slice bo8 d.delta.1 bcap8] (rwR d bo6 bcap6 bo7 bcap7 bo8 bcap8) _ rfl⟩
theorem zhx:(Tryz.prog.info? 59).map (fun i=>(i.zero.map (·.cells),i.size,i.bytes))=some (some #[.int .i64 0,.int .i64 0,.string ByteArray.empty,.int .i64 0,.int .i64 0,.int .i64 0,.slice none 0 0,.slice none 0 0,.slice none 0 0],9,128):=by kernel_rfl
theorem zhy:ToS (zab.slice 59) (szSl zaL) 71:=fun v d hi w h hhi hn=>by
 obtain ⟨n,x⟩:=d;obtain ⟨ao,cap,hv,hm,hc⟩:=h
 cases hv
 have hn1:=zeK hn;have hn2:∀ i,i<n→zaL (x i)≤1048576:=fun i hi=>zcK hn hi
 simp only at hn1 hm hc
 clear hn
 go_enter Tryz.func71,Tryz.ntmps71
 go_wp2_with (at_make;refine zcU zab [.int .i64 0,.int .i64 0,.string ByteArray.empty,.int .i64 0,.int .i64 0,.int .i64 0,.slice none 0 0,.slice none 0 0,.slice none 0 0] _ 59 128 (by decide) rfl Tryz.underlying47 zhx x (fun _=>[]) _ rfl _ _ rfl _ _ n rfl rfl rfl rfl (by omega) (by omega) ?_;intro w1 sp1 hb1)
 go_loopw [4] (fun i wr=>∃ k:Nat,k≤n∧i=.int .i64 k∧∃ ce Ls,SlP zab 59 wr w.heap.size w.heap.size n n k x ce Ls∧Below w.heap.size w wr) (fun i _=>n-(intOf i).toNat)
 case atStart=>exact ⟨0,Nat.zero_le _,rfl,_,_,sp1,hb1⟩
 case round=>
  clear sp1 hb1;obtain ⟨k,hk,rfl,ce,Ls,sp,hb⟩:=hrel
  by_cases hlt:k<n
  ·obtain ⟨b,off,rfl,hblt,hel⟩:=hc (by omega)
   obtain ⟨ck,hrk,hcell⟩:=zau (t:=0) hel hb hhi hblt hlt;obtain ⟨ao6,cap6,ao7,cap7,ao8,cap8,rfl,-⟩:=zaz hrk;have c0:wr.cell? ⟨b,off+k*9,none⟩=some (.int .i64 (x k).kind):=hcell 0 (by decide);have c1:wr.cell? ⟨b,off+k*9+1,none⟩=some (.int .i64 (x k).seq):=hcell 1 (by decide);have c2:wr.cell? ⟨b,off+k*9+2,none⟩=some (.string (x k).name):=hcell 2 (by decide);have c3:wr.cell? ⟨b,off+k*9+3,none⟩=some (.int .i64 (x k).length):=hcell 3 (by decide);have c4:wr.cell? ⟨b,off+k*9+4,none⟩=some (.int .i64 (x k).group):=hcell 4 (by decide);have c5:wr.cell? ⟨b,off+k*9+5,none⟩=some (.int .i64 (x k).row):=hcell 5 (by decide);have c6:wr.cell? ⟨b,off+k*9+6,none⟩=some (.slice ao6 (x k).rows.1 cap6):=hcell 6 (by decide);have c7:wr.cell? ⟨b,off+k*9+7,none⟩=some (.slice ao7 (x k).data.1 cap7):=hcell 7 (by decide);have c8:wr.cell? ⟨b,off+k*9+8,none⟩=some (.slice ao8 (x k).delta.1 cap8):=hcell 8 (by decide);clear hc hel hcell
   go_wp2_with fail
   refine (zit _ (x k) hi wr hrk (Nat.le_trans hhi hb.size) (hn2 k hlt)).mono ?_;rintro e w2 ⟨cs',rfl,o2,hb2⟩;obtain ⟨bao6,bcap6,bao7,bcap7,bao8,bcap8,rfl⟩:=zhw o2;obtain ⟨z0,s0⟩:=sp.some hb2 hlt (show 0<zab.sz by decide);have s0:w2.cell? ⟨w.heap.size,k*9,none⟩=some z0:=s0;have sf0:=(sp.below hb2).frozen (k*9);obtain ⟨z1,s1⟩:=sp.some hb2 hlt (show 1<zab.sz by decide);have s1:w2.cell? ⟨w.heap.size,k*9+1,none⟩=some z1:=s1;have sf1:=(sp.below hb2).frozen (k*9+1);obtain ⟨z2,s2⟩:=sp.some hb2 hlt (show 2<zab.sz by decide);have s2:w2.cell? ⟨w.heap.size,k*9+2,none⟩=some z2:=s2;have sf2:=(sp.below hb2).frozen (k*9+2);obtain ⟨z3,s3⟩:=sp.some hb2 hlt (show 3<zab.sz by decide);have s3:w2.cell? ⟨w.heap.size,k*9+3,none⟩=some z3:=s3;have sf3:=(sp.below hb2).frozen (k*9+3);obtain ⟨z4,s4⟩:=sp.some hb2 hlt (show 4<zab.sz by decide);have s4:w2.cell? ⟨w.heap.size,k*9+4,none⟩=some z4:=s4;have sf4:=(sp.below hb2).frozen (k*9+4);obtain ⟨z5,s5⟩:=sp.some hb2 hlt (show 5<zab.sz by decide);have s5:w2.cell? ⟨w.heap.size,k*9+5,none⟩=some z5:=s5;have sf5:=(sp.below hb2).frozen (k*9+5);obtain ⟨z6,s6⟩:=sp.some hb2 hlt (show 6<zab.sz by decide);have s6:w2.cell? ⟨w.heap.size,k*9+6,none⟩=some z6:=s6;have sf6:=(sp.below hb2).frozen (k*9+6);obtain ⟨z7,s7⟩:=sp.some hb2 hlt (show 7<zab.sz by decide);have s7:w2.cell? ⟨w.heap.size,k*9+7,none⟩=some z7:=s7;have sf7:=(sp.below hb2).frozen (k*9+7);obtain ⟨z8,s8⟩:=sp.some hb2 hlt (show 8<zab.sz by decide);have s8:w2.cell? ⟨w.heap.size,k*9+8,none⟩=some z8:=s8;have sf8:=(sp.below hb2).frozen (k*9+8);have N:=sp.next hb2 hlt o2 hb.size;have N2:Below w.heap.size w (stN w2 w.heap.size (k*zab.sz) [.int .i64 (x k).kind,.int .i64 (x k).seq,.string (x k).name,.int .i64 (x k).length,.int .i64 (x k).group,.int .i64 (x k).row,.slice bao6 (x k).rows.1 bcap6,.slice bao7 (x k).data.1 bcap7,.slice bao8 (x k).delta.1 bcap8]):=(hb.trans (hb2.mono hb.size)).trans (zbx (Nat.le_refl _) _ _);clear o2 hb2 sp hb
   go_wp2_with fail
   go_roundw
   case rel=>
    obtain ⟨ce',Ls',N⟩:=N;exact ⟨k+1,by omega,by go_num,ce',Ls',N,N2⟩
   case measure=>simp [intOf];omega
  ·obtain rfl:k=n:=by omega
   go_wp2;go_ret;exact ⟨_,rfl,sp.done (Nat.le_refl _),hb⟩
set_option maxRecDepth 20000 in
theorem zhz:ToV zat zaO 39:=fun cs d hi w r hhi hn=>by
 obtain ⟨ao1,cap1,rfl,h1⟩:=za4 r;clear r;unfold zaO at hn;have R1:=hid h1;clear h1
 go_enter Tryz.func39,Tryz.ntmps39
 go_wp2_with fail
 have T0:=zb3 w #[.bool d.wiped,.slice ao1 d.recs.1 cap1] #[.bool false,.slice none 0 0] #[.bool d.wiped,.slice none 0 0] 69 74 74;refine (zhy _ d.recs hi _ ((zab.slice 59).rd_below R1.out T0.bel hhi) (Nat.le_trans hhi T0.bel.size) (by omega)).mono ?_;rintro e w1 ⟨v1,rfl,o1,b1⟩;have L1:=T0.lt;obtain ⟨bo1,bcap1,hv⟩:=zcW o1;obtain rfl:=zcI hv;clear hv;have T1:Three w w1 #[.bool d.wiped,.slice ao1 d.recs.1 cap1] #[.bool false,.slice none 0 0] #[.bool d.wiped,.slice none 0 0] 69 74 74:=T0.call b1;have O1:Hid (OwnT (zab.slice 59) w1 (w.heap.size+1+1+1) (w1.heap.size) d.recs [.slice bo1 d.recs.1 bcap1]):=o1.weaken (by simp<;>omega) (Nat.le_refl _);clear o1;have LT1:w.heap.size+1+1+1≤w1.heap.size:=T1.lt;have y1_0:w1.cell? ⟨w.heap.size+1+1,0,none⟩=some (.bool d.wiped):=T1.b3.cell 0;have y1_1:w1.cell? ⟨w.heap.size+1+1,1,none⟩=some (.slice none 0 0):=T1.b3.cell 1;have yf1_1:w1.frozen? ⟨w.heap.size+1+1,1,none⟩=false:=T1.b3.frozen 1;have z1_0:w1.cell? ⟨w.heap.size+1,0,none⟩=some (.bool false):=T1.b2.cell 0;have zf1_0:w1.frozen? ⟨w.heap.size+1,0,none⟩=false:=T1.b2.frozen 0;have z1_1:w1.cell? ⟨w.heap.size+1,1,none⟩=some (.slice none 0 0):=T1.b2.cell 1;have zf1_1:w1.frozen? ⟨w.heap.size+1,1,none⟩=false:=T1.b2.frozen 1;have Bq:=hid T1.bel;clear T1 b1;go_wp2;refine bodyPost_ret (v:=.agg #[.bool d.wiped,.slice bo1 d.recs.1 bcap1]) (by simp [results,Tryz.results39,go_sem,y1_0,z1_0,y1_1,z1_1]) rfl ?_;have F:OwnT zat w1 (w.heap.size+1+1+1) w1.heap.size d ([.bool d.wiped]++[.slice bo1 d.recs.1 bcap1]):=OwnT.conv (OwnT.pre (A:=layB) (a:=d.wiped) (c:=[.bool d.wiped]) ⟨rfl,trivial,rfl⟩ (O1.out));exact ⟨[.bool d.wiped,.slice bo1 d.recs.1 bcap1],rfl,OwnT.fin F 1 0 [.slice bo1 d.recs.1 bcap1] [.bool d.wiped,.slice bo1 d.recs.1 bcap1] _ rfl,zcl Bq.out 1 0 [.slice bo1 d.recs.1 bcap1] [.bool d.wiped,.slice bo1 d.recs.1 bcap1] _ rfl⟩
theorem zgx:(Tryz.prog.info? 74).map (fun i=>(i.zero.map (·.cells),i.size,i.bytes))=some (some #[.bool false,.slice none 0 0],2,32):=by kernel_rfl
theorem zgy:ToS (zat.slice 74) (szSl zaO) 19:=fun v d hi w h hhi hn=>by
 obtain ⟨n,x⟩:=d;obtain ⟨ao,cap,hv,hm,hc⟩:=h
 cases hv
 have hn1:=zeK hn;have hn2:∀ i,i<n→zaO (x i)≤1048576:=fun i hi=>zcK hn hi
 simp only at hn1 hm hc
 clear hn
 go_enter Tryz.func19,Tryz.ntmps19
 go_wp2_with (at_make;refine zcU zat [.bool false,.slice none 0 0] _ 74 32 (by decide) rfl Tryz.underlying35 zgx x (fun _=>[]) _ rfl _ _ rfl _ _ n rfl rfl rfl rfl (by omega) (by omega) ?_;intro w1 sp1 hb1)
 go_loopw [4] (fun i wr=>∃ k:Nat,k≤n∧i=.int .i64 k∧∃ ce Ls,SlP zat 74 wr w.heap.size w.heap.size n n k x ce Ls∧Below w.heap.size w wr) (fun i _=>n-(intOf i).toNat)
 case atStart=>exact ⟨0,Nat.zero_le _,rfl,_,_,sp1,hb1⟩
 case round=>
  clear sp1 hb1;obtain ⟨k,hk,rfl,ce,Ls,sp,hb⟩:=hrel
  by_cases hlt:k<n
  ·obtain ⟨b,off,rfl,hblt,hel⟩:=hc (by omega)
   obtain ⟨ck,hrk,hcell⟩:=zau (t:=0) hel hb hhi hblt hlt;obtain ⟨ao1,cap1,rfl,-⟩:=za4 hrk;have c0:wr.cell? ⟨b,off+k*2,none⟩=some (.bool (x k).wiped):=hcell 0 (by decide);have c1:wr.cell? ⟨b,off+k*2+1,none⟩=some (.slice ao1 (x k).recs.1 cap1):=hcell 1 (by decide);clear hc hel hcell
   go_wp2_with fail
   refine (zhz _ (x k) hi wr hrk (Nat.le_trans hhi hb.size) (hn2 k hlt)).mono ?_;rintro e w2 ⟨cs',rfl,o2,hb2⟩;obtain ⟨bao1,bcap1,rfl⟩:=zgt o2;obtain ⟨z0,s0⟩:=sp.some hb2 hlt (show 0<zat.sz by decide);have s0:w2.cell? ⟨w.heap.size,k*2,none⟩=some z0:=s0;have sf0:=(sp.below hb2).frozen (k*2);obtain ⟨z1,s1⟩:=sp.some hb2 hlt (show 1<zat.sz by decide);have s1:w2.cell? ⟨w.heap.size,k*2+1,none⟩=some z1:=s1;have sf1:=(sp.below hb2).frozen (k*2+1);have N:=sp.next hb2 hlt o2 hb.size;have N2:Below w.heap.size w (stN w2 w.heap.size (k*zat.sz) [.bool (x k).wiped,.slice bao1 (x k).recs.1 bcap1]):=(hb.trans (hb2.mono hb.size)).trans (zbx (Nat.le_refl _) _ _);clear o2 hb2 sp hb
   go_wp2_with fail
   go_roundw
   case rel=>
    obtain ⟨ce',Ls',N⟩:=N;exact ⟨k+1,by omega,by go_num,ce',Ls',N,N2⟩
   case measure=>simp [intOf];omega
  ·obtain rfl:k=n:=by omega
   go_wp2;go_ret;exact ⟨_,rfl,sp.done (Nat.le_refl _),hb⟩
set_option maxRecDepth 20000 in
theorem zgz:ToV zan zbb 6:=fun cs d hi w r hhi hn=>by
 obtain ⟨ao1,cap1,ao2,cap2,ao3,cap3,rfl,h1,h2,h3,k0,k4,k5⟩:=zaT r;clear r;unfold zbb at hn;have R1:=hid h1;have R2:=hid h2;have R3:=hid h3;clear h1 h2 h3;have Q0:=hid k0;have Q4:=hid k4;have Q5:=hid k5;clear k0 k4 k5
 go_enter Tryz.func6,Tryz.ntmps6
 go_wp2_with fail
 have T0:=zb3 w (rwW d ao1 cap1 ao2 cap2 ao3 cap3).toArray (rwV 0 0 0 0 0 0 0 0 0 none 0 0 none 0 0 none 0 0 0 0 false).toArray (rwV 0 0 0 0 0 0 0 0 0 none 0 0 none 0 0 none 0 0 0 0 false).toArray 28 37 37;refine (zfs d.shape _).mono ?_;rintro e w1 ⟨rfl,b1⟩;unfold zaf;have L1:=T0.lt;have T1:Three w w1 (rwW d ao1 cap1 ao2 cap2 ao3 cap3).toArray (rwV 0 0 0 0 0 0 0 0 0 none 0 0 none 0 0 none 0 0 0 0 false).toArray (rwV 0 0 0 0 0 0 0 0 0 none 0 0 none 0 0 none 0 0 0 0 false).toArray 28 37 37:=T0.call b1;have LT1:w.heap.size+1+1+1≤w1.heap.size:=T1.lt;have x1_9:w1.cell? ⟨w.heap.size,9,none⟩=some (.slice ao1 d.groups.1 cap1):=T1.b1.cell 9;have y1_0:w1.cell? ⟨w.heap.size+1+1,0,none⟩=some (.int .i64 0):=T1.b3.cell 0;have y1_1:w1.cell? ⟨w.heap.size+1+1,1,none⟩=some (.int .i64 0):=T1.b3.cell 1;have y1_2:w1.cell? ⟨w.heap.size+1+1,2,none⟩=some (.int .i64 0):=T1.b3.cell 2;have y1_3:w1.cell? ⟨w.heap.size+1+1,3,none⟩=some (.int .i64 0):=T1.b3.cell 3;have y1_4:w1.cell? ⟨w.heap.size+1+1,4,none⟩=some (.int .i64 0):=T1.b3.cell 4;have y1_5:w1.cell? ⟨w.heap.size+1+1,5,none⟩=some (.int .i64 0):=T1.b3.cell 5;have y1_6:w1.cell? ⟨w.heap.size+1+1,6,none⟩=some (.int .i64 0):=T1.b3.cell 6;have y1_7:w1.cell? ⟨w.heap.size+1+1,7,none⟩=some (.int .i64 0):=T1.b3.cell 7;have y1_8:w1.cell? ⟨w.heap.size+1+1,8,none⟩=some (.int .i64 0):=T1.b3.cell 8;have yf1_0:w1.frozen? ⟨w.heap.size+1+1,0,none⟩=false:=T1.b3.frozen 0;have yf1_1:w1.frozen? ⟨w.heap.size+1+1,1,none⟩=false:=T1.b3.frozen 1;have yf1_2:w1.frozen? ⟨w.heap.size+1+1,2,none⟩=false:=T1.b3.frozen 2;have yf1_3:w1.frozen? ⟨w.heap.size+1+1,3,none⟩=false:=T1.b3.frozen 3;have yf1_4:w1.frozen? ⟨w.heap.size+1+1,4,none⟩=false:=T1.b3.frozen 4
 have yf1_5:w1.frozen? ⟨w.heap.size+1+1,5,none⟩=false:=T1.b3.frozen 5;have yf1_6:w1.frozen? ⟨w.heap.size+1+1,6,none⟩=false:=T1.b3.frozen 6;have yf1_7:w1.frozen? ⟨w.heap.size+1+1,7,none⟩=false:=T1.b3.frozen 7;have yf1_8:w1.frozen? ⟨w.heap.size+1+1,8,none⟩=false:=T1.b3.frozen 8;have V1:Three w (((((((((w1.setCell ⟨w.heap.size+1+1,0,none⟩ (.int .i64 (d.shape 0))).setCell ⟨w.heap.size+1+1,1,none⟩ (.int .i64 (d.shape 1))).setCell ⟨w.heap.size+1+1,2,none⟩ (.int .i64 (d.shape 2))).setCell ⟨w.heap.size+1+1,3,none⟩ (.int .i64 (d.shape 3))).setCell ⟨w.heap.size+1+1,4,none⟩ (.int .i64 (d.shape 4))).setCell ⟨w.heap.size+1+1,5,none⟩ (.int .i64 (d.shape 5))).setCell ⟨w.heap.size+1+1,6,none⟩ (.int .i64 (d.shape 6))).setCell ⟨w.heap.size+1+1,7,none⟩ (.int .i64 (d.shape 7))).setCell ⟨w.heap.size+1+1,8,none⟩ (.int .i64 (d.shape 8))) (rwW d ao1 cap1 ao2 cap2 ao3 cap3).toArray (rwV 0 0 0 0 0 0 0 0 0 none 0 0 none 0 0 none 0 0 0 0 false).toArray #[.int .i64 (d.shape 0),.int .i64 (d.shape 1),.int .i64 (d.shape 2),.int .i64 (d.shape 3),.int .i64 (d.shape 4),.int .i64 (d.shape 5),.int .i64 (d.shape 6),.int .i64 (d.shape 7),.int .i64 (d.shape 8),.slice none 0 0,.slice none 0 0,.slice none 0 0,.int .i64 0,.int .i64 0,.bool false] 28 37 37:=T1.st3 0 (rwS d.shape) (c3':=[.int .i64 (d.shape 0),.int .i64 (d.shape 1),.int .i64 (d.shape 2),.int .i64 (d.shape 3),.int .i64 (d.shape 4),.int .i64 (d.shape 5),.int .i64 (d.shape 6),.int .i64 (d.shape 7),.int .i64 (d.shape 8),.slice none 0 0,.slice none 0 0,.slice none 0 0,.int .i64 0,.int .i64 0,.bool false]) rfl;clear T1 b1
 go_wp2_with fail
 refine (zeR _ d.groups hi _ (((zak.slice 110).slice 80).rd_below R1.out V1.bel hhi) (Nat.le_trans hhi V1.bel.size) (by omega)).mono ?_;rintro e w2 ⟨v2,rfl,o2,b2⟩;have L2:=V1.lt;obtain ⟨bo1,bcap1,hv⟩:=zcW o2;obtain rfl:=zcI hv;clear hv;have T2:Three w w2 (rwW d ao1 cap1 ao2 cap2 ao3 cap3).toArray (rwV 0 0 0 0 0 0 0 0 0 none 0 0 none 0 0 none 0 0 0 0 false).toArray #[.int .i64 (d.shape 0),.int .i64 (d.shape 1),.int .i64 (d.shape 2),.int .i64 (d.shape 3),.int .i64 (d.shape 4),.int .i64 (d.shape 5),.int .i64 (d.shape 6),.int .i64 (d.shape 7),.int .i64 (d.shape 8),.slice none 0 0,.slice none 0 0,.slice none 0 0,.int .i64 0,.int .i64 0,.bool false] 28 37 37:=V1.call b2;have O1:Hid (OwnT ((zak.slice 110).slice 80) w2 (w.heap.size+1+1+1) (w2.heap.size) d.groups [.slice bo1 d.groups.1 bcap1]):=o2.weaken (by simp<;>omega) (Nat.le_refl _);clear o2;have LT2:w.heap.size+1+1+1≤w2.heap.size:=T2.lt
 have S2:w1.heap.size≤w2.heap.size:=by
  have:=b2.size
  simpa using this
 have x2_10:w2.cell? ⟨w.heap.size,10,none⟩=some (.slice ao2 d.on.1 cap2):=T2.b1.cell 10;have y2_9:w2.cell? ⟨w.heap.size+1+1,9,none⟩=some (.slice none 0 0):=T2.b3.cell 9;have yf2_9:w2.frozen? ⟨w.heap.size+1+1,9,none⟩=false:=T2.b3.frozen 9;have V2:Three w (w2.setCell ⟨w.heap.size+1+1,9,none⟩ (.slice bo1 d.groups.1 bcap1)) (rwW d ao1 cap1 ao2 cap2 ao3 cap3).toArray (rwV 0 0 0 0 0 0 0 0 0 none 0 0 none 0 0 none 0 0 0 0 false).toArray #[.int .i64 (d.shape 0),.int .i64 (d.shape 1),.int .i64 (d.shape 2),.int .i64 (d.shape 3),.int .i64 (d.shape 4),.int .i64 (d.shape 5),.int .i64 (d.shape 6),.int .i64 (d.shape 7),.int .i64 (d.shape 8),.slice bo1 d.groups.1 bcap1,.slice none 0 0,.slice none 0 0,.int .i64 0,.int .i64 0,.bool false] 28 37 37:=T2.st3 9 [.slice bo1 d.groups.1 bcap1] (c3':=[.int .i64 (d.shape 0),.int .i64 (d.shape 1),.int .i64 (d.shape 2),.int .i64 (d.shape 3),.int .i64 (d.shape 4),.int .i64 (d.shape 5),.int .i64 (d.shape 6),.int .i64 (d.shape 7),.int .i64 (d.shape 8),.slice bo1 d.groups.1 bcap1,.slice none 0 0,.slice none 0 0,.int .i64 0,.int .i64 0,.bool false]) rfl;clear T2 b2
 go_wp2_with fail
 refine (zeL _ d.on hi _ (zaE.rd_below R2.out V2.bel hhi) (Nat.le_trans hhi V2.bel.size) (by omega)).mono ?_;rintro e w3 ⟨v3,rfl,o3,b3⟩;have L3:=V2.lt;obtain ⟨bo2,bcap2,hv⟩:=zdX o3;obtain rfl:=zcI hv;clear hv;have T3:Three w w3 (rwW d ao1 cap1 ao2 cap2 ao3 cap3).toArray (rwV 0 0 0 0 0 0 0 0 0 none 0 0 none 0 0 none 0 0 0 0 false).toArray #[.int .i64 (d.shape 0),.int .i64 (d.shape 1),.int .i64 (d.shape 2),.int .i64 (d.shape 3),.int .i64 (d.shape 4),.int .i64 (d.shape 5),.int .i64 (d.shape 6),.int .i64 (d.shape 7),.int .i64 (d.shape 8),.slice bo1 d.groups.1 bcap1,.slice none 0 0,.slice none 0 0,.int .i64 0,.int .i64 0,.bool false] 28 37 37:=V2.call b3;have O1x:OwnT ((zak.slice 110).slice 80) w3 (w.heap.size+1+1+1) (w2.heap.size) d.groups [.slice bo1 d.groups.1 bcap1]:=((O1.out).set (show w.heap.size+1+1<_ by omega)).call b3;clear O1;have O1:=hid O1x;clear O1x;have O2:Hid (OwnT zaE w3 (w2.heap.size) (w3.heap.size) d.on [.slice bo2 d.on.1 bcap2]):=o3.weaken (by simp<;>omega) (Nat.le_refl _);clear o3;have LT3:w.heap.size+1+1+1≤w3.heap.size:=T3.lt
 have S3:w2.heap.size≤w3.heap.size:=by
  have:=b3.size
  simpa using this
 have x3_11:w3.cell? ⟨w.heap.size,11,none⟩=some (.slice ao3 d.tapes.1 cap3):=T3.b1.cell 11;have y3_10:w3.cell? ⟨w.heap.size+1+1,10,none⟩=some (.slice none 0 0):=T3.b3.cell 10;have yf3_10:w3.frozen? ⟨w.heap.size+1+1,10,none⟩=false:=T3.b3.frozen 10;have V3:Three w (w3.setCell ⟨w.heap.size+1+1,10,none⟩ (.slice bo2 d.on.1 bcap2)) (rwW d ao1 cap1 ao2 cap2 ao3 cap3).toArray (rwV 0 0 0 0 0 0 0 0 0 none 0 0 none 0 0 none 0 0 0 0 false).toArray #[.int .i64 (d.shape 0),.int .i64 (d.shape 1),.int .i64 (d.shape 2),.int .i64 (d.shape 3),.int .i64 (d.shape 4),.int .i64 (d.shape 5),.int .i64 (d.shape 6),.int .i64 (d.shape 7),.int .i64 (d.shape 8),.slice bo1 d.groups.1 bcap1,.slice bo2 d.on.1 bcap2,.slice none 0 0,.int .i64 0,.int .i64 0,.bool false] 28 37 37:=T3.st3 10 [.slice bo2 d.on.1 bcap2] (c3':=[.int .i64 (d.shape 0),.int .i64 (d.shape 1),.int .i64 (d.shape 2),.int .i64 (d.shape 3),.int .i64 (d.shape 4),.int .i64 (d.shape 5),.int .i64 (d.shape 6),.int .i64 (d.shape 7),.int .i64 (d.shape 8),.slice bo1 d.groups.1 bcap1,.slice bo2 d.on.1 bcap2,.slice none 0 0,.int .i64 0,.int .i64 0,.bool false]) rfl;clear T3 b3
 go_wp2_with fail
 refine (zgy _ d.tapes hi _ ((zat.slice 74).rd_below R3.out V3.bel hhi) (Nat.le_trans hhi V3.bel.size) (by omega)).mono ?_;rintro e w4 ⟨v4,rfl,o4,b4⟩;have L4:=V3.lt;obtain ⟨bo3,bcap3,hv⟩:=zcW o4;obtain rfl:=zcI hv;clear hv;have T4:Three w w4 (rwW d ao1 cap1 ao2 cap2 ao3 cap3).toArray (rwV 0 0 0 0 0 0 0 0 0 none 0 0 none 0 0 none 0 0 0 0 false).toArray #[.int .i64 (d.shape 0),.int .i64 (d.shape 1),.int .i64 (d.shape 2),.int .i64 (d.shape 3),.int .i64 (d.shape 4),.int .i64 (d.shape 5),.int .i64 (d.shape 6),.int .i64 (d.shape 7),.int .i64 (d.shape 8),.slice bo1 d.groups.1 bcap1,.slice bo2 d.on.1 bcap2,.slice none 0 0,.int .i64 0,.int .i64 0,.bool false] 28 37 37:=V3.call b4;have O1x:OwnT ((zak.slice 110).slice 80) w4 (w.heap.size+1+1+1) (w2.heap.size) d.groups [.slice bo1 d.groups.1 bcap1]:=((O1.out).set (show w.heap.size+1+1<_ by omega)).call b4;clear O1;have O1:=hid O1x;clear O1x;have O2x:OwnT zaE w4 (w2.heap.size) (w3.heap.size) d.on [.slice bo2 d.on.1 bcap2]:=((O2.out).set (show w.heap.size+1+1<_ by omega)).call b4;clear O2;have O2:=hid O2x;clear O2x;have O3:Hid (OwnT (zat.slice 74) w4 (w3.heap.size) (w4.heap.size) d.tapes [.slice bo3 d.tapes.1 bcap3]):=o4.weaken (by simp<;>omega) (Nat.le_refl _);clear o4;have LT4:w.heap.size+1+1+1≤w4.heap.size:=T4.lt
 have S4:w3.heap.size≤w4.heap.size:=by
  have:=b4.size
  simpa using this
 have x4_12:w4.cell? ⟨w.heap.size,12,none⟩=some (.int .i64 d.writes):=T4.b1.cell 12;have x4_13:w4.cell? ⟨w.heap.size,13,none⟩=some (.int .i64 d.stop):=T4.b1.cell 13;have x4_14:w4.cell? ⟨w.heap.size,14,none⟩=some (.bool d.down):=T4.b1.cell 14;have y4_0:w4.cell? ⟨w.heap.size+1+1,0,none⟩=some (.int .i64 (d.shape 0)):=T4.b3.cell 0;have y4_1:w4.cell? ⟨w.heap.size+1+1,1,none⟩=some (.int .i64 (d.shape 1)):=T4.b3.cell 1;have y4_2:w4.cell? ⟨w.heap.size+1+1,2,none⟩=some (.int .i64 (d.shape 2)):=T4.b3.cell 2;have y4_3:w4.cell? ⟨w.heap.size+1+1,3,none⟩=some (.int .i64 (d.shape 3)):=T4.b3.cell 3;have y4_4:w4.cell? ⟨w.heap.size+1+1,4,none⟩=some (.int .i64 (d.shape 4)):=T4.b3.cell 4;have y4_5:w4.cell? ⟨w.heap.size+1+1,5,none⟩=some (.int .i64 (d.shape 5)):=T4.b3.cell 5;have y4_6:w4.cell? ⟨w.heap.size+1+1,6,none⟩=some (.int .i64 (d.shape 6)):=T4.b3.cell 6;have y4_7:w4.cell? ⟨w.heap.size+1+1,7,none⟩=some (.int .i64 (d.shape 7)):=T4.b3.cell 7;have y4_8:w4.cell? ⟨w.heap.size+1+1,8,none⟩=some (.int .i64 (d.shape 8)):=T4.b3.cell 8;have y4_9:w4.cell? ⟨w.heap.size+1+1,9,none⟩=some (.slice bo1 d.groups.1 bcap1):=T4.b3.cell 9;have y4_10:w4.cell? ⟨w.heap.size+1+1,10,none⟩=some (.slice bo2 d.on.1 bcap2):=T4.b3.cell 10;have y4_11:w4.cell? ⟨w.heap.size+1+1,11,none⟩=some (.slice none 0 0):=T4.b3.cell 11;have y4_12:w4.cell? ⟨w.heap.size+1+1,12,none⟩=some (.int .i64 0):=T4.b3.cell 12;have y4_13:w4.cell? ⟨w.heap.size+1+1,13,none⟩=some (.int .i64 0):=T4.b3.cell 13;have y4_14:w4.cell? ⟨w.heap.size+1+1,14,none⟩=some (.bool false):=T4.b3.cell 14;have yf4_11:w4.frozen? ⟨w.heap.size+1+1,11,none⟩=false:=T4.b3.frozen 11;have yf4_12:w4.frozen? ⟨w.heap.size+1+1,12,none⟩=false:=T4.b3.frozen 12;have yf4_13:w4.frozen? ⟨w.heap.size+1+1,13,none⟩=false:=T4.b3.frozen 13;have yf4_14:w4.frozen? ⟨w.heap.size+1+1,14,none⟩=false:=T4.b3.frozen 14;have z4_0:w4.cell? ⟨w.heap.size+1,0,none⟩=some (.int .i64 0):=T4.b2.cell 0;have zf4_0:w4.frozen? ⟨w.heap.size+1,0,none⟩=false:=T4.b2.frozen 0;have z4_1:w4.cell? ⟨w.heap.size+1,1,none⟩=some (.int .i64 0):=T4.b2.cell 1;have zf4_1:w4.frozen? ⟨w.heap.size+1,1,none⟩=false:=T4.b2.frozen 1;have z4_2:w4.cell? ⟨w.heap.size+1,2,none⟩=some (.int .i64 0):=T4.b2.cell 2;have zf4_2:w4.frozen? ⟨w.heap.size+1,2,none⟩=false:=T4.b2.frozen 2;have z4_3:w4.cell? ⟨w.heap.size+1,3,none⟩=some (.int .i64 0):=T4.b2.cell 3;have zf4_3:w4.frozen? ⟨w.heap.size+1,3,none⟩=false:=T4.b2.frozen 3;have z4_4:w4.cell? ⟨w.heap.size+1,4,none⟩=some (.int .i64 0):=T4.b2.cell 4;have zf4_4:w4.frozen? ⟨w.heap.size+1,4,none⟩=false:=T4.b2.frozen 4;have z4_5:w4.cell? ⟨w.heap.size+1,5,none⟩=some (.int .i64 0):=T4.b2.cell 5;have zf4_5:w4.frozen? ⟨w.heap.size+1,5,none⟩=false:=T4.b2.frozen 5
 have z4_6:w4.cell? ⟨w.heap.size+1,6,none⟩=some (.int .i64 0):=T4.b2.cell 6;have zf4_6:w4.frozen? ⟨w.heap.size+1,6,none⟩=false:=T4.b2.frozen 6;have z4_7:w4.cell? ⟨w.heap.size+1,7,none⟩=some (.int .i64 0):=T4.b2.cell 7;have zf4_7:w4.frozen? ⟨w.heap.size+1,7,none⟩=false:=T4.b2.frozen 7;have z4_8:w4.cell? ⟨w.heap.size+1,8,none⟩=some (.int .i64 0):=T4.b2.cell 8;have zf4_8:w4.frozen? ⟨w.heap.size+1,8,none⟩=false:=T4.b2.frozen 8;have z4_9:w4.cell? ⟨w.heap.size+1,9,none⟩=some (.slice none 0 0):=T4.b2.cell 9;have zf4_9:w4.frozen? ⟨w.heap.size+1,9,none⟩=false:=T4.b2.frozen 9;have z4_10:w4.cell? ⟨w.heap.size+1,10,none⟩=some (.slice none 0 0):=T4.b2.cell 10;have zf4_10:w4.frozen? ⟨w.heap.size+1,10,none⟩=false:=T4.b2.frozen 10;have z4_11:w4.cell? ⟨w.heap.size+1,11,none⟩=some (.slice none 0 0):=T4.b2.cell 11;have zf4_11:w4.frozen? ⟨w.heap.size+1,11,none⟩=false:=T4.b2.frozen 11;have z4_12:w4.cell? ⟨w.heap.size+1,12,none⟩=some (.int .i64 0):=T4.b2.cell 12;have zf4_12:w4.frozen? ⟨w.heap.size+1,12,none⟩=false:=T4.b2.frozen 12;have z4_13:w4.cell? ⟨w.heap.size+1,13,none⟩=some (.int .i64 0):=T4.b2.cell 13;have zf4_13:w4.frozen? ⟨w.heap.size+1,13,none⟩=false:=T4.b2.frozen 13;have z4_14:w4.cell? ⟨w.heap.size+1,14,none⟩=some (.bool false):=T4.b2.cell 14;have zf4_14:w4.frozen? ⟨w.heap.size+1,14,none⟩=false:=T4.b2.frozen 14;have Bq:=hid T4.bel;clear T4 b4;go_wp2;refine bodyPost_ret (v:=.agg (rwW d bo1 bcap1 bo2 bcap2 bo3 bcap3).toArray) (by simp [results,Tryz.results6,go_sem,y4_0,z4_0,y4_1,z4_1,y4_2,z4_2,y4_3,z4_3,y4_4,z4_4,y4_5,z4_5,y4_6,z4_6,y4_7,z4_7,y4_8,z4_8,y4_9,z4_9,y4_10,z4_10,y4_11,z4_11,y4_12,z4_12,y4_13,z4_13,y4_14,z4_14]) rfl ?_;have F:OwnT zan w4 (w.heap.size+1+1+1) w4.heap.size d ((rwS d.shape)++([.slice bo1 d.groups.1 bcap1]++([.slice bo2 d.on.1 bcap2]++([.slice bo3 d.tapes.1 bcap3]++([.int .i64 d.writes]++([.int .i64 d.stop]++[.bool d.down])))))):=OwnT.conv (OwnT.pre (A:=(zd9 9)) (a:=d.shape) (c:=(rwS d.shape)) ⟨rfl,Q0.out,rfl⟩ (OwnT.two O1.out (OwnT.two O2.out (OwnT.two O3.out (OwnT.pre (A:=layI) (a:=d.writes) (c:=[.int .i64 d.writes]) ⟨rfl,Q4.out,rfl⟩ (OwnT.pre (A:=layI) (a:=d.stop) (c:=[.int .i64 d.stop]) ⟨rfl,Q5.out,rfl⟩ (OwnT.nil (A:=layB) (a:=d.down) (c:=[.bool d.down]) ⟨rfl,trivial,rfl⟩ w4.heap.size w4.heap.size))) (by omega) (by omega) (by omega)) (by omega) (by omega) (by omega)) (by omega) (by omega) (by omega)))
 exact ⟨(rwW d bo1 bcap1 bo2 bcap2 bo3 bcap3),rfl,OwnT.fin F 11 0 [.slice bo3 d.tapes.1 bcap3,.int .i64 d.writes,.int .i64 d.stop,.bool d.down] (rwW d bo1 bcap1 bo2 bcap2 bo3 bcap3) _ rfl,zcl Bq.out 11 0 [.slice bo3 d.tapes.1 bcap3,.int .i64 d.writes,.int .i64 d.stop,.bool d.down] (rwW d bo1 bcap1 bo2 bcap2 bo3 bcap3) _ rfl⟩
set_option maxRecDepth 20000 in
theorem zgA:EqV zaw 134:=fun c1 c2 d h1 h2 w r1 r2 u1 u2=>by
 obtain ⟨ao1,cap1,rfl,g1,-⟩:=zbs r1;obtain ⟨bao1,bcap1,rfl,q1,-⟩:=zbs r2;clear r1 r2;have G1:=hid g1;have E1:=hid q1;clear g1 q1
 go_enter Tryz.func134,Tryz.ntmps134
 go_wp2_with fail
 have T0:=zaJ w #[.int .i64 d.stamp,.slice ao1 d.bytes.1 cap1] #[.int .i64 d.stamp,.slice bao1 d.bytes.1 bcap1] 112 112;refine (zdb _ _ d.bytes h1 h2 _ (zaq.rd_below G1.out T0.bel u1) (zaq.rd_below E1.out T0.bel u2) (Nat.le_trans u1 T0.bel.size) (Nat.le_trans u2 T0.bel.size)).mono ?_;rintro e w1 ⟨rfl,b1⟩;have T1:Two w w1 #[.int .i64 d.stamp,.slice ao1 d.bytes.1 cap1] #[.int .i64 d.stamp,.slice bao1 d.bytes.1 bcap1] 112 112:=T0.call b1;clear T0 b1;have B:=hid T1.bel;clear T1;go_wp2;go_ret;exact ⟨rfl,B.out⟩
theorem zfx:EqS (zaw.slice 112) 111:=fun v1 v2 d h1 h2 w r1 r2 u1 u2=>by
 obtain ⟨n,x⟩:=d;obtain ⟨ao,cap,hv,hm,hc⟩:=r1
 cases hv
 obtain ⟨ao',cap',hv',hm',hc'⟩:=r2
 cases hv'
 simp only at hm hc hc'
 unfold maxLen at hm;clear hm'
 go_enter Tryz.func111,Tryz.ntmps111
 go_wp2
 go_loopw [5] (fun i wr=>∃ k:Nat,k≤n∧i=.int .i64 k∧Below w.heap.size w wr) (fun i _=>n-(intOf i).toNat)
 case atStart=>exact ⟨0,Nat.zero_le _,rfl,Below.refl _ _⟩
 case round=>
  obtain ⟨k,hk,rfl,hb⟩:=hrel
  by_cases hlt:k<n
  ·obtain ⟨b,off,rfl,hblt,hel⟩:=hc (by omega)
   obtain ⟨b',off',rfl,hblt',hel'⟩:=hc' (by omega);obtain ⟨ck,hrk,hcell⟩:=zau (t:=0) hel (below_drewN hb 1) u1 hblt hlt;obtain ⟨ck',hrk',hcell'⟩:=zau (t:=0) hel' (below_drewN hb 1) u2 hblt' hlt;obtain ⟨ao1,cap1,rfl,-⟩:=zbs hrk;obtain ⟨bao1,bcap1,rfl,-⟩:=zbs hrk';have c0:wr.cell? ⟨b,off+k*2,none⟩=some (.int .i64 (x k).stamp):=hcell 0 (by decide);have c1:wr.cell? ⟨b,off+k*2+1,none⟩=some (.slice ao1 (x k).bytes.1 cap1):=hcell 1 (by decide);have e0:wr.cell? ⟨b',off'+k*2,none⟩=some (.int .i64 (x k).stamp):=hcell' 0 (by decide);have e1:wr.cell? ⟨b',off'+k*2+1,none⟩=some (.slice bao1 (x k).bytes.1 bcap1):=hcell' 1 (by decide);have C1:=zgA _ _ (x k) h1 h2 (wr.drewN 1) hrk hrk' (Nat.le_trans u1 hb.size) (Nat.le_trans u2 hb.size);clear hc hc' hel hel' hcell hcell' hrk hrk';go_wp2
   go_region_with (go_at_call 134;refine C1.mono ?_;rintro ee w2 ⟨rfl,hb2⟩)
   all_goals
    have R':Below w.heap.size w w2:=hb.trans ((below_drewN (Below.refl wr.heap.size wr) 1).trans hb2 |>.mono hb.size);clear hb2;go_wp2
    go_roundw
    case rel=>exact ⟨k+1,by omega,by go_num,R'⟩
    case measure=>simp [intOf];omega
  ·obtain rfl:k=n:=by omega
   go_wp2;go_ret;exact ⟨rfl,hb⟩
set_option maxRecDepth 20000 in
theorem zgB:EqV zak 85:=fun c1 c2 d h1 h2 w r1 r2 u1 u2=>by
 obtain ⟨ao1,cap1,rfl,g1⟩:=zbt r1;obtain ⟨bao1,bcap1,rfl,q1⟩:=zbt r2;clear r1 r2;have G1:=hid g1;have E1:=hid q1;clear g1 q1
 go_enter Tryz.func85,Tryz.ntmps85
 go_wp2_with fail
 have T0:=zaJ w #[.bool d.wiped,.slice ao1 d.blocks.1 cap1] #[.bool d.wiped,.slice bao1 d.blocks.1 bcap1] 110 110;refine (zfx _ _ d.blocks h1 h2 _ ((zaw.slice 112).rd_below G1.out T0.bel u1) ((zaw.slice 112).rd_below E1.out T0.bel u2) (Nat.le_trans u1 T0.bel.size) (Nat.le_trans u2 T0.bel.size)).mono ?_;rintro e w1 ⟨rfl,b1⟩;have T1:Two w w1 #[.bool d.wiped,.slice ao1 d.blocks.1 cap1] #[.bool d.wiped,.slice bao1 d.blocks.1 bcap1] 110 110:=T0.call b1;clear T0 b1;have B:=hid T1.bel;clear T1;go_wp2;go_ret;exact ⟨rfl,B.out⟩
theorem zfy:EqS (zak.slice 110) 54:=fun v1 v2 d h1 h2 w r1 r2 u1 u2=>by
 obtain ⟨n,x⟩:=d;obtain ⟨ao,cap,hv,hm,hc⟩:=r1
 cases hv
 obtain ⟨ao',cap',hv',hm',hc'⟩:=r2
 cases hv'
 simp only at hm hc hc'
 unfold maxLen at hm;clear hm'
 go_enter Tryz.func54,Tryz.ntmps54
 go_wp2
 go_loopw [5] (fun i wr=>∃ k:Nat,k≤n∧i=.int .i64 k∧Below w.heap.size w wr) (fun i _=>n-(intOf i).toNat)
 case atStart=>exact ⟨0,Nat.zero_le _,rfl,Below.refl _ _⟩
 case round=>
  obtain ⟨k,hk,rfl,hb⟩:=hrel
  by_cases hlt:k<n
  ·obtain ⟨b,off,rfl,hblt,hel⟩:=hc (by omega)
   obtain ⟨b',off',rfl,hblt',hel'⟩:=hc' (by omega);obtain ⟨ck,hrk,hcell⟩:=zau (t:=0) hel (below_drewN hb 1) u1 hblt hlt;obtain ⟨ck',hrk',hcell'⟩:=zau (t:=0) hel' (below_drewN hb 1) u2 hblt' hlt;obtain ⟨ao1,cap1,rfl,-⟩:=zbt hrk;obtain ⟨bao1,bcap1,rfl,-⟩:=zbt hrk';have c0:wr.cell? ⟨b,off+k*2,none⟩=some (.bool (x k).wiped):=hcell 0 (by decide);have c1:wr.cell? ⟨b,off+k*2+1,none⟩=some (.slice ao1 (x k).blocks.1 cap1):=hcell 1 (by decide);have e0:wr.cell? ⟨b',off'+k*2,none⟩=some (.bool (x k).wiped):=hcell' 0 (by decide);have e1:wr.cell? ⟨b',off'+k*2+1,none⟩=some (.slice bao1 (x k).blocks.1 bcap1):=hcell' 1 (by decide);have C1:=zgB _ _ (x k) h1 h2 (wr.drewN 1) hrk hrk' (Nat.le_trans u1 hb.size) (Nat.le_trans u2 hb.size);clear hc hc' hel hel' hcell hcell' hrk hrk';go_wp2
   go_region_with (go_at_call 85;refine C1.mono ?_;rintro ee w2 ⟨rfl,hb2⟩)
   all_goals
    have R':Below w.heap.size w w2:=hb.trans ((below_drewN (Below.refl wr.heap.size wr) 1).trans hb2 |>.mono hb.size);clear hb2;go_wp2
    go_roundw
    case rel=>exact ⟨k+1,by omega,by go_num,R'⟩
    case measure=>simp [intOf];omega
  ·obtain rfl:k=n:=by omega
   go_wp2;go_ret;exact ⟨rfl,hb⟩
theorem zeS:EqS ((zak.slice 110).slice 80) 24:=fun v1 v2 d h1 h2 w r1 r2 u1 u2=>by
 obtain ⟨n,x⟩:=d;obtain ⟨ao,cap,hv,hm,hc⟩:=r1
 cases hv
 obtain ⟨ao',cap',hv',hm',hc'⟩:=r2
 cases hv'
 simp only at hm hc hc'
 unfold maxLen at hm;clear hm'
 go_enter Tryz.func24,Tryz.ntmps24
 go_wp2
 go_loopw [5] (fun i wr=>∃ k:Nat,k≤n∧i=.int .i64 k∧Below w.heap.size w wr) (fun i _=>n-(intOf i).toNat)
 case atStart=>exact ⟨0,Nat.zero_le _,rfl,Below.refl _ _⟩
 case round=>
  obtain ⟨k,hk,rfl,hb⟩:=hrel
  by_cases hlt:k<n
  ·obtain ⟨b,off,rfl,hblt,hel⟩:=hc (by omega)
   obtain ⟨b',off',rfl,hblt',hel'⟩:=hc' (by omega);obtain ⟨ck,hrk,hcell⟩:=zau (t:=0) hel (below_drewN hb 1) u1 hblt hlt;obtain ⟨ck',hrk',hcell'⟩:=zau (t:=0) hel' (below_drewN hb 1) u2 hblt' hlt;obtain ⟨ao9,cap9,rfl⟩:=zbC hrk;obtain ⟨bao9,bcap9,rfl⟩:=zbC hrk'
   have c0:wr.cell? ⟨b,off+k,none⟩=some (.slice ao9 (x k).1 cap9):=by
    have h:=hcell 0 (show 0<1 by decide);rw [show (zak.slice 110).sz=1 from rfl,Nat.mul_one,Nat.add_zero] at h;exact h
   have e0:wr.cell? ⟨b',off'+k,none⟩=some (.slice bao9 (x k).1 bcap9):=by
    have h:=hcell' 0 (show 0<1 by decide);rw [show (zak.slice 110).sz=1 from rfl,Nat.mul_one,Nat.add_zero] at h;exact h
   have C1:=zfy _ _ (x k) h1 h2 (wr.drewN 1) hrk hrk' (Nat.le_trans u1 hb.size) (Nat.le_trans u2 hb.size);clear hc hc' hel hel' hcell hcell' hrk hrk';go_wp2
   go_region_with (go_at_call 54;refine C1.mono ?_;rintro ee w2 ⟨rfl,hb2⟩)
   all_goals
    have R':Below w.heap.size w w2:=hb.trans ((below_drewN (Below.refl wr.heap.size wr) 1).trans hb2 |>.mono hb.size);clear hb2;go_wp2
    go_roundw
    case rel=>exact ⟨k+1,by omega,by go_num,R'⟩
    case measure=>simp [intOf];omega
  ·obtain rfl:k=n:=by omega
   go_wp2;go_ret;exact ⟨rfl,hb⟩
set_option maxRecDepth 20000 in
theorem ziu:EqV zab 112:=fun c1 c2 d h1 h2 w r1 r2 u1 u2=>by
 obtain ⟨ao6,cap6,ao7,cap7,ao8,cap8,rfl,g6,g7,g8,-⟩:=zaz r1;obtain ⟨bao6,bcap6,bao7,bcap7,bao8,bcap8,rfl,q6,q7,q8,-⟩:=zaz r2;clear r1 r2;have G6:=hid g6;have E6:=hid q6;have G7:=hid g7;have E7:=hid q7;have G8:=hid g8;have E8:=hid q8;clear g6 q6 g7 q7 g8 q8
 go_enter Tryz.func112,Tryz.ntmps112
 go_wp2_with fail
 have T0:=zaJ w (rwR d ao6 cap6 ao7 cap7 ao8 cap8).toArray (rwR d bao6 bcap6 bao7 bcap7 bao8 bcap8).toArray 59 59;refine (zeM _ _ d.rows h1 h2 _ (zaE.rd_below G6.out T0.bel u1) (zaE.rd_below E6.out T0.bel u2) (Nat.le_trans u1 T0.bel.size) (Nat.le_trans u2 T0.bel.size)).mono ?_;rintro e w1 ⟨rfl,b1⟩;have T1:Two w w1 (rwR d ao6 cap6 ao7 cap7 ao8 cap8).toArray (rwR d bao6 bcap6 bao7 bcap7 bao8 bcap8).toArray 59 59:=T0.call b1;clear T0 b1;have x1_7:w1.cell? ⟨w.heap.size,7,none⟩=some (.slice ao7 d.data.1 cap7):=T1.b1.cell 7;have y1_7:w1.cell? ⟨w.heap.size+1,7,none⟩=some (.slice bao7 d.data.1 bcap7):=T1.b2.cell 7
 go_wp2_with fail
 refine (zdb _ _ d.data h1 h2 _ (zaq.rd_below G7.out T1.bel u1) (zaq.rd_below E7.out T1.bel u2) (Nat.le_trans u1 T1.bel.size) (Nat.le_trans u2 T1.bel.size)).mono ?_;rintro e w2 ⟨rfl,b2⟩;have T2:Two w w2 (rwR d ao6 cap6 ao7 cap7 ao8 cap8).toArray (rwR d bao6 bcap6 bao7 bcap7 bao8 bcap8).toArray 59 59:=T1.call b2;clear T1 b2;have x2_8:w2.cell? ⟨w.heap.size,8,none⟩=some (.slice ao8 d.delta.1 cap8):=T2.b1.cell 8;have y2_8:w2.cell? ⟨w.heap.size+1,8,none⟩=some (.slice bao8 d.delta.1 bcap8):=T2.b2.cell 8
 go_wp2_with fail
 refine (zdb _ _ d.delta h1 h2 _ (zaq.rd_below G8.out T2.bel u1) (zaq.rd_below E8.out T2.bel u2) (Nat.le_trans u1 T2.bel.size) (Nat.le_trans u2 T2.bel.size)).mono ?_;rintro e w3 ⟨rfl,b3⟩;have T3:Two w w3 (rwR d ao6 cap6 ao7 cap7 ao8 cap8).toArray (rwR d bao6 bcap6 bao7 bcap7 bao8 bcap8).toArray 59 59:=T2.call b3;clear T2 b3;have B:=hid T3.bel;clear T3;go_wp2;go_ret;exact ⟨rfl,B.out⟩
theorem zhA:EqS (zab.slice 59) 86:=fun v1 v2 d h1 h2 w r1 r2 u1 u2=>by
 obtain ⟨n,x⟩:=d;obtain ⟨ao,cap,hv,hm,hc⟩:=r1
 cases hv
 obtain ⟨ao',cap',hv',hm',hc'⟩:=r2
 cases hv'
 simp only at hm hc hc'
 unfold maxLen at hm;clear hm'
 go_enter Tryz.func86,Tryz.ntmps86
 go_wp2
 go_loopw [5] (fun i wr=>∃ k:Nat,k≤n∧i=.int .i64 k∧Below w.heap.size w wr) (fun i _=>n-(intOf i).toNat)
 case atStart=>exact ⟨0,Nat.zero_le _,rfl,Below.refl _ _⟩
 case round=>
  obtain ⟨k,hk,rfl,hb⟩:=hrel
  by_cases hlt:k<n
  ·obtain ⟨b,off,rfl,hblt,hel⟩:=hc (by omega)
   obtain ⟨b',off',rfl,hblt',hel'⟩:=hc' (by omega);obtain ⟨ck,hrk,hcell⟩:=zau (t:=0) hel (below_drewN hb 1) u1 hblt hlt;obtain ⟨ck',hrk',hcell'⟩:=zau (t:=0) hel' (below_drewN hb 1) u2 hblt' hlt;obtain ⟨ao6,cap6,ao7,cap7,ao8,cap8,rfl,-⟩:=zaz hrk;obtain ⟨bao6,bcap6,bao7,bcap7,bao8,bcap8,rfl,-⟩:=zaz hrk';have c0:wr.cell? ⟨b,off+k*9,none⟩=some (.int .i64 (x k).kind):=hcell 0 (by decide);have c1:wr.cell? ⟨b,off+k*9+1,none⟩=some (.int .i64 (x k).seq):=hcell 1 (by decide);have c2:wr.cell? ⟨b,off+k*9+2,none⟩=some (.string (x k).name):=hcell 2 (by decide);have c3:wr.cell? ⟨b,off+k*9+3,none⟩=some (.int .i64 (x k).length):=hcell 3 (by decide);have c4:wr.cell? ⟨b,off+k*9+4,none⟩=some (.int .i64 (x k).group):=hcell 4 (by decide);have c5:wr.cell? ⟨b,off+k*9+5,none⟩=some (.int .i64 (x k).row):=hcell 5 (by decide);have c6:wr.cell? ⟨b,off+k*9+6,none⟩=some (.slice ao6 (x k).rows.1 cap6):=hcell 6 (by decide);have c7:wr.cell? ⟨b,off+k*9+7,none⟩=some (.slice ao7 (x k).data.1 cap7):=hcell 7 (by decide);have c8:wr.cell? ⟨b,off+k*9+8,none⟩=some (.slice ao8 (x k).delta.1 cap8):=hcell 8 (by decide);have e0:wr.cell? ⟨b',off'+k*9,none⟩=some (.int .i64 (x k).kind):=hcell' 0 (by decide);have e1:wr.cell? ⟨b',off'+k*9+1,none⟩=some (.int .i64 (x k).seq):=hcell' 1 (by decide);have e2:wr.cell? ⟨b',off'+k*9+2,none⟩=some (.string (x k).name):=hcell' 2 (by decide);have e3:wr.cell? ⟨b',off'+k*9+3,none⟩=some (.int .i64 (x k).length):=hcell' 3 (by decide);have e4:wr.cell? ⟨b',off'+k*9+4,none⟩=some (.int .i64 (x k).group):=hcell' 4 (by decide);have e5:wr.cell? ⟨b',off'+k*9+5,none⟩=some (.int .i64 (x k).row):=hcell' 5 (by decide);have e6:wr.cell? ⟨b',off'+k*9+6,none⟩=some (.slice bao6 (x k).rows.1 bcap6):=hcell' 6 (by decide);have e7:wr.cell? ⟨b',off'+k*9+7,none⟩=some (.slice bao7 (x k).data.1 bcap7):=hcell' 7 (by decide);have e8:wr.cell? ⟨b',off'+k*9+8,none⟩=some (.slice bao8 (x k).delta.1 bcap8):=hcell' 8 (by decide);have C1:=ziu _ _ (x k) h1 h2 (wr.drewN 1) hrk hrk' (Nat.le_trans u1 hb.size) (Nat.le_trans u2 hb.size);clear hc hc' hel hel' hcell hcell' hrk hrk';go_wp2
   go_region_with (go_at_call 112;refine C1.mono ?_;rintro ee w2 ⟨rfl,hb2⟩)
   all_goals
    have R':Below w.heap.size w w2:=hb.trans ((below_drewN (Below.refl wr.heap.size wr) 1).trans hb2 |>.mono hb.size);clear hb2;go_wp2
    go_roundw
    case rel=>exact ⟨k+1,by omega,by go_num,R'⟩
    case measure=>simp [intOf];omega
  ·obtain rfl:k=n:=by omega
   go_wp2;go_ret;exact ⟨rfl,hb⟩
set_option maxRecDepth 20000 in
theorem zhB:EqV zat 55:=fun c1 c2 d h1 h2 w r1 r2 u1 u2=>by
 obtain ⟨ao1,cap1,rfl,g1⟩:=za4 r1;obtain ⟨bao1,bcap1,rfl,q1⟩:=za4 r2;clear r1 r2;have G1:=hid g1;have E1:=hid q1;clear g1 q1
 go_enter Tryz.func55,Tryz.ntmps55
 go_wp2_with fail
 have T0:=zaJ w #[.bool d.wiped,.slice ao1 d.recs.1 cap1] #[.bool d.wiped,.slice bao1 d.recs.1 bcap1] 74 74;refine (zhA _ _ d.recs h1 h2 _ ((zab.slice 59).rd_below G1.out T0.bel u1) ((zab.slice 59).rd_below E1.out T0.bel u2) (Nat.le_trans u1 T0.bel.size) (Nat.le_trans u2 T0.bel.size)).mono ?_;rintro e w1 ⟨rfl,b1⟩;have T1:Two w w1 #[.bool d.wiped,.slice ao1 d.recs.1 cap1] #[.bool d.wiped,.slice bao1 d.recs.1 bcap1] 74 74:=T0.call b1;clear T0 b1;have B:=hid T1.bel;clear T1;go_wp2;go_ret;exact ⟨rfl,B.out⟩
theorem zgC:EqS (zat.slice 74) 26:=fun v1 v2 d h1 h2 w r1 r2 u1 u2=>by
 obtain ⟨n,x⟩:=d;obtain ⟨ao,cap,hv,hm,hc⟩:=r1
 cases hv
 obtain ⟨ao',cap',hv',hm',hc'⟩:=r2
 cases hv'
 simp only at hm hc hc'
 unfold maxLen at hm;clear hm'
 go_enter Tryz.func26,Tryz.ntmps26
 go_wp2
 go_loopw [5] (fun i wr=>∃ k:Nat,k≤n∧i=.int .i64 k∧Below w.heap.size w wr) (fun i _=>n-(intOf i).toNat)
 case atStart=>exact ⟨0,Nat.zero_le _,rfl,Below.refl _ _⟩
 case round=>
  obtain ⟨k,hk,rfl,hb⟩:=hrel
  by_cases hlt:k<n
  ·obtain ⟨b,off,rfl,hblt,hel⟩:=hc (by omega)
   obtain ⟨b',off',rfl,hblt',hel'⟩:=hc' (by omega);obtain ⟨ck,hrk,hcell⟩:=zau (t:=0) hel (below_drewN hb 1) u1 hblt hlt;obtain ⟨ck',hrk',hcell'⟩:=zau (t:=0) hel' (below_drewN hb 1) u2 hblt' hlt;obtain ⟨ao1,cap1,rfl,-⟩:=za4 hrk;obtain ⟨bao1,bcap1,rfl,-⟩:=za4 hrk';have c0:wr.cell? ⟨b,off+k*2,none⟩=some (.bool (x k).wiped):=hcell 0 (by decide);have c1:wr.cell? ⟨b,off+k*2+1,none⟩=some (.slice ao1 (x k).recs.1 cap1):=hcell 1 (by decide);have e0:wr.cell? ⟨b',off'+k*2,none⟩=some (.bool (x k).wiped):=hcell' 0 (by decide);have e1:wr.cell? ⟨b',off'+k*2+1,none⟩=some (.slice bao1 (x k).recs.1 bcap1):=hcell' 1 (by decide);have C1:=zhB _ _ (x k) h1 h2 (wr.drewN 1) hrk hrk' (Nat.le_trans u1 hb.size) (Nat.le_trans u2 hb.size);clear hc hc' hel hel' hcell hcell' hrk hrk';go_wp2
   go_region_with (go_at_call 55;refine C1.mono ?_;rintro ee w2 ⟨rfl,hb2⟩)
   all_goals
    have R':Below w.heap.size w w2:=hb.trans ((below_drewN (Below.refl wr.heap.size wr) 1).trans hb2 |>.mono hb.size);clear hb2;go_wp2
    go_roundw
    case rel=>exact ⟨k+1,by omega,by go_num,R'⟩
    case measure=>simp [intOf];omega
  ·obtain rfl:k=n:=by omega
   go_wp2;go_ret;exact ⟨rfl,hb⟩
theorem zfz (s:Nat→Int) (w:World) :
 Calls Tryz.prog 23 #[zaf s,zaf s] w fun e w'=>e=.returned (.bool true)∧Below w.heap.size w w':=by
 unfold zaf
 go_enter Tryz.func23,Tryz.ntmps23
 go_wp2;go_ret;exact ⟨rfl,((Below.refl _ _).alloc (Nat.le_refl _) _).alloc (by simp) _⟩
set_option maxRecDepth 20000 in
theorem zgD:EqV zan 9:=fun c1 c2 d h1 h2 w r1 r2 u1 u2=>by
 obtain ⟨ao1,cap1,ao2,cap2,ao3,cap3,rfl,g1,g2,g3,-⟩:=zaT r1;obtain ⟨bao1,bcap1,bao2,bcap2,bao3,bcap3,rfl,q1,q2,q3,-⟩:=zaT r2;clear r1 r2;have G1:=hid g1;have E1:=hid q1;have G2:=hid g2;have E2:=hid q2;have G3:=hid g3;have E3:=hid q3;clear g1 q1 g2 q2 g3 q3
 go_enter Tryz.func9,Tryz.ntmps9
 go_wp2_with fail
 have T0:=zaJ w (rwW d ao1 cap1 ao2 cap2 ao3 cap3).toArray (rwW d bao1 bcap1 bao2 bcap2 bao3 bcap3).toArray 37 37;refine (zfz d.shape _).mono ?_;rintro e w1 ⟨rfl,b1⟩;have T1:Two w w1 (rwW d ao1 cap1 ao2 cap2 ao3 cap3).toArray (rwW d bao1 bcap1 bao2 bcap2 bao3 bcap3).toArray 37 37:=T0.call b1;clear T0 b1;have x1_9:w1.cell? ⟨w.heap.size,9,none⟩=some (.slice ao1 d.groups.1 cap1):=T1.b1.cell 9;have y1_9:w1.cell? ⟨w.heap.size+1,9,none⟩=some (.slice bao1 d.groups.1 bcap1):=T1.b2.cell 9
 go_wp2_with fail
 refine (zeS _ _ d.groups h1 h2 _ (((zak.slice 110).slice 80).rd_below G1.out T1.bel u1) (((zak.slice 110).slice 80).rd_below E1.out T1.bel u2) (Nat.le_trans u1 T1.bel.size) (Nat.le_trans u2 T1.bel.size)).mono ?_;rintro e w2 ⟨rfl,b2⟩;have T2:Two w w2 (rwW d ao1 cap1 ao2 cap2 ao3 cap3).toArray (rwW d bao1 bcap1 bao2 bcap2 bao3 bcap3).toArray 37 37:=T1.call b2;clear T1 b2;have x2_10:w2.cell? ⟨w.heap.size,10,none⟩=some (.slice ao2 d.on.1 cap2):=T2.b1.cell 10;have y2_10:w2.cell? ⟨w.heap.size+1,10,none⟩=some (.slice bao2 d.on.1 bcap2):=T2.b2.cell 10
 go_wp2_with fail
 refine (zeM _ _ d.on h1 h2 _ (zaE.rd_below G2.out T2.bel u1) (zaE.rd_below E2.out T2.bel u2) (Nat.le_trans u1 T2.bel.size) (Nat.le_trans u2 T2.bel.size)).mono ?_;rintro e w3 ⟨rfl,b3⟩;have T3:Two w w3 (rwW d ao1 cap1 ao2 cap2 ao3 cap3).toArray (rwW d bao1 bcap1 bao2 bcap2 bao3 bcap3).toArray 37 37:=T2.call b3;clear T2 b3;have x3_11:w3.cell? ⟨w.heap.size,11,none⟩=some (.slice ao3 d.tapes.1 cap3):=T3.b1.cell 11;have y3_11:w3.cell? ⟨w.heap.size+1,11,none⟩=some (.slice bao3 d.tapes.1 bcap3):=T3.b2.cell 11
 go_wp2_with fail
 refine (zgC _ _ d.tapes h1 h2 _ ((zat.slice 74).rd_below G3.out T3.bel u1) ((zat.slice 74).rd_below E3.out T3.bel u2) (Nat.le_trans u1 T3.bel.size) (Nat.le_trans u2 T3.bel.size)).mono ?_;rintro e w4 ⟨rfl,b4⟩;have T4:Two w w4 (rwW d ao1 cap1 ao2 cap2 ao3 cap3).toArray (rwW d bao1 bcap1 bao2 bcap2 bao3 bcap3).toArray 37 37:=T3.call b4;clear T3 b4;have x4_12:w4.cell? ⟨w.heap.size,12,none⟩=some (.int .i64 d.writes):=T4.b1.cell 12;have y4_12:w4.cell? ⟨w.heap.size+1,12,none⟩=some (.int .i64 d.writes):=T4.b2.cell 12;have x4_13:w4.cell? ⟨w.heap.size,13,none⟩=some (.int .i64 d.stop):=T4.b1.cell 13;have y4_13:w4.cell? ⟨w.heap.size+1,13,none⟩=some (.int .i64 d.stop):=T4.b2.cell 13;have x4_14:w4.cell? ⟨w.heap.size,14,none⟩=some (.bool d.down):=T4.b1.cell 14;have y4_14:w4.cell? ⟨w.heap.size+1,14,none⟩=some (.bool d.down):=T4.b2.cell 14;have B:=hid T4.bel;clear T4;go_wp2;go_ret;exact ⟨rfl,B.out⟩
theorem zgE:SzV zaw zaS 113:=fun cs d hi L w r hhi hL=>by
 obtain ⟨ao1,cap1,rfl,r1,k0⟩:=zbs r;clear r;unfold zaS;have R1:=hid r1;clear r1
 go_enter Tryz.func113,Tryz.ntmps113
 go_wp2_with fail
 have T0:=zaF w #[.int .i64 d.stamp,.slice ao1 d.bytes.1 cap1] 160;refine (zdc _ d.bytes hi L _ (zaq.rd_below R1.out T0.bel hhi) (Nat.le_trans hhi T0.bel.size) (by omega)).mono ?_;rintro e w1 ⟨y1,rfl,s1,b1⟩;have T1:One w w1 #[.int .i64 d.stamp,.slice ao1 d.bytes.1 cap1] 160:=T0.call b1;have HB1:=hid T1.bel
 rcases s1 with rfl | ⟨l1,hy1⟩
 ·clear T1 T0 b1
  go_wp2;go_ret;exact ⟨-1,rfl,.inl rfl,HB1.out⟩
 obtain ⟨M1,hM1⟩:∃ M:Nat,M+lenD d.bytes=L:=⟨L-lenD d.bytes,by omega⟩
 obtain rfl:y1=((M1:Nat):Int):=by omega
 have HM1:=hid hM1
 have hML1:M1≤L:=by omega
 have hz1:¬ ((M1:Int)<0):=by omega
 clear hM1 hy1 l1 T0 b1;clear T1;go_wp2;go_ret;exact ⟨M1,rfl,.inr ⟨by have e0:=HM1.out;omega,by have e0:=HM1.out;omega⟩,HB1.out⟩
theorem zfA:SzS (zaw.slice 112) (szSl zaS) 87:=fun v d hi L w h hhi hL=>by
 obtain ⟨n,x⟩:=d;obtain ⟨ao,cap,hv,hm,hc⟩:=h
 cases hv
 simp only at hm hc
 unfold maxLen at hm
 by_cases hnL:L<n
 ·clear hc
  have hz:(L:Int)-(n:Int)<0:=by omega
  go_enter Tryz.func87,Tryz.ntmps87
  go_wp2;go_ret;exact ⟨-1,rfl,.inl rfl,Below.refl _ _⟩
 ·have hz:¬ (L:Int)-(n:Int)<0:=by omega
  go_enter Tryz.func87,Tryz.ntmps87
  go_wp2
  go_loopw [1,5] (fun y i wr=>∃ k M:Nat,k≤n∧i=.int .i64 k∧y=.int .i64 M∧M+n+sumN (fun i=>zaS (x i)) k=L∧Below w.heap.size w wr) (fun _ i _=>n-(intOf i).toNat)
  case atStart=>exact ⟨0,L-n,Nat.zero_le _,rfl,zeD (by omega),by simp [sumN];omega,Below.refl _ _⟩
  case round=>
   obtain ⟨k,M,hk,rfl,rfl,hM,hb⟩:=hrel;have HM:=hid hM
   have hML:M≤L:=by omega
   clear hM
   by_cases hlt:k<n
   ·obtain ⟨b,off,rfl,hblt,hel⟩:=hc (by omega)
    obtain ⟨ck,hrk,hcell⟩:=zau (t:=0) hel hb hhi hblt hlt;obtain ⟨ao1,cap1,rfl,-⟩:=zbs hrk;have c0:wr.cell? ⟨b,off+k*2,none⟩=some (.int .i64 (x k).stamp):=hcell 0 (by decide);have c1:wr.cell? ⟨b,off+k*2+1,none⟩=some (.slice ao1 (x k).bytes.1 cap1):=hcell 1 (by decide);clear hc hel hcell
    go_wp2_with fail
    refine (zgE _ (x k) hi M _ hrk (Nat.le_trans hhi hb.size) (by omega)).mono ?_;rintro e w2 ⟨y,rfl,s,b2⟩;have HB:=hid (hb.trans (b2.mono hb.size));clear b2 hb hrk
    rcases s with rfl | ⟨l1,hy⟩
    ·go_wp2
     go_ret;exact ⟨-1,rfl,.inl rfl,HB.out⟩
    ·obtain ⟨M',hM'⟩:∃ M':Nat,M'+zaS (x k)=M:=⟨M-zaS (x k),by omega⟩
     obtain rfl:y=(M':Int):=by omega
     have HM':=hid hM'
     have hz2:¬ ((M':Int)<0):=by omega
     clear hM' hy l1
     go_wp2_with fail
     go_roundw
     case rel=>exact ⟨k+1,M',by omega,by go_num,rfl,by
      have e1:=HM.out;have e2:=HM'.out;have e3:sumN (fun i=>zaS (x i)) (k+1)=sumN (fun i=>zaS (x i)) k+zaS (x k):=rfl
      omega,HB.out⟩
     case measure=>simp [intOf];omega
   ·obtain rfl:k=n:=by omega
    go_wp2;go_ret
    exact ⟨M,rfl,.inr ⟨by
     have e1:=HM.out
     show k+sumN (fun i=>zaS (x i)) k≤L
     omega,by
     have e1:=HM.out
     show (M:Int)=(L:Int)-((k+sumN (fun i=>zaS (x i)) k:Nat):Int)
     omega⟩,hb⟩
theorem zgF:SzV zak zav 56:=fun cs d hi L w r hhi hL=>by
 obtain ⟨ao1,cap1,rfl,r1⟩:=zbt r;clear r;unfold zav;have R1:=hid r1;clear r1
 go_enter Tryz.func56,Tryz.ntmps56
 go_wp2_with fail
 have T0:=zaF w #[.bool d.wiped,.slice ao1 d.blocks.1 cap1] 105;refine (zfA _ d.blocks hi L _ ((zaw.slice 112).rd_below R1.out T0.bel hhi) (Nat.le_trans hhi T0.bel.size) (by omega)).mono ?_;rintro e w1 ⟨y1,rfl,s1,b1⟩;have T1:One w w1 #[.bool d.wiped,.slice ao1 d.blocks.1 cap1] 105:=T0.call b1;have HB1:=hid T1.bel
 rcases s1 with rfl | ⟨l1,hy1⟩
 ·clear T1 T0 b1
  go_wp2;go_ret;exact ⟨-1,rfl,.inl rfl,HB1.out⟩
 obtain ⟨M1,hM1⟩:∃ M:Nat,M+(szSl zaS) d.blocks=L:=⟨L-(szSl zaS) d.blocks,by omega⟩
 obtain rfl:y1=((M1:Nat):Int):=by omega
 have HM1:=hid hM1
 have hML1:M1≤L:=by omega
 have hz1:¬ ((M1:Int)<0):=by omega
 clear hM1 hy1 l1 T0 b1;clear T1;go_wp2;go_ret;exact ⟨M1,rfl,.inr ⟨by have e0:=HM1.out;omega,by have e0:=HM1.out;omega⟩,HB1.out⟩
theorem zfB:SzS (zak.slice 110) (szSl zav) 27:=fun v d hi L w h hhi hL=>by
 obtain ⟨n,x⟩:=d;obtain ⟨ao,cap,hv,hm,hc⟩:=h
 cases hv
 simp only at hm hc
 unfold maxLen at hm
 by_cases hnL:L<n
 ·clear hc
  have hz:(L:Int)-(n:Int)<0:=by omega
  go_enter Tryz.func27,Tryz.ntmps27
  go_wp2;go_ret;exact ⟨-1,rfl,.inl rfl,Below.refl _ _⟩
 ·have hz:¬ (L:Int)-(n:Int)<0:=by omega
  go_enter Tryz.func27,Tryz.ntmps27
  go_wp2
  go_loopw [1,5] (fun y i wr=>∃ k M:Nat,k≤n∧i=.int .i64 k∧y=.int .i64 M∧M+n+sumN (fun i=>zav (x i)) k=L∧Below w.heap.size w wr) (fun _ i _=>n-(intOf i).toNat)
  case atStart=>exact ⟨0,L-n,Nat.zero_le _,rfl,zeD (by omega),by simp [sumN];omega,Below.refl _ _⟩
  case round=>
   obtain ⟨k,M,hk,rfl,rfl,hM,hb⟩:=hrel;have HM:=hid hM
   have hML:M≤L:=by omega
   clear hM
   by_cases hlt:k<n
   ·obtain ⟨b,off,rfl,hblt,hel⟩:=hc (by omega)
    obtain ⟨ck,hrk,hcell⟩:=zau (t:=0) hel hb hhi hblt hlt;obtain ⟨ao1,cap1,rfl,-⟩:=zbt hrk;have c0:wr.cell? ⟨b,off+k*2,none⟩=some (.bool (x k).wiped):=hcell 0 (by decide);have c1:wr.cell? ⟨b,off+k*2+1,none⟩=some (.slice ao1 (x k).blocks.1 cap1):=hcell 1 (by decide);clear hc hel hcell
    go_wp2_with fail
    refine (zgF _ (x k) hi M _ hrk (Nat.le_trans hhi hb.size) (by omega)).mono ?_;rintro e w2 ⟨y,rfl,s,b2⟩;have HB:=hid (hb.trans (b2.mono hb.size));clear b2 hb hrk
    rcases s with rfl | ⟨l1,hy⟩
    ·go_wp2
     go_ret;exact ⟨-1,rfl,.inl rfl,HB.out⟩
    ·obtain ⟨M',hM'⟩:∃ M':Nat,M'+zav (x k)=M:=⟨M-zav (x k),by omega⟩
     obtain rfl:y=(M':Int):=by omega
     have HM':=hid hM'
     have hz2:¬ ((M':Int)<0):=by omega
     clear hM' hy l1
     go_wp2_with fail
     go_roundw
     case rel=>exact ⟨k+1,M',by omega,by go_num,rfl,by
      have e1:=HM.out;have e2:=HM'.out;have e3:sumN (fun i=>zav (x i)) (k+1)=sumN (fun i=>zav (x i)) k+zav (x k):=rfl
      omega,HB.out⟩
     case measure=>simp [intOf];omega
   ·obtain rfl:k=n:=by omega
    go_wp2;go_ret
    exact ⟨M,rfl,.inr ⟨by
     have e1:=HM.out
     show k+sumN (fun i=>zav (x i)) k≤L
     omega,by
     have e1:=HM.out
     show (M:Int)=(L:Int)-((k+sumN (fun i=>zav (x i)) k:Nat):Int)
     omega⟩,hb⟩
theorem zeT:SzS ((zak.slice 110).slice 80) (szSl (szSl zav)) 10:=fun v d hi L w h hhi hL=>by
 obtain ⟨n,x⟩:=d;obtain ⟨ao,cap,hv,hm,hc⟩:=h
 cases hv
 simp only at hm hc
 unfold maxLen at hm
 by_cases hnL:L<n
 ·clear hc
  have hz:(L:Int)-(n:Int)<0:=by omega
  go_enter Tryz.func10,Tryz.ntmps10
  go_wp2;go_ret;exact ⟨-1,rfl,.inl rfl,Below.refl _ _⟩
 ·have hz:¬ (L:Int)-(n:Int)<0:=by omega
  go_enter Tryz.func10,Tryz.ntmps10
  go_wp2
  go_loopw [1,5] (fun y i wr=>∃ k M:Nat,k≤n∧i=.int .i64 k∧y=.int .i64 M∧M+n+sumN (fun i=>(szSl zav) (x i)) k=L∧Below w.heap.size w wr) (fun _ i _=>n-(intOf i).toNat)
  case atStart=>exact ⟨0,L-n,Nat.zero_le _,rfl,zeD (by omega),by simp [sumN];omega,Below.refl _ _⟩
  case round=>
   obtain ⟨k,M,hk,rfl,rfl,hM,hb⟩:=hrel;have HM:=hid hM
   have hML:M≤L:=by omega
   clear hM
   by_cases hlt:k<n
   ·obtain ⟨b,off,rfl,hblt,hel⟩:=hc (by omega)
    obtain ⟨ck,hrk,hcell⟩:=zau (t:=0) hel hb hhi hblt hlt;obtain ⟨ao9,cap9,rfl⟩:=zbC hrk
    have c0:wr.cell? ⟨b,off+k,none⟩=some (.slice ao9 (x k).1 cap9):=by
     have h:=hcell 0 (show 0<1 by decide);rw [show (zak.slice 110).sz=1 from rfl,Nat.mul_one,Nat.add_zero] at h;exact h
    clear hc hel hcell
    go_wp2_with fail
    refine (zfB _ (x k) hi M _ hrk (Nat.le_trans hhi hb.size) (by omega)).mono ?_;rintro e w2 ⟨y,rfl,s,b2⟩;have HB:=hid (hb.trans (b2.mono hb.size));clear b2 hb hrk
    rcases s with rfl | ⟨l1,hy⟩
    ·go_wp2
     go_ret;exact ⟨-1,rfl,.inl rfl,HB.out⟩
    ·obtain ⟨M',hM'⟩:∃ M':Nat,M'+(szSl zav) (x k)=M:=⟨M-(szSl zav) (x k),by omega⟩
     obtain rfl:y=(M':Int):=by omega
     have HM':=hid hM'
     have hz2:¬ ((M':Int)<0):=by omega
     clear hM' hy l1
     go_wp2_with fail
     go_roundw
     case rel=>exact ⟨k+1,M',by omega,by go_num,rfl,by
      have e1:=HM.out;have e2:=HM'.out;have e3:sumN (fun i=>(szSl zav) (x i)) (k+1)=sumN (fun i=>(szSl zav) (x i)) k+(szSl zav) (x k):=rfl
      omega,HB.out⟩
     case measure=>simp [intOf];omega
   ·obtain rfl:k=n:=by omega
    go_wp2;go_ret
    exact ⟨M,rfl,.inr ⟨by
     have e1:=HM.out
     show k+sumN (fun i=>(szSl zav) (x i)) k≤L
     omega,by
     have e1:=HM.out
     show (M:Int)=(L:Int)-((k+sumN (fun i=>(szSl zav) (x i)) k:Nat):Int)
     omega⟩,hb⟩
theorem ziv:SzV zab zaL 88:=fun cs d hi L w r hhi hL=>by
 obtain ⟨ao6,cap6,ao7,cap7,ao8,cap8,rfl,r6,r7,r8,k0,k1,k2,k3,k4,k5⟩:=zaz r;clear r;unfold zaL;have R6:=hid r6;have R7:=hid r7;have R8:=hid r8;clear r6 r7 r8;unfold maxLen at k2
 by_cases hnm:L<d.name.size
 ·have hz:(L:Int)-(d.name.size:Int)<0:=by omega
  go_enter Tryz.func88,Tryz.ntmps88
  go_wp2;go_ret;exact ⟨-1,rfl,.inl rfl,(zaF w _ _).bel⟩
 ·have hz:¬ (L:Int)-(d.name.size:Int)<0:=by omega
  obtain ⟨M0,hM0⟩:∃ M0:Nat,M0+d.name.size=L:=⟨L-d.name.size,by omega⟩
  have eM0:(L:Int)-(d.name.size:Int)=(M0:Int):=by omega
  go_enter Tryz.func88,Tryz.ntmps88
  go_wp2_with fail
  have T0:=zaF w (rwR d ao6 cap6 ao7 cap7 ao8 cap8).toArray 144;have HM0:=hid hM0
  have hML0:M0≤L:=by omega
  first | rw [eM0] | skip
  clear hM0;refine (zeN _ d.rows hi M0 _ (zaE.rd_below R6.out T0.bel hhi) (Nat.le_trans hhi T0.bel.size) (by omega)).mono ?_;rintro e w1 ⟨y1,rfl,s1,b1⟩;have T1:One w w1 (rwR d ao6 cap6 ao7 cap7 ao8 cap8).toArray 144:=T0.call b1;have x1_7:w1.cell? ⟨w.heap.size,7,none⟩=some (.slice ao7 d.data.1 cap7):=T1.b1.cell 7;have HB1:=hid T1.bel
  rcases s1 with rfl | ⟨l1,hy1⟩
  ·clear T1 T0 b1
   go_wp2;go_ret;exact ⟨-1,rfl,.inl rfl,HB1.out⟩
  obtain ⟨M1,hM1⟩:∃ M:Nat,M+lenD d.rows=M0:=⟨M0-lenD d.rows,by omega⟩
  obtain rfl:y1=((M1:Nat):Int):=by omega
  have HM1:=hid hM1
  have hML1:M1≤M0:=by omega
  have hz1:¬ ((M1:Int)<0):=by omega
  clear hM1 hy1 l1 T0 b1
  go_wp2_with fail
  refine (zdc _ d.data hi M1 _ (zaq.rd_below R7.out T1.bel hhi) (Nat.le_trans hhi T1.bel.size) (by omega)).mono ?_;rintro e w2 ⟨y2,rfl,s2,b2⟩;have T2:One w w2 (rwR d ao6 cap6 ao7 cap7 ao8 cap8).toArray 144:=T1.call b2;have x2_8:w2.cell? ⟨w.heap.size,8,none⟩=some (.slice ao8 d.delta.1 cap8):=T2.b1.cell 8;have HB2:=hid T2.bel
  rcases s2 with rfl | ⟨l2,hy2⟩
  ·clear T2 T1 b2
   go_wp2;go_ret;exact ⟨-1,rfl,.inl rfl,HB2.out⟩
  obtain ⟨M2,hM2⟩:∃ M:Nat,M+lenD d.data=M1:=⟨M1-lenD d.data,by omega⟩
  obtain rfl:y2=((M2:Nat):Int):=by omega
  have HM2:=hid hM2
  have hML2:M2≤M1:=by omega
  have hz2:¬ ((M2:Int)<0):=by omega
  clear hM2 hy2 l2 T1 b2
  go_wp2_with fail
  refine (zdc _ d.delta hi M2 _ (zaq.rd_below R8.out T2.bel hhi) (Nat.le_trans hhi T2.bel.size) (by omega)).mono ?_;rintro e w3 ⟨y3,rfl,s3,b3⟩;have T3:One w w3 (rwR d ao6 cap6 ao7 cap7 ao8 cap8).toArray 144:=T2.call b3;have HB3:=hid T3.bel
  rcases s3 with rfl | ⟨l3,hy3⟩
  ·clear T3 T2 b3
   go_wp2;go_ret;exact ⟨-1,rfl,.inl rfl,HB3.out⟩
  obtain ⟨M3,hM3⟩:∃ M:Nat,M+lenD d.delta=M2:=⟨M2-lenD d.delta,by omega⟩
  obtain rfl:y3=((M3:Nat):Int):=by omega
  have HM3:=hid hM3
  have hML3:M3≤M2:=by omega
  have hz3:¬ ((M3:Int)<0):=by omega
  clear hM3 hy3 l3 T2 b3;clear T3;go_wp2;go_ret;exact ⟨M3,rfl,.inr ⟨by have e0:=HM0.out;have e1:=HM1.out;have e2:=HM2.out;have e3:=HM3.out;omega,by have e0:=HM0.out;have e1:=HM1.out;have e2:=HM2.out;have e3:=HM3.out;omega⟩,HB3.out⟩
theorem zhC:SzS (zab.slice 59) (szSl zaL) 57:=fun v d hi L w h hhi hL=>by
 obtain ⟨n,x⟩:=d;obtain ⟨ao,cap,hv,hm,hc⟩:=h
 cases hv
 simp only at hm hc
 unfold maxLen at hm
 by_cases hnL:L<n
 ·clear hc
  have hz:(L:Int)-(n:Int)<0:=by omega
  go_enter Tryz.func57,Tryz.ntmps57
  go_wp2;go_ret;exact ⟨-1,rfl,.inl rfl,Below.refl _ _⟩
 ·have hz:¬ (L:Int)-(n:Int)<0:=by omega
  go_enter Tryz.func57,Tryz.ntmps57
  go_wp2
  go_loopw [1,5] (fun y i wr=>∃ k M:Nat,k≤n∧i=.int .i64 k∧y=.int .i64 M∧M+n+sumN (fun i=>zaL (x i)) k=L∧Below w.heap.size w wr) (fun _ i _=>n-(intOf i).toNat)
  case atStart=>exact ⟨0,L-n,Nat.zero_le _,rfl,zeD (by omega),by simp [sumN];omega,Below.refl _ _⟩
  case round=>
   obtain ⟨k,M,hk,rfl,rfl,hM,hb⟩:=hrel;have HM:=hid hM
   have hML:M≤L:=by omega
   clear hM
   by_cases hlt:k<n
   ·obtain ⟨b,off,rfl,hblt,hel⟩:=hc (by omega)
    obtain ⟨ck,hrk,hcell⟩:=zau (t:=0) hel hb hhi hblt hlt;obtain ⟨ao6,cap6,ao7,cap7,ao8,cap8,rfl,-⟩:=zaz hrk;have c0:wr.cell? ⟨b,off+k*9,none⟩=some (.int .i64 (x k).kind):=hcell 0 (by decide);have c1:wr.cell? ⟨b,off+k*9+1,none⟩=some (.int .i64 (x k).seq):=hcell 1 (by decide);have c2:wr.cell? ⟨b,off+k*9+2,none⟩=some (.string (x k).name):=hcell 2 (by decide);have c3:wr.cell? ⟨b,off+k*9+3,none⟩=some (.int .i64 (x k).length):=hcell 3 (by decide);have c4:wr.cell? ⟨b,off+k*9+4,none⟩=some (.int .i64 (x k).group):=hcell 4 (by decide);have c5:wr.cell? ⟨b,off+k*9+5,none⟩=some (.int .i64 (x k).row):=hcell 5 (by decide);have c6:wr.cell? ⟨b,off+k*9+6,none⟩=some (.slice ao6 (x k).rows.1 cap6):=hcell 6 (by decide);have c7:wr.cell? ⟨b,off+k*9+7,none⟩=some (.slice ao7 (x k).data.1 cap7):=hcell 7 (by decide);have c8:wr.cell? ⟨b,off+k*9+8,none⟩=some (.slice ao8 (x k).delta.1 cap8):=hcell 8 (by decide);clear hc hel hcell
    go_wp2_with fail
    refine (ziv _ (x k) hi M _ hrk (Nat.le_trans hhi hb.size) (by omega)).mono ?_;rintro e w2 ⟨y,rfl,s,b2⟩;have HB:=hid (hb.trans (b2.mono hb.size));clear b2 hb hrk
    rcases s with rfl | ⟨l1,hy⟩
    ·go_wp2
     go_ret;exact ⟨-1,rfl,.inl rfl,HB.out⟩
    ·obtain ⟨M',hM'⟩:∃ M':Nat,M'+zaL (x k)=M:=⟨M-zaL (x k),by omega⟩
     obtain rfl:y=(M':Int):=by omega
     have HM':=hid hM'
     have hz2:¬ ((M':Int)<0):=by omega
     clear hM' hy l1
     go_wp2_with fail
     go_roundw
     case rel=>exact ⟨k+1,M',by omega,by go_num,rfl,by
      have e1:=HM.out;have e2:=HM'.out;have e3:sumN (fun i=>zaL (x i)) (k+1)=sumN (fun i=>zaL (x i)) k+zaL (x k):=rfl
      omega,HB.out⟩
     case measure=>simp [intOf];omega
   ·obtain rfl:k=n:=by omega
    go_wp2;go_ret
    exact ⟨M,rfl,.inr ⟨by
     have e1:=HM.out
     show k+sumN (fun i=>zaL (x i)) k≤L
     omega,by
     have e1:=HM.out
     show (M:Int)=(L:Int)-((k+sumN (fun i=>zaL (x i)) k:Nat):Int)
     omega⟩,hb⟩
theorem zhD:SzV zat zaO 28:=fun cs d hi L w r hhi hL=>by
 obtain ⟨ao1,cap1,rfl,r1⟩:=za4 r;clear r;unfold zaO;have R1:=hid r1;clear r1
 go_enter Tryz.func28,Tryz.ntmps28
 go_wp2_with fail
 have T0:=zaF w #[.bool d.wiped,.slice ao1 d.recs.1 cap1] 69;refine (zhC _ d.recs hi L _ ((zab.slice 59).rd_below R1.out T0.bel hhi) (Nat.le_trans hhi T0.bel.size) (by omega)).mono ?_;rintro e w1 ⟨y1,rfl,s1,b1⟩;have T1:One w w1 #[.bool d.wiped,.slice ao1 d.recs.1 cap1] 69:=T0.call b1;have HB1:=hid T1.bel
 rcases s1 with rfl | ⟨l1,hy1⟩
 ·clear T1 T0 b1
  go_wp2;go_ret;exact ⟨-1,rfl,.inl rfl,HB1.out⟩
 obtain ⟨M1,hM1⟩:∃ M:Nat,M+(szSl zaL) d.recs=L:=⟨L-(szSl zaL) d.recs,by omega⟩
 obtain rfl:y1=((M1:Nat):Int):=by omega
 have HM1:=hid hM1
 have hML1:M1≤L:=by omega
 have hz1:¬ ((M1:Int)<0):=by omega
 clear hM1 hy1 l1 T0 b1;clear T1;go_wp2;go_ret;exact ⟨M1,rfl,.inr ⟨by have e0:=HM1.out;omega,by have e0:=HM1.out;omega⟩,HB1.out⟩
theorem zgG:SzS (zat.slice 74) (szSl zaO) 12:=fun v d hi L w h hhi hL=>by
 obtain ⟨n,x⟩:=d;obtain ⟨ao,cap,hv,hm,hc⟩:=h
 cases hv
 simp only at hm hc
 unfold maxLen at hm
 by_cases hnL:L<n
 ·clear hc
  have hz:(L:Int)-(n:Int)<0:=by omega
  go_enter Tryz.func12,Tryz.ntmps12
  go_wp2;go_ret;exact ⟨-1,rfl,.inl rfl,Below.refl _ _⟩
 ·have hz:¬ (L:Int)-(n:Int)<0:=by omega
  go_enter Tryz.func12,Tryz.ntmps12
  go_wp2
  go_loopw [1,5] (fun y i wr=>∃ k M:Nat,k≤n∧i=.int .i64 k∧y=.int .i64 M∧M+n+sumN (fun i=>zaO (x i)) k=L∧Below w.heap.size w wr) (fun _ i _=>n-(intOf i).toNat)
  case atStart=>exact ⟨0,L-n,Nat.zero_le _,rfl,zeD (by omega),by simp [sumN];omega,Below.refl _ _⟩
  case round=>
   obtain ⟨k,M,hk,rfl,rfl,hM,hb⟩:=hrel;have HM:=hid hM
   have hML:M≤L:=by omega
   clear hM
   by_cases hlt:k<n
   ·obtain ⟨b,off,rfl,hblt,hel⟩:=hc (by omega)
    obtain ⟨ck,hrk,hcell⟩:=zau (t:=0) hel hb hhi hblt hlt;obtain ⟨ao1,cap1,rfl,-⟩:=za4 hrk;have c0:wr.cell? ⟨b,off+k*2,none⟩=some (.bool (x k).wiped):=hcell 0 (by decide);have c1:wr.cell? ⟨b,off+k*2+1,none⟩=some (.slice ao1 (x k).recs.1 cap1):=hcell 1 (by decide);clear hc hel hcell
    go_wp2_with fail
    refine (zhD _ (x k) hi M _ hrk (Nat.le_trans hhi hb.size) (by omega)).mono ?_;rintro e w2 ⟨y,rfl,s,b2⟩;have HB:=hid (hb.trans (b2.mono hb.size));clear b2 hb hrk
    rcases s with rfl | ⟨l1,hy⟩
    ·go_wp2
     go_ret;exact ⟨-1,rfl,.inl rfl,HB.out⟩
    ·obtain ⟨M',hM'⟩:∃ M':Nat,M'+zaO (x k)=M:=⟨M-zaO (x k),by omega⟩
     obtain rfl:y=(M':Int):=by omega
     have HM':=hid hM'
     have hz2:¬ ((M':Int)<0):=by omega
     clear hM' hy l1
     go_wp2_with fail
     go_roundw
     case rel=>exact ⟨k+1,M',by omega,by go_num,rfl,by
      have e1:=HM.out;have e2:=HM'.out;have e3:sumN (fun i=>zaO (x i)) (k+1)=sumN (fun i=>zaO (x i)) k+zaO (x k):=rfl
      omega,HB.out⟩
     case measure=>simp [intOf];omega
   ·obtain rfl:k=n:=by omega
    go_wp2;go_ret
    exact ⟨M,rfl,.inr ⟨by
     have e1:=HM.out
     show k+sumN (fun i=>zaO (x i)) k≤L
     omega,by
     have e1:=HM.out
     show (M:Int)=(L:Int)-((k+sumN (fun i=>zaO (x i)) k:Nat):Int)
     omega⟩,hb⟩
theorem zgH:SzV zan zbb 4:=fun cs d hi L w r hhi hL=>by
 obtain ⟨ao1,cap1,ao2,cap2,ao3,cap3,rfl,r1,r2,r3,k0,k4,k5⟩:=zaT r;clear r;unfold zbb;have R1:=hid r1;have R2:=hid r2;have R3:=hid r3;clear r1 r2 r3
 go_enter Tryz.func4,Tryz.ntmps4
 go_wp2_with fail
 have T0:=zaF w (rwW d ao1 cap1 ao2 cap2 ao3 cap3).toArray 28;refine (zeT _ d.groups hi L _ (((zak.slice 110).slice 80).rd_below R1.out T0.bel hhi) (Nat.le_trans hhi T0.bel.size) (by omega)).mono ?_;rintro e w1 ⟨y1,rfl,s1,b1⟩;have T1:One w w1 (rwW d ao1 cap1 ao2 cap2 ao3 cap3).toArray 28:=T0.call b1;have x1_10:w1.cell? ⟨w.heap.size,10,none⟩=some (.slice ao2 d.on.1 cap2):=T1.b1.cell 10;have HB1:=hid T1.bel
 rcases s1 with rfl | ⟨l1,hy1⟩
 ·clear T1 T0 b1
  go_wp2;go_ret;exact ⟨-1,rfl,.inl rfl,HB1.out⟩
 obtain ⟨M1,hM1⟩:∃ M:Nat,M+(szSl (szSl zav)) d.groups=L:=⟨L-(szSl (szSl zav)) d.groups,by omega⟩
 obtain rfl:y1=((M1:Nat):Int):=by omega
 have HM1:=hid hM1
 have hML1:M1≤L:=by omega
 have hz1:¬ ((M1:Int)<0):=by omega
 clear hM1 hy1 l1 T0 b1
 go_wp2_with fail
 refine (zeN _ d.on hi M1 _ (zaE.rd_below R2.out T1.bel hhi) (Nat.le_trans hhi T1.bel.size) (by omega)).mono ?_;rintro e w2 ⟨y2,rfl,s2,b2⟩;have T2:One w w2 (rwW d ao1 cap1 ao2 cap2 ao3 cap3).toArray 28:=T1.call b2;have x2_11:w2.cell? ⟨w.heap.size,11,none⟩=some (.slice ao3 d.tapes.1 cap3):=T2.b1.cell 11;have HB2:=hid T2.bel
 rcases s2 with rfl | ⟨l2,hy2⟩
 ·clear T2 T1 b2
  go_wp2;go_ret;exact ⟨-1,rfl,.inl rfl,HB2.out⟩
 obtain ⟨M2,hM2⟩:∃ M:Nat,M+lenD d.on=M1:=⟨M1-lenD d.on,by omega⟩
 obtain rfl:y2=((M2:Nat):Int):=by omega
 have HM2:=hid hM2
 have hML2:M2≤M1:=by omega
 have hz2:¬ ((M2:Int)<0):=by omega
 clear hM2 hy2 l2 T1 b2
 go_wp2_with fail
 refine (zgG _ d.tapes hi M2 _ ((zat.slice 74).rd_below R3.out T2.bel hhi) (Nat.le_trans hhi T2.bel.size) (by omega)).mono ?_;rintro e w3 ⟨y3,rfl,s3,b3⟩;have T3:One w w3 (rwW d ao1 cap1 ao2 cap2 ao3 cap3).toArray 28:=T2.call b3;have HB3:=hid T3.bel
 rcases s3 with rfl | ⟨l3,hy3⟩
 ·clear T3 T2 b3
  go_wp2;go_ret;exact ⟨-1,rfl,.inl rfl,HB3.out⟩
 obtain ⟨M3,hM3⟩:∃ M:Nat,M+(szSl zaO) d.tapes=M2:=⟨M2-(szSl zaO) d.tapes,by omega⟩
 obtain rfl:y3=((M3:Nat):Int):=by omega
 have HM3:=hid hM3
 have hML3:M3≤M2:=by omega
 have hz3:¬ ((M3:Int)<0):=by omega
 clear hM3 hy3 l3 T2 b3;clear T3;go_wp2;go_ret;exact ⟨M3,rfl,.inr ⟨by have e0:=HM1.out;have e1:=HM2.out;have e2:=HM3.out;omega,by have e0:=HM1.out;have e1:=HM2.out;have e2:=HM3.out;omega⟩,HB3.out⟩
def zaD (b:ByteArray) (i:Nat):Nat:=if h:i<b.size then (b[i]'h).toNat else 0
theorem zcD (b:ByteArray) (i:Nat) (h:i<b.size) (w:World):(Instr.index 9 (.string b) (.int .i64 (i:Int))).run Tryz.prog w=.ok (.int .u8 (zaD b i)) w:=by
 rw [run_index_string w 9 b .i64 (i:Int) Tryz.underlying9,dif_pos ⟨by omega,by omega⟩]
 simp [zaD,h]
def LetP (y:Nat):Prop:=97≤y∧y≤122
def DigP (y:Nat):Prop:=48≤y∧y≤57
def zbF (b:ByteArray):Prop:=1≤b.size∧b.size≤8∧LetP (zaD b 0)∧∀ i,i<b.size→LetP (zaD b i)∨DigP (zaD b i)
def zjw (b:ByteArray) (x:Int):Prop:=(x=5∧¬ zbF b)∨(x=0∧zbF b)
theorem zeU (
 b:ByteArray) (hb:b.size≤1048576) (w:World) :
 Calls Tryz.prog 62 #[.string b] w fun e w'=>∃ x,e=.returned (.int .i64 x)∧zjw b x∧w'=w:=by
 by_cases h1:1≤b.size
 ·have t1:decide (
   (b.size:Int)<1)=false:=by simp;omega
  have t1n:decide (b.size<1)=false:=decide_eq_false (by omega);have t1z:decide (b.size=0)=false:=decide_eq_false (by omega)
  by_cases h2:b.size≤8
  ·have t2:decide ((8:Int)<(b.size:Int))=false:=by simp;omega
   have t2n:decide (8<b.size)=false:=by simp;omega
   have hix:=zcD b 0 h1;have e0:((0:Nat):Int)=0:=rfl;rw [e0] at hix;obtain ⟨y,hy⟩:∃ y,y=zaD b 0:=⟨_,rfl⟩;rw [← hy] at hix;have HY:=hid hy;clear e0 hy
   by_cases h3:y<97
   ·have HN:Hid (¬ zbF b):=fun h=>by have:=h.2.2.1.1;rw [← HY.out] at this;omega
    have t3:decide ((y:Int)<97)=true:=by simp;omega
    go_enter Tryz.func62,Tryz.ntmps62
    go_wp2;go_ret;exact ⟨5,rfl,.inl ⟨rfl,HN.out⟩,rfl⟩
   ·have t3:decide ((y:Int)<97)=false:=by simp;omega
    have t3n:decide (y<97)=false:=by simp;omega
    by_cases h4:122<y
    ·have HN:Hid (¬ zbF b):=fun h=>by have:=h.2.2.1.2;rw [← HY.out] at this;omega
     have t4:decide ((122:Int)<(y:Int))=true:=by simp;omega
     clear h3
     go_enter Tryz.func62,Tryz.ntmps62
     go_wp2;go_ret;exact ⟨5,rfl,.inl ⟨rfl,HN.out⟩,rfl⟩
    ·have t4:decide ((122:Int)<(y:Int))=false:=by simp;omega
     have t4n:decide (122<y)=false:=by simp;omega
     have HL:Hid (LetP (zaD b 0)):=by show LetP (zaD b 0);rw [← HY.out];exact ⟨by omega,by omega⟩
     clear h3 h4
     go_enter Tryz.func62,Tryz.ntmps62
     go_wp2
     go_loop [3] (fun i=>∃ k:Nat,k≤b.size∧i=.int .i64 k∧∀ i,i<k→LetP (zaD b i)∨DigP (zaD b i)) (fun i=>b.size-(intOf i).toNat)
     case atStart=>exact ⟨0,Nat.zero_le _,rfl,fun i hi=>by omega⟩
     case round=>
      obtain ⟨k,hk,rfl,hall⟩:=hrel;have HALL:=hid hall;clear hall
      by_cases hlt:k<b.size
      ·have hik:=zcD b k hlt
       obtain ⟨z,hz⟩:∃ z,z=zaD b k:=⟨_,rfl⟩;rw [← hz] at hik;have HZ:=hid hz;clear hz
       by_cases c1:z<97
       ·have s1:decide (
         (z:Int)<97)=true:=by simp;omega
        by_cases c3:z<48
        ·have s3:decide ((z:Int)<48)=true:=by simp;omega
         have HN:Hid (¬ zbF b):=fun h=>by
          have:=h.2.2.2 k hlt;rw [← HZ.out] at this;unfold LetP DigP at this;omega
         go_wp2;go_ret;exact ⟨5,rfl,.inl ⟨rfl,HN.out⟩,rfl⟩
        ·have s3:decide ((z:Int)<48)=false:=by simp;omega
         have s3n:decide (z<48)=false:=by simp;omega
         by_cases c4:57<z
         ·have s4:decide ((57:Int)<(z:Int))=true:=by simp;omega
          have HN:Hid (¬ zbF b):=fun h=>by
           have:=h.2.2.2 k hlt;rw [← HZ.out] at this;unfold LetP DigP at this;omega
          clear c3;go_wp2;go_ret;exact ⟨5,rfl,.inl ⟨rfl,HN.out⟩,rfl⟩
         ·have s4:decide ((57:Int)<(z:Int))=false:=by simp;omega
          have s4n:decide (57<z)=false:=by simp;omega
          have HD:Hid (DigP (zaD b k)):=by show DigP (zaD b k);rw [← HZ.out];exact ⟨by omega,by omega⟩
          clear c3 c4;go_wp2
          go_round
          case rel=>exact ⟨k+1,by omega,by go_num,fun i hi=>by
           by_cases c:i=k
           ·right;rw [c];exact HD.out
           ·exact HALL.out i (by omega)⟩
          case measure=>simp [intOf];omega
       ·have s1:decide ((z:Int)<97)=false:=by simp;omega
        have s1n:decide (z<97)=false:=by simp;omega
        by_cases c2:122<z
        ·have s2:decide ((122:Int)<(z:Int))=true:=by simp;omega
         have s3:decide ((z:Int)<48)=false:=by simp;omega
         have s3n:decide (z<48)=false:=by simp;omega
         have s4:decide ((57:Int)<(z:Int))=true:=by simp;omega
         have HN:Hid (¬ zbF b):=fun h=>by
          have:=h.2.2.2 k hlt;rw [← HZ.out] at this;unfold LetP DigP at this;omega
         clear c1;go_wp2;go_ret;exact ⟨5,rfl,.inl ⟨rfl,HN.out⟩,rfl⟩
        ·have s2:decide ((122:Int)<(z:Int))=false:=by simp;omega
         have s2n:decide (122<z)=false:=by simp;omega
         have HD:Hid (LetP (zaD b k)):=by show LetP (zaD b k);rw [← HZ.out];exact ⟨by omega,by omega⟩
         clear c1 c2;go_wp2
         go_round
         case rel=>exact ⟨k+1,by omega,by go_num,fun i hi=>by
          by_cases c:i=k
          ·left;rw [c];exact HD.out
          ·exact HALL.out i (by omega)⟩
         case measure=>simp [intOf];omega
      ·obtain rfl:k=b.size:=by omega
       have HY2:Hid (zbF b):=⟨h1,h2,HL.out,HALL.out⟩;go_wp2;go_ret;exact ⟨0,rfl,.inr ⟨rfl,HY2.out⟩,rfl⟩
  ·have HN:Hid (¬ zbF b):=fun h=>h2 h.2.1
   have t2:decide ((8:Int)<(b.size:Int))=true:=by simp;omega
   have t2i:(8:Int)<(b.size:Int):=by omega
   clear h2
   go_enter Tryz.func62,Tryz.ntmps62
   go_wp2;go_ret;exact ⟨5,rfl,.inl ⟨rfl,HN.out⟩,rfl⟩
 ·have HN:Hid (¬ zbF b):=fun h=>h1 h.1
  have t1:decide ((b.size:Int)<1)=true:=by simp;omega
  have t1i:(b.size:Int)<1:=by omega
  clear h1
  go_enter Tryz.func62,Tryz.ntmps62
  go_wp2;go_ret;exact ⟨5,rfl,.inl ⟨rfl,HN.out⟩,rfl⟩
def InP (x a b:Int):Prop:=a≤x∧x≤b
def zby (n:Nat) (g:Nat→Int) (most:Int):Prop:=∀ i,i<n→InP (g i) 0 most∧∀ t,t<i→g t≠g i
def zbi (s:Nat→Int) (r:RecD):Prop:=
 (r.length=-1∧r.data.1=0∧r.rows.1=0) ∨
 (r.length≠-1∧1≤r.length∧r.length≤3*(s 2*4)∧
  (
   (0<r.data.1∧(r.data.1:Int)=r.length∧r.rows.1=0) ∨
   (r.data.1=0∧(r.rows.1:Int)=(r.length+s 2*4-1)/(s 2*4)∧zby r.rows.1 r.rows.2 (s 4-1))))
def zi7 (s:Nat→Int) (r:RecD):Prop:=InP r.group 0 (s 0-1)∧InP r.row 0 (s 4-1)∧(r.data.1:Int)=s 2*4∧(r.delta.1:Int)=s 2*4
def zi8 (s:Nat→Int) (r:RecD):Prop:=InP r.group 0 (s 0+s 1-1)
def zec (s:Nat→Int) (r:RecD):Prop:=(r.delta.1:Int)=s 0+s 1∧r.delta.2 r.group.toNat=0∧∀ i,i<r.rows.1→r.delta.2 (r.rows.2 i).toNat≠0
def zf4 (s:Nat→Int) (r:RecD):Prop:=InP r.group 0 (s 0+s 1-1)∧InP r.row 0 (s 4-1)∧zcm r.rows.1 r.rows.2 (s 0+s 1-1)∧(r.data.1:Int)=s 2*4∧zec s r
def zaU (s:Nat→Int) (r:RecD):Prop:=(r.kind=1∧zbi s r)∨(r.kind=2∧zi7 s r)∨(r.kind=3∧zi8 s r)∨(r.kind=4∧zf4 s r)
def zcn (r:RecD):Prop:=r.name=ByteArray.empty∧r.length=0
def za1 (r:RecD):Prop:=
 (r.kind=1∧r.group=0∧r.row=0∧r.delta.1=0)∨(r.kind=2∧zcn r∧r.rows.1=0) ∨
 (r.kind=3∧zcn r∧r.row=0∧r.rows.1=0∧r.data.1=0∧r.delta.1=0)∨(r.kind=4∧zcn r)
def zcY (r:RecD):Prop:=r.kind=1→zbF r.name
def Stair:List (Prop×Int)→(Int→Prop)→Int→Prop
 | [],K,x=>K x
 | (p,c)::l,K,x=>(¬ p∧x=c)∨(p∧Stair l K x)
theorem Stair.fall {p:Prop} {c:Int} {l:List (Prop×Int)} {K:Int→Prop} (h:¬ p):Stair ((p,c)::l) K c:=.inl ⟨h,rfl⟩
theorem Stair.pass {p:Prop} {c:Int} {l:List (Prop×Int)} {K:Int→Prop} {x:Int} (h:p) (k:Stair l K x):Stair ((p,c)::l) K x:=.inr ⟨h,k⟩
theorem Stair.last {K:Int→Prop} {x:Int} (h:K x):Stair [] K x:=h
theorem Stair.one {K:Int→Prop} (hK:∀ x y,K x→K y→x=y):∀ (l:List (Prop×Int)) {x y:Int},Stair l K x→Stair l K y→x=y
 | [],x,y,h,k=>hK x y h k
 | (p,c)::l,x,y,h,k=>by
  rcases h with ⟨h1,h2⟩ | ⟨h1,h2⟩<;>rcases k with ⟨k1,k2⟩ | ⟨k1,k2⟩
  ·rw [h2,k2]
  ·exact absurd k1 h1
  ·exact absurd h1 k1
  ·exact Stair.one hK l h2 k2
def isZ (x:Int):Prop:=x=0
theorem zhE (x y:Int) (h:isZ x) (k:isZ y):x=y:=by rw [show x=0 from h,show y=0 from k]
def RecAns (s:Nat→Int) (r:RecD) (x:Int):Prop:=
 Stair [(zao s,3),(InP r.kind 1 4,5),(InP r.seq 1 1000000000,3),(zcY r,5),(zaU s r,3),(za1 r,1)] isZ x
theorem RecAns.one {s:Nat→Int} {r:RecD} {x y:Int} (h:RecAns s r x) (k:RecAns s r y):x=y:=Stair.one zhE _ h k
def zcJ (b:BlockD):Prop:=InP b.stamp 0 1000000000∧b.bytes.1=4
def zdz (s:Nat→Int) (p:Nat×(Nat→BlockD)):Prop:=(p.1:Int)=s 4∧∀ i,i<p.1→zcJ (p.2 i)
def zed (s:Nat→Int) (p:Nat×(Nat→DriveD)):Prop:=(p.1:Int)=s 2+s 3∧∀ i,i<p.1→zdz s (p.2 i).blocks
def zch (d:WorldD):Prop:=(d.groups.1:Int)=d.shape 0+d.shape 1∧∀ i,i<d.groups.1→zed d.shape (d.groups.2 i)
def OnP (d:WorldD):Prop:=zby d.on.1 d.on.2 (d.shape 0+d.shape 1-1)∧(d.on.1:Int)≤d.shape 5∧(d.down=true→d.on.1=0)
def zb7 (d:WorldD):Prop:=zch d∧OnP d∧d.tapes.1=2
def FewP (d:WorldD):Prop:=∀ t,t<d.tapes.1→(d.tapes.2 t).recs.1≤200
def RecsAns (s:Nat→Int) (n:Nat) (x:Nat→TapeD) (c:Int):Prop:=
 (c=0∧∀ t,t<n→∀ i,i<(x t).recs.1→RecAns s ((x t).recs.2 i) 0) ∨
 (c≠0∧∃ t i,t<n∧i<(x t).recs.1∧RecAns s ((x t).recs.2 i) c∧(∀ k,k<i→RecAns s ((x t).recs.2 k) 0)∧∀ u,u<t→∀ k,k<(x u).recs.1→RecAns s ((x u).recs.2 k) 0)
theorem RecsAns.one {s:Nat→Int} {n:Nat} {x:Nat→TapeD} {c e:Int} (h:RecsAns s n x c) (k:RecsAns s n x e):c=e:=by
 rcases h with ⟨rfl,h⟩ | ⟨hc,t,i,ht,hi,hr,hb,hu⟩<;>rcases k with ⟨rfl,k⟩ | ⟨kc,t',i',kt,ki,kr,kb,ku⟩
 ·rfl
 ·exact absurd (kr.one (h t' kt i' ki)) kc
 ·exact absurd (hr.one (k t ht i hi)) hc
 ·rcases Nat.lt_trichotomy t t' with c1 | c1 | c1
  ·exact absurd (hr.one (ku t c1 i hi)) hc
  ·subst c1
   rcases Nat.lt_trichotomy i i' with c2 | c2 | c2
   ·exact absurd (hr.one (kb i c2)) hc
   ·subst c2;exact hr.one kr
   ·exact absurd (kr.one (hb i' c2)) kc
  ·exact absurd (kr.one (hu t' c1 i' ki)) kc
def zf5 (d:WorldD):Prop:=∀ t,t<d.tapes.1→(d.tapes.2 t).wiped=true→(d.tapes.2 t).recs.1=0
def zeV (d:WorldD):Prop:=InP d.writes 0 1000000000∧InP d.stop (-1) 1000000000
def WldAns (d:WorldD) (x:Int):Prop:=
 Stair [(zao d.shape,3),(zb7 d,1),(FewP d,2)] (fun x=>(x≠0∧RecsAns d.shape d.tapes.1 d.tapes.2 x)∨(RecsAns d.shape d.tapes.1 d.tapes.2 0∧Stair [(zf5 d,1),(zeV d,3)] isZ x)) x
theorem WldAns.one {d:WorldD} {x y:Int} (h:WldAns d x) (k:WldAns d y):x=y:=by
 refine Stair.one (fun x y h k=>?_) _ h k
 rcases h with ⟨h1,h2⟩ | ⟨h1,h2⟩<;>rcases k with ⟨k1,k2⟩ | ⟨k1,k2⟩
 ·exact h2.one k2
 ·exact absurd (h2.one k1) h1
 ·exact absurd (k2.one h1) k1
 ·exact Stair.one zhE _ h2 k2
structure OkWorld (d:WorldD):Prop where
 shape:zao d.shape
 form:zb7 d
 few:FewP d
 recs:∀ t,t<d.tapes.1→∀ i,i<(d.tapes.2 t).recs.1→RecAns d.shape ((d.tapes.2 t).recs.2 i) 0
 clean:zf5 d
 count:zeV d
theorem WldAns.ok {d:WorldD} (h:WldAns d 0):OkWorld d:=by
 rcases h with ⟨_,h⟩ | ⟨h1,h⟩
 ·omega
 rcases h with ⟨_,h⟩ | ⟨h2,h⟩
 ·omega
 rcases h with ⟨_,h⟩ | ⟨h3,h⟩
 ·omega
 rcases h with ⟨h,_⟩ | ⟨h4,h⟩
 ·exact absurd rfl h
 rcases h with ⟨_,h⟩ | ⟨h5,h⟩
 ·omega
 rcases h with ⟨_,h⟩ | ⟨h6,h⟩
 ·omega
 rcases h4 with ⟨_,h4⟩ | ⟨h4,_⟩
 ·exact ⟨h1,h2,h3,h4,h5,h6⟩
 ·exact absurd rfl h4
theorem exB (P:Prop):∃ b:Bool,b=true↔P:=by
 by_cases h:P
 ·exact ⟨true,by simp [h]⟩
 ·exact ⟨false,by simp [h]⟩
def intR (code value:Int):Value:=.agg #[.int .i64 code,.int .i64 value]
theorem zgI (c v:Int) (w:World) :
 Calls Tryz.prog 8 #[intR c v,intR c v] w fun e w'=>e=.returned (.bool true)∧Below w.heap.size w w':=by
 unfold intR
 go_enter Tryz.func8,Tryz.ntmps8
 go_wp2;go_ret;exact ⟨rfl,((Below.refl _ _).alloc (Nat.le_refl _) _).alloc (by simp) _⟩
theorem zhF (v:Value) (n:Nat) (g:Nat→Int) (hi:Nat) (x:Int) (w:World) (r:RdI w hi v n g) :
 Calls Tryz.prog 61 #[v,.int .i64 x] w (zaX (HasP n g x) w):=by
 obtain ⟨ao,cap,rfl,hm,hc⟩:=r;unfold maxLen at hm
 go_enter Tryz.func61,Tryz.ntmps61
 go_wp2
 go_loop [5] (fun i=>∃ k:Nat,k≤n∧i=.int .i64 k∧∀ i,i<k→g i≠x) (fun i=>n-(intOf i).toNat)
 case atStart=>exact ⟨0,Nat.zero_le _,rfl,fun i hi=>by omega⟩
 case round=>
  obtain ⟨k,hk,rfl,hall⟩:=hrel;have HALL:=hid hall;clear hall
  by_cases hlt:k<n
  ·obtain ⟨b,off,rfl,hblt,hcell⟩:=hc (by omega)
   have hck:w.cell? ⟨b,off+k,none⟩=some (.int .i64 (g k)):=hcell k hlt;obtain ⟨y,hy⟩:∃ y,y=g k:=⟨_,rfl⟩;have HY:=hid hy;rw [← hy] at hck;clear hc hcell hy
   by_cases heq:y=x
   ·have tn:(y==x)=true:=by simp [heq]
    have HE:=hid heq;clear heq;go_wp2;go_ret;exact zas rfl ⟨k,hlt,by rw [← HY.out];exact HE.out⟩ (Below.refl _ _)
   ·have tn:(y==x)=false:=by simp [heq]
    have HE:=hid heq;clear heq;go_wp2
    go_round
    case rel=>exact ⟨k+1,by omega,by go_num,fun i hi=>by
     by_cases c:i=k
     ·rw [c,← HY.out];exact HE.out
     ·exact HALL.out i (by omega)⟩
    case measure=>simp [intOf];omega
  ·obtain rfl:k=n:=by omega
   go_wp2;go_ret;exact zaj rfl (fun ⟨i,hi,h⟩=>HALL.out i hi h) (Below.refl _ _)
theorem zay {f:Nat} {args:Array Value} {W:World} {v:Value} (h:∀ w',Below W.heap.size W w'→Calls Tryz.prog f args w' fun e w''=>e=.returned v∧Below w'.heap.size w' w'') :
 ∀ d os,Calls Tryz.prog f args (Go.Sort.grow (redrawn W d) os) fun e w''=>e=.returned v∧∃ p:Regrown,w''=Go.Sort.grow (redrawn W p.d) p.os:=fun d os=>Calls.regrown_of (h _ (below_regrown W d os))
theorem zdZ {f:Nat} {args:Array Value} {W:World} {v:Value} (h:∀ w',Calls Tryz.prog f args w' fun e w''=>e=.returned v∧w''=w') :
 ∀ d os,Calls Tryz.prog f args (Go.Sort.grow (redrawn W d) os) fun e w''=>e=.returned v∧∃ p:Regrown,w''=Go.Sort.grow (redrawn W p.d) p.os:=
 zay fun w' _=>(h w').mono fun e w'' ⟨h1,h2⟩=>⟨h1,by rw [h2];exact Below.refl _ _⟩
theorem za9 {f:Nat} {args:Array Value} {w:World} {P:Prop} {b:Bool} (h:Calls Tryz.prog f args w (zaX P w)) (hb:b=true↔P):Calls Tryz.prog f args w fun e w'=>e=.returned (.bool b)∧Below w.heap.size w w':=
 h.mono fun e w' ⟨b',h1,h2,h3⟩=>⟨by rw [h1];congr 2;cases b<;>cases b'<;>simp_all,h3⟩
theorem zb4 {v a b:Int} {t:Bool} (ht:t=true↔InP v a b) (w:World) :
 Calls Tryz.prog 34 #[.int .i64 v,.int .i64 a,.int .i64 b] w fun e w'=>e=.returned (.bool t)∧w'=w:=by
 cases t with
 | true=>exact zaK v a b (ht.1 rfl).1 (ht.1 rfl).2 w
 | false=>
  have:¬ InP v a b:=fun h=>by have:=ht.2 h;cases this
  exact zbX v a b (by unfold InP at this;omega) w
theorem zaH {W w':World} (h:∃ p:Regrown,w'=Go.Sort.grow (redrawn W p.d) p.os):Below W.heap.size W w':=by
 obtain ⟨p,rfl⟩:=h;exact below_regrown W p.d p.os
structure WQ (P:Program) (ops:Array Oper) (C:World→Prop) (Q:Act→Prop) (l:List Oper) (a:Act):Prop where
 out:wpQuiet P ops C Q l a
theorem WQ.skip {P:Program} {ops:Array Oper} {C:World→Prop} {Q:Act→Prop} {a:Act} {o:Oper} {rest:List Oper} (hw:Region.wanted o (yielded ops a.tmps)=false)
 (h:∀ K:Act→Prop,(∀ a,WQ P ops C Q rest a→K a)→K (a.put o.dst undef)):WQ P ops C Q (o::rest) a:=by
 refine ⟨?_⟩;unfold wpQuiet;rw [if_neg (by rw [hw];decide)];exact (h _ (fun _ h=>h)).out
theorem WQ.want {P:Program} {ops:Array Oper} {C:World→Prop} {Q:Act→Prop} {a:Act} {o:Oper} {rest:List Oper} (hw:Region.wanted o (yielded ops a.tmps)=true)
 (h:∀ K:Act→Prop,(∀ a,WQ P ops C Q rest a→K a)→o.quiet P a C K):WQ P ops C Q (o::rest) a:=by
 refine ⟨?_⟩;unfold wpQuiet;rw [if_pos hw];exact Oper.quiet_mono (fun a h=>h.out) (h _ (fun _ h=>h))
theorem WQ.nil {P:Program} {ops:Array Oper} {C:World→Prop} {Q:Act→Prop} {a:Act} (h:Q a):WQ P ops C Q [] a:=⟨wpQuiet_nil h⟩
theorem WQ.region {P:Program} {id:Nat} {Q:Exit→Act→World→Prop} {a:Act} {w:World} {l:List Oper} (hm:P.follows .mixedOrders=true) (hB:Region.lexB .any l.toArray=true)
 (h:WQ P l.toArray (fun w'=>∃ p:Regrown,w'=Go.Sort.grow (redrawn w p.d) p.os) (fun a'=>∀ w',(∃ p:Regrown,w'=Go.Sort.grow (redrawn w p.d) p.os)→Q .normal a' w') l a):(Code.region id l.toArray true).wp P Q a w:=wp_region_quiet_below hm hB h.out
theorem zi9 {w w1:World} {cs ds:Array Value} {t u:TypeId} (h:Below ((w.alloc (.cells cs t)).alloc (.cells ds u)).heap.size ((w.alloc (.cells cs t)).alloc (.cells ds u)) w1) :
 Box w1 w.heap.size cs t∧Box w1 (w.heap.size+1) ds u∧Below w.heap.size w w1∧w.heap.size+1<w1.heap.size:=by
 have h2:=bnew h
 have e:(w.alloc (.cells cs t)).heap.size=w.heap.size+1:=by simp
 have k2:=zal (w.alloc (.cells cs t)) ds u;rw [e] at k2;have z:=bsize h;rw [e] at z;exact ⟨(zal w cs t).below h2 (by simp),k2.below h (by simp),bnew h2,z⟩
theorem zcE (s:Nat→Int) (h1:1≤s 2) (h2:s 2≤1000) (w:World) :
 Calls Tryz.prog 64 #[zaf s] w fun e w'=>e=.returned (.int .i64 (s 2*4))∧Below w.heap.size w w':=by
 unfold zaf;obtain ⟨a2,h0⟩:∃ a,a=s 2:=⟨_,rfl⟩;rw [← h0] at h1 h2 ⊢;clear h0;have B0:Below w.heap.size w (w.alloc (.cells #[.int .i64 (s 0),.int .i64 (s 1),.int .i64 a2,.int .i64 (s 3),.int .i64 (s 4),.int .i64 (s 5),.int .i64 (s 6),.int .i64 (s 7),.int .i64 (s 8)] 33)):=bnew (Below.refl _ _)
 go_enter Tryz.func64,Tryz.ntmps64
 go_wp2;go_ret;exact ⟨rfl,B0⟩
theorem zjx {B:Nat} {w W w2:World} {cs:Array Value} {t:TypeId} (hX:Box W B cs t) (hB:Below B w W) (hb:Below W.heap.size W w2):Box w2 B cs t∧Below B w w2:=
 ⟨hX.below hb hX.lt,hB.trans (hb.mono (Nat.le_of_lt hX.lt))⟩
theorem zfC (s:Nat→Int) (h1:1≤s 2) (h2:s 2≤1000) (l:Int) (h3:0≤l) (h4:l≤1000000000) (w:World) :
 Calls Tryz.prog 90 #[zaf s,.int .i64 l] w fun e w'=>e=.returned (.int .i64 ((l+s 2*4-1)/(s 2*4)))∧Below w.heap.size w w':=by
 have CL:=zcE s h1 h2;unfold zaf;have K0:Hid (Box (w.alloc (.cells (rwS s).toArray 33)) w.heap.size (rwS s).toArray 33):=zal w _ _;have KB:Hid (Below w.heap.size w (w.alloc (.cells (rwS s).toArray 33))):=bnew (Below.refl _ _);obtain ⟨S,hS⟩:∃ S,S=s 2*4:=⟨_,rfl⟩;rw [← hS];rw [← hS] at CL
 have q1:4≤S:=by omega
 have q2:S≤4000:=by omega
 have q3:0≤l+S-1:=by omega
 clear hS
 go_enter Tryz.func90,Tryz.ntmps90
 go_wp2_with fail
 go_region_with (go_at_call 64;refine (CL _).mono ?_;rintro ee w2 ⟨rfl,hb2⟩;(first | (obtain ⟨hX2,hB2⟩:=zjx hX hB ⟨hb2.os,hb2.tape,hb2.output,hb2.size,hb2.block⟩;clear hb2;obtain ⟨x0,x1,x2,x3,x4,x5,x6,x7,x8⟩:=box9 hX2) | (obtain ⟨hX,hB⟩:=zjx K0.out KB.out ⟨hb2.os,hb2.tape,hb2.output,hb2.size,hb2.block⟩;clear hb2;obtain ⟨x0,x1,x2,x3,x4,x5,x6,x7,x8⟩:=box9 hX)))
 all_goals
  clear hX hX2;go_wp2;go_ret;exact ⟨rfl,hB2⟩
theorem zgJ (s:Nat→Int) (h1:1≤s 2) (h2:s 2≤1000) (l:Int) (w:World) :
 Calls Tryz.prog 89 #[zaf s,.int .i64 l] w fun e w'=>∃ c,e=.returned (.int .i64 c)∧((l<1∧c=6)∨(1≤l∧3*(s 2*4)<l∧c=2)∨(1≤l∧l≤3*(s 2*4)∧c=0))∧Below w.heap.size w w':=by
 have CL:=zcE s h1 h2;have KB:Hid (Below w.heap.size w (w.alloc (.cells (rwS s).toArray 33))):=bnew (Below.refl _ _);obtain ⟨S,hS⟩:∃ S,S=s 2*4:=⟨_,rfl⟩;rw [← hS];rw [← hS] at CL
 have q1:4≤S:=by omega
 have q2:S≤4000:=by omega
 clear hS;unfold zaf
 by_cases c1:l<1
 ·go_enter Tryz.func89,Tryz.ntmps89
  go_wp2;go_ret;exact ⟨6,rfl,.inl ⟨c1,rfl⟩,KB.out⟩
 ·by_cases c2:3*S<l
  ·go_enter Tryz.func89,Tryz.ntmps89
   go_wp2_with fail
   refine (CL _).mono ?_;rintro e w2 ⟨rfl,hb2⟩;have B:=bnew hb2;clear hb2;go_wp2;go_ret;exact ⟨2,rfl,.inr (.inl ⟨by omega,c2,rfl⟩),B⟩
  ·go_enter Tryz.func89,Tryz.ntmps89
   go_wp2_with fail
   refine (CL _).mono ?_;rintro e w2 ⟨rfl,hb2⟩;have B:=bnew hb2;clear hb2;go_wp2;go_ret;exact ⟨0,rfl,.inr (.inr ⟨by omega,by omega,rfl⟩),B⟩
def zja (s:Nat→Int) (l x c:Int):Prop:=
 (¬ zao s∧c=3∧x=0)∨(zao s∧l<1∧c=6∧x=0)∨(zao s∧1≤l∧3*(s 2*4)<l∧c=2∧x=0)∨(zao s∧1≤l∧l≤3*(s 2*4)∧c=0∧x=(l+s 2*4-1)/(s 2*4))
end Go.Proofs.YtecofihpkcljcaaGreat
