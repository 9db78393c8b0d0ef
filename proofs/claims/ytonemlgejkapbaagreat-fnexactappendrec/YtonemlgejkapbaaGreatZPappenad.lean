/- Walks: copies of records and tapes. -/
import Derived.Test.YtonemlgejkapbaaGreatZPappenac
set_option linter.unusedVariables false
set_option linter.unusedSimpArgs false
set_option maxHeartbeats 16000000
namespace Go.Proofs.YtonemlgejkapbaaGreat
open Go.RowKit F256
set_option maxRecDepth 20000 in
theorem zgX:ToV zac zaH 20:=fun cs d hi w r hhi hn=>by
 obtain ⟨ao6,cap6,ao7,cap7,ao8,cap8,rfl,h6,h7,h8,k0,k1,k2,k3,k4,k5⟩:=zbd r;clear r;unfold zaH at hn;have R6:=hid h6;have R7:=hid h7;have R8:=hid h8;clear h6 h7 h8;have Q0:=hid k0;have Q1:=hid k1;have Q2:=hid k2;have Q3:=hid k3;have Q4:=hid k4;have Q5:=hid k5;clear k0 k1 k2 k3 k4 k5
 go_enter Tryz.func20,Tryz.ntmps20
 go_wp2_with fail
 have T0:=zbJ w (rwR d ao6 cap6 ao7 cap7 ao8 cap8).toArray #[.int .i64 0,.int .i64 0,.string ByteArray.empty,.int .i64 0,.int .i64 0,.int .i64 0,.slice none 0 0,.slice none 0 0,.slice none 0 0] #[.int .i64 d.kind,.int .i64 d.seq,.string d.name,.int .i64 d.length,.int .i64 d.group,.int .i64 d.row,.slice none 0 0,.slice none 0 0,.slice none 0 0] 53 56 56;refine (zfj _ d.rows hi _ (zai.rd_below R6.out T0.bel hhi) (Nat.le_trans hhi T0.bel.size) (by omega)).mono ?_;rintro e w1 ⟨v1,rfl,o1,b1⟩;have L1:=T0.lt;obtain ⟨bo6,bcap6,hv⟩:=zbX o1;obtain rfl:=zaL hv;clear hv;have T1:Three w w1 (rwR d ao6 cap6 ao7 cap7 ao8 cap8).toArray #[.int .i64 0,.int .i64 0,.string ByteArray.empty,.int .i64 0,.int .i64 0,.int .i64 0,.slice none 0 0,.slice none 0 0,.slice none 0 0] #[.int .i64 d.kind,.int .i64 d.seq,.string d.name,.int .i64 d.length,.int .i64 d.group,.int .i64 d.row,.slice none 0 0,.slice none 0 0,.slice none 0 0] 53 56 56:=T0.call b1;have O6:Hid (OwnT zai w1 (w.heap.size+1+1+1) (w1.heap.size) d.rows [.slice bo6 d.rows.1 bcap6]):=o1.weaken (by simp<;>omega) (Nat.le_refl _);clear o1;have LT1:w.heap.size+1+1+1≤w1.heap.size:=T1.lt;have x1_7:w1.cell? ⟨w.heap.size,7,none⟩=some (.slice ao7 d.data.1 cap7):=T1.b1.cell 7;have y1_6:w1.cell? ⟨w.heap.size+1+1,6,none⟩=some (.slice none 0 0):=T1.b3.cell 6;have yf1_6:w1.frozen? ⟨w.heap.size+1+1,6,none⟩=false:=T1.b3.frozen 6;have V1:Three w (w1.setCell ⟨w.heap.size+1+1,6,none⟩ (.slice bo6 d.rows.1 bcap6)) (rwR d ao6 cap6 ao7 cap7 ao8 cap8).toArray #[.int .i64 0,.int .i64 0,.string ByteArray.empty,.int .i64 0,.int .i64 0,.int .i64 0,.slice none 0 0,.slice none 0 0,.slice none 0 0] #[.int .i64 d.kind,.int .i64 d.seq,.string d.name,.int .i64 d.length,.int .i64 d.group,.int .i64 d.row,.slice bo6 d.rows.1 bcap6,.slice none 0 0,.slice none 0 0] 53 56 56:=T1.st3 6 [.slice bo6 d.rows.1 bcap6] (c3':=[.int .i64 d.kind,.int .i64 d.seq,.string d.name,.int .i64 d.length,.int .i64 d.group,.int .i64 d.row,.slice bo6 d.rows.1 bcap6,.slice none 0 0,.slice none 0 0]) rfl;clear T1 b1
 go_wp2_with fail
 refine (zdf _ d.data hi _ (zad.rd_below R7.out V1.bel hhi) (Nat.le_trans hhi V1.bel.size) (by omega)).mono ?_;rintro e w2 ⟨v2,rfl,o2,b2⟩;have L2:=V1.lt;obtain ⟨bo7,bcap7,hv⟩:=za9 o2;obtain rfl:=zaL hv;clear hv;have T2:Three w w2 (rwR d ao6 cap6 ao7 cap7 ao8 cap8).toArray #[.int .i64 0,.int .i64 0,.string ByteArray.empty,.int .i64 0,.int .i64 0,.int .i64 0,.slice none 0 0,.slice none 0 0,.slice none 0 0] #[.int .i64 d.kind,.int .i64 d.seq,.string d.name,.int .i64 d.length,.int .i64 d.group,.int .i64 d.row,.slice bo6 d.rows.1 bcap6,.slice none 0 0,.slice none 0 0] 53 56 56:=V1.call b2;have O6x:OwnT zai w2 (w.heap.size+1+1+1) (w1.heap.size) d.rows [.slice bo6 d.rows.1 bcap6]:=((O6.out).set (show w.heap.size+1+1<_ by omega)).call b2;clear O6;have O6:=hid O6x;clear O6x;have O7:Hid (OwnT zad w2 (w1.heap.size) (w2.heap.size) d.data [.slice bo7 d.data.1 bcap7]):=o2.weaken (by simp<;>omega) (Nat.le_refl _);clear o2;have LT2:w.heap.size+1+1+1≤w2.heap.size:=T2.lt
 have S2:w1.heap.size≤w2.heap.size:=by
  have:=b2.size
  simpa using this
 have x2_8:w2.cell? ⟨w.heap.size,8,none⟩=some (.slice ao8 d.delta.1 cap8):=T2.b1.cell 8;have y2_7:w2.cell? ⟨w.heap.size+1+1,7,none⟩=some (.slice none 0 0):=T2.b3.cell 7;have yf2_7:w2.frozen? ⟨w.heap.size+1+1,7,none⟩=false:=T2.b3.frozen 7;have V2:Three w (w2.setCell ⟨w.heap.size+1+1,7,none⟩ (.slice bo7 d.data.1 bcap7)) (rwR d ao6 cap6 ao7 cap7 ao8 cap8).toArray #[.int .i64 0,.int .i64 0,.string ByteArray.empty,.int .i64 0,.int .i64 0,.int .i64 0,.slice none 0 0,.slice none 0 0,.slice none 0 0] #[.int .i64 d.kind,.int .i64 d.seq,.string d.name,.int .i64 d.length,.int .i64 d.group,.int .i64 d.row,.slice bo6 d.rows.1 bcap6,.slice bo7 d.data.1 bcap7,.slice none 0 0] 53 56 56:=T2.st3 7 [.slice bo7 d.data.1 bcap7] (c3':=[.int .i64 d.kind,.int .i64 d.seq,.string d.name,.int .i64 d.length,.int .i64 d.group,.int .i64 d.row,.slice bo6 d.rows.1 bcap6,.slice bo7 d.data.1 bcap7,.slice none 0 0]) rfl;clear T2 b2
 go_wp2_with fail
 refine (zdf _ d.delta hi _ (zad.rd_below R8.out V2.bel hhi) (Nat.le_trans hhi V2.bel.size) (by omega)).mono ?_;rintro e w3 ⟨v3,rfl,o3,b3⟩;have L3:=V2.lt;obtain ⟨bo8,bcap8,hv⟩:=za9 o3;obtain rfl:=zaL hv;clear hv;have T3:Three w w3 (rwR d ao6 cap6 ao7 cap7 ao8 cap8).toArray #[.int .i64 0,.int .i64 0,.string ByteArray.empty,.int .i64 0,.int .i64 0,.int .i64 0,.slice none 0 0,.slice none 0 0,.slice none 0 0] #[.int .i64 d.kind,.int .i64 d.seq,.string d.name,.int .i64 d.length,.int .i64 d.group,.int .i64 d.row,.slice bo6 d.rows.1 bcap6,.slice bo7 d.data.1 bcap7,.slice none 0 0] 53 56 56:=V2.call b3;have O6x:OwnT zai w3 (w.heap.size+1+1+1) (w1.heap.size) d.rows [.slice bo6 d.rows.1 bcap6]:=((O6.out).set (show w.heap.size+1+1<_ by omega)).call b3;clear O6;have O6:=hid O6x;clear O6x;have O7x:OwnT zad w3 (w1.heap.size) (w2.heap.size) d.data [.slice bo7 d.data.1 bcap7]:=((O7.out).set (show w.heap.size+1+1<_ by omega)).call b3;clear O7;have O7:=hid O7x;clear O7x;have O8:Hid (OwnT zad w3 (w2.heap.size) (w3.heap.size) d.delta [.slice bo8 d.delta.1 bcap8]):=o3.weaken (by simp<;>omega) (Nat.le_refl _);clear o3;have LT3:w.heap.size+1+1+1≤w3.heap.size:=T3.lt
 have S3:w2.heap.size≤w3.heap.size:=by
  have:=b3.size
  simpa using this
 have y3_0:w3.cell? ⟨w.heap.size+1+1,0,none⟩=some (.int .i64 d.kind):=T3.b3.cell 0;have y3_1:w3.cell? ⟨w.heap.size+1+1,1,none⟩=some (.int .i64 d.seq):=T3.b3.cell 1;have y3_2:w3.cell? ⟨w.heap.size+1+1,2,none⟩=some (.string d.name):=T3.b3.cell 2;have y3_3:w3.cell? ⟨w.heap.size+1+1,3,none⟩=some (.int .i64 d.length):=T3.b3.cell 3;have y3_4:w3.cell? ⟨w.heap.size+1+1,4,none⟩=some (.int .i64 d.group):=T3.b3.cell 4;have y3_5:w3.cell? ⟨w.heap.size+1+1,5,none⟩=some (.int .i64 d.row):=T3.b3.cell 5;have y3_6:w3.cell? ⟨w.heap.size+1+1,6,none⟩=some (.slice bo6 d.rows.1 bcap6):=T3.b3.cell 6;have y3_7:w3.cell? ⟨w.heap.size+1+1,7,none⟩=some (.slice bo7 d.data.1 bcap7):=T3.b3.cell 7;have y3_8:w3.cell? ⟨w.heap.size+1+1,8,none⟩=some (.slice none 0 0):=T3.b3.cell 8;have yf3_8:w3.frozen? ⟨w.heap.size+1+1,8,none⟩=false:=T3.b3.frozen 8;have z3_0:w3.cell? ⟨w.heap.size+1,0,none⟩=some (.int .i64 0):=T3.b2.cell 0;have zf3_0:w3.frozen? ⟨w.heap.size+1,0,none⟩=false:=T3.b2.frozen 0;have z3_1:w3.cell? ⟨w.heap.size+1,1,none⟩=some (.int .i64 0):=T3.b2.cell 1;have zf3_1:w3.frozen? ⟨w.heap.size+1,1,none⟩=false:=T3.b2.frozen 1;have z3_2:w3.cell? ⟨w.heap.size+1,2,none⟩=some (.string ByteArray.empty):=T3.b2.cell 2;have zf3_2:w3.frozen? ⟨w.heap.size+1,2,none⟩=false:=T3.b2.frozen 2;have z3_3:w3.cell? ⟨w.heap.size+1,3,none⟩=some (.int .i64 0):=T3.b2.cell 3;have zf3_3:w3.frozen? ⟨w.heap.size+1,3,none⟩=false:=T3.b2.frozen 3;have z3_4:w3.cell? ⟨w.heap.size+1,4,none⟩=some (.int .i64 0):=T3.b2.cell 4;have zf3_4:w3.frozen? ⟨w.heap.size+1,4,none⟩=false:=T3.b2.frozen 4;have z3_5:w3.cell? ⟨w.heap.size+1,5,none⟩=some (.int .i64 0):=T3.b2.cell 5;have zf3_5:w3.frozen? ⟨w.heap.size+1,5,none⟩=false:=T3.b2.frozen 5;have z3_6:w3.cell? ⟨w.heap.size+1,6,none⟩=some (.slice none 0 0):=T3.b2.cell 6;have zf3_6:w3.frozen? ⟨w.heap.size+1,6,none⟩=false:=T3.b2.frozen 6;have z3_7:w3.cell? ⟨w.heap.size+1,7,none⟩=some (.slice none 0 0):=T3.b2.cell 7;have zf3_7:w3.frozen? ⟨w.heap.size+1,7,none⟩=false:=T3.b2.frozen 7;have z3_8:w3.cell? ⟨w.heap.size+1,8,none⟩=some (.slice none 0 0):=T3.b2.cell 8;have zf3_8:w3.frozen? ⟨w.heap.size+1,8,none⟩=false:=T3.b2.frozen 8;have Bq:=hid T3.bel;clear T3 b3;go_wp2;refine bodyPost_ret (v:=.agg (rwR d bo6 bcap6 bo7 bcap7 bo8 bcap8).toArray) (by simp [results,Tryz.results20,go_sem,y3_0,z3_0,y3_1,z3_1,y3_2,z3_2,y3_3,z3_3,y3_4,z3_4,y3_5,z3_5,y3_6,z3_6,y3_7,z3_7,y3_8,z3_8]) rfl ?_;have F:OwnT zac w3 (w.heap.size+1+1+1) w3.heap.size d ([.int .i64 d.kind]++([.int .i64 d.seq]++([.string d.name]++([.int .i64 d.length]++([.int .i64 d.group]++([.int .i64 d.row]++([.slice bo6 d.rows.1 bcap6]++([.slice bo7 d.data.1 bcap7]++[.slice bo8 d.delta.1 bcap8])))))))):=OwnT.conv (OwnT.pre (A:=layI) (a:=d.kind) (c:=[.int .i64 d.kind]) ⟨rfl,Q0.out,rfl⟩ (OwnT.pre (A:=layI) (a:=d.seq) (c:=[.int .i64 d.seq]) ⟨rfl,Q1.out,rfl⟩ (OwnT.pre (A:=layS) (a:=d.name) (c:=[.string d.name]) ⟨rfl,Q2.out,rfl⟩ (OwnT.pre (A:=layI) (a:=d.length) (c:=[.int .i64 d.length]) ⟨rfl,Q3.out,rfl⟩ (OwnT.pre (A:=layI) (a:=d.group) (c:=[.int .i64 d.group]) ⟨rfl,Q4.out,rfl⟩ (OwnT.pre (A:=layI) (a:=d.row) (c:=[.int .i64 d.row]) ⟨rfl,Q5.out,rfl⟩ (OwnT.two O6.out (OwnT.two O7.out (O8.out) (by omega) (by omega) (by omega)) (by omega) (by omega) (by omega))))))))
 exact ⟨(rwR d bo6 bcap6 bo7 bcap7 bo8 bcap8),rfl,OwnT.fin F 8 0 [.slice bo8 d.delta.1 bcap8] (rwR d bo6 bcap6 bo7 bcap7 bo8 bcap8) _ rfl,zcx Bq.out 8 0 [.slice bo8 d.delta.1 bcap8] (rwR d bo6 bcap6 bo7 bcap7 bo8 bcap8) _ rfl⟩
theorem zhS:(Tryz.prog.info? 56).map (fun i=>(i.zero.map (·.cells),i.size,i.bytes))=some (some #[.int .i64 0,.int .i64 0,.string ByteArray.empty,.int .i64 0,.int .i64 0,.int .i64 0,.slice none 0 0,.slice none 0 0,.slice none 0 0],9,128):=by kernel_rfl
theorem zhT:ToS (zac.slice 56) (szSl zaH) 108:=fun v d hi w h hhi hn=>by
 obtain ⟨n,x⟩:=d;obtain ⟨ao,cap,hv,hm,hc⟩:=h
 cases hv
 have hn1:=zb1 hn;have hn2:∀ i,i<n→zaH (x i)≤1048576:=fun i hi=>zbf hn hi
 simp only at hn1 hm hc
 clear hn
 go_enter Tryz.func108,Tryz.ntmps108
 go_wp2_with (at_make;refine zbM zac [.int .i64 0,.int .i64 0,.string ByteArray.empty,.int .i64 0,.int .i64 0,.int .i64 0,.slice none 0 0,.slice none 0 0,.slice none 0 0] _ 56 128 (by decide) rfl Tryz.underlying98 zhS x (fun _=>[]) _ rfl _ _ rfl _ _ n rfl rfl rfl rfl (by omega) (by omega) ?_;intro w1 sp1 hb1)
 go_loopw [4] (fun i wr=>∃ k:Nat,k≤n∧i=.int .i64 k∧∃ ce Ls,SlP zac 56 wr w.heap.size w.heap.size n n k x ce Ls∧Below w.heap.size w wr) (fun i _=>n-(intOf i).toNat)
 case atStart=>exact ⟨0,Nat.zero_le _,rfl,_,_,sp1,hb1⟩
 case round=>
  clear sp1 hb1;obtain ⟨k,hk,rfl,ce,Ls,sp,hb⟩:=hrel
  by_cases hlt:k<n
  ·obtain ⟨b,off,rfl,hblt,hel⟩:=hc (by omega)
   obtain ⟨ck,hrk,hcell⟩:=zas (t:=0) hel hb hhi hblt hlt;obtain ⟨ao6,cap6,ao7,cap7,ao8,cap8,rfl,-⟩:=zbd hrk;have c0:wr.cell? ⟨b,off+k*9,none⟩=some (.int .i64 (x k).kind):=hcell 0 (by decide);have c1:wr.cell? ⟨b,off+k*9+1,none⟩=some (.int .i64 (x k).seq):=hcell 1 (by decide);have c2:wr.cell? ⟨b,off+k*9+2,none⟩=some (.string (x k).name):=hcell 2 (by decide);have c3:wr.cell? ⟨b,off+k*9+3,none⟩=some (.int .i64 (x k).length):=hcell 3 (by decide);have c4:wr.cell? ⟨b,off+k*9+4,none⟩=some (.int .i64 (x k).group):=hcell 4 (by decide);have c5:wr.cell? ⟨b,off+k*9+5,none⟩=some (.int .i64 (x k).row):=hcell 5 (by decide);have c6:wr.cell? ⟨b,off+k*9+6,none⟩=some (.slice ao6 (x k).rows.1 cap6):=hcell 6 (by decide);have c7:wr.cell? ⟨b,off+k*9+7,none⟩=some (.slice ao7 (x k).data.1 cap7):=hcell 7 (by decide);have c8:wr.cell? ⟨b,off+k*9+8,none⟩=some (.slice ao8 (x k).delta.1 cap8):=hcell 8 (by decide);clear hc hel hcell
   go_wp2_with fail
   refine (zgX _ (x k) hi wr hrk (Nat.le_trans hhi hb.size) (hn2 k hlt)).mono ?_;rintro e w2 ⟨cs',rfl,o2,hb2⟩;obtain ⟨bao6,bcap6,bao7,bcap7,bao8,bcap8,rfl⟩:=zdM o2;obtain ⟨z0,s0⟩:=sp.some hb2 hlt (show 0<zac.sz by decide);have s0:w2.cell? ⟨w.heap.size,k*9,none⟩=some z0:=s0;have sf0:=(sp.below hb2).frozen (k*9);obtain ⟨z1,s1⟩:=sp.some hb2 hlt (show 1<zac.sz by decide);have s1:w2.cell? ⟨w.heap.size,k*9+1,none⟩=some z1:=s1;have sf1:=(sp.below hb2).frozen (k*9+1);obtain ⟨z2,s2⟩:=sp.some hb2 hlt (show 2<zac.sz by decide);have s2:w2.cell? ⟨w.heap.size,k*9+2,none⟩=some z2:=s2;have sf2:=(sp.below hb2).frozen (k*9+2);obtain ⟨z3,s3⟩:=sp.some hb2 hlt (show 3<zac.sz by decide);have s3:w2.cell? ⟨w.heap.size,k*9+3,none⟩=some z3:=s3;have sf3:=(sp.below hb2).frozen (k*9+3);obtain ⟨z4,s4⟩:=sp.some hb2 hlt (show 4<zac.sz by decide);have s4:w2.cell? ⟨w.heap.size,k*9+4,none⟩=some z4:=s4;have sf4:=(sp.below hb2).frozen (k*9+4);obtain ⟨z5,s5⟩:=sp.some hb2 hlt (show 5<zac.sz by decide);have s5:w2.cell? ⟨w.heap.size,k*9+5,none⟩=some z5:=s5;have sf5:=(sp.below hb2).frozen (k*9+5);obtain ⟨z6,s6⟩:=sp.some hb2 hlt (show 6<zac.sz by decide);have s6:w2.cell? ⟨w.heap.size,k*9+6,none⟩=some z6:=s6;have sf6:=(sp.below hb2).frozen (k*9+6);obtain ⟨z7,s7⟩:=sp.some hb2 hlt (show 7<zac.sz by decide);have s7:w2.cell? ⟨w.heap.size,k*9+7,none⟩=some z7:=s7;have sf7:=(sp.below hb2).frozen (k*9+7);obtain ⟨z8,s8⟩:=sp.some hb2 hlt (show 8<zac.sz by decide);have s8:w2.cell? ⟨w.heap.size,k*9+8,none⟩=some z8:=s8;have sf8:=(sp.below hb2).frozen (k*9+8);have N:=sp.next hb2 hlt o2 hb.size;have N2:Below w.heap.size w (stN w2 w.heap.size (k*zac.sz) [.int .i64 (x k).kind,.int .i64 (x k).seq,.string (x k).name,.int .i64 (x k).length,.int .i64 (x k).group,.int .i64 (x k).row,.slice bao6 (x k).rows.1 bcap6,.slice bao7 (x k).data.1 bcap7,.slice bao8 (x k).delta.1 bcap8]):=(hb.trans (hb2.mono hb.size)).trans (zaK (Nat.le_refl _) _ _);clear o2 hb2 sp hb
   go_wp2_with fail
   go_roundw
   case rel=>
    obtain ⟨ce',Ls',N⟩:=N;exact ⟨k+1,by omega,by go_num,ce',Ls',N,N2⟩
   case measure=>simp [intOf];omega
  ·obtain rfl:k=n:=by omega
   go_wp2;go_ret;exact ⟨_,rfl,sp.done (Nat.le_refl _),hb⟩
set_option maxRecDepth 20000 in
theorem zhU:ToV zag zaN 71:=fun cs d hi w r hhi hn=>by
 obtain ⟨ao1,cap1,rfl,h1⟩:=za1 r;clear r;unfold zaN at hn;have R1:=hid h1;clear h1
 go_enter Tryz.func71,Tryz.ntmps71
 go_wp2_with fail
 have T0:=zbJ w #[.bool d.wiped,.slice ao1 d.recs.1 cap1] #[.bool false,.slice none 0 0] #[.bool d.wiped,.slice none 0 0] 109 100 100;refine (zhT _ d.recs hi _ ((zac.slice 56).rd_below R1.out T0.bel hhi) (Nat.le_trans hhi T0.bel.size) (by omega)).mono ?_;rintro e w1 ⟨v1,rfl,o1,b1⟩;have L1:=T0.lt;obtain ⟨bo1,bcap1,hv⟩:=zbA o1;obtain rfl:=zaL hv;clear hv;have T1:Three w w1 #[.bool d.wiped,.slice ao1 d.recs.1 cap1] #[.bool false,.slice none 0 0] #[.bool d.wiped,.slice none 0 0] 109 100 100:=T0.call b1;have O1:Hid (OwnT (zac.slice 56) w1 (w.heap.size+1+1+1) (w1.heap.size) d.recs [.slice bo1 d.recs.1 bcap1]):=o1.weaken (by simp<;>omega) (Nat.le_refl _);clear o1;have LT1:w.heap.size+1+1+1≤w1.heap.size:=T1.lt;have y1_0:w1.cell? ⟨w.heap.size+1+1,0,none⟩=some (.bool d.wiped):=T1.b3.cell 0;have y1_1:w1.cell? ⟨w.heap.size+1+1,1,none⟩=some (.slice none 0 0):=T1.b3.cell 1;have yf1_1:w1.frozen? ⟨w.heap.size+1+1,1,none⟩=false:=T1.b3.frozen 1;have z1_0:w1.cell? ⟨w.heap.size+1,0,none⟩=some (.bool false):=T1.b2.cell 0;have zf1_0:w1.frozen? ⟨w.heap.size+1,0,none⟩=false:=T1.b2.frozen 0;have z1_1:w1.cell? ⟨w.heap.size+1,1,none⟩=some (.slice none 0 0):=T1.b2.cell 1;have zf1_1:w1.frozen? ⟨w.heap.size+1,1,none⟩=false:=T1.b2.frozen 1;have Bq:=hid T1.bel;clear T1 b1;go_wp2;refine bodyPost_ret (v:=.agg #[.bool d.wiped,.slice bo1 d.recs.1 bcap1]) (by simp [results,Tryz.results71,go_sem,y1_0,z1_0,y1_1,z1_1]) rfl ?_;have F:OwnT zag w1 (w.heap.size+1+1+1) w1.heap.size d ([.bool d.wiped]++[.slice bo1 d.recs.1 bcap1]):=OwnT.conv (OwnT.pre (A:=layB) (a:=d.wiped) (c:=[.bool d.wiped]) ⟨rfl,trivial,rfl⟩ (O1.out));exact ⟨[.bool d.wiped,.slice bo1 d.recs.1 bcap1],rfl,OwnT.fin F 1 0 [.slice bo1 d.recs.1 bcap1] [.bool d.wiped,.slice bo1 d.recs.1 bcap1] _ rfl,zcx Bq.out 1 0 [.slice bo1 d.recs.1 bcap1] [.bool d.wiped,.slice bo1 d.recs.1 bcap1] _ rfl⟩
theorem zhk:(Tryz.prog.info? 100).map (fun i=>(i.zero.map (·.cells),i.size,i.bytes))=some (some #[.bool false,.slice none 0 0],2,32):=by kernel_rfl
theorem zhl:ToS (zag.slice 100) (szSl zaN) 38:=fun v d hi w h hhi hn=>by
 obtain ⟨n,x⟩:=d;obtain ⟨ao,cap,hv,hm,hc⟩:=h
 cases hv
 have hn1:=zb1 hn;have hn2:∀ i,i<n→zaN (x i)≤1048576:=fun i hi=>zbf hn hi
 simp only at hn1 hm hc
 clear hn
 go_enter Tryz.func38,Tryz.ntmps38
 go_wp2_with (at_make;refine zbM zag [.bool false,.slice none 0 0] _ 100 32 (by decide) rfl Tryz.underlying36 zhk x (fun _=>[]) _ rfl _ _ rfl _ _ n rfl rfl rfl rfl (by omega) (by omega) ?_;intro w1 sp1 hb1)
 go_loopw [4] (fun i wr=>∃ k:Nat,k≤n∧i=.int .i64 k∧∃ ce Ls,SlP zag 100 wr w.heap.size w.heap.size n n k x ce Ls∧Below w.heap.size w wr) (fun i _=>n-(intOf i).toNat)
 case atStart=>exact ⟨0,Nat.zero_le _,rfl,_,_,sp1,hb1⟩
 case round=>
  clear sp1 hb1;obtain ⟨k,hk,rfl,ce,Ls,sp,hb⟩:=hrel
  by_cases hlt:k<n
  ·obtain ⟨b,off,rfl,hblt,hel⟩:=hc (by omega)
   obtain ⟨ck,hrk,hcell⟩:=zas (t:=0) hel hb hhi hblt hlt;obtain ⟨ao1,cap1,rfl,-⟩:=za1 hrk;have c0:wr.cell? ⟨b,off+k*2,none⟩=some (.bool (x k).wiped):=hcell 0 (by decide);have c1:wr.cell? ⟨b,off+k*2+1,none⟩=some (.slice ao1 (x k).recs.1 cap1):=hcell 1 (by decide);clear hc hel hcell
   go_wp2_with fail
   refine (zhU _ (x k) hi wr hrk (Nat.le_trans hhi hb.size) (hn2 k hlt)).mono ?_;rintro e w2 ⟨cs',rfl,o2,hb2⟩;obtain ⟨bao1,bcap1,rfl⟩:=zes o2;obtain ⟨z0,s0⟩:=sp.some hb2 hlt (show 0<zag.sz by decide);have s0:w2.cell? ⟨w.heap.size,k*2,none⟩=some z0:=s0;have sf0:=(sp.below hb2).frozen (k*2);obtain ⟨z1,s1⟩:=sp.some hb2 hlt (show 1<zag.sz by decide);have s1:w2.cell? ⟨w.heap.size,k*2+1,none⟩=some z1:=s1;have sf1:=(sp.below hb2).frozen (k*2+1);have N:=sp.next hb2 hlt o2 hb.size;have N2:Below w.heap.size w (stN w2 w.heap.size (k*zag.sz) [.bool (x k).wiped,.slice bao1 (x k).recs.1 bcap1]):=(hb.trans (hb2.mono hb.size)).trans (zaK (Nat.le_refl _) _ _);clear o2 hb2 sp hb
   go_wp2_with fail
   go_roundw
   case rel=>
    obtain ⟨ce',Ls',N⟩:=N;exact ⟨k+1,by omega,by go_num,ce',Ls',N,N2⟩
   case measure=>simp [intOf];omega
  ·obtain rfl:k=n:=by omega
   go_wp2;go_ret;exact ⟨_,rfl,sp.done (Nat.le_refl _),hb⟩
set_option maxRecDepth 20000 in
theorem zhm:ToV zae zaS 8:=fun cs d hi w r hhi hn=>by
 obtain ⟨ao1,cap1,ao2,cap2,ao3,cap3,rfl,h1,h2,h3,k0,k4,k5⟩:=zaR r;clear r;unfold zaS at hn;have R1:=hid h1;have R2:=hid h2;have R3:=hid h3;clear h1 h2 h3;have Q0:=hid k0;have Q4:=hid k4;have Q5:=hid k5;clear k0 k4 k5
 go_enter Tryz.func8,Tryz.ntmps8
 go_wp2_with fail
 have T0:=zbJ w (rwW d ao1 cap1 ao2 cap2 ao3 cap3).toArray (rwV 0 0 0 0 0 0 0 0 0 none 0 0 none 0 0 none 0 0 0 0 false).toArray (rwV 0 0 0 0 0 0 0 0 0 none 0 0 none 0 0 none 0 0 0 0 false).toArray 28 38 38;refine (zgf d.shape _).mono ?_;rintro e w1 ⟨rfl,b1⟩;unfold zak;have L1:=T0.lt;have T1:Three w w1 (rwW d ao1 cap1 ao2 cap2 ao3 cap3).toArray (rwV 0 0 0 0 0 0 0 0 0 none 0 0 none 0 0 none 0 0 0 0 false).toArray (rwV 0 0 0 0 0 0 0 0 0 none 0 0 none 0 0 none 0 0 0 0 false).toArray 28 38 38:=T0.call b1;have LT1:w.heap.size+1+1+1≤w1.heap.size:=T1.lt;have x1_9:w1.cell? ⟨w.heap.size,9,none⟩=some (.slice ao1 d.groups.1 cap1):=T1.b1.cell 9;have y1_0:w1.cell? ⟨w.heap.size+1+1,0,none⟩=some (.int .i64 0):=T1.b3.cell 0;have y1_1:w1.cell? ⟨w.heap.size+1+1,1,none⟩=some (.int .i64 0):=T1.b3.cell 1;have y1_2:w1.cell? ⟨w.heap.size+1+1,2,none⟩=some (.int .i64 0):=T1.b3.cell 2;have y1_3:w1.cell? ⟨w.heap.size+1+1,3,none⟩=some (.int .i64 0):=T1.b3.cell 3;have y1_4:w1.cell? ⟨w.heap.size+1+1,4,none⟩=some (.int .i64 0):=T1.b3.cell 4;have y1_5:w1.cell? ⟨w.heap.size+1+1,5,none⟩=some (.int .i64 0):=T1.b3.cell 5;have y1_6:w1.cell? ⟨w.heap.size+1+1,6,none⟩=some (.int .i64 0):=T1.b3.cell 6;have y1_7:w1.cell? ⟨w.heap.size+1+1,7,none⟩=some (.int .i64 0):=T1.b3.cell 7;have y1_8:w1.cell? ⟨w.heap.size+1+1,8,none⟩=some (.int .i64 0):=T1.b3.cell 8;have yf1_0:w1.frozen? ⟨w.heap.size+1+1,0,none⟩=false:=T1.b3.frozen 0;have yf1_1:w1.frozen? ⟨w.heap.size+1+1,1,none⟩=false:=T1.b3.frozen 1;have yf1_2:w1.frozen? ⟨w.heap.size+1+1,2,none⟩=false:=T1.b3.frozen 2;have yf1_3:w1.frozen? ⟨w.heap.size+1+1,3,none⟩=false:=T1.b3.frozen 3;have yf1_4:w1.frozen? ⟨w.heap.size+1+1,4,none⟩=false:=T1.b3.frozen 4
 have yf1_5:w1.frozen? ⟨w.heap.size+1+1,5,none⟩=false:=T1.b3.frozen 5;have yf1_6:w1.frozen? ⟨w.heap.size+1+1,6,none⟩=false:=T1.b3.frozen 6;have yf1_7:w1.frozen? ⟨w.heap.size+1+1,7,none⟩=false:=T1.b3.frozen 7;have yf1_8:w1.frozen? ⟨w.heap.size+1+1,8,none⟩=false:=T1.b3.frozen 8;have V1:Three w (((((((((w1.setCell ⟨w.heap.size+1+1,0,none⟩ (.int .i64 (d.shape 0))).setCell ⟨w.heap.size+1+1,1,none⟩ (.int .i64 (d.shape 1))).setCell ⟨w.heap.size+1+1,2,none⟩ (.int .i64 (d.shape 2))).setCell ⟨w.heap.size+1+1,3,none⟩ (.int .i64 (d.shape 3))).setCell ⟨w.heap.size+1+1,4,none⟩ (.int .i64 (d.shape 4))).setCell ⟨w.heap.size+1+1,5,none⟩ (.int .i64 (d.shape 5))).setCell ⟨w.heap.size+1+1,6,none⟩ (.int .i64 (d.shape 6))).setCell ⟨w.heap.size+1+1,7,none⟩ (.int .i64 (d.shape 7))).setCell ⟨w.heap.size+1+1,8,none⟩ (.int .i64 (d.shape 8))) (rwW d ao1 cap1 ao2 cap2 ao3 cap3).toArray (rwV 0 0 0 0 0 0 0 0 0 none 0 0 none 0 0 none 0 0 0 0 false).toArray #[.int .i64 (d.shape 0),.int .i64 (d.shape 1),.int .i64 (d.shape 2),.int .i64 (d.shape 3),.int .i64 (d.shape 4),.int .i64 (d.shape 5),.int .i64 (d.shape 6),.int .i64 (d.shape 7),.int .i64 (d.shape 8),.slice none 0 0,.slice none 0 0,.slice none 0 0,.int .i64 0,.int .i64 0,.bool false] 28 38 38:=T1.st3 0 (rwS d.shape) (c3':=[.int .i64 (d.shape 0),.int .i64 (d.shape 1),.int .i64 (d.shape 2),.int .i64 (d.shape 3),.int .i64 (d.shape 4),.int .i64 (d.shape 5),.int .i64 (d.shape 6),.int .i64 (d.shape 7),.int .i64 (d.shape 8),.slice none 0 0,.slice none 0 0,.slice none 0 0,.int .i64 0,.int .i64 0,.bool false]) rfl;clear T1 b1
 go_wp2_with fail
 refine (zfw _ d.groups hi _ (((zab.slice 75).slice 76).rd_below R1.out V1.bel hhi) (Nat.le_trans hhi V1.bel.size) (by omega)).mono ?_;rintro e w2 ⟨v2,rfl,o2,b2⟩;have L2:=V1.lt;obtain ⟨bo1,bcap1,hv⟩:=zbA o2;obtain rfl:=zaL hv;clear hv;have T2:Three w w2 (rwW d ao1 cap1 ao2 cap2 ao3 cap3).toArray (rwV 0 0 0 0 0 0 0 0 0 none 0 0 none 0 0 none 0 0 0 0 false).toArray #[.int .i64 (d.shape 0),.int .i64 (d.shape 1),.int .i64 (d.shape 2),.int .i64 (d.shape 3),.int .i64 (d.shape 4),.int .i64 (d.shape 5),.int .i64 (d.shape 6),.int .i64 (d.shape 7),.int .i64 (d.shape 8),.slice none 0 0,.slice none 0 0,.slice none 0 0,.int .i64 0,.int .i64 0,.bool false] 28 38 38:=V1.call b2;have O1:Hid (OwnT ((zab.slice 75).slice 76) w2 (w.heap.size+1+1+1) (w2.heap.size) d.groups [.slice bo1 d.groups.1 bcap1]):=o2.weaken (by simp<;>omega) (Nat.le_refl _);clear o2;have LT2:w.heap.size+1+1+1≤w2.heap.size:=T2.lt
 have S2:w1.heap.size≤w2.heap.size:=by
  have:=b2.size
  simpa using this
 have x2_10:w2.cell? ⟨w.heap.size,10,none⟩=some (.slice ao2 d.on.1 cap2):=T2.b1.cell 10;have y2_9:w2.cell? ⟨w.heap.size+1+1,9,none⟩=some (.slice none 0 0):=T2.b3.cell 9;have yf2_9:w2.frozen? ⟨w.heap.size+1+1,9,none⟩=false:=T2.b3.frozen 9;have V2:Three w (w2.setCell ⟨w.heap.size+1+1,9,none⟩ (.slice bo1 d.groups.1 bcap1)) (rwW d ao1 cap1 ao2 cap2 ao3 cap3).toArray (rwV 0 0 0 0 0 0 0 0 0 none 0 0 none 0 0 none 0 0 0 0 false).toArray #[.int .i64 (d.shape 0),.int .i64 (d.shape 1),.int .i64 (d.shape 2),.int .i64 (d.shape 3),.int .i64 (d.shape 4),.int .i64 (d.shape 5),.int .i64 (d.shape 6),.int .i64 (d.shape 7),.int .i64 (d.shape 8),.slice bo1 d.groups.1 bcap1,.slice none 0 0,.slice none 0 0,.int .i64 0,.int .i64 0,.bool false] 28 38 38:=T2.st3 9 [.slice bo1 d.groups.1 bcap1] (c3':=[.int .i64 (d.shape 0),.int .i64 (d.shape 1),.int .i64 (d.shape 2),.int .i64 (d.shape 3),.int .i64 (d.shape 4),.int .i64 (d.shape 5),.int .i64 (d.shape 6),.int .i64 (d.shape 7),.int .i64 (d.shape 8),.slice bo1 d.groups.1 bcap1,.slice none 0 0,.slice none 0 0,.int .i64 0,.int .i64 0,.bool false]) rfl;clear T2 b2
 go_wp2_with fail
 refine (zfj _ d.on hi _ (zai.rd_below R2.out V2.bel hhi) (Nat.le_trans hhi V2.bel.size) (by omega)).mono ?_;rintro e w3 ⟨v3,rfl,o3,b3⟩;have L3:=V2.lt;obtain ⟨bo2,bcap2,hv⟩:=zbX o3;obtain rfl:=zaL hv;clear hv;have T3:Three w w3 (rwW d ao1 cap1 ao2 cap2 ao3 cap3).toArray (rwV 0 0 0 0 0 0 0 0 0 none 0 0 none 0 0 none 0 0 0 0 false).toArray #[.int .i64 (d.shape 0),.int .i64 (d.shape 1),.int .i64 (d.shape 2),.int .i64 (d.shape 3),.int .i64 (d.shape 4),.int .i64 (d.shape 5),.int .i64 (d.shape 6),.int .i64 (d.shape 7),.int .i64 (d.shape 8),.slice bo1 d.groups.1 bcap1,.slice none 0 0,.slice none 0 0,.int .i64 0,.int .i64 0,.bool false] 28 38 38:=V2.call b3;have O1x:OwnT ((zab.slice 75).slice 76) w3 (w.heap.size+1+1+1) (w2.heap.size) d.groups [.slice bo1 d.groups.1 bcap1]:=((O1.out).set (show w.heap.size+1+1<_ by omega)).call b3;clear O1;have O1:=hid O1x;clear O1x;have O2:Hid (OwnT zai w3 (w2.heap.size) (w3.heap.size) d.on [.slice bo2 d.on.1 bcap2]):=o3.weaken (by simp<;>omega) (Nat.le_refl _);clear o3;have LT3:w.heap.size+1+1+1≤w3.heap.size:=T3.lt
 have S3:w2.heap.size≤w3.heap.size:=by
  have:=b3.size
  simpa using this
 have x3_11:w3.cell? ⟨w.heap.size,11,none⟩=some (.slice ao3 d.tapes.1 cap3):=T3.b1.cell 11;have y3_10:w3.cell? ⟨w.heap.size+1+1,10,none⟩=some (.slice none 0 0):=T3.b3.cell 10;have yf3_10:w3.frozen? ⟨w.heap.size+1+1,10,none⟩=false:=T3.b3.frozen 10;have V3:Three w (w3.setCell ⟨w.heap.size+1+1,10,none⟩ (.slice bo2 d.on.1 bcap2)) (rwW d ao1 cap1 ao2 cap2 ao3 cap3).toArray (rwV 0 0 0 0 0 0 0 0 0 none 0 0 none 0 0 none 0 0 0 0 false).toArray #[.int .i64 (d.shape 0),.int .i64 (d.shape 1),.int .i64 (d.shape 2),.int .i64 (d.shape 3),.int .i64 (d.shape 4),.int .i64 (d.shape 5),.int .i64 (d.shape 6),.int .i64 (d.shape 7),.int .i64 (d.shape 8),.slice bo1 d.groups.1 bcap1,.slice bo2 d.on.1 bcap2,.slice none 0 0,.int .i64 0,.int .i64 0,.bool false] 28 38 38:=T3.st3 10 [.slice bo2 d.on.1 bcap2] (c3':=[.int .i64 (d.shape 0),.int .i64 (d.shape 1),.int .i64 (d.shape 2),.int .i64 (d.shape 3),.int .i64 (d.shape 4),.int .i64 (d.shape 5),.int .i64 (d.shape 6),.int .i64 (d.shape 7),.int .i64 (d.shape 8),.slice bo1 d.groups.1 bcap1,.slice bo2 d.on.1 bcap2,.slice none 0 0,.int .i64 0,.int .i64 0,.bool false]) rfl;clear T3 b3
 go_wp2_with fail
 refine (zhl _ d.tapes hi _ ((zag.slice 100).rd_below R3.out V3.bel hhi) (Nat.le_trans hhi V3.bel.size) (by omega)).mono ?_;rintro e w4 ⟨v4,rfl,o4,b4⟩;have L4:=V3.lt;obtain ⟨bo3,bcap3,hv⟩:=zbA o4;obtain rfl:=zaL hv;clear hv;have T4:Three w w4 (rwW d ao1 cap1 ao2 cap2 ao3 cap3).toArray (rwV 0 0 0 0 0 0 0 0 0 none 0 0 none 0 0 none 0 0 0 0 false).toArray #[.int .i64 (d.shape 0),.int .i64 (d.shape 1),.int .i64 (d.shape 2),.int .i64 (d.shape 3),.int .i64 (d.shape 4),.int .i64 (d.shape 5),.int .i64 (d.shape 6),.int .i64 (d.shape 7),.int .i64 (d.shape 8),.slice bo1 d.groups.1 bcap1,.slice bo2 d.on.1 bcap2,.slice none 0 0,.int .i64 0,.int .i64 0,.bool false] 28 38 38:=V3.call b4;have O1x:OwnT ((zab.slice 75).slice 76) w4 (w.heap.size+1+1+1) (w2.heap.size) d.groups [.slice bo1 d.groups.1 bcap1]:=((O1.out).set (show w.heap.size+1+1<_ by omega)).call b4;clear O1;have O1:=hid O1x;clear O1x;have O2x:OwnT zai w4 (w2.heap.size) (w3.heap.size) d.on [.slice bo2 d.on.1 bcap2]:=((O2.out).set (show w.heap.size+1+1<_ by omega)).call b4;clear O2;have O2:=hid O2x;clear O2x;have O3:Hid (OwnT (zag.slice 100) w4 (w3.heap.size) (w4.heap.size) d.tapes [.slice bo3 d.tapes.1 bcap3]):=o4.weaken (by simp<;>omega) (Nat.le_refl _);clear o4;have LT4:w.heap.size+1+1+1≤w4.heap.size:=T4.lt
 have S4:w3.heap.size≤w4.heap.size:=by
  have:=b4.size
  simpa using this
 have x4_12:w4.cell? ⟨w.heap.size,12,none⟩=some (.int .i64 d.writes):=T4.b1.cell 12;have x4_13:w4.cell? ⟨w.heap.size,13,none⟩=some (.int .i64 d.stop):=T4.b1.cell 13;have x4_14:w4.cell? ⟨w.heap.size,14,none⟩=some (.bool d.down):=T4.b1.cell 14;have y4_0:w4.cell? ⟨w.heap.size+1+1,0,none⟩=some (.int .i64 (d.shape 0)):=T4.b3.cell 0;have y4_1:w4.cell? ⟨w.heap.size+1+1,1,none⟩=some (.int .i64 (d.shape 1)):=T4.b3.cell 1;have y4_2:w4.cell? ⟨w.heap.size+1+1,2,none⟩=some (.int .i64 (d.shape 2)):=T4.b3.cell 2;have y4_3:w4.cell? ⟨w.heap.size+1+1,3,none⟩=some (.int .i64 (d.shape 3)):=T4.b3.cell 3;have y4_4:w4.cell? ⟨w.heap.size+1+1,4,none⟩=some (.int .i64 (d.shape 4)):=T4.b3.cell 4;have y4_5:w4.cell? ⟨w.heap.size+1+1,5,none⟩=some (.int .i64 (d.shape 5)):=T4.b3.cell 5;have y4_6:w4.cell? ⟨w.heap.size+1+1,6,none⟩=some (.int .i64 (d.shape 6)):=T4.b3.cell 6;have y4_7:w4.cell? ⟨w.heap.size+1+1,7,none⟩=some (.int .i64 (d.shape 7)):=T4.b3.cell 7;have y4_8:w4.cell? ⟨w.heap.size+1+1,8,none⟩=some (.int .i64 (d.shape 8)):=T4.b3.cell 8;have y4_9:w4.cell? ⟨w.heap.size+1+1,9,none⟩=some (.slice bo1 d.groups.1 bcap1):=T4.b3.cell 9;have y4_10:w4.cell? ⟨w.heap.size+1+1,10,none⟩=some (.slice bo2 d.on.1 bcap2):=T4.b3.cell 10;have y4_11:w4.cell? ⟨w.heap.size+1+1,11,none⟩=some (.slice none 0 0):=T4.b3.cell 11;have y4_12:w4.cell? ⟨w.heap.size+1+1,12,none⟩=some (.int .i64 0):=T4.b3.cell 12;have y4_13:w4.cell? ⟨w.heap.size+1+1,13,none⟩=some (.int .i64 0):=T4.b3.cell 13;have y4_14:w4.cell? ⟨w.heap.size+1+1,14,none⟩=some (.bool false):=T4.b3.cell 14;have yf4_11:w4.frozen? ⟨w.heap.size+1+1,11,none⟩=false:=T4.b3.frozen 11;have yf4_12:w4.frozen? ⟨w.heap.size+1+1,12,none⟩=false:=T4.b3.frozen 12;have yf4_13:w4.frozen? ⟨w.heap.size+1+1,13,none⟩=false:=T4.b3.frozen 13;have yf4_14:w4.frozen? ⟨w.heap.size+1+1,14,none⟩=false:=T4.b3.frozen 14;have z4_0:w4.cell? ⟨w.heap.size+1,0,none⟩=some (.int .i64 0):=T4.b2.cell 0;have zf4_0:w4.frozen? ⟨w.heap.size+1,0,none⟩=false:=T4.b2.frozen 0;have z4_1:w4.cell? ⟨w.heap.size+1,1,none⟩=some (.int .i64 0):=T4.b2.cell 1;have zf4_1:w4.frozen? ⟨w.heap.size+1,1,none⟩=false:=T4.b2.frozen 1;have z4_2:w4.cell? ⟨w.heap.size+1,2,none⟩=some (.int .i64 0):=T4.b2.cell 2;have zf4_2:w4.frozen? ⟨w.heap.size+1,2,none⟩=false:=T4.b2.frozen 2;have z4_3:w4.cell? ⟨w.heap.size+1,3,none⟩=some (.int .i64 0):=T4.b2.cell 3;have zf4_3:w4.frozen? ⟨w.heap.size+1,3,none⟩=false:=T4.b2.frozen 3;have z4_4:w4.cell? ⟨w.heap.size+1,4,none⟩=some (.int .i64 0):=T4.b2.cell 4;have zf4_4:w4.frozen? ⟨w.heap.size+1,4,none⟩=false:=T4.b2.frozen 4;have z4_5:w4.cell? ⟨w.heap.size+1,5,none⟩=some (.int .i64 0):=T4.b2.cell 5;have zf4_5:w4.frozen? ⟨w.heap.size+1,5,none⟩=false:=T4.b2.frozen 5
 have z4_6:w4.cell? ⟨w.heap.size+1,6,none⟩=some (.int .i64 0):=T4.b2.cell 6;have zf4_6:w4.frozen? ⟨w.heap.size+1,6,none⟩=false:=T4.b2.frozen 6;have z4_7:w4.cell? ⟨w.heap.size+1,7,none⟩=some (.int .i64 0):=T4.b2.cell 7;have zf4_7:w4.frozen? ⟨w.heap.size+1,7,none⟩=false:=T4.b2.frozen 7;have z4_8:w4.cell? ⟨w.heap.size+1,8,none⟩=some (.int .i64 0):=T4.b2.cell 8;have zf4_8:w4.frozen? ⟨w.heap.size+1,8,none⟩=false:=T4.b2.frozen 8;have z4_9:w4.cell? ⟨w.heap.size+1,9,none⟩=some (.slice none 0 0):=T4.b2.cell 9;have zf4_9:w4.frozen? ⟨w.heap.size+1,9,none⟩=false:=T4.b2.frozen 9;have z4_10:w4.cell? ⟨w.heap.size+1,10,none⟩=some (.slice none 0 0):=T4.b2.cell 10;have zf4_10:w4.frozen? ⟨w.heap.size+1,10,none⟩=false:=T4.b2.frozen 10;have z4_11:w4.cell? ⟨w.heap.size+1,11,none⟩=some (.slice none 0 0):=T4.b2.cell 11;have zf4_11:w4.frozen? ⟨w.heap.size+1,11,none⟩=false:=T4.b2.frozen 11;have z4_12:w4.cell? ⟨w.heap.size+1,12,none⟩=some (.int .i64 0):=T4.b2.cell 12;have zf4_12:w4.frozen? ⟨w.heap.size+1,12,none⟩=false:=T4.b2.frozen 12;have z4_13:w4.cell? ⟨w.heap.size+1,13,none⟩=some (.int .i64 0):=T4.b2.cell 13;have zf4_13:w4.frozen? ⟨w.heap.size+1,13,none⟩=false:=T4.b2.frozen 13;have z4_14:w4.cell? ⟨w.heap.size+1,14,none⟩=some (.bool false):=T4.b2.cell 14;have zf4_14:w4.frozen? ⟨w.heap.size+1,14,none⟩=false:=T4.b2.frozen 14;have Bq:=hid T4.bel;clear T4 b4;go_wp2;refine bodyPost_ret (v:=.agg (rwW d bo1 bcap1 bo2 bcap2 bo3 bcap3).toArray) (by simp [results,Tryz.results8,go_sem,y4_0,z4_0,y4_1,z4_1,y4_2,z4_2,y4_3,z4_3,y4_4,z4_4,y4_5,z4_5,y4_6,z4_6,y4_7,z4_7,y4_8,z4_8,y4_9,z4_9,y4_10,z4_10,y4_11,z4_11,y4_12,z4_12,y4_13,z4_13,y4_14,z4_14]) rfl ?_;have F:OwnT zae w4 (w.heap.size+1+1+1) w4.heap.size d ((rwS d.shape)++([.slice bo1 d.groups.1 bcap1]++([.slice bo2 d.on.1 bcap2]++([.slice bo3 d.tapes.1 bcap3]++([.int .i64 d.writes]++([.int .i64 d.stop]++[.bool d.down])))))):=OwnT.conv (OwnT.pre (A:=(zde 9)) (a:=d.shape) (c:=(rwS d.shape)) ⟨rfl,Q0.out,rfl⟩ (OwnT.two O1.out (OwnT.two O2.out (OwnT.two O3.out (OwnT.pre (A:=layI) (a:=d.writes) (c:=[.int .i64 d.writes]) ⟨rfl,Q4.out,rfl⟩ (OwnT.pre (A:=layI) (a:=d.stop) (c:=[.int .i64 d.stop]) ⟨rfl,Q5.out,rfl⟩ (OwnT.nil (A:=layB) (a:=d.down) (c:=[.bool d.down]) ⟨rfl,trivial,rfl⟩ w4.heap.size w4.heap.size))) (by omega) (by omega) (by omega)) (by omega) (by omega) (by omega)) (by omega) (by omega) (by omega)))
 exact ⟨(rwW d bo1 bcap1 bo2 bcap2 bo3 bcap3),rfl,OwnT.fin F 11 0 [.slice bo3 d.tapes.1 bcap3,.int .i64 d.writes,.int .i64 d.stop,.bool d.down] (rwW d bo1 bcap1 bo2 bcap2 bo3 bcap3) _ rfl,zcx Bq.out 11 0 [.slice bo3 d.tapes.1 bcap3,.int .i64 d.writes,.int .i64 d.stop,.bool d.down] (rwW d bo1 bcap1 bo2 bcap2 bo3 bcap3) _ rfl⟩
set_option maxRecDepth 20000 in
theorem zhn:EqV zah 13:=fun c1 c2 d h1 h2 w r1 r2 u1 u2=>by
 obtain ⟨ao1,cap1,rfl,g1,-⟩:=zba r1;obtain ⟨bao1,bcap1,rfl,q1,-⟩:=zba r2;clear r1 r2;have G1:=hid g1;have E1:=hid q1;clear g1 q1
 go_enter Tryz.func13,Tryz.ntmps13
 go_wp2_with fail
 have T0:=zay w #[.int .i64 d.stamp,.slice ao1 d.bytes.1 cap1] #[.int .i64 d.stamp,.slice bao1 d.bytes.1 bcap1] 43 43;refine (zdg _ _ d.bytes h1 h2 _ (zad.rd_below G1.out T0.bel u1) (zad.rd_below E1.out T0.bel u2) (Nat.le_trans u1 T0.bel.size) (Nat.le_trans u2 T0.bel.size)).mono ?_;rintro e w1 ⟨rfl,b1⟩;have T1:Two w w1 #[.int .i64 d.stamp,.slice ao1 d.bytes.1 cap1] #[.int .i64 d.stamp,.slice bao1 d.bytes.1 bcap1] 43 43:=T0.call b1;clear T0 b1;have B:=hid T1.bel;clear T1;go_wp2;go_ret;exact ⟨rfl,B.out⟩
theorem zgk:EqS (zah.slice 43) 157:=fun v1 v2 d h1 h2 w r1 r2 u1 u2=>by
 obtain ⟨n,x⟩:=d;obtain ⟨ao,cap,hv,hm,hc⟩:=r1
 cases hv
 obtain ⟨ao',cap',hv',hm',hc'⟩:=r2
 cases hv'
 simp only at hm hc hc'
 unfold maxLen at hm;clear hm'
 go_enter Tryz.func157,Tryz.ntmps157
 go_wp2
 go_loopw [5] (fun i wr=>∃ k:Nat,k≤n∧i=.int .i64 k∧Below w.heap.size w wr) (fun i _=>n-(intOf i).toNat)
 case atStart=>exact ⟨0,Nat.zero_le _,rfl,Below.refl _ _⟩
 case round=>
  obtain ⟨k,hk,rfl,hb⟩:=hrel
  by_cases hlt:k<n
  ·obtain ⟨b,off,rfl,hblt,hel⟩:=hc (by omega)
   obtain ⟨b',off',rfl,hblt',hel'⟩:=hc' (by omega);obtain ⟨ck,hrk,hcell⟩:=zas (t:=0) hel (below_drewN hb 1) u1 hblt hlt;obtain ⟨ck',hrk',hcell'⟩:=zas (t:=0) hel' (below_drewN hb 1) u2 hblt' hlt;obtain ⟨ao1,cap1,rfl,-⟩:=zba hrk;obtain ⟨bao1,bcap1,rfl,-⟩:=zba hrk';have c0:wr.cell? ⟨b,off+k*2,none⟩=some (.int .i64 (x k).stamp):=hcell 0 (by decide);have c1:wr.cell? ⟨b,off+k*2+1,none⟩=some (.slice ao1 (x k).bytes.1 cap1):=hcell 1 (by decide);have e0:wr.cell? ⟨b',off'+k*2,none⟩=some (.int .i64 (x k).stamp):=hcell' 0 (by decide);have e1:wr.cell? ⟨b',off'+k*2+1,none⟩=some (.slice bao1 (x k).bytes.1 bcap1):=hcell' 1 (by decide);have C1:=zhn _ _ (x k) h1 h2 (wr.drewN 1) hrk hrk' (Nat.le_trans u1 hb.size) (Nat.le_trans u2 hb.size);clear hc hc' hel hel' hcell hcell' hrk hrk';go_wp2
   go_region_with (go_at_call 13;refine C1.mono ?_;rintro ee w2 ⟨rfl,hb2⟩)
   all_goals
    have R':Below w.heap.size w w2:=hb.trans ((below_drewN (Below.refl wr.heap.size wr) 1).trans hb2 |>.mono hb.size);clear hb2;go_wp2
    go_roundw
    case rel=>exact ⟨k+1,by omega,by go_num,R'⟩
    case measure=>simp [intOf];omega
  ·obtain rfl:k=n:=by omega
   go_wp2;go_ret;exact ⟨rfl,hb⟩
set_option maxRecDepth 20000 in
theorem zho:EqV zab 128:=fun c1 c2 d h1 h2 w r1 r2 u1 u2=>by
 obtain ⟨ao1,cap1,rfl,g1⟩:=zbh r1;obtain ⟨bao1,bcap1,rfl,q1⟩:=zbh r2;clear r1 r2;have G1:=hid g1;have E1:=hid q1;clear g1 q1
 go_enter Tryz.func128,Tryz.ntmps128
 go_wp2_with fail
 have T0:=zay w #[.bool d.wiped,.slice ao1 d.blocks.1 cap1] #[.bool d.wiped,.slice bao1 d.blocks.1 bcap1] 75 75;refine (zgk _ _ d.blocks h1 h2 _ ((zah.slice 43).rd_below G1.out T0.bel u1) ((zah.slice 43).rd_below E1.out T0.bel u2) (Nat.le_trans u1 T0.bel.size) (Nat.le_trans u2 T0.bel.size)).mono ?_;rintro e w1 ⟨rfl,b1⟩;have T1:Two w w1 #[.bool d.wiped,.slice ao1 d.blocks.1 cap1] #[.bool d.wiped,.slice bao1 d.blocks.1 bcap1] 75 75:=T0.call b1;clear T0 b1;have B:=hid T1.bel;clear T1;go_wp2;go_ret;exact ⟨rfl,B.out⟩
theorem zgl:EqS (zab.slice 75) 82:=fun v1 v2 d h1 h2 w r1 r2 u1 u2=>by
 obtain ⟨n,x⟩:=d;obtain ⟨ao,cap,hv,hm,hc⟩:=r1
 cases hv
 obtain ⟨ao',cap',hv',hm',hc'⟩:=r2
 cases hv'
 simp only at hm hc hc'
 unfold maxLen at hm;clear hm'
 go_enter Tryz.func82,Tryz.ntmps82
 go_wp2
 go_loopw [5] (fun i wr=>∃ k:Nat,k≤n∧i=.int .i64 k∧Below w.heap.size w wr) (fun i _=>n-(intOf i).toNat)
 case atStart=>exact ⟨0,Nat.zero_le _,rfl,Below.refl _ _⟩
 case round=>
  obtain ⟨k,hk,rfl,hb⟩:=hrel
  by_cases hlt:k<n
  ·obtain ⟨b,off,rfl,hblt,hel⟩:=hc (by omega)
   obtain ⟨b',off',rfl,hblt',hel'⟩:=hc' (by omega);obtain ⟨ck,hrk,hcell⟩:=zas (t:=0) hel (below_drewN hb 1) u1 hblt hlt;obtain ⟨ck',hrk',hcell'⟩:=zas (t:=0) hel' (below_drewN hb 1) u2 hblt' hlt;obtain ⟨ao1,cap1,rfl,-⟩:=zbh hrk;obtain ⟨bao1,bcap1,rfl,-⟩:=zbh hrk';have c0:wr.cell? ⟨b,off+k*2,none⟩=some (.bool (x k).wiped):=hcell 0 (by decide);have c1:wr.cell? ⟨b,off+k*2+1,none⟩=some (.slice ao1 (x k).blocks.1 cap1):=hcell 1 (by decide);have e0:wr.cell? ⟨b',off'+k*2,none⟩=some (.bool (x k).wiped):=hcell' 0 (by decide);have e1:wr.cell? ⟨b',off'+k*2+1,none⟩=some (.slice bao1 (x k).blocks.1 bcap1):=hcell' 1 (by decide);have C1:=zho _ _ (x k) h1 h2 (wr.drewN 1) hrk hrk' (Nat.le_trans u1 hb.size) (Nat.le_trans u2 hb.size);clear hc hc' hel hel' hcell hcell' hrk hrk';go_wp2
   go_region_with (go_at_call 128;refine C1.mono ?_;rintro ee w2 ⟨rfl,hb2⟩)
   all_goals
    have R':Below w.heap.size w w2:=hb.trans ((below_drewN (Below.refl wr.heap.size wr) 1).trans hb2 |>.mono hb.size);clear hb2;go_wp2
    go_roundw
    case rel=>exact ⟨k+1,by omega,by go_num,R'⟩
    case measure=>simp [intOf];omega
  ·obtain rfl:k=n:=by omega
   go_wp2;go_ret;exact ⟨rfl,hb⟩
theorem zfx:EqS ((zab.slice 75).slice 76) 49:=fun v1 v2 d h1 h2 w r1 r2 u1 u2=>by
 obtain ⟨n,x⟩:=d;obtain ⟨ao,cap,hv,hm,hc⟩:=r1
 cases hv
 obtain ⟨ao',cap',hv',hm',hc'⟩:=r2
 cases hv'
 simp only at hm hc hc'
 unfold maxLen at hm;clear hm'
 go_enter Tryz.func49,Tryz.ntmps49
 go_wp2
 go_loopw [5] (fun i wr=>∃ k:Nat,k≤n∧i=.int .i64 k∧Below w.heap.size w wr) (fun i _=>n-(intOf i).toNat)
 case atStart=>exact ⟨0,Nat.zero_le _,rfl,Below.refl _ _⟩
 case round=>
  obtain ⟨k,hk,rfl,hb⟩:=hrel
  by_cases hlt:k<n
  ·obtain ⟨b,off,rfl,hblt,hel⟩:=hc (by omega)
   obtain ⟨b',off',rfl,hblt',hel'⟩:=hc' (by omega);obtain ⟨ck,hrk,hcell⟩:=zas (t:=0) hel (below_drewN hb 1) u1 hblt hlt;obtain ⟨ck',hrk',hcell'⟩:=zas (t:=0) hel' (below_drewN hb 1) u2 hblt' hlt;obtain ⟨ao9,cap9,rfl⟩:=zbq hrk;obtain ⟨bao9,bcap9,rfl⟩:=zbq hrk'
   have c0:wr.cell? ⟨b,off+k,none⟩=some (.slice ao9 (x k).1 cap9):=by
    have h:=hcell 0 (show 0<1 by decide);rw [show (zab.slice 75).sz=1 from rfl,Nat.mul_one,Nat.add_zero] at h;exact h
   have e0:wr.cell? ⟨b',off'+k,none⟩=some (.slice bao9 (x k).1 bcap9):=by
    have h:=hcell' 0 (show 0<1 by decide);rw [show (zab.slice 75).sz=1 from rfl,Nat.mul_one,Nat.add_zero] at h;exact h
   have C1:=zgl _ _ (x k) h1 h2 (wr.drewN 1) hrk hrk' (Nat.le_trans u1 hb.size) (Nat.le_trans u2 hb.size);clear hc hc' hel hel' hcell hcell' hrk hrk';go_wp2
   go_region_with (go_at_call 82;refine C1.mono ?_;rintro ee w2 ⟨rfl,hb2⟩)
   all_goals
    have R':Below w.heap.size w w2:=hb.trans ((below_drewN (Below.refl wr.heap.size wr) 1).trans hb2 |>.mono hb.size);clear hb2;go_wp2
    go_roundw
    case rel=>exact ⟨k+1,by omega,by go_num,R'⟩
    case measure=>simp [intOf];omega
  ·obtain rfl:k=n:=by omega
   go_wp2;go_ret;exact ⟨rfl,hb⟩
set_option maxRecDepth 20000 in
theorem zgY:EqV zac 22:=fun c1 c2 d h1 h2 w r1 r2 u1 u2=>by
 obtain ⟨ao6,cap6,ao7,cap7,ao8,cap8,rfl,g6,g7,g8,-⟩:=zbd r1;obtain ⟨bao6,bcap6,bao7,bcap7,bao8,bcap8,rfl,q6,q7,q8,-⟩:=zbd r2;clear r1 r2;have G6:=hid g6;have E6:=hid q6;have G7:=hid g7;have E7:=hid q7;have G8:=hid g8;have E8:=hid q8;clear g6 q6 g7 q7 g8 q8
 go_enter Tryz.func22,Tryz.ntmps22
 go_wp2_with fail
 have T0:=zay w (rwR d ao6 cap6 ao7 cap7 ao8 cap8).toArray (rwR d bao6 bcap6 bao7 bcap7 bao8 bcap8).toArray 56 56;refine (zfk _ _ d.rows h1 h2 _ (zai.rd_below G6.out T0.bel u1) (zai.rd_below E6.out T0.bel u2) (Nat.le_trans u1 T0.bel.size) (Nat.le_trans u2 T0.bel.size)).mono ?_;rintro e w1 ⟨rfl,b1⟩;have T1:Two w w1 (rwR d ao6 cap6 ao7 cap7 ao8 cap8).toArray (rwR d bao6 bcap6 bao7 bcap7 bao8 bcap8).toArray 56 56:=T0.call b1;clear T0 b1;have x1_7:w1.cell? ⟨w.heap.size,7,none⟩=some (.slice ao7 d.data.1 cap7):=T1.b1.cell 7;have y1_7:w1.cell? ⟨w.heap.size+1,7,none⟩=some (.slice bao7 d.data.1 bcap7):=T1.b2.cell 7
 go_wp2_with fail
 refine (zdg _ _ d.data h1 h2 _ (zad.rd_below G7.out T1.bel u1) (zad.rd_below E7.out T1.bel u2) (Nat.le_trans u1 T1.bel.size) (Nat.le_trans u2 T1.bel.size)).mono ?_;rintro e w2 ⟨rfl,b2⟩;have T2:Two w w2 (rwR d ao6 cap6 ao7 cap7 ao8 cap8).toArray (rwR d bao6 bcap6 bao7 bcap7 bao8 bcap8).toArray 56 56:=T1.call b2;clear T1 b2;have x2_8:w2.cell? ⟨w.heap.size,8,none⟩=some (.slice ao8 d.delta.1 cap8):=T2.b1.cell 8;have y2_8:w2.cell? ⟨w.heap.size+1,8,none⟩=some (.slice bao8 d.delta.1 bcap8):=T2.b2.cell 8
 go_wp2_with fail
 refine (zdg _ _ d.delta h1 h2 _ (zad.rd_below G8.out T2.bel u1) (zad.rd_below E8.out T2.bel u2) (Nat.le_trans u1 T2.bel.size) (Nat.le_trans u2 T2.bel.size)).mono ?_;rintro e w3 ⟨rfl,b3⟩;have T3:Two w w3 (rwR d ao6 cap6 ao7 cap7 ao8 cap8).toArray (rwR d bao6 bcap6 bao7 bcap7 bao8 bcap8).toArray 56 56:=T2.call b3;clear T2 b3;have B:=hid T3.bel;clear T3;go_wp2;go_ret;exact ⟨rfl,B.out⟩
theorem zhV:EqS (zac.slice 56) 129:=fun v1 v2 d h1 h2 w r1 r2 u1 u2=>by
 obtain ⟨n,x⟩:=d;obtain ⟨ao,cap,hv,hm,hc⟩:=r1
 cases hv
 obtain ⟨ao',cap',hv',hm',hc'⟩:=r2
 cases hv'
 simp only at hm hc hc'
 unfold maxLen at hm;clear hm'
 go_enter Tryz.func129,Tryz.ntmps129
 go_wp2
 go_loopw [5] (fun i wr=>∃ k:Nat,k≤n∧i=.int .i64 k∧Below w.heap.size w wr) (fun i _=>n-(intOf i).toNat)
 case atStart=>exact ⟨0,Nat.zero_le _,rfl,Below.refl _ _⟩
 case round=>
  obtain ⟨k,hk,rfl,hb⟩:=hrel
  by_cases hlt:k<n
  ·obtain ⟨b,off,rfl,hblt,hel⟩:=hc (by omega)
   obtain ⟨b',off',rfl,hblt',hel'⟩:=hc' (by omega);obtain ⟨ck,hrk,hcell⟩:=zas (t:=0) hel (below_drewN hb 1) u1 hblt hlt;obtain ⟨ck',hrk',hcell'⟩:=zas (t:=0) hel' (below_drewN hb 1) u2 hblt' hlt;obtain ⟨ao6,cap6,ao7,cap7,ao8,cap8,rfl,-⟩:=zbd hrk;obtain ⟨bao6,bcap6,bao7,bcap7,bao8,bcap8,rfl,-⟩:=zbd hrk';have c0:wr.cell? ⟨b,off+k*9,none⟩=some (.int .i64 (x k).kind):=hcell 0 (by decide);have c1:wr.cell? ⟨b,off+k*9+1,none⟩=some (.int .i64 (x k).seq):=hcell 1 (by decide);have c2:wr.cell? ⟨b,off+k*9+2,none⟩=some (.string (x k).name):=hcell 2 (by decide);have c3:wr.cell? ⟨b,off+k*9+3,none⟩=some (.int .i64 (x k).length):=hcell 3 (by decide);have c4:wr.cell? ⟨b,off+k*9+4,none⟩=some (.int .i64 (x k).group):=hcell 4 (by decide);have c5:wr.cell? ⟨b,off+k*9+5,none⟩=some (.int .i64 (x k).row):=hcell 5 (by decide);have c6:wr.cell? ⟨b,off+k*9+6,none⟩=some (.slice ao6 (x k).rows.1 cap6):=hcell 6 (by decide);have c7:wr.cell? ⟨b,off+k*9+7,none⟩=some (.slice ao7 (x k).data.1 cap7):=hcell 7 (by decide);have c8:wr.cell? ⟨b,off+k*9+8,none⟩=some (.slice ao8 (x k).delta.1 cap8):=hcell 8 (by decide);have e0:wr.cell? ⟨b',off'+k*9,none⟩=some (.int .i64 (x k).kind):=hcell' 0 (by decide);have e1:wr.cell? ⟨b',off'+k*9+1,none⟩=some (.int .i64 (x k).seq):=hcell' 1 (by decide);have e2:wr.cell? ⟨b',off'+k*9+2,none⟩=some (.string (x k).name):=hcell' 2 (by decide);have e3:wr.cell? ⟨b',off'+k*9+3,none⟩=some (.int .i64 (x k).length):=hcell' 3 (by decide);have e4:wr.cell? ⟨b',off'+k*9+4,none⟩=some (.int .i64 (x k).group):=hcell' 4 (by decide);have e5:wr.cell? ⟨b',off'+k*9+5,none⟩=some (.int .i64 (x k).row):=hcell' 5 (by decide);have e6:wr.cell? ⟨b',off'+k*9+6,none⟩=some (.slice bao6 (x k).rows.1 bcap6):=hcell' 6 (by decide);have e7:wr.cell? ⟨b',off'+k*9+7,none⟩=some (.slice bao7 (x k).data.1 bcap7):=hcell' 7 (by decide);have e8:wr.cell? ⟨b',off'+k*9+8,none⟩=some (.slice bao8 (x k).delta.1 bcap8):=hcell' 8 (by decide);have C1:=zgY _ _ (x k) h1 h2 (wr.drewN 1) hrk hrk' (Nat.le_trans u1 hb.size) (Nat.le_trans u2 hb.size);clear hc hc' hel hel' hcell hcell' hrk hrk';go_wp2
   go_region_with (go_at_call 22;refine C1.mono ?_;rintro ee w2 ⟨rfl,hb2⟩)
   all_goals
    have R':Below w.heap.size w w2:=hb.trans ((below_drewN (Below.refl wr.heap.size wr) 1).trans hb2 |>.mono hb.size);clear hb2;go_wp2
    go_roundw
    case rel=>exact ⟨k+1,by omega,by go_num,R'⟩
    case measure=>simp [intOf];omega
  ·obtain rfl:k=n:=by omega
   go_wp2;go_ret;exact ⟨rfl,hb⟩
set_option maxRecDepth 20000 in
theorem zhW:EqV zag 83:=fun c1 c2 d h1 h2 w r1 r2 u1 u2=>by
 obtain ⟨ao1,cap1,rfl,g1⟩:=za1 r1;obtain ⟨bao1,bcap1,rfl,q1⟩:=za1 r2;clear r1 r2;have G1:=hid g1;have E1:=hid q1;clear g1 q1
 go_enter Tryz.func83,Tryz.ntmps83
 go_wp2_with fail
 have T0:=zay w #[.bool d.wiped,.slice ao1 d.recs.1 cap1] #[.bool d.wiped,.slice bao1 d.recs.1 bcap1] 100 100;refine (zhV _ _ d.recs h1 h2 _ ((zac.slice 56).rd_below G1.out T0.bel u1) ((zac.slice 56).rd_below E1.out T0.bel u2) (Nat.le_trans u1 T0.bel.size) (Nat.le_trans u2 T0.bel.size)).mono ?_;rintro e w1 ⟨rfl,b1⟩;have T1:Two w w1 #[.bool d.wiped,.slice ao1 d.recs.1 cap1] #[.bool d.wiped,.slice bao1 d.recs.1 bcap1] 100 100:=T0.call b1;clear T0 b1;have B:=hid T1.bel;clear T1;go_wp2;go_ret;exact ⟨rfl,B.out⟩
theorem zhp:EqS (zag.slice 100) 51:=fun v1 v2 d h1 h2 w r1 r2 u1 u2=>by
 obtain ⟨n,x⟩:=d;obtain ⟨ao,cap,hv,hm,hc⟩:=r1
 cases hv
 obtain ⟨ao',cap',hv',hm',hc'⟩:=r2
 cases hv'
 simp only at hm hc hc'
 unfold maxLen at hm;clear hm'
 go_enter Tryz.func51,Tryz.ntmps51
 go_wp2
 go_loopw [5] (fun i wr=>∃ k:Nat,k≤n∧i=.int .i64 k∧Below w.heap.size w wr) (fun i _=>n-(intOf i).toNat)
 case atStart=>exact ⟨0,Nat.zero_le _,rfl,Below.refl _ _⟩
 case round=>
  obtain ⟨k,hk,rfl,hb⟩:=hrel
  by_cases hlt:k<n
  ·obtain ⟨b,off,rfl,hblt,hel⟩:=hc (by omega)
   obtain ⟨b',off',rfl,hblt',hel'⟩:=hc' (by omega);obtain ⟨ck,hrk,hcell⟩:=zas (t:=0) hel (below_drewN hb 1) u1 hblt hlt;obtain ⟨ck',hrk',hcell'⟩:=zas (t:=0) hel' (below_drewN hb 1) u2 hblt' hlt;obtain ⟨ao1,cap1,rfl,-⟩:=za1 hrk;obtain ⟨bao1,bcap1,rfl,-⟩:=za1 hrk';have c0:wr.cell? ⟨b,off+k*2,none⟩=some (.bool (x k).wiped):=hcell 0 (by decide);have c1:wr.cell? ⟨b,off+k*2+1,none⟩=some (.slice ao1 (x k).recs.1 cap1):=hcell 1 (by decide);have e0:wr.cell? ⟨b',off'+k*2,none⟩=some (.bool (x k).wiped):=hcell' 0 (by decide);have e1:wr.cell? ⟨b',off'+k*2+1,none⟩=some (.slice bao1 (x k).recs.1 bcap1):=hcell' 1 (by decide);have C1:=zhW _ _ (x k) h1 h2 (wr.drewN 1) hrk hrk' (Nat.le_trans u1 hb.size) (Nat.le_trans u2 hb.size);clear hc hc' hel hel' hcell hcell' hrk hrk';go_wp2
   go_region_with (go_at_call 83;refine C1.mono ?_;rintro ee w2 ⟨rfl,hb2⟩)
   all_goals
    have R':Below w.heap.size w w2:=hb.trans ((below_drewN (Below.refl wr.heap.size wr) 1).trans hb2 |>.mono hb.size);clear hb2;go_wp2
    go_roundw
    case rel=>exact ⟨k+1,by omega,by go_num,R'⟩
    case measure=>simp [intOf];omega
  ·obtain rfl:k=n:=by omega
   go_wp2;go_ret;exact ⟨rfl,hb⟩
theorem zgm (s:Nat→Int) (w:World) :
 Calls Tryz.prog 48 #[zak s,zak s] w fun e w'=>e=.returned (.bool true)∧Below w.heap.size w w':=by
 unfold zak
 go_enter Tryz.func48,Tryz.ntmps48
 go_wp2;go_ret;exact ⟨rfl,((Below.refl _ _).alloc (Nat.le_refl _) _).alloc (by simp) _⟩
set_option maxRecDepth 20000 in
theorem zet:EqV zae 12:=fun c1 c2 d h1 h2 w r1 r2 u1 u2=>by
 obtain ⟨ao1,cap1,ao2,cap2,ao3,cap3,rfl,g1,g2,g3,-⟩:=zaR r1;obtain ⟨bao1,bcap1,bao2,bcap2,bao3,bcap3,rfl,q1,q2,q3,-⟩:=zaR r2;clear r1 r2;have G1:=hid g1;have E1:=hid q1;have G2:=hid g2;have E2:=hid q2;have G3:=hid g3;have E3:=hid q3;clear g1 q1 g2 q2 g3 q3
 go_enter Tryz.func12,Tryz.ntmps12
 go_wp2_with fail
 have T0:=zay w (rwW d ao1 cap1 ao2 cap2 ao3 cap3).toArray (rwW d bao1 bcap1 bao2 bcap2 bao3 bcap3).toArray 38 38;refine (zgm d.shape _).mono ?_;rintro e w1 ⟨rfl,b1⟩;have T1:Two w w1 (rwW d ao1 cap1 ao2 cap2 ao3 cap3).toArray (rwW d bao1 bcap1 bao2 bcap2 bao3 bcap3).toArray 38 38:=T0.call b1;clear T0 b1;have x1_9:w1.cell? ⟨w.heap.size,9,none⟩=some (.slice ao1 d.groups.1 cap1):=T1.b1.cell 9;have y1_9:w1.cell? ⟨w.heap.size+1,9,none⟩=some (.slice bao1 d.groups.1 bcap1):=T1.b2.cell 9
 go_wp2_with fail
 refine (zfx _ _ d.groups h1 h2 _ (((zab.slice 75).slice 76).rd_below G1.out T1.bel u1) (((zab.slice 75).slice 76).rd_below E1.out T1.bel u2) (Nat.le_trans u1 T1.bel.size) (Nat.le_trans u2 T1.bel.size)).mono ?_;rintro e w2 ⟨rfl,b2⟩;have T2:Two w w2 (rwW d ao1 cap1 ao2 cap2 ao3 cap3).toArray (rwW d bao1 bcap1 bao2 bcap2 bao3 bcap3).toArray 38 38:=T1.call b2;clear T1 b2;have x2_10:w2.cell? ⟨w.heap.size,10,none⟩=some (.slice ao2 d.on.1 cap2):=T2.b1.cell 10;have y2_10:w2.cell? ⟨w.heap.size+1,10,none⟩=some (.slice bao2 d.on.1 bcap2):=T2.b2.cell 10
 go_wp2_with fail
 refine (zfk _ _ d.on h1 h2 _ (zai.rd_below G2.out T2.bel u1) (zai.rd_below E2.out T2.bel u2) (Nat.le_trans u1 T2.bel.size) (Nat.le_trans u2 T2.bel.size)).mono ?_;rintro e w3 ⟨rfl,b3⟩;have T3:Two w w3 (rwW d ao1 cap1 ao2 cap2 ao3 cap3).toArray (rwW d bao1 bcap1 bao2 bcap2 bao3 bcap3).toArray 38 38:=T2.call b3;clear T2 b3;have x3_11:w3.cell? ⟨w.heap.size,11,none⟩=some (.slice ao3 d.tapes.1 cap3):=T3.b1.cell 11;have y3_11:w3.cell? ⟨w.heap.size+1,11,none⟩=some (.slice bao3 d.tapes.1 bcap3):=T3.b2.cell 11
 go_wp2_with fail
 refine (zhp _ _ d.tapes h1 h2 _ ((zag.slice 100).rd_below G3.out T3.bel u1) ((zag.slice 100).rd_below E3.out T3.bel u2) (Nat.le_trans u1 T3.bel.size) (Nat.le_trans u2 T3.bel.size)).mono ?_;rintro e w4 ⟨rfl,b4⟩;have T4:Two w w4 (rwW d ao1 cap1 ao2 cap2 ao3 cap3).toArray (rwW d bao1 bcap1 bao2 bcap2 bao3 bcap3).toArray 38 38:=T3.call b4;clear T3 b4;have x4_12:w4.cell? ⟨w.heap.size,12,none⟩=some (.int .i64 d.writes):=T4.b1.cell 12;have y4_12:w4.cell? ⟨w.heap.size+1,12,none⟩=some (.int .i64 d.writes):=T4.b2.cell 12;have x4_13:w4.cell? ⟨w.heap.size,13,none⟩=some (.int .i64 d.stop):=T4.b1.cell 13;have y4_13:w4.cell? ⟨w.heap.size+1,13,none⟩=some (.int .i64 d.stop):=T4.b2.cell 13;have x4_14:w4.cell? ⟨w.heap.size,14,none⟩=some (.bool d.down):=T4.b1.cell 14;have y4_14:w4.cell? ⟨w.heap.size+1,14,none⟩=some (.bool d.down):=T4.b2.cell 14;have B:=hid T4.bel;clear T4;go_wp2;go_ret;exact ⟨rfl,B.out⟩
set_option maxRecDepth 20000 in
theorem zdx:EqV zaj 11:=fun c1 c2 d h1 h2 w r1 r2 u1 u2=>by
 obtain ⟨ao1_1,cap1_1,ao1_2,cap1_2,ao1_3,cap1_3,rfl,g1,-⟩:=zbO r1;obtain ⟨bao1_1,bcap1_1,bao1_2,bcap1_2,bao1_3,bcap1_3,rfl,q1,-⟩:=zbO r2;clear r1 r2;have G1:=hid g1;have E1:=hid q1;clear g1 q1
 go_enter Tryz.func11,Tryz.ntmps11
 go_wp2_with fail
 have T0:=zay w #[.int .i64 d.code,.int .i64 (d.world.shape 0),.int .i64 (d.world.shape 1),.int .i64 (d.world.shape 2),.int .i64 (d.world.shape 3),.int .i64 (d.world.shape 4),.int .i64 (d.world.shape 5),.int .i64 (d.world.shape 6),.int .i64 (d.world.shape 7),.int .i64 (d.world.shape 8),.slice ao1_1 d.world.groups.1 cap1_1,.slice ao1_2 d.world.on.1 cap1_2,.slice ao1_3 d.world.tapes.1 cap1_3,.int .i64 d.world.writes,.int .i64 d.world.stop,.bool d.world.down] #[.int .i64 d.code,.int .i64 (d.world.shape 0),.int .i64 (d.world.shape 1),.int .i64 (d.world.shape 2),.int .i64 (d.world.shape 3),.int .i64 (d.world.shape 4),.int .i64 (d.world.shape 5),.int .i64 (d.world.shape 6),.int .i64 (d.world.shape 7),.int .i64 (d.world.shape 8),.slice bao1_1 d.world.groups.1 bcap1_1,.slice bao1_2 d.world.on.1 bcap1_2,.slice bao1_3 d.world.tapes.1 bcap1_3,.int .i64 d.world.writes,.int .i64 d.world.stop,.bool d.world.down] 40 40;refine (zet _ _ d.world h1 h2 _ (zae.rd_below G1.out T0.bel u1) (zae.rd_below E1.out T0.bel u2) (Nat.le_trans u1 T0.bel.size) (Nat.le_trans u2 T0.bel.size)).mono ?_;rintro e w1 ⟨rfl,b1⟩;have T1:Two w w1 #[.int .i64 d.code,.int .i64 (d.world.shape 0),.int .i64 (d.world.shape 1),.int .i64 (d.world.shape 2),.int .i64 (d.world.shape 3),.int .i64 (d.world.shape 4),.int .i64 (d.world.shape 5),.int .i64 (d.world.shape 6),.int .i64 (d.world.shape 7),.int .i64 (d.world.shape 8),.slice ao1_1 d.world.groups.1 cap1_1,.slice ao1_2 d.world.on.1 cap1_2,.slice ao1_3 d.world.tapes.1 cap1_3,.int .i64 d.world.writes,.int .i64 d.world.stop,.bool d.world.down] #[.int .i64 d.code,.int .i64 (d.world.shape 0),.int .i64 (d.world.shape 1),.int .i64 (d.world.shape 2),.int .i64 (d.world.shape 3),.int .i64 (d.world.shape 4),.int .i64 (d.world.shape 5),.int .i64 (d.world.shape 6),.int .i64 (d.world.shape 7),.int .i64 (d.world.shape 8),.slice bao1_1 d.world.groups.1 bcap1_1,.slice bao1_2 d.world.on.1 bcap1_2,.slice bao1_3 d.world.tapes.1 bcap1_3,.int .i64 d.world.writes,.int .i64 d.world.stop,.bool d.world.down] 40 40:=T0.call b1;clear T0 b1;have B:=hid T1.bel;clear T1;go_wp2;go_ret;exact ⟨rfl,B.out⟩
theorem zis (J:Nat):((J:Int)%3==0)=decide (J%3=0):=by
 by_cases h:J%3=0
 ·have:(J:Int)%3=0:=by omega
  simp [h,this]
 ·have:¬ (J:Int)%3=0:=by omega
  simp [h,this]
theorem zeH:MkS (zah.slice 43) (cSl zau) (mkSl zau za4) 130:=fun v d L j w h nd hj=>by
 obtain ⟨n,x⟩:=d
 by_cases h0:n=0
 ·subst h0
  have hown:(zah.slice 43).own w (mkSl zau za4 j (0,x)) [v] L:=zb2 h rfl (fun i hi=>absurd hi (Nat.not_lt_zero i));obtain ⟨ao,cap,hv⟩:=zbN h;obtain rfl:=zaL hv;clear h hv
  go_enter Tryz.func130,Tryz.ntmps130
  go_wp2
  go_loopw [1,5] (fun y i wr=>y=.int .i64 j∧i=.int .i64 0∧wr=w) (fun _ _ _=>0)
  case atStart=>exact ⟨rfl,rfl,rfl⟩
  case round=>
   obtain ⟨rfl,rfl,rfl⟩:=hrel;go_wp2;go_ret;exact ⟨zcp (by simp [cSl,sumN]),hown,ChgL.refl _ _⟩
 ·obtain ⟨g,cap,ce,Ls,hv,rfl,so⟩:=zbI h h0
  obtain rfl:=zaL hv;obtain ⟨_,_,_,hm,_⟩:=(zah.slice 43).own_rd (hi:=w.heap.size) h ((zah.slice 43).own_lt h)
  simp only at hm
  unfold maxLen at hm;clear h hv
  simp only at so nd
  have hj':j+sumN (fun i=>zau (x i)) n≤100000000:=hj;clear hj;have ND:=hid nd;clear nd
  go_enter Tryz.func130,Tryz.ntmps130
  go_wp2
  go_loopw [1,5] (fun y i wr=>∃ k:Nat,k≤n∧i=.int .i64 k∧y=.int .i64 ((j+sumN (fun i=>zau (x i)) k:Nat):Int)∧∃ ce,SlO zah 43 wr g cap n (mkTo zau za4 j x k) ce Ls∧ChgL (g::catN n Ls) w wr) (fun _ i _=>n-(intOf i).toNat)
  case atStart=>exact ⟨0,Nat.zero_le _,rfl,rfl,ce,by rw [zcz];exact so,ChgL.refl _ _⟩
  case round=>
   clear so;obtain ⟨k,hk,rfl,rfl,ce,so,ch⟩:=hrel
   by_cases hlt:k<n
   ·have S0:=so.at_ k
    rw [zdI] at S0;obtain ⟨ao1,cap1,K1,hcs,hL,o1,k0⟩:=zfo (S0.own hlt);rw [hcs] at S0;have HL:=hid hL;have hgn:=zgT ND.out hlt;have hnd:=zc5 ND.out k hlt;rw [hL] at hgn hnd;have hs1:sumN (fun i=>zau (x i)) (k+1)≤sumN (fun i=>zau (x i)) n:=zbc _ (show k+1≤n from hlt);rw [zaG] at hs1;obtain ⟨J,hJ⟩:∃ J,J=j+sumN (fun i=>zau (x i)) k:=⟨_,rfl⟩
    have hJb:J+zau (x k)≤100000000:=by omega
    have HJ:=hid hJ;rw [← hJ];clear hs1 hJ hL hcs so;unfold zau at hJb;have CH:=hid ch;clear ch;have O1:=hid o1;clear o1;have Q0:=hid k0;clear k0;have c0_0:wr.cell? ⟨g,k*2,none⟩=some (.int .i64 (x k).stamp):=S0.cell hlt (show 0<zah.sz by decide);have f0_0:=S0.frozen (k*2);have c0_1:wr.cell? ⟨g,k*2+1,none⟩=some (.slice ao1 (x k).bytes.1 cap1):=S0.cell hlt (show 1<zah.sz by decide);have f0_1:=S0.frozen (k*2+1)
    go_wp2_with fail
    have S1:SlK zah 43 (wr.setCell ⟨g,k*2,none⟩ (.int .i64 (((J:Nat)):Int))) g cap n (mkTo zau za4 j x k) ce Ls k ⟨(((J:Nat)):Int),(x k).bytes⟩ [.int .i64 (((J:Nat)):Int),.slice ao1 (x k).bytes.1 cap1]:=S0.store ND.out hlt (show 0<zah.sz by decide) (.int .i64 (((J:Nat)):Int)) (by rw [HL.out];exact zgU ⟨(((J:Nat)):Int),(x k).bytes⟩ (O1.out) ((show -9223372036854775808≤(((J:Nat)):Int)∧(((J:Nat)):Int)≤9223372036854775807 by omega)));refine (zbQ _ (x k).bytes K1 (J+1) _ (zal (O1.out) hgn) hnd (by omega)).mono ?_;rintro e v1 ⟨rfl,p1,q1⟩;have OO1_1:=hid p1
    have SUB1:∀ b,b∈K1→b∈Ls k:=fun b hb=>by rw [HL.out];exact hb
    have S2:SlK zah 43 v1 g cap n (mkTo zau za4 j x k) ce Ls k ⟨(((J:Nat)):Int),(za0 (J+1) (x k).bytes)⟩ [.int .i64 (((J:Nat)):Int),.slice ao1 (x k).bytes.1 cap1]:=S1.into ND.out hlt (q1.mono (SUB1)) (by rw [HL.out];exact zgU ⟨(((J:Nat)):Int),(za0 (J+1) (x k).bytes)⟩ (OO1_1.out) ((show -9223372036854775808≤(((J:Nat)):Int)∧(((J:Nat)):Int)≤9223372036854775807 by omega)));have CH1:Hid (ChgL (g::catN n Ls) w v1):=((CH.out).st g _ _ (List.mem_cons_self ..)).sub q1 (fun b hb=>SlO.sub k hlt b ((SUB1) b hb));have FS:SlO zah 43 v1 g cap n (upd (mkTo zau za4 j x k) k (za4 J (x k))) (upd ce k [.int .i64 (((J:Nat)):Int),.slice ao1 (x k).bytes.1 cap1]) Ls:=S2;rw [HJ.out,zcy] at FS;have FS':Hid (∃ ce,SlO zah 43 v1 g cap n (mkTo zau za4 j x (k+1)) ce Ls):=⟨_,FS⟩;clear FS p1 q1
    go_wp2_with fail
    go_roundw
    case rel=>
     obtain ⟨ce',FS⟩:=FS'.out
     exact ⟨k+1,by omega,by go_num,zbr (by
      have e1:=HJ.out;have e2:sumN (fun i=>zau (x i)) (k+1)=sumN (fun i=>zau (x i)) k+zau (x k):=rfl;have e3:zau (x k)=1+lenD (x k).bytes:=rfl
      omega),ce',FS,CH1.out⟩
    case measure=>simp [intOf];omega
   ·obtain rfl:k=n:=by omega
    go_wp2;go_ret;exact ⟨rfl,(so.congr (fun i hi=>zcA zau za4 j x k i hi)).own,ch⟩
theorem zeI:MkS (zab.slice 75) (cSl zaf) (mkSl zaf zaD) 84:=fun v d L j w h nd hj=>by
 obtain ⟨n,x⟩:=d
 by_cases h0:n=0
 ·subst h0
  have hown:(zab.slice 75).own w (mkSl zaf zaD j (0,x)) [v] L:=zb2 h rfl (fun i hi=>absurd hi (Nat.not_lt_zero i));obtain ⟨ao,cap,hv⟩:=zbN h;obtain rfl:=zaL hv;clear h hv
  go_enter Tryz.func84,Tryz.ntmps84
  go_wp2
  go_loopw [1,5] (fun y i wr=>y=.int .i64 j∧i=.int .i64 0∧wr=w) (fun _ _ _=>0)
  case atStart=>exact ⟨rfl,rfl,rfl⟩
  case round=>
   obtain ⟨rfl,rfl,rfl⟩:=hrel;go_wp2;go_ret;exact ⟨zcp (by simp [cSl,sumN]),hown,ChgL.refl _ _⟩
 ·obtain ⟨g,cap,ce,Ls,hv,rfl,so⟩:=zbI h h0
  obtain rfl:=zaL hv;obtain ⟨_,_,_,hm,_⟩:=(zab.slice 75).own_rd (hi:=w.heap.size) h ((zab.slice 75).own_lt h)
  simp only at hm
  unfold maxLen at hm;clear h hv
  simp only at so nd
  have hj':j+sumN (fun i=>zaf (x i)) n≤100000000:=hj;clear hj;have ND:=hid nd;clear nd
  go_enter Tryz.func84,Tryz.ntmps84
  go_wp2
  go_loopw [1,5] (fun y i wr=>∃ k:Nat,k≤n∧i=.int .i64 k∧y=.int .i64 ((j+sumN (fun i=>zaf (x i)) k:Nat):Int)∧∃ ce,SlO zab 75 wr g cap n (mkTo zaf zaD j x k) ce Ls∧ChgL (g::catN n Ls) w wr) (fun _ i _=>n-(intOf i).toNat)
  case atStart=>exact ⟨0,Nat.zero_le _,rfl,rfl,ce,by rw [zcz];exact so,ChgL.refl _ _⟩
  case round=>
   clear so;obtain ⟨k,hk,rfl,rfl,ce,so,ch⟩:=hrel
   by_cases hlt:k<n
   ·have S0:=so.at_ k
    rw [zdI] at S0;obtain ⟨ao1,cap1,K1,hcs,hL,o1⟩:=zfq (S0.own hlt);rw [hcs] at S0;have HL:=hid hL;have hgn:=zgT ND.out hlt;have hnd:=zc5 ND.out k hlt;rw [hL] at hgn hnd;have hs1:sumN (fun i=>zaf (x i)) (k+1)≤sumN (fun i=>zaf (x i)) n:=zbc _ (show k+1≤n from hlt);rw [zaG] at hs1;obtain ⟨J,hJ⟩:∃ J,J=j+sumN (fun i=>zaf (x i)) k:=⟨_,rfl⟩
    have hJb:J+zaf (x k)≤100000000:=by omega
    have HJ:=hid hJ;rw [← hJ];clear hs1 hJ hL hcs so;unfold zaf at hJb;have CH:=hid ch;clear ch;have O1:=hid o1;clear o1;have hb3:((J:Int)%3==0)=decide (J%3=0):=zis J;have c0_0:wr.cell? ⟨g,k*2,none⟩=some (.bool (x k).wiped):=S0.cell hlt (show 0<zab.sz by decide);have f0_0:=S0.frozen (k*2);have c0_1:wr.cell? ⟨g,k*2+1,none⟩=some (.slice ao1 (x k).blocks.1 cap1):=S0.cell hlt (show 1<zab.sz by decide);have f0_1:=S0.frozen (k*2+1)
    go_wp2_with fail
    have S1:SlK zab 75 (wr.setCell ⟨g,k*2,none⟩ (.bool (decide ((J)%3=0)))) g cap n (mkTo zaf zaD j x k) ce Ls k ⟨(decide ((J)%3=0)),(x k).blocks⟩ [.bool (decide ((J)%3=0)),.slice ao1 (x k).blocks.1 cap1]:=S0.store ND.out hlt (show 0<zab.sz by decide) (.bool (decide ((J)%3=0))) (by rw [HL.out];exact zgV ⟨(decide ((J)%3=0)),(x k).blocks⟩ (O1.out));refine (zeH _ (x k).blocks K1 (J+1) _ (zal (O1.out) hgn) hnd (by omega)).mono ?_;rintro e v1 ⟨rfl,p1,q1⟩;have OO1_1:=hid p1
    have SUB1:∀ b,b∈K1→b∈Ls k:=fun b hb=>by rw [HL.out];exact hb
    have S2:SlK zab 75 v1 g cap n (mkTo zaf zaD j x k) ce Ls k ⟨(decide ((J)%3=0)),((mkSl zau za4) (J+1) (x k).blocks)⟩ [.bool (decide ((J)%3=0)),.slice ao1 (x k).blocks.1 cap1]:=S1.into ND.out hlt (q1.mono (SUB1)) (by rw [HL.out];exact zgV ⟨(decide ((J)%3=0)),((mkSl zau za4) (J+1) (x k).blocks)⟩ (OO1_1.out));have CH1:Hid (ChgL (g::catN n Ls) w v1):=((CH.out).st g _ _ (List.mem_cons_self ..)).sub q1 (fun b hb=>SlO.sub k hlt b ((SUB1) b hb));have FS:SlO zab 75 v1 g cap n (upd (mkTo zaf zaD j x k) k (zaD J (x k))) (upd ce k [.bool (decide ((J)%3=0)),.slice ao1 (x k).blocks.1 cap1]) Ls:=S2;rw [HJ.out,zcy] at FS;have FS':Hid (∃ ce,SlO zab 75 v1 g cap n (mkTo zaf zaD j x (k+1)) ce Ls):=⟨_,FS⟩;clear FS p1 q1
    go_wp2_with fail
    go_roundw
    case rel=>
     obtain ⟨ce',FS⟩:=FS'.out
     exact ⟨k+1,by omega,by go_num,zbr (by
      have e1:=HJ.out;have e2:sumN (fun i=>zaf (x i)) (k+1)=sumN (fun i=>zaf (x i)) k+zaf (x k):=rfl;have e3:zaf (x k)=1+(cSl zau) (x k).blocks:=rfl
      omega),ce',FS,CH1.out⟩
    case measure=>simp [intOf];omega
   ·obtain rfl:k=n:=by omega
    go_wp2;go_ret;exact ⟨rfl,(so.congr (fun i hi=>zcA zaf zaD j x k i hi)).own,ch⟩
theorem zeg:MkS ((zab.slice 75).slice 76) (cSl (cSl zaf)) (mkSl (cSl zaf) (mkSl zaf zaD)) 53:=fun v d L j w h nd hj=>by
 obtain ⟨n,x⟩:=d
 by_cases h0:n=0
 ·subst h0
  have hown:((zab.slice 75).slice 76).own w (mkSl (cSl zaf) (mkSl zaf zaD) j (0,x)) [v] L:=zb2 h rfl (fun i hi=>absurd hi (Nat.not_lt_zero i));obtain ⟨ao,cap,hv⟩:=zbN h;obtain rfl:=zaL hv;clear h hv
  go_enter Tryz.func53,Tryz.ntmps53
  go_wp2
  go_loopw [1,5] (fun y i wr=>y=.int .i64 j∧i=.int .i64 0∧wr=w) (fun _ _ _=>0)
  case atStart=>exact ⟨rfl,rfl,rfl⟩
  case round=>
   obtain ⟨rfl,rfl,rfl⟩:=hrel;go_wp2;go_ret;exact ⟨zcp (by simp [cSl,sumN]),hown,ChgL.refl _ _⟩
 ·obtain ⟨g,cap,ce,Ls,hv,rfl,so⟩:=zbI h h0
  obtain rfl:=zaL hv;obtain ⟨_,_,_,hm,_⟩:=((zab.slice 75).slice 76).own_rd (hi:=w.heap.size) h (((zab.slice 75).slice 76).own_lt h)
  simp only at hm
  unfold maxLen at hm;clear h hv
  simp only at so nd
  have hj':j+sumN (fun i=>(cSl zaf) (x i)) n≤100000000:=hj;clear hj;have ND:=hid nd;clear nd
  go_enter Tryz.func53,Tryz.ntmps53
  go_wp2
  go_loopw [1,5] (fun y i wr=>∃ k:Nat,k≤n∧i=.int .i64 k∧y=.int .i64 ((j+sumN (fun i=>(cSl zaf) (x i)) k:Nat):Int)∧∃ ce,SlO (zab.slice 75) 76 wr g cap n (mkTo (cSl zaf) (mkSl zaf zaD) j x k) ce Ls∧ChgL (g::catN n Ls) w wr) (fun _ i _=>n-(intOf i).toNat)
  case atStart=>exact ⟨0,Nat.zero_le _,rfl,rfl,ce,by rw [zcz];exact so,ChgL.refl _ _⟩
  case round=>
   clear so;obtain ⟨k,hk,rfl,rfl,ce,so,ch⟩:=hrel
   by_cases hlt:k<n
   ·have S0:=so.at_ k
    rw [zdI] at S0;have o1:=S0.own hlt;obtain ⟨ao9,cap9,hcs⟩:=zbN o1;rw [hcs] at S0 o1;have hs1:sumN (fun i=>(cSl zaf) (x i)) (k+1)≤sumN (fun i=>(cSl zaf) (x i)) n:=zbc _ (show k+1≤n from hlt);rw [zaG] at hs1;obtain ⟨J,hJ⟩:∃ J,J=j+sumN (fun i=>(cSl zaf) (x i)) k:=⟨_,rfl⟩
    have hJb:J+(cSl zaf) (x k)≤100000000:=by omega
    have HJ:=hid hJ;rw [← hJ];clear hs1 hJ hcs so;have CH:=hid ch;clear ch
    have c0:wr.cell? ⟨g,k,none⟩=some (.slice ao9 (x k).1 cap9):=by
     have h:=S0.cell hlt (show 0<(zab.slice 75).sz by decide);rw [show (zab.slice 75).sz=1 from rfl,Nat.mul_one,Nat.add_zero] at h;exact h
    have HO:=hid o1;clear o1
    go_wp2_with fail
    refine (zeI _ (x k) (Ls k) J _ HO.out (zc5 ND.out k hlt) (by omega)).mono ?_;rintro e w2 ⟨rfl,p1,q1⟩;have S1:=S0.into ND.out hlt q1 p1;have CH1:Hid (ChgL (g::catN n Ls) w w2):=CH.out.sub q1 (fun b hb=>SlO.sub k hlt b hb);have FS:SlO (zab.slice 75) 76 w2 g cap n (upd (mkTo (cSl zaf) (mkSl zaf zaD) j x k) k ((mkSl zaf zaD) J (x k))) (upd ce k [.slice ao9 (x k).1 cap9]) Ls:=S1;rw [HJ.out,zcy] at FS;have FS':Hid (∃ ce,SlO (zab.slice 75) 76 w2 g cap n (mkTo (cSl zaf) (mkSl zaf zaD) j x (k+1)) ce Ls):=⟨_,FS⟩;clear FS p1 q1 S1 S0
    go_wp2_with fail
    go_roundw
    case rel=>
     obtain ⟨ce',FS⟩:=FS'.out
     exact ⟨k+1,by omega,by go_num,zbr (by
      have e1:=HJ.out;have e2:sumN (fun i=>(cSl zaf) (x i)) (k+1)=sumN (fun i=>(cSl zaf) (x i)) k+(cSl zaf) (x k):=rfl
      omega),ce',FS,CH1.out⟩
    case measure=>simp [intOf];omega
   ·obtain rfl:k=n:=by omega
    go_wp2;go_ret;exact ⟨rfl,(so.congr (fun i hi=>zcA (cSl zaf) (mkSl zaf zaD) j x k i hi)).own,ch⟩
theorem zgn:MkS (zac.slice 56) (cSl zaM) (mkSl zaM zbi) 85:=fun v d L j w h nd hj=>by
 obtain ⟨n,x⟩:=d
 by_cases h0:n=0
 ·subst h0
  have hown:(zac.slice 56).own w (mkSl zaM zbi j (0,x)) [v] L:=zb2 h rfl (fun i hi=>absurd hi (Nat.not_lt_zero i));obtain ⟨ao,cap,hv⟩:=zbN h;obtain rfl:=zaL hv;clear h hv
  go_enter Tryz.func85,Tryz.ntmps85
  go_wp2
  go_loopw [1,5] (fun y i wr=>y=.int .i64 j∧i=.int .i64 0∧wr=w) (fun _ _ _=>0)
  case atStart=>exact ⟨rfl,rfl,rfl⟩
  case round=>
   obtain ⟨rfl,rfl,rfl⟩:=hrel;go_wp2;go_ret;exact ⟨zcp (by simp [cSl,sumN]),hown,ChgL.refl _ _⟩
 ·obtain ⟨g,cap,ce,Ls,hv,rfl,so⟩:=zbI h h0
  obtain rfl:=zaL hv;obtain ⟨_,_,_,hm,_⟩:=(zac.slice 56).own_rd (hi:=w.heap.size) h ((zac.slice 56).own_lt h)
  simp only at hm
  unfold maxLen at hm;clear h hv
  simp only at so nd
  have hj':j+sumN (fun i=>zaM (x i)) n≤100000000:=hj;clear hj;have ND:=hid nd;clear nd
  go_enter Tryz.func85,Tryz.ntmps85
  go_wp2
  go_loopw [1,5] (fun y i wr=>∃ k:Nat,k≤n∧i=.int .i64 k∧y=.int .i64 ((j+sumN (fun i=>zaM (x i)) k:Nat):Int)∧∃ ce,SlO zac 56 wr g cap n (mkTo zaM zbi j x k) ce Ls∧ChgL (g::catN n Ls) w wr) (fun _ i _=>n-(intOf i).toNat)
  case atStart=>exact ⟨0,Nat.zero_le _,rfl,rfl,ce,by rw [zcz];exact so,ChgL.refl _ _⟩
  case round=>
   clear so;obtain ⟨k,hk,rfl,rfl,ce,so,ch⟩:=hrel
   by_cases hlt:k<n
   ·have S0:=so.at_ k
    rw [zdI] at S0;obtain ⟨ao6,cap6,ao7,cap7,ao8,cap8,K6,K7,K8,hcs,hL,o6,o7,o8,k0,k1,k2,k3,k4,k5⟩:=zdL (S0.own hlt);rw [hcs] at S0;have HL:=hid hL;have hgn:=zgT ND.out hlt;have hnd:=zc5 ND.out k hlt;rw [hL] at hgn hnd;have hs1:sumN (fun i=>zaM (x i)) (k+1)≤sumN (fun i=>zaM (x i)) n:=zbc _ (show k+1≤n from hlt);rw [zaG] at hs1;obtain ⟨J,hJ⟩:∃ J,J=j+sumN (fun i=>zaM (x i)) k:=⟨_,rfl⟩
    have hJb:J+zaM (x k)≤100000000:=by omega
    have HJ:=hid hJ;rw [← hJ];clear hs1 hJ hL hcs so;unfold zaM at hJb;have CH:=hid ch;clear ch;obtain ⟨n1,n2,n3⟩:=List.nodup_append.1 hnd;obtain ⟨n4,n5,n6⟩:=List.nodup_append.1 n2
    simp only [List.mem_append,not_or] at hgn
    obtain ⟨hg0,hg1,hg2⟩:=hgn;clear n2 hnd;have O6:=hid o6;have O7:=hid o7;have O8:=hid o8;clear o6 o7 o8;have Q0:=hid k0;clear k0;have Q1:=hid k1;clear k1;have Q2:=hid k2;clear k2;have Q3:=hid k3;clear k3;have Q4:=hid k4;clear k4;have Q5:=hid k5;clear k5;have c0_0:wr.cell? ⟨g,k*9,none⟩=some (.int .i64 (x k).kind):=S0.cell hlt (show 0<zac.sz by decide);have f0_0:=S0.frozen (k*9);have c0_1:wr.cell? ⟨g,k*9+1,none⟩=some (.int .i64 (x k).seq):=S0.cell hlt (show 1<zac.sz by decide);have f0_1:=S0.frozen (k*9+1);have c0_2:wr.cell? ⟨g,k*9+2,none⟩=some (.string (x k).name):=S0.cell hlt (show 2<zac.sz by decide);have f0_2:=S0.frozen (k*9+2);have c0_3:wr.cell? ⟨g,k*9+3,none⟩=some (.int .i64 (x k).length):=S0.cell hlt (show 3<zac.sz by decide);have f0_3:=S0.frozen (k*9+3);have c0_4:wr.cell? ⟨g,k*9+4,none⟩=some (.int .i64 (x k).group):=S0.cell hlt (show 4<zac.sz by decide);have f0_4:=S0.frozen (k*9+4);have c0_5:wr.cell? ⟨g,k*9+5,none⟩=some (.int .i64 (x k).row):=S0.cell hlt (show 5<zac.sz by decide);have f0_5:=S0.frozen (k*9+5);have c0_6:wr.cell? ⟨g,k*9+6,none⟩=some (.slice ao6 (x k).rows.1 cap6):=S0.cell hlt (show 6<zac.sz by decide);have f0_6:=S0.frozen (k*9+6);have c0_7:wr.cell? ⟨g,k*9+7,none⟩=some (.slice ao7 (x k).data.1 cap7):=S0.cell hlt (show 7<zac.sz by decide);have f0_7:=S0.frozen (k*9+7);have c0_8:wr.cell? ⟨g,k*9+8,none⟩=some (.slice ao8 (x k).delta.1 cap8):=S0.cell hlt (show 8<zac.sz by decide);have f0_8:=S0.frozen (k*9+8)
    go_wp2_with fail
    have S1:SlK zac 56 (wr.setCell ⟨g,k*9,none⟩ (.int .i64 (((J:Nat)):Int))) g cap n (mkTo zaM zbi j x k) ce Ls k ⟨(((J:Nat)):Int),(x k).seq,(x k).name,(x k).length,(x k).group,(x k).row,(x k).rows,(x k).data,(x k).delta⟩ [.int .i64 (((J:Nat)):Int),.int .i64 (x k).seq,.string (x k).name,.int .i64 (x k).length,.int .i64 (x k).group,.int .i64 (x k).row,.slice ao6 (x k).rows.1 cap6,.slice ao7 (x k).data.1 cap7,.slice ao8 (x k).delta.1 cap8]:=S0.store ND.out hlt (show 0<zac.sz by decide) (.int .i64 (((J:Nat)):Int)) (by rw [HL.out];exact zcR ⟨(((J:Nat)):Int),(x k).seq,(x k).name,(x k).length,(x k).group,(x k).row,(x k).rows,(x k).data,(x k).delta⟩ (O6.out) (O7.out) (O8.out) ((show -9223372036854775808≤(((J:Nat)):Int)∧(((J:Nat)):Int)≤9223372036854775807 by omega)) (Q1.out) (Q2.out) (Q3.out) (Q4.out) (Q5.out));have S2:SlK zac 56 ((wr.setCell ⟨g,k*9,none⟩ (.int .i64 (((J:Nat)):Int))).setCell ⟨g,k*9+1,none⟩ (.int .i64 (((J+1:Nat)):Int))) g cap n (mkTo zaM zbi j x k) ce Ls k ⟨(((J:Nat)):Int),(((J+1:Nat)):Int),(x k).name,(x k).length,(x k).group,(x k).row,(x k).rows,(x k).data,(x k).delta⟩ [.int .i64 (((J:Nat)):Int),.int .i64 (((J+1:Nat)):Int),.string (x k).name,.int .i64 (x k).length,.int .i64 (x k).group,.int .i64 (x k).row,.slice ao6 (x k).rows.1 cap6,.slice ao7 (x k).data.1 cap7,.slice ao8 (x k).delta.1 cap8]:=S1.store ND.out hlt (show 1<zac.sz by decide) (.int .i64 (((J+1:Nat)):Int)) (by rw [HL.out];exact zcR ⟨(((J:Nat)):Int),(((J+1:Nat)):Int),(x k).name,(x k).length,(x k).group,(x k).row,(x k).rows,(x k).data,(x k).delta⟩ (zal (O6.out) hg0) (zal (O7.out) hg1) (zal (O8.out) hg2) ((show -9223372036854775808≤(((J:Nat)):Int)∧(((J:Nat)):Int)≤9223372036854775807 by omega)) ((show -9223372036854775808≤(((J+1:Nat)):Int)∧(((J+1:Nat)):Int)≤9223372036854775807 by omega)) (Q2.out) (Q3.out) (Q4.out) (Q5.out));refine (zdm (J+2) (by omega) (by omega) _).mono ?_;rintro e wt ⟨rfl,bt⟩;have OO1_6:Hid (zai.own wt (x k).rows [.slice ao6 (x k).rows.1 cap6] K6):=zai.own_kept (zal (zal (O6.out) hg0) hg0) (fun b hb=>bt.block b (zai.own_lt (zal (zal (O6.out) hg0) hg0) b hb));have OO1_7:Hid (zad.own wt (x k).data [.slice ao7 (x k).data.1 cap7] K7):=zad.own_kept (zal (zal (O7.out) hg1) hg1) (fun b hb=>bt.block b (zad.own_lt (zal (zal (O7.out) hg1) hg1) b hb));have OO1_8:Hid (zad.own wt (x k).delta [.slice ao8 (x k).delta.1 cap8] K8):=zad.own_kept (zal (zal (O8.out) hg2) hg2) (fun b hb=>bt.block b (zad.own_lt (zal (zal (O8.out) hg2) hg2) b hb));have S1t:SlK zac 56 wt g cap n (mkTo zaM zbi j x k) ce Ls k ⟨(((J:Nat)):Int),(((J+1:Nat)):Int),(x k).name,(x k).length,(x k).group,(x k).row,(x k).rows,(x k).data,(x k).delta⟩ [.int .i64 (((J:Nat)):Int),.int .i64 (((J+1:Nat)):Int),.string (x k).name,.int .i64 (x k).length,.int .i64 (x k).group,.int .i64 (x k).row,.slice ao6 (x k).rows.1 cap6,.slice ao7 (x k).data.1 cap7,.slice ao8 (x k).delta.1 cap8]:=SlO.kept S2 (fun b hb=>bt.block b (SlO.mem_lt S2 b hb))
    have CH1:Hid (ChgL (g::catN n Ls) w wt):=(((CH.out).st g _ _ (List.mem_cons_self ..)).st g _ _ (List.mem_cons_self ..)).trans (ChgL.of_below bt);have c1_0:wt.cell? ⟨g,k*9,none⟩=some (.int .i64 (((J:Nat)):Int)):=S1t.cell hlt (show 0<zac.sz by decide);have f1_0:=S1t.frozen (k*9);have c1_1:wt.cell? ⟨g,k*9+1,none⟩=some (.int .i64 (((J+1:Nat)):Int)):=S1t.cell hlt (show 1<zac.sz by decide);have f1_1:=S1t.frozen (k*9+1);have c1_2:wt.cell? ⟨g,k*9+2,none⟩=some (.string (x k).name):=S1t.cell hlt (show 2<zac.sz by decide);have f1_2:=S1t.frozen (k*9+2);have c1_3:wt.cell? ⟨g,k*9+3,none⟩=some (.int .i64 (x k).length):=S1t.cell hlt (show 3<zac.sz by decide);have f1_3:=S1t.frozen (k*9+3);have c1_4:wt.cell? ⟨g,k*9+4,none⟩=some (.int .i64 (x k).group):=S1t.cell hlt (show 4<zac.sz by decide);have f1_4:=S1t.frozen (k*9+4);have c1_5:wt.cell? ⟨g,k*9+5,none⟩=some (.int .i64 (x k).row):=S1t.cell hlt (show 5<zac.sz by decide);have f1_5:=S1t.frozen (k*9+5);have c1_6:wt.cell? ⟨g,k*9+6,none⟩=some (.slice ao6 (x k).rows.1 cap6):=S1t.cell hlt (show 6<zac.sz by decide);have f1_6:=S1t.frozen (k*9+6);have c1_7:wt.cell? ⟨g,k*9+7,none⟩=some (.slice ao7 (x k).data.1 cap7):=S1t.cell hlt (show 7<zac.sz by decide);have f1_7:=S1t.frozen (k*9+7);have c1_8:wt.cell? ⟨g,k*9+8,none⟩=some (.slice ao8 (x k).delta.1 cap8):=S1t.cell hlt (show 8<zac.sz by decide);have f1_8:=S1t.frozen (k*9+8);clear bt
    go_wp2_with fail
    have S3:SlK zac 56 (wt.setCell ⟨g,k*9+2,none⟩ (.string (zbg (J+2)))) g cap n (mkTo zaM zbi j x k) ce Ls k ⟨(((J:Nat)):Int),(((J+1:Nat)):Int),(zbg (J+2)),(x k).length,(x k).group,(x k).row,(x k).rows,(x k).data,(x k).delta⟩ [.int .i64 (((J:Nat)):Int),.int .i64 (((J+1:Nat)):Int),.string (zbg (J+2)),.int .i64 (x k).length,.int .i64 (x k).group,.int .i64 (x k).row,.slice ao6 (x k).rows.1 cap6,.slice ao7 (x k).data.1 cap7,.slice ao8 (x k).delta.1 cap8]:=S1t.store ND.out hlt (show 2<zac.sz by decide) (.string (zbg (J+2))) (by rw [HL.out];exact zcR ⟨(((J:Nat)):Int),(((J+1:Nat)):Int),(zbg (J+2)),(x k).length,(x k).group,(x k).row,(x k).rows,(x k).data,(x k).delta⟩ (OO1_6.out) (OO1_7.out) (OO1_8.out) ((show -9223372036854775808≤(((J:Nat)):Int)∧(((J:Nat)):Int)≤9223372036854775807 by omega)) ((show -9223372036854775808≤(((J+1:Nat)):Int)∧(((J+1:Nat)):Int)≤9223372036854775807 by omega)) (zce (J+2)) (Q3.out) (Q4.out) (Q5.out));have S4:SlK zac 56 ((wt.setCell ⟨g,k*9+2,none⟩ (.string (zbg (J+2)))).setCell ⟨g,k*9+3,none⟩ (.int .i64 (((J+3:Nat)):Int))) g cap n (mkTo zaM zbi j x k) ce Ls k ⟨(((J:Nat)):Int),(((J+1:Nat)):Int),(zbg (J+2)),(((J+3:Nat)):Int),(x k).group,(x k).row,(x k).rows,(x k).data,(x k).delta⟩ [.int .i64 (((J:Nat)):Int),.int .i64 (((J+1:Nat)):Int),.string (zbg (J+2)),.int .i64 (((J+3:Nat)):Int),.int .i64 (x k).group,.int .i64 (x k).row,.slice ao6 (x k).rows.1 cap6,.slice ao7 (x k).data.1 cap7,.slice ao8 (x k).delta.1 cap8]:=S3.store ND.out hlt (show 3<zac.sz by decide) (.int .i64 (((J+3:Nat)):Int)) (by rw [HL.out];exact zcR ⟨(((J:Nat)):Int),(((J+1:Nat)):Int),(zbg (J+2)),(((J+3:Nat)):Int),(x k).group,(x k).row,(x k).rows,(x k).data,(x k).delta⟩ (zal (OO1_6.out) hg0) (zal (OO1_7.out) hg1) (zal (OO1_8.out) hg2) ((show -9223372036854775808≤(((J:Nat)):Int)∧(((J:Nat)):Int)≤9223372036854775807 by omega)) ((show -9223372036854775808≤(((J+1:Nat)):Int)∧(((J+1:Nat)):Int)≤9223372036854775807 by omega)) (zce (J+2)) ((show -9223372036854775808≤(((J+3:Nat)):Int)∧(((J+3:Nat)):Int)≤9223372036854775807 by omega)) (Q4.out) (Q5.out));have S5:SlK zac 56 (((wt.setCell ⟨g,k*9+2,none⟩ (.string (zbg (J+2)))).setCell ⟨g,k*9+3,none⟩ (.int .i64 (((J+3:Nat)):Int))).setCell ⟨g,k*9+4,none⟩ (.int .i64 (((J+4:Nat)):Int))) g cap n (mkTo zaM zbi j x k) ce Ls k ⟨(((J:Nat)):Int),(((J+1:Nat)):Int),(zbg (J+2)),(((J+3:Nat)):Int),(((J+4:Nat)):Int),(x k).row,(x k).rows,(x k).data,(x k).delta⟩ [.int .i64 (((J:Nat)):Int),.int .i64 (((J+1:Nat)):Int),.string (zbg (J+2)),.int .i64 (((J+3:Nat)):Int),.int .i64 (((J+4:Nat)):Int),.int .i64 (x k).row,.slice ao6 (x k).rows.1 cap6,.slice ao7 (x k).data.1 cap7,.slice ao8 (x k).delta.1 cap8]:=S4.store ND.out hlt (show 4<zac.sz by decide) (.int .i64 (((J+4:Nat)):Int)) (by rw [HL.out];exact zcR ⟨(((J:Nat)):Int),(((J+1:Nat)):Int),(zbg (J+2)),(((J+3:Nat)):Int),(((J+4:Nat)):Int),(x k).row,(x k).rows,(x k).data,(x k).delta⟩ (zal (zal (OO1_6.out) hg0) hg0) (zal (zal (OO1_7.out) hg1) hg1) (zal (zal (OO1_8.out) hg2) hg2) ((show -9223372036854775808≤(((J:Nat)):Int)∧(((J:Nat)):Int)≤9223372036854775807 by omega)) ((show -9223372036854775808≤(((J+1:Nat)):Int)∧(((J+1:Nat)):Int)≤9223372036854775807 by omega)) (zce (J+2)) ((show -9223372036854775808≤(((J+3:Nat)):Int)∧(((J+3:Nat)):Int)≤9223372036854775807 by omega)) ((show -9223372036854775808≤(((J+4:Nat)):Int)∧(((J+4:Nat)):Int)≤9223372036854775807 by omega)) (Q5.out))
    have S6:SlK zac 56 ((((wt.setCell ⟨g,k*9+2,none⟩ (.string (zbg (J+2)))).setCell ⟨g,k*9+3,none⟩ (.int .i64 (((J+3:Nat)):Int))).setCell ⟨g,k*9+4,none⟩ (.int .i64 (((J+4:Nat)):Int))).setCell ⟨g,k*9+5,none⟩ (.int .i64 (((J+5:Nat)):Int))) g cap n (mkTo zaM zbi j x k) ce Ls k ⟨(((J:Nat)):Int),(((J+1:Nat)):Int),(zbg (J+2)),(((J+3:Nat)):Int),(((J+4:Nat)):Int),(((J+5:Nat)):Int),(x k).rows,(x k).data,(x k).delta⟩ [.int .i64 (((J:Nat)):Int),.int .i64 (((J+1:Nat)):Int),.string (zbg (J+2)),.int .i64 (((J+3:Nat)):Int),.int .i64 (((J+4:Nat)):Int),.int .i64 (((J+5:Nat)):Int),.slice ao6 (x k).rows.1 cap6,.slice ao7 (x k).data.1 cap7,.slice ao8 (x k).delta.1 cap8]:=S5.store ND.out hlt (show 5<zac.sz by decide) (.int .i64 (((J+5:Nat)):Int)) (by rw [HL.out];exact zcR ⟨(((J:Nat)):Int),(((J+1:Nat)):Int),(zbg (J+2)),(((J+3:Nat)):Int),(((J+4:Nat)):Int),(((J+5:Nat)):Int),(x k).rows,(x k).data,(x k).delta⟩ (zal (zal (zal (OO1_6.out) hg0) hg0) hg0) (zal (zal (zal (OO1_7.out) hg1) hg1) hg1) (zal (zal (zal (OO1_8.out) hg2) hg2) hg2) ((show -9223372036854775808≤(((J:Nat)):Int)∧(((J:Nat)):Int)≤9223372036854775807 by omega)) ((show -9223372036854775808≤(((J+1:Nat)):Int)∧(((J+1:Nat)):Int)≤9223372036854775807 by omega)) (zce (J+2)) ((show -9223372036854775808≤(((J+3:Nat)):Int)∧(((J+3:Nat)):Int)≤9223372036854775807 by omega)) ((show -9223372036854775808≤(((J+4:Nat)):Int)∧(((J+4:Nat)):Int)≤9223372036854775807 by omega)) ((show -9223372036854775808≤(((J+5:Nat)):Int)∧(((J+5:Nat)):Int)≤9223372036854775807 by omega)));refine (zcU _ (x k).rows K6 (J+6) _ (zal (zal (zal (zal (OO1_6.out) hg0) hg0) hg0) hg0) n1 (by omega)).mono ?_;rintro e v6 ⟨rfl,p6,q6⟩;have OO2_6:=hid p6;have OO2_7:Hid (zad.own v6 (x k).data [.slice ao7 (x k).data.1 cap7] K7):=zad.own_chgL (zal (zal (zal (zal (OO1_7.out) hg1) hg1) hg1) hg1) q6 (fun b hb hx=>n3 b hx b (List.mem_append_left _ hb) rfl);have OO2_8:Hid (zad.own v6 (x k).delta [.slice ao8 (x k).delta.1 cap8] K8):=zad.own_chgL (zal (zal (zal (zal (OO1_8.out) hg2) hg2) hg2) hg2) q6 (fun b hb hx=>n3 b hx b (List.mem_append_right _ hb) rfl)
    have SUB6:∀ b,b∈K6→b∈Ls k:=fun b hb=>by rw [HL.out];exact List.mem_append_left _ hb
    have S7:SlK zac 56 v6 g cap n (mkTo zaM zbi j x k) ce Ls k ⟨(((J:Nat)):Int),(((J+1:Nat)):Int),(zbg (J+2)),(((J+3:Nat)):Int),(((J+4:Nat)):Int),(((J+5:Nat)):Int),(zbG (J+6) (x k).rows),(x k).data,(x k).delta⟩ [.int .i64 (((J:Nat)):Int),.int .i64 (((J+1:Nat)):Int),.string (zbg (J+2)),.int .i64 (((J+3:Nat)):Int),.int .i64 (((J+4:Nat)):Int),.int .i64 (((J+5:Nat)):Int),.slice ao6 (x k).rows.1 cap6,.slice ao7 (x k).data.1 cap7,.slice ao8 (x k).delta.1 cap8]:=S6.into ND.out hlt (q6.mono (SUB6)) (by rw [HL.out];exact zcR ⟨(((J:Nat)):Int),(((J+1:Nat)):Int),(zbg (J+2)),(((J+3:Nat)):Int),(((J+4:Nat)):Int),(((J+5:Nat)):Int),(zbG (J+6) (x k).rows),(x k).data,(x k).delta⟩ (OO2_6.out) (OO2_7.out) (OO2_8.out) ((show -9223372036854775808≤(((J:Nat)):Int)∧(((J:Nat)):Int)≤9223372036854775807 by omega)) ((show -9223372036854775808≤(((J+1:Nat)):Int)∧(((J+1:Nat)):Int)≤9223372036854775807 by omega)) (zce (J+2)) ((show -9223372036854775808≤(((J+3:Nat)):Int)∧(((J+3:Nat)):Int)≤9223372036854775807 by omega)) ((show -9223372036854775808≤(((J+4:Nat)):Int)∧(((J+4:Nat)):Int)≤9223372036854775807 by omega)) ((show -9223372036854775808≤(((J+5:Nat)):Int)∧(((J+5:Nat)):Int)≤9223372036854775807 by omega)));have CH2:Hid (ChgL (g::catN n Ls) w v6):=(((((CH1.out).st g _ _ (List.mem_cons_self ..)).st g _ _ (List.mem_cons_self ..)).st g _ _ (List.mem_cons_self ..)).st g _ _ (List.mem_cons_self ..)).sub q6 (fun b hb=>SlO.sub k hlt b ((SUB6) b hb));have c2_0:v6.cell? ⟨g,k*9,none⟩=some (.int .i64 (((J:Nat)):Int)):=S7.cell hlt (show 0<zac.sz by decide);have f2_0:=S7.frozen (k*9);have c2_1:v6.cell? ⟨g,k*9+1,none⟩=some (.int .i64 (((J+1:Nat)):Int)):=S7.cell hlt (show 1<zac.sz by decide);have f2_1:=S7.frozen (k*9+1);have c2_2:v6.cell? ⟨g,k*9+2,none⟩=some (.string (zbg (J+2))):=S7.cell hlt (show 2<zac.sz by decide);have f2_2:=S7.frozen (k*9+2);have c2_3:v6.cell? ⟨g,k*9+3,none⟩=some (.int .i64 (((J+3:Nat)):Int)):=S7.cell hlt (show 3<zac.sz by decide);have f2_3:=S7.frozen (k*9+3);have c2_4:v6.cell? ⟨g,k*9+4,none⟩=some (.int .i64 (((J+4:Nat)):Int)):=S7.cell hlt (show 4<zac.sz by decide);have f2_4:=S7.frozen (k*9+4);have c2_5:v6.cell? ⟨g,k*9+5,none⟩=some (.int .i64 (((J+5:Nat)):Int)):=S7.cell hlt (show 5<zac.sz by decide);have f2_5:=S7.frozen (k*9+5);have c2_6:v6.cell? ⟨g,k*9+6,none⟩=some (.slice ao6 (x k).rows.1 cap6):=S7.cell hlt (show 6<zac.sz by decide);have f2_6:=S7.frozen (k*9+6);have c2_7:v6.cell? ⟨g,k*9+7,none⟩=some (.slice ao7 (x k).data.1 cap7):=S7.cell hlt (show 7<zac.sz by decide);have f2_7:=S7.frozen (k*9+7);have c2_8:v6.cell? ⟨g,k*9+8,none⟩=some (.slice ao8 (x k).delta.1 cap8):=S7.cell hlt (show 8<zac.sz by decide)
    have f2_8:=S7.frozen (k*9+8);clear p6 q6
    go_wp2_with fail
    refine (zbQ _ (x k).data K7 (J+6+lenD (x k).rows) _ (OO2_7.out) n4 (by omega)).mono ?_;rintro e v7 ⟨rfl,p7,q7⟩;have OO3_6:Hid (zai.own v7 (zbG (J+6) (x k).rows) [.slice ao6 (x k).rows.1 cap6] K6):=zai.own_chgL (OO2_6.out) q7 (fun b hb hx=>n3 b hb b (List.mem_append_left _ hx) rfl);have OO3_7:=hid p7;have OO3_8:Hid (zad.own v7 (x k).delta [.slice ao8 (x k).delta.1 cap8] K8):=zad.own_chgL (OO2_8.out) q7 (fun b hb hx=>n6 b hx b hb rfl)
    have SUB7:∀ b,b∈K7→b∈Ls k:=fun b hb=>by rw [HL.out];exact List.mem_append_right _ (List.mem_append_left _ hb)
    have S8:SlK zac 56 v7 g cap n (mkTo zaM zbi j x k) ce Ls k ⟨(((J:Nat)):Int),(((J+1:Nat)):Int),(zbg (J+2)),(((J+3:Nat)):Int),(((J+4:Nat)):Int),(((J+5:Nat)):Int),(zbG (J+6) (x k).rows),(za0 (J+6+lenD (x k).rows) (x k).data),(x k).delta⟩ [.int .i64 (((J:Nat)):Int),.int .i64 (((J+1:Nat)):Int),.string (zbg (J+2)),.int .i64 (((J+3:Nat)):Int),.int .i64 (((J+4:Nat)):Int),.int .i64 (((J+5:Nat)):Int),.slice ao6 (x k).rows.1 cap6,.slice ao7 (x k).data.1 cap7,.slice ao8 (x k).delta.1 cap8]:=S7.into ND.out hlt (q7.mono (SUB7)) (by rw [HL.out];exact zcR ⟨(((J:Nat)):Int),(((J+1:Nat)):Int),(zbg (J+2)),(((J+3:Nat)):Int),(((J+4:Nat)):Int),(((J+5:Nat)):Int),(zbG (J+6) (x k).rows),(za0 (J+6+lenD (x k).rows) (x k).data),(x k).delta⟩ (OO3_6.out) (OO3_7.out) (OO3_8.out) ((show -9223372036854775808≤(((J:Nat)):Int)∧(((J:Nat)):Int)≤9223372036854775807 by omega)) ((show -9223372036854775808≤(((J+1:Nat)):Int)∧(((J+1:Nat)):Int)≤9223372036854775807 by omega)) (zce (J+2)) ((show -9223372036854775808≤(((J+3:Nat)):Int)∧(((J+3:Nat)):Int)≤9223372036854775807 by omega)) ((show -9223372036854775808≤(((J+4:Nat)):Int)∧(((J+4:Nat)):Int)≤9223372036854775807 by omega)) ((show -9223372036854775808≤(((J+5:Nat)):Int)∧(((J+5:Nat)):Int)≤9223372036854775807 by omega)));have CH3:Hid (ChgL (g::catN n Ls) w v7):=(CH2.out).sub q7 (fun b hb=>SlO.sub k hlt b ((SUB7) b hb));have c3_0:v7.cell? ⟨g,k*9,none⟩=some (.int .i64 (((J:Nat)):Int)):=S8.cell hlt (show 0<zac.sz by decide);have f3_0:=S8.frozen (k*9);have c3_1:v7.cell? ⟨g,k*9+1,none⟩=some (.int .i64 (((J+1:Nat)):Int)):=S8.cell hlt (show 1<zac.sz by decide);have f3_1:=S8.frozen (k*9+1);have c3_2:v7.cell? ⟨g,k*9+2,none⟩=some (.string (zbg (J+2))):=S8.cell hlt (show 2<zac.sz by decide);have f3_2:=S8.frozen (k*9+2);have c3_3:v7.cell? ⟨g,k*9+3,none⟩=some (.int .i64 (((J+3:Nat)):Int)):=S8.cell hlt (show 3<zac.sz by decide);have f3_3:=S8.frozen (k*9+3);have c3_4:v7.cell? ⟨g,k*9+4,none⟩=some (.int .i64 (((J+4:Nat)):Int)):=S8.cell hlt (show 4<zac.sz by decide);have f3_4:=S8.frozen (k*9+4);have c3_5:v7.cell? ⟨g,k*9+5,none⟩=some (.int .i64 (((J+5:Nat)):Int)):=S8.cell hlt (show 5<zac.sz by decide);have f3_5:=S8.frozen (k*9+5);have c3_6:v7.cell? ⟨g,k*9+6,none⟩=some (.slice ao6 (x k).rows.1 cap6):=S8.cell hlt (show 6<zac.sz by decide);have f3_6:=S8.frozen (k*9+6);have c3_7:v7.cell? ⟨g,k*9+7,none⟩=some (.slice ao7 (x k).data.1 cap7):=S8.cell hlt (show 7<zac.sz by decide);have f3_7:=S8.frozen (k*9+7);have c3_8:v7.cell? ⟨g,k*9+8,none⟩=some (.slice ao8 (x k).delta.1 cap8):=S8.cell hlt (show 8<zac.sz by decide)
    have f3_8:=S8.frozen (k*9+8);clear p7 q7
    go_wp2_with fail
    refine (zbQ _ (x k).delta K8 (J+6+lenD (x k).rows+lenD (x k).data) _ (OO3_8.out) n5 (by omega)).mono ?_;rintro e v8 ⟨rfl,p8,q8⟩;have OO4_6:Hid (zai.own v8 (zbG (J+6) (x k).rows) [.slice ao6 (x k).rows.1 cap6] K6):=zai.own_chgL (OO3_6.out) q8 (fun b hb hx=>n3 b hb b (List.mem_append_right _ hx) rfl);have OO4_7:Hid (zad.own v8 (za0 (J+6+lenD (x k).rows) (x k).data) [.slice ao7 (x k).data.1 cap7] K7):=zad.own_chgL (OO3_7.out) q8 (fun b hb hx=>n6 b hb b hx rfl);have OO4_8:=hid p8
    have SUB8:∀ b,b∈K8→b∈Ls k:=fun b hb=>by rw [HL.out];exact List.mem_append_right _ (List.mem_append_right _ hb)
    have S9:SlK zac 56 v8 g cap n (mkTo zaM zbi j x k) ce Ls k ⟨(((J:Nat)):Int),(((J+1:Nat)):Int),(zbg (J+2)),(((J+3:Nat)):Int),(((J+4:Nat)):Int),(((J+5:Nat)):Int),(zbG (J+6) (x k).rows),(za0 (J+6+lenD (x k).rows) (x k).data),(za0 (J+6+lenD (x k).rows+lenD (x k).data) (x k).delta)⟩ [.int .i64 (((J:Nat)):Int),.int .i64 (((J+1:Nat)):Int),.string (zbg (J+2)),.int .i64 (((J+3:Nat)):Int),.int .i64 (((J+4:Nat)):Int),.int .i64 (((J+5:Nat)):Int),.slice ao6 (x k).rows.1 cap6,.slice ao7 (x k).data.1 cap7,.slice ao8 (x k).delta.1 cap8]:=S8.into ND.out hlt (q8.mono (SUB8)) (by rw [HL.out];exact zcR ⟨(((J:Nat)):Int),(((J+1:Nat)):Int),(zbg (J+2)),(((J+3:Nat)):Int),(((J+4:Nat)):Int),(((J+5:Nat)):Int),(zbG (J+6) (x k).rows),(za0 (J+6+lenD (x k).rows) (x k).data),(za0 (J+6+lenD (x k).rows+lenD (x k).data) (x k).delta)⟩ (OO4_6.out) (OO4_7.out) (OO4_8.out) ((show -9223372036854775808≤(((J:Nat)):Int)∧(((J:Nat)):Int)≤9223372036854775807 by omega)) ((show -9223372036854775808≤(((J+1:Nat)):Int)∧(((J+1:Nat)):Int)≤9223372036854775807 by omega)) (zce (J+2)) ((show -9223372036854775808≤(((J+3:Nat)):Int)∧(((J+3:Nat)):Int)≤9223372036854775807 by omega)) ((show -9223372036854775808≤(((J+4:Nat)):Int)∧(((J+4:Nat)):Int)≤9223372036854775807 by omega)) ((show -9223372036854775808≤(((J+5:Nat)):Int)∧(((J+5:Nat)):Int)≤9223372036854775807 by omega)));have CH4:Hid (ChgL (g::catN n Ls) w v8):=(CH3.out).sub q8 (fun b hb=>SlO.sub k hlt b ((SUB8) b hb));have FS:SlO zac 56 v8 g cap n (upd (mkTo zaM zbi j x k) k (zbi J (x k))) (upd ce k [.int .i64 (((J:Nat)):Int),.int .i64 (((J+1:Nat)):Int),.string (zbg (J+2)),.int .i64 (((J+3:Nat)):Int),.int .i64 (((J+4:Nat)):Int),.int .i64 (((J+5:Nat)):Int),.slice ao6 (x k).rows.1 cap6,.slice ao7 (x k).data.1 cap7,.slice ao8 (x k).delta.1 cap8]) Ls:=S9;rw [HJ.out,zcy] at FS;have FS':Hid (∃ ce,SlO zac 56 v8 g cap n (mkTo zaM zbi j x (k+1)) ce Ls):=⟨_,FS⟩;clear FS p8 q8
    go_wp2_with fail
    go_roundw
    case rel=>
     obtain ⟨ce',FS⟩:=FS'.out
     exact ⟨k+1,by omega,by go_num,zbr (by
      have e1:=HJ.out;have e2:sumN (fun i=>zaM (x i)) (k+1)=sumN (fun i=>zaM (x i)) k+zaM (x k):=rfl;have e3:zaM (x k)=6+lenD (x k).rows+lenD (x k).data+lenD (x k).delta:=rfl
      omega),ce',FS,CH4.out⟩
    case measure=>simp [intOf];omega
   ·obtain rfl:k=n:=by omega
    go_wp2;go_ret;exact ⟨rfl,(so.congr (fun i hi=>zcA zaM zbi j x k i hi)).own,ch⟩
theorem zfy:MkS (zag.slice 100) (cSl zaC) (mkSl zaC zbB) 55:=fun v d L j w h nd hj=>by
 obtain ⟨n,x⟩:=d
 by_cases h0:n=0
 ·subst h0
  have hown:(zag.slice 100).own w (mkSl zaC zbB j (0,x)) [v] L:=zb2 h rfl (fun i hi=>absurd hi (Nat.not_lt_zero i));obtain ⟨ao,cap,hv⟩:=zbN h;obtain rfl:=zaL hv;clear h hv
  go_enter Tryz.func55,Tryz.ntmps55
  go_wp2
  go_loopw [1,5] (fun y i wr=>y=.int .i64 j∧i=.int .i64 0∧wr=w) (fun _ _ _=>0)
  case atStart=>exact ⟨rfl,rfl,rfl⟩
  case round=>
   obtain ⟨rfl,rfl,rfl⟩:=hrel;go_wp2;go_ret;exact ⟨zcp (by simp [cSl,sumN]),hown,ChgL.refl _ _⟩
 ·obtain ⟨g,cap,ce,Ls,hv,rfl,so⟩:=zbI h h0
  obtain rfl:=zaL hv;obtain ⟨_,_,_,hm,_⟩:=(zag.slice 100).own_rd (hi:=w.heap.size) h ((zag.slice 100).own_lt h)
  simp only at hm
  unfold maxLen at hm;clear h hv
  simp only at so nd
  have hj':j+sumN (fun i=>zaC (x i)) n≤100000000:=hj;clear hj;have ND:=hid nd;clear nd
  go_enter Tryz.func55,Tryz.ntmps55
  go_wp2
  go_loopw [1,5] (fun y i wr=>∃ k:Nat,k≤n∧i=.int .i64 k∧y=.int .i64 ((j+sumN (fun i=>zaC (x i)) k:Nat):Int)∧∃ ce,SlO zag 100 wr g cap n (mkTo zaC zbB j x k) ce Ls∧ChgL (g::catN n Ls) w wr) (fun _ i _=>n-(intOf i).toNat)
  case atStart=>exact ⟨0,Nat.zero_le _,rfl,rfl,ce,by rw [zcz];exact so,ChgL.refl _ _⟩
  case round=>
   clear so;obtain ⟨k,hk,rfl,rfl,ce,so,ch⟩:=hrel
   by_cases hlt:k<n
   ·have S0:=so.at_ k
    rw [zdI] at S0;obtain ⟨ao1,cap1,K1,hcs,hL,o1⟩:=zdA (S0.own hlt);rw [hcs] at S0;have HL:=hid hL;have hgn:=zgT ND.out hlt;have hnd:=zc5 ND.out k hlt;rw [hL] at hgn hnd;have hs1:sumN (fun i=>zaC (x i)) (k+1)≤sumN (fun i=>zaC (x i)) n:=zbc _ (show k+1≤n from hlt);rw [zaG] at hs1;obtain ⟨J,hJ⟩:∃ J,J=j+sumN (fun i=>zaC (x i)) k:=⟨_,rfl⟩
    have hJb:J+zaC (x k)≤100000000:=by omega
    have HJ:=hid hJ;rw [← hJ];clear hs1 hJ hL hcs so;unfold zaC at hJb;have CH:=hid ch;clear ch;have O1:=hid o1;clear o1;have hb3:((J:Int)%3==0)=decide (J%3=0):=zis J;have c0_0:wr.cell? ⟨g,k*2,none⟩=some (.bool (x k).wiped):=S0.cell hlt (show 0<zag.sz by decide);have f0_0:=S0.frozen (k*2);have c0_1:wr.cell? ⟨g,k*2+1,none⟩=some (.slice ao1 (x k).recs.1 cap1):=S0.cell hlt (show 1<zag.sz by decide);have f0_1:=S0.frozen (k*2+1)
    go_wp2_with fail
    have S1:SlK zag 100 (wr.setCell ⟨g,k*2,none⟩ (.bool (decide ((J)%3=0)))) g cap n (mkTo zaC zbB j x k) ce Ls k ⟨(decide ((J)%3=0)),(x k).recs⟩ [.bool (decide ((J)%3=0)),.slice ao1 (x k).recs.1 cap1]:=S0.store ND.out hlt (show 0<zag.sz by decide) (.bool (decide ((J)%3=0))) (by rw [HL.out];exact zeG ⟨(decide ((J)%3=0)),(x k).recs⟩ (O1.out));refine (zgn _ (x k).recs K1 (J+1) _ (zal (O1.out) hgn) hnd (by omega)).mono ?_;rintro e v1 ⟨rfl,p1,q1⟩;have OO1_1:=hid p1
    have SUB1:∀ b,b∈K1→b∈Ls k:=fun b hb=>by rw [HL.out];exact hb
    have S2:SlK zag 100 v1 g cap n (mkTo zaC zbB j x k) ce Ls k ⟨(decide ((J)%3=0)),((mkSl zaM zbi) (J+1) (x k).recs)⟩ [.bool (decide ((J)%3=0)),.slice ao1 (x k).recs.1 cap1]:=S1.into ND.out hlt (q1.mono (SUB1)) (by rw [HL.out];exact zeG ⟨(decide ((J)%3=0)),((mkSl zaM zbi) (J+1) (x k).recs)⟩ (OO1_1.out));have CH1:Hid (ChgL (g::catN n Ls) w v1):=((CH.out).st g _ _ (List.mem_cons_self ..)).sub q1 (fun b hb=>SlO.sub k hlt b ((SUB1) b hb));have FS:SlO zag 100 v1 g cap n (upd (mkTo zaC zbB j x k) k (zbB J (x k))) (upd ce k [.bool (decide ((J)%3=0)),.slice ao1 (x k).recs.1 cap1]) Ls:=S2;rw [HJ.out,zcy] at FS;have FS':Hid (∃ ce,SlO zag 100 v1 g cap n (mkTo zaC zbB j x (k+1)) ce Ls):=⟨_,FS⟩;clear FS p1 q1
    go_wp2_with fail
    go_roundw
    case rel=>
     obtain ⟨ce',FS⟩:=FS'.out
     exact ⟨k+1,by omega,by go_num,zbr (by
      have e1:=HJ.out;have e2:sumN (fun i=>zaC (x i)) (k+1)=sumN (fun i=>zaC (x i)) k+zaC (x k):=rfl;have e3:zaC (x k)=1+(cSl zaM) (x k).recs:=rfl
      omega),ce',FS,CH1.out⟩
    case measure=>simp [intOf];omega
   ·obtain rfl:k=n:=by omega
    go_wp2;go_ret;exact ⟨rfl,(so.congr (fun i hi=>zcA zaC zbB j x k i hi)).own,ch⟩
theorem zdn:MkV zae za5 zcB 14:=fun cs d L j w h nd hj=>by
 obtain ⟨ao1,cap1,ao2,cap2,ao3,cap3,K1,K2,K3,rfl,rfl,o1,o2,o3,k0,k4,k5⟩:=zbn h;clear h
 unfold za5 at hj ⊢;obtain ⟨n0,m0,d0⟩:=List.nodup_append.1 nd;obtain ⟨n1,m1,d1⟩:=List.nodup_append.1 m0;obtain ⟨n2,m2,d2⟩:=List.nodup_append.1 m1;have Z1:=((zab.slice 75).slice 76).own_lt o1;have Z2:=zai.own_lt o2;have Z3:=(zag.slice 100).own_lt o3;have bz:=bAl w (.cells (rwW d ao1 cap1 ao2 cap2 ao3 cap3).toArray 38);have B0:Hid (Box (w.alloc (.cells (rwW d ao1 cap1 ao2 cap2 ao3 cap3).toArray 38)) w.heap.size (rwW d ao1 cap1 ao2 cap2 ao3 cap3).toArray 38):=zaz _ _ _;have CH0:Hid (ChgL (K1++(K2++(K3++[]))) w (w.alloc (.cells (rwW d ao1 cap1 ao2 cap2 ao3 cap3).toArray 38))):=ChgL.of_below bz;have O0_1:Hid (((zab.slice 75).slice 76).own (w.alloc (.cells (rwW d ao1 cap1 ao2 cap2 ao3 cap3).toArray 38)) d.groups [.slice ao1 d.groups.1 cap1] K1):=((zab.slice 75).slice 76).own_kept o1 (fun b hb=>bz.block b (Z1 b hb));have O0_2:Hid (zai.own (w.alloc (.cells (rwW d ao1 cap1 ao2 cap2 ao3 cap3).toArray 38)) d.on [.slice ao2 d.on.1 cap2] K2):=zai.own_kept o2 (fun b hb=>bz.block b (Z2 b hb));have O0_3:Hid ((zag.slice 100).own (w.alloc (.cells (rwW d ao1 cap1 ao2 cap2 ao3 cap3).toArray 38)) d.tapes [.slice ao3 d.tapes.1 cap3] K3):=(zag.slice 100).own_kept o3 (fun b hb=>bz.block b (Z3 b hb))
 clear bz o1 o2 o3
 go_enter Tryz.func14,Tryz.ntmps14
 go_wp2_with fail
 refine (zeg _ d.groups K1 (j) _ O0_1.out n0 (by omega)).mono ?_;rintro e w1 ⟨rfl,p1,q1⟩;have O1_1:=hid p1;have O1_2:Hid (zai.own w1 d.on [.slice ao2 d.on.1 cap2] K2):=zai.own_chgL O0_2.out q1 (fun b hb hx=>d0 b hx b (List.mem_append_left _ hb) rfl);have O1_3:Hid ((zag.slice 100).own w1 d.tapes [.slice ao3 d.tapes.1 cap3] K3):=(zag.slice 100).own_chgL O0_3.out q1 (fun b hb hx=>d0 b hx b (List.mem_append_right _ (List.mem_append_left _ hb)) rfl);have B1:Hid (Box w1 w.heap.size (rwW d ao1 cap1 ao2 cap2 ao3 cap3).toArray 38):=(q1.block w.heap.size B0.out.lt (fun hb=>by have:=Z1 _ hb;omega)).trans B0.out;have CH1:Hid (ChgL (K1++(K2++(K3++[]))) w w1):=CH0.out.sub q1 (fun b hb=>List.mem_append_left _ hb);clear p1 q1;have x1_10:w1.cell? ⟨w.heap.size,10,none⟩=some (.slice ao2 d.on.1 cap2):=B1.out.cell 10
 go_wp2_with fail
 refine (zcU _ d.on K2 (j+(cSl (cSl zaf)) d.groups) _ O1_2.out n1 (by omega)).mono ?_;rintro e w2 ⟨rfl,p2,q2⟩;have O2_1:Hid (((zab.slice 75).slice 76).own w2 ((mkSl (cSl zaf) (mkSl zaf zaD)) (j) d.groups) [.slice ao1 d.groups.1 cap1] K1):=((zab.slice 75).slice 76).own_chgL O1_1.out q2 (fun b hb hx=>d0 b hb b (List.mem_append_left _ hx) rfl);have O2_2:=hid p2;have O2_3:Hid ((zag.slice 100).own w2 d.tapes [.slice ao3 d.tapes.1 cap3] K3):=(zag.slice 100).own_chgL O1_3.out q2 (fun b hb hx=>d1 b hx b (List.mem_append_left _ hb) rfl);have B2:Hid (Box w2 w.heap.size (rwW d ao1 cap1 ao2 cap2 ao3 cap3).toArray 38):=(q2.block w.heap.size B1.out.lt (fun hb=>by have:=Z2 _ hb;omega)).trans B1.out;have CH2:Hid (ChgL (K1++(K2++(K3++[]))) w w2):=CH1.out.sub q2 (fun b hb=>List.mem_append_right _ (List.mem_append_left _ hb));clear p2 q2;have x2_11:w2.cell? ⟨w.heap.size,11,none⟩=some (.slice ao3 d.tapes.1 cap3):=B2.out.cell 11
 go_wp2_with fail
 refine (zfy _ d.tapes K3 (j+(cSl (cSl zaf)) d.groups+lenD d.on) _ O2_3.out n2 (by omega)).mono ?_;rintro e w3 ⟨rfl,p3,q3⟩;have O3_1:Hid (((zab.slice 75).slice 76).own w3 ((mkSl (cSl zaf) (mkSl zaf zaD)) (j) d.groups) [.slice ao1 d.groups.1 cap1] K1):=((zab.slice 75).slice 76).own_chgL O2_1.out q3 (fun b hb hx=>d0 b hb b (List.mem_append_right _ (List.mem_append_left _ hx)) rfl);have O3_2:Hid (zai.own w3 (zbG (j+(cSl (cSl zaf)) d.groups) d.on) [.slice ao2 d.on.1 cap2] K2):=zai.own_chgL O2_2.out q3 (fun b hb hx=>d1 b hb b (List.mem_append_left _ hx) rfl);have O3_3:=hid p3;have B3:Hid (Box w3 w.heap.size (rwW d ao1 cap1 ao2 cap2 ao3 cap3).toArray 38):=(q3.block w.heap.size B2.out.lt (fun hb=>by have:=Z3 _ hb;omega)).trans B2.out;have CH3:Hid (ChgL (K1++(K2++(K3++[]))) w w3):=CH2.out.sub q3 (fun b hb=>List.mem_append_right _ (List.mem_append_right _ (List.mem_append_left _ hb)));clear p3 q3;go_wp2;go_ret;exact ⟨zcp (by omega),zcf (zcB j d) O3_1.out O3_2.out O3_3.out k0 k4 k5,CH3.out⟩
theorem zc6:MkV zaj za2 zbC 16:=fun cs d L j w h nd hj=>by
 obtain ⟨ao1_1,cap1_1,ao1_2,cap1_2,ao1_3,cap1_3,K1,rfl,hLL,o1,k0⟩:=zdN h;clear h;have hLM:=hLL.symm;subst hLM;unfold za2 at hj ⊢;have Z1:=zae.own_lt o1;have bz:=bAl w (.cells #[.int .i64 d.code,.int .i64 (d.world.shape 0),.int .i64 (d.world.shape 1),.int .i64 (d.world.shape 2),.int .i64 (d.world.shape 3),.int .i64 (d.world.shape 4),.int .i64 (d.world.shape 5),.int .i64 (d.world.shape 6),.int .i64 (d.world.shape 7),.int .i64 (d.world.shape 8),.slice ao1_1 d.world.groups.1 cap1_1,.slice ao1_2 d.world.on.1 cap1_2,.slice ao1_3 d.world.tapes.1 cap1_3,.int .i64 d.world.writes,.int .i64 d.world.stop,.bool d.world.down] 40);have B0:Hid (Box (w.alloc (.cells #[.int .i64 d.code,.int .i64 (d.world.shape 0),.int .i64 (d.world.shape 1),.int .i64 (d.world.shape 2),.int .i64 (d.world.shape 3),.int .i64 (d.world.shape 4),.int .i64 (d.world.shape 5),.int .i64 (d.world.shape 6),.int .i64 (d.world.shape 7),.int .i64 (d.world.shape 8),.slice ao1_1 d.world.groups.1 cap1_1,.slice ao1_2 d.world.on.1 cap1_2,.slice ao1_3 d.world.tapes.1 cap1_3,.int .i64 d.world.writes,.int .i64 d.world.stop,.bool d.world.down] 40)) w.heap.size #[.int .i64 d.code,.int .i64 (d.world.shape 0),.int .i64 (d.world.shape 1),.int .i64 (d.world.shape 2),.int .i64 (d.world.shape 3),.int .i64 (d.world.shape 4),.int .i64 (d.world.shape 5),.int .i64 (d.world.shape 6),.int .i64 (d.world.shape 7),.int .i64 (d.world.shape 8),.slice ao1_1 d.world.groups.1 cap1_1,.slice ao1_2 d.world.on.1 cap1_2,.slice ao1_3 d.world.tapes.1 cap1_3,.int .i64 d.world.writes,.int .i64 d.world.stop,.bool d.world.down] 40):=zaz _ _ _;have CH0:Hid (ChgL (K1) w (w.alloc (.cells #[.int .i64 d.code,.int .i64 (d.world.shape 0),.int .i64 (d.world.shape 1),.int .i64 (d.world.shape 2),.int .i64 (d.world.shape 3),.int .i64 (d.world.shape 4),.int .i64 (d.world.shape 5),.int .i64 (d.world.shape 6),.int .i64 (d.world.shape 7),.int .i64 (d.world.shape 8),.slice ao1_1 d.world.groups.1 cap1_1,.slice ao1_2 d.world.on.1 cap1_2,.slice ao1_3 d.world.tapes.1 cap1_3,.int .i64 d.world.writes,.int .i64 d.world.stop,.bool d.world.down] 40))):=ChgL.of_below bz;have O0_1:Hid (zae.own (w.alloc (.cells #[.int .i64 d.code,.int .i64 (d.world.shape 0),.int .i64 (d.world.shape 1),.int .i64 (d.world.shape 2),.int .i64 (d.world.shape 3),.int .i64 (d.world.shape 4),.int .i64 (d.world.shape 5),.int .i64 (d.world.shape 6),.int .i64 (d.world.shape 7),.int .i64 (d.world.shape 8),.slice ao1_1 d.world.groups.1 cap1_1,.slice ao1_2 d.world.on.1 cap1_2,.slice ao1_3 d.world.tapes.1 cap1_3,.int .i64 d.world.writes,.int .i64 d.world.stop,.bool d.world.down] 40)) d.world [.int .i64 (d.world.shape 0),.int .i64 (d.world.shape 1),.int .i64 (d.world.shape 2),.int .i64 (d.world.shape 3),.int .i64 (d.world.shape 4),.int .i64 (d.world.shape 5),.int .i64 (d.world.shape 6),.int .i64 (d.world.shape 7),.int .i64 (d.world.shape 8),.slice ao1_1 d.world.groups.1 cap1_1,.slice ao1_2 d.world.on.1 cap1_2,.slice ao1_3 d.world.tapes.1 cap1_3,.int .i64 d.world.writes,.int .i64 d.world.stop,.bool d.world.down] K1):=zae.own_kept o1 (fun b hb=>bz.block b (Z1 b hb))
 clear bz o1
 go_enter Tryz.func16,Tryz.ntmps16
 go_wp2_with fail
 refine (zdn _ d.world K1 (j) _ O0_1.out nd (by omega)).mono ?_;rintro e w1 ⟨rfl,p1,q1⟩;have O1_1:=hid p1;have B1:Hid (Box w1 w.heap.size #[.int .i64 d.code,.int .i64 (d.world.shape 0),.int .i64 (d.world.shape 1),.int .i64 (d.world.shape 2),.int .i64 (d.world.shape 3),.int .i64 (d.world.shape 4),.int .i64 (d.world.shape 5),.int .i64 (d.world.shape 6),.int .i64 (d.world.shape 7),.int .i64 (d.world.shape 8),.slice ao1_1 d.world.groups.1 cap1_1,.slice ao1_2 d.world.on.1 cap1_2,.slice ao1_3 d.world.tapes.1 cap1_3,.int .i64 d.world.writes,.int .i64 d.world.stop,.bool d.world.down] 40):=(q1.block w.heap.size B0.out.lt (fun hb=>by have:=Z1 _ hb;omega)).trans B0.out;have CH1:Hid (ChgL (K1) w w1):=CH0.out.sub q1 (fun b hb=>hb);clear p1 q1;go_wp2;go_ret;exact ⟨zcp (by omega),zef (zbC j d) O1_1.out k0,CH1.out⟩
theorem zhq:MkV zac zer zhR 23:=fun cs d L j w h nd hj=>by
 obtain ⟨ao6,cap6,ao7,cap7,ao8,cap8,K6,K7,K8,rfl,rfl,o6,o7,o8,k0,k1,k2,k3,k4,k5⟩:=zdL h;clear h
 unfold zer at hj ⊢;obtain ⟨n0,m0,d0⟩:=List.nodup_append.1 nd;obtain ⟨n1,m1,d1⟩:=List.nodup_append.1 m0;have Z6:=zai.own_lt o6;have Z7:=zad.own_lt o7;have Z8:=zad.own_lt o8;have bz:=bAl w (.cells (rwR d ao6 cap6 ao7 cap7 ao8 cap8).toArray 56);have B0:Hid (Box (w.alloc (.cells (rwR d ao6 cap6 ao7 cap7 ao8 cap8).toArray 56)) w.heap.size (rwR d ao6 cap6 ao7 cap7 ao8 cap8).toArray 56):=zaz _ _ _;have CH0:Hid (ChgL (K6++(K7++K8)) w (w.alloc (.cells (rwR d ao6 cap6 ao7 cap7 ao8 cap8).toArray 56))):=ChgL.of_below bz;have O0_6:Hid (zai.own (w.alloc (.cells (rwR d ao6 cap6 ao7 cap7 ao8 cap8).toArray 56)) d.rows [.slice ao6 d.rows.1 cap6] K6):=zai.own_kept o6 (fun b hb=>bz.block b (Z6 b hb));have O0_7:Hid (zad.own (w.alloc (.cells (rwR d ao6 cap6 ao7 cap7 ao8 cap8).toArray 56)) d.data [.slice ao7 d.data.1 cap7] K7):=zad.own_kept o7 (fun b hb=>bz.block b (Z7 b hb));have O0_8:Hid (zad.own (w.alloc (.cells (rwR d ao6 cap6 ao7 cap7 ao8 cap8).toArray 56)) d.delta [.slice ao8 d.delta.1 cap8] K8):=zad.own_kept o8 (fun b hb=>bz.block b (Z8 b hb));clear bz o6 o7 o8
 go_enter Tryz.func23,Tryz.ntmps23
 go_wp2_with fail
 refine (zcU _ d.rows K6 (j) _ O0_6.out n0 (by omega)).mono ?_;rintro e w1 ⟨rfl,p6,q6⟩;have O1_6:=hid p6;have O1_7:Hid (zad.own w1 d.data [.slice ao7 d.data.1 cap7] K7):=zad.own_chgL O0_7.out q6 (fun b hb hx=>d0 b hx b (List.mem_append_left _ hb) rfl);have O1_8:Hid (zad.own w1 d.delta [.slice ao8 d.delta.1 cap8] K8):=zad.own_chgL O0_8.out q6 (fun b hb hx=>d0 b hx b (List.mem_append_right _ (hb)) rfl);have B1:Hid (Box w1 w.heap.size (rwR d ao6 cap6 ao7 cap7 ao8 cap8).toArray 56):=(q6.block w.heap.size B0.out.lt (fun hb=>by have:=Z6 _ hb;omega)).trans B0.out;have CH1:Hid (ChgL (K6++(K7++K8)) w w1):=CH0.out.sub q6 (fun b hb=>List.mem_append_left _ hb);clear p6 q6;have x1_7:w1.cell? ⟨w.heap.size,7,none⟩=some (.slice ao7 d.data.1 cap7):=B1.out.cell 7
 go_wp2_with fail
 refine (zbQ _ d.data K7 (j+lenD d.rows) _ O1_7.out n1 (by omega)).mono ?_;rintro e w2 ⟨rfl,p7,q7⟩;have O2_6:Hid (zai.own w2 (zbG (j) d.rows) [.slice ao6 d.rows.1 cap6] K6):=zai.own_chgL O1_6.out q7 (fun b hb hx=>d0 b hb b (List.mem_append_left _ hx) rfl);have O2_7:=hid p7;have O2_8:Hid (zad.own w2 d.delta [.slice ao8 d.delta.1 cap8] K8):=zad.own_chgL O1_8.out q7 (fun b hb hx=>d1 b hx b (hb) rfl);have B2:Hid (Box w2 w.heap.size (rwR d ao6 cap6 ao7 cap7 ao8 cap8).toArray 56):=(q7.block w.heap.size B1.out.lt (fun hb=>by have:=Z7 _ hb;omega)).trans B1.out;have CH2:Hid (ChgL (K6++(K7++K8)) w w2):=CH1.out.sub q7 (fun b hb=>List.mem_append_right _ (List.mem_append_left _ hb));clear p7 q7;have x2_8:w2.cell? ⟨w.heap.size,8,none⟩=some (.slice ao8 d.delta.1 cap8):=B2.out.cell 8
 go_wp2_with fail
 refine (zbQ _ d.delta K8 (j+lenD d.rows+lenD d.data) _ O2_8.out m1 (by omega)).mono ?_;rintro e w3 ⟨rfl,p8,q8⟩;have O3_6:Hid (zai.own w3 (zbG (j) d.rows) [.slice ao6 d.rows.1 cap6] K6):=zai.own_chgL O2_6.out q8 (fun b hb hx=>d0 b hb b (List.mem_append_right _ (hx)) rfl);have O3_7:Hid (zad.own w3 (za0 (j+lenD d.rows) d.data) [.slice ao7 d.data.1 cap7] K7):=zad.own_chgL O2_7.out q8 (fun b hb hx=>d1 b hb b (hx) rfl);have O3_8:=hid p8;have B3:Hid (Box w3 w.heap.size (rwR d ao6 cap6 ao7 cap7 ao8 cap8).toArray 56):=(q8.block w.heap.size B2.out.lt (fun hb=>by have:=Z8 _ hb;omega)).trans B2.out;have CH3:Hid (ChgL (K6++(K7++K8)) w w3):=CH2.out.sub q8 (fun b hb=>List.mem_append_right _ (List.mem_append_right _ (hb)));clear p8 q8;go_wp2;go_ret;exact ⟨zcp (by omega),zcR (zhR j d) O3_6.out O3_7.out O3_8.out k0 k1 k2 k3 k4 k5,CH3.out⟩
end Go.Proofs.YtonemlgejkapbaaGreat
