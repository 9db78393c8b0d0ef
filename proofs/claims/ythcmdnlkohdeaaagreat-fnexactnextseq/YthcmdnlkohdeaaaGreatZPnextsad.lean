/- Walks: copies of records and tapes. -/
import Derived.Lib.QuietBelow
import Derived.Test.YthcmdnlkohdeaaaGreatZPnextsac
set_option linter.unusedVariables false
set_option linter.unusedSimpArgs false
set_option maxHeartbeats 16000000
namespace Go.Proofs.YthcmdnlkohdeaaaGreat
open Go.RowKit F256
set_option maxRecDepth 20000 in
theorem zgW:ToV zab za2 126:=fun cs d hi w r hhi hn=>by
 obtain ⟨ao6,cap6,ao7,cap7,ao8,cap8,rfl,h6,h7,h8,k0,k1,k2,k3,k4,k5⟩:=zaH r;clear r;unfold za2 at hn;have R6:=hid h6;have R7:=hid h7;have R8:=hid h8;clear h6 h7 h8;have Q0:=hid k0;have Q1:=hid k1;have Q2:=hid k2;have Q3:=hid k3;have Q4:=hid k4;have Q5:=hid k5;clear k0 k1 k2 k3 k4 k5
 go_enter Tryz.func126,Tryz.ntmps126
 go_wp2_with fail
 have T0:=zbP w (rwR d ao6 cap6 ao7 cap7 ao8 cap8).toArray #[.int .i64 0,.int .i64 0,.string ByteArray.empty,.int .i64 0,.int .i64 0,.int .i64 0,.slice none 0 0,.slice none 0 0,.slice none 0 0] #[.int .i64 d.kind,.int .i64 d.seq,.string d.name,.int .i64 d.length,.int .i64 d.group,.int .i64 d.row,.slice none 0 0,.slice none 0 0,.slice none 0 0] 141 92 92;refine (zed _ d.rows hi _ (zaA.rd_below R6.out T0.bel hhi) (Nat.le_trans hhi T0.bel.size) (by omega)).mono ?_;rintro e w1 ⟨v1,rfl,o1,b1⟩;have L1:=T0.lt;obtain ⟨bo6,bcap6,hv⟩:=zdu o1;obtain rfl:=zcl hv;clear hv;have T1:Three w w1 (rwR d ao6 cap6 ao7 cap7 ao8 cap8).toArray #[.int .i64 0,.int .i64 0,.string ByteArray.empty,.int .i64 0,.int .i64 0,.int .i64 0,.slice none 0 0,.slice none 0 0,.slice none 0 0] #[.int .i64 d.kind,.int .i64 d.seq,.string d.name,.int .i64 d.length,.int .i64 d.group,.int .i64 d.row,.slice none 0 0,.slice none 0 0,.slice none 0 0] 141 92 92:=T0.call b1;have O6:Hid (OwnT zaA w1 (w.heap.size+1+1+1) (w1.heap.size) d.rows [.slice bo6 d.rows.1 bcap6]):=o1.weaken (by simp<;>omega) (Nat.le_refl _);clear o1;have LT1:w.heap.size+1+1+1≤w1.heap.size:=T1.lt;have x1_7:w1.cell? ⟨w.heap.size,7,none⟩=some (.slice ao7 d.data.1 cap7):=T1.b1.cell 7;have y1_6:w1.cell? ⟨w.heap.size+1+1,6,none⟩=some (.slice none 0 0):=T1.b3.cell 6;have yf1_6:w1.frozen? ⟨w.heap.size+1+1,6,none⟩=false:=T1.b3.frozen 6;have V1:Three w (w1.setCell ⟨w.heap.size+1+1,6,none⟩ (.slice bo6 d.rows.1 bcap6)) (rwR d ao6 cap6 ao7 cap7 ao8 cap8).toArray #[.int .i64 0,.int .i64 0,.string ByteArray.empty,.int .i64 0,.int .i64 0,.int .i64 0,.slice none 0 0,.slice none 0 0,.slice none 0 0] #[.int .i64 d.kind,.int .i64 d.seq,.string d.name,.int .i64 d.length,.int .i64 d.group,.int .i64 d.row,.slice bo6 d.rows.1 bcap6,.slice none 0 0,.slice none 0 0] 141 92 92:=T1.st3 6 [.slice bo6 d.rows.1 bcap6] (c3':=[.int .i64 d.kind,.int .i64 d.seq,.string d.name,.int .i64 d.length,.int .i64 d.group,.int .i64 d.row,.slice bo6 d.rows.1 bcap6,.slice none 0 0,.slice none 0 0]) rfl;clear T1 b1
 go_wp2_with fail
 refine (zcK _ d.data hi _ (zak.rd_below R7.out V1.bel hhi) (Nat.le_trans hhi V1.bel.size) (by omega)).mono ?_;rintro e w2 ⟨v2,rfl,o2,b2⟩;have L2:=V1.lt;obtain ⟨bo7,bcap7,hv⟩:=zcp o2;obtain rfl:=zcl hv;clear hv;have T2:Three w w2 (rwR d ao6 cap6 ao7 cap7 ao8 cap8).toArray #[.int .i64 0,.int .i64 0,.string ByteArray.empty,.int .i64 0,.int .i64 0,.int .i64 0,.slice none 0 0,.slice none 0 0,.slice none 0 0] #[.int .i64 d.kind,.int .i64 d.seq,.string d.name,.int .i64 d.length,.int .i64 d.group,.int .i64 d.row,.slice bo6 d.rows.1 bcap6,.slice none 0 0,.slice none 0 0] 141 92 92:=V1.call b2;have O6x:OwnT zaA w2 (w.heap.size+1+1+1) (w1.heap.size) d.rows [.slice bo6 d.rows.1 bcap6]:=((O6.out).set (show w.heap.size+1+1<_ by omega)).call b2;clear O6;have O6:=hid O6x;clear O6x;have O7:Hid (OwnT zak w2 (w1.heap.size) (w2.heap.size) d.data [.slice bo7 d.data.1 bcap7]):=o2.weaken (by simp<;>omega) (Nat.le_refl _);clear o2;have LT2:w.heap.size+1+1+1≤w2.heap.size:=T2.lt
 have S2:w1.heap.size≤w2.heap.size:=by
  have:=b2.size
  simpa using this
 have x2_8:w2.cell? ⟨w.heap.size,8,none⟩=some (.slice ao8 d.delta.1 cap8):=T2.b1.cell 8;have y2_7:w2.cell? ⟨w.heap.size+1+1,7,none⟩=some (.slice none 0 0):=T2.b3.cell 7;have yf2_7:w2.frozen? ⟨w.heap.size+1+1,7,none⟩=false:=T2.b3.frozen 7;have V2:Three w (w2.setCell ⟨w.heap.size+1+1,7,none⟩ (.slice bo7 d.data.1 bcap7)) (rwR d ao6 cap6 ao7 cap7 ao8 cap8).toArray #[.int .i64 0,.int .i64 0,.string ByteArray.empty,.int .i64 0,.int .i64 0,.int .i64 0,.slice none 0 0,.slice none 0 0,.slice none 0 0] #[.int .i64 d.kind,.int .i64 d.seq,.string d.name,.int .i64 d.length,.int .i64 d.group,.int .i64 d.row,.slice bo6 d.rows.1 bcap6,.slice bo7 d.data.1 bcap7,.slice none 0 0] 141 92 92:=T2.st3 7 [.slice bo7 d.data.1 bcap7] (c3':=[.int .i64 d.kind,.int .i64 d.seq,.string d.name,.int .i64 d.length,.int .i64 d.group,.int .i64 d.row,.slice bo6 d.rows.1 bcap6,.slice bo7 d.data.1 bcap7,.slice none 0 0]) rfl;clear T2 b2
 go_wp2_with fail
 refine (zcK _ d.delta hi _ (zak.rd_below R8.out V2.bel hhi) (Nat.le_trans hhi V2.bel.size) (by omega)).mono ?_;rintro e w3 ⟨v3,rfl,o3,b3⟩;have L3:=V2.lt;obtain ⟨bo8,bcap8,hv⟩:=zcp o3;obtain rfl:=zcl hv;clear hv;have T3:Three w w3 (rwR d ao6 cap6 ao7 cap7 ao8 cap8).toArray #[.int .i64 0,.int .i64 0,.string ByteArray.empty,.int .i64 0,.int .i64 0,.int .i64 0,.slice none 0 0,.slice none 0 0,.slice none 0 0] #[.int .i64 d.kind,.int .i64 d.seq,.string d.name,.int .i64 d.length,.int .i64 d.group,.int .i64 d.row,.slice bo6 d.rows.1 bcap6,.slice bo7 d.data.1 bcap7,.slice none 0 0] 141 92 92:=V2.call b3;have O6x:OwnT zaA w3 (w.heap.size+1+1+1) (w1.heap.size) d.rows [.slice bo6 d.rows.1 bcap6]:=((O6.out).set (show w.heap.size+1+1<_ by omega)).call b3;clear O6;have O6:=hid O6x;clear O6x;have O7x:OwnT zak w3 (w1.heap.size) (w2.heap.size) d.data [.slice bo7 d.data.1 bcap7]:=((O7.out).set (show w.heap.size+1+1<_ by omega)).call b3;clear O7;have O7:=hid O7x;clear O7x;have O8:Hid (OwnT zak w3 (w2.heap.size) (w3.heap.size) d.delta [.slice bo8 d.delta.1 bcap8]):=o3.weaken (by simp<;>omega) (Nat.le_refl _);clear o3;have LT3:w.heap.size+1+1+1≤w3.heap.size:=T3.lt
 have S3:w2.heap.size≤w3.heap.size:=by
  have:=b3.size
  simpa using this
 have y3_0:w3.cell? ⟨w.heap.size+1+1,0,none⟩=some (.int .i64 d.kind):=T3.b3.cell 0;have y3_1:w3.cell? ⟨w.heap.size+1+1,1,none⟩=some (.int .i64 d.seq):=T3.b3.cell 1;have y3_2:w3.cell? ⟨w.heap.size+1+1,2,none⟩=some (.string d.name):=T3.b3.cell 2;have y3_3:w3.cell? ⟨w.heap.size+1+1,3,none⟩=some (.int .i64 d.length):=T3.b3.cell 3;have y3_4:w3.cell? ⟨w.heap.size+1+1,4,none⟩=some (.int .i64 d.group):=T3.b3.cell 4;have y3_5:w3.cell? ⟨w.heap.size+1+1,5,none⟩=some (.int .i64 d.row):=T3.b3.cell 5;have y3_6:w3.cell? ⟨w.heap.size+1+1,6,none⟩=some (.slice bo6 d.rows.1 bcap6):=T3.b3.cell 6;have y3_7:w3.cell? ⟨w.heap.size+1+1,7,none⟩=some (.slice bo7 d.data.1 bcap7):=T3.b3.cell 7;have y3_8:w3.cell? ⟨w.heap.size+1+1,8,none⟩=some (.slice none 0 0):=T3.b3.cell 8;have yf3_8:w3.frozen? ⟨w.heap.size+1+1,8,none⟩=false:=T3.b3.frozen 8;have z3_0:w3.cell? ⟨w.heap.size+1,0,none⟩=some (.int .i64 0):=T3.b2.cell 0;have zf3_0:w3.frozen? ⟨w.heap.size+1,0,none⟩=false:=T3.b2.frozen 0;have z3_1:w3.cell? ⟨w.heap.size+1,1,none⟩=some (.int .i64 0):=T3.b2.cell 1;have zf3_1:w3.frozen? ⟨w.heap.size+1,1,none⟩=false:=T3.b2.frozen 1;have z3_2:w3.cell? ⟨w.heap.size+1,2,none⟩=some (.string ByteArray.empty):=T3.b2.cell 2;have zf3_2:w3.frozen? ⟨w.heap.size+1,2,none⟩=false:=T3.b2.frozen 2;have z3_3:w3.cell? ⟨w.heap.size+1,3,none⟩=some (.int .i64 0):=T3.b2.cell 3;have zf3_3:w3.frozen? ⟨w.heap.size+1,3,none⟩=false:=T3.b2.frozen 3;have z3_4:w3.cell? ⟨w.heap.size+1,4,none⟩=some (.int .i64 0):=T3.b2.cell 4;have zf3_4:w3.frozen? ⟨w.heap.size+1,4,none⟩=false:=T3.b2.frozen 4;have z3_5:w3.cell? ⟨w.heap.size+1,5,none⟩=some (.int .i64 0):=T3.b2.cell 5;have zf3_5:w3.frozen? ⟨w.heap.size+1,5,none⟩=false:=T3.b2.frozen 5;have z3_6:w3.cell? ⟨w.heap.size+1,6,none⟩=some (.slice none 0 0):=T3.b2.cell 6;have zf3_6:w3.frozen? ⟨w.heap.size+1,6,none⟩=false:=T3.b2.frozen 6;have z3_7:w3.cell? ⟨w.heap.size+1,7,none⟩=some (.slice none 0 0):=T3.b2.cell 7;have zf3_7:w3.frozen? ⟨w.heap.size+1,7,none⟩=false:=T3.b2.frozen 7;have z3_8:w3.cell? ⟨w.heap.size+1,8,none⟩=some (.slice none 0 0):=T3.b2.cell 8;have zf3_8:w3.frozen? ⟨w.heap.size+1,8,none⟩=false:=T3.b2.frozen 8;have Bq:=hid T3.bel;clear T3 b3;go_wp2;refine bodyPost_ret (v:=.agg (rwR d bo6 bcap6 bo7 bcap7 bo8 bcap8).toArray) (by simp [results,Tryz.results126,go_sem,y3_0,z3_0,y3_1,z3_1,y3_2,z3_2,y3_3,z3_3,y3_4,z3_4,y3_5,z3_5,y3_6,z3_6,y3_7,z3_7,y3_8,z3_8]) rfl ?_;have F:OwnT zab w3 (w.heap.size+1+1+1) w3.heap.size d ([.int .i64 d.kind]++([.int .i64 d.seq]++([.string d.name]++([.int .i64 d.length]++([.int .i64 d.group]++([.int .i64 d.row]++([.slice bo6 d.rows.1 bcap6]++([.slice bo7 d.data.1 bcap7]++[.slice bo8 d.delta.1 bcap8])))))))):=OwnT.conv (OwnT.pre (A:=layI) (a:=d.kind) (c:=[.int .i64 d.kind]) ⟨rfl,Q0.out,rfl⟩ (OwnT.pre (A:=layI) (a:=d.seq) (c:=[.int .i64 d.seq]) ⟨rfl,Q1.out,rfl⟩ (OwnT.pre (A:=layS) (a:=d.name) (c:=[.string d.name]) ⟨rfl,Q2.out,rfl⟩ (OwnT.pre (A:=layI) (a:=d.length) (c:=[.int .i64 d.length]) ⟨rfl,Q3.out,rfl⟩ (OwnT.pre (A:=layI) (a:=d.group) (c:=[.int .i64 d.group]) ⟨rfl,Q4.out,rfl⟩ (OwnT.pre (A:=layI) (a:=d.row) (c:=[.int .i64 d.row]) ⟨rfl,Q5.out,rfl⟩ (OwnT.two O6.out (OwnT.two O7.out (O8.out) (by omega) (by omega) (by omega)) (by omega) (by omega) (by omega))))))))
 exact ⟨(rwR d bo6 bcap6 bo7 bcap7 bo8 bcap8),rfl,OwnT.fin F 8 0 [.slice bo8 d.delta.1 bcap8] (rwR d bo6 bcap6 bo7 bcap7 bo8 bcap8) _ rfl,zb5 Bq.out 8 0 [.slice bo8 d.delta.1 bcap8] (rwR d bo6 bcap6 bo7 bcap7 bo8 bcap8) _ rfl⟩
theorem zgn:(Tryz.prog.info? 92).map (fun i=>(i.zero.map (·.cells),i.size,i.bytes))=some (some #[.int .i64 0,.int .i64 0,.string ByteArray.empty,.int .i64 0,.int .i64 0,.int .i64 0,.slice none 0 0,.slice none 0 0,.slice none 0 0],9,128):=by kernel_rfl
theorem zgo:ToS (zab.slice 92) (szSl za2) 99:=fun v d hi w h hhi hn=>by
 obtain ⟨n,x⟩:=d;obtain ⟨ao,cap,hv,hm,hc⟩:=h
 cases hv
 have hn1:=zec hn;have hn2:∀ i,i<n→za2 (x i)≤1048576:=fun i hi=>zcn hn hi
 simp only at hn1 hm hc
 clear hn
 go_enter Tryz.func99,Tryz.ntmps99
 go_wp2_with (at_make;refine zcw zab [.int .i64 0,.int .i64 0,.string ByteArray.empty,.int .i64 0,.int .i64 0,.int .i64 0,.slice none 0 0,.slice none 0 0,.slice none 0 0] _ 92 128 (by decide) rfl Tryz.underlying30 zgn x (fun _=>[]) _ rfl _ _ rfl _ _ n rfl rfl rfl rfl (by omega) (by omega) ?_;intro w1 sp1 hb1)
 go_loopw [4] (fun i wr=>∃ k:Nat,k≤n∧i=.int .i64 k∧∃ ce Ls,SlP zab 92 wr w.heap.size w.heap.size n n k x ce Ls∧Below w.heap.size w wr) (fun i _=>n-(intOf i).toNat)
 case atStart=>exact ⟨0,Nat.zero_le _,rfl,_,_,sp1,hb1⟩
 case round=>
  clear sp1 hb1;obtain ⟨k,hk,rfl,ce,Ls,sp,hb⟩:=hrel
  by_cases hlt:k<n
  ·obtain ⟨b,off,rfl,hblt,hel⟩:=hc (by omega)
   obtain ⟨ck,hrk,hcell⟩:=zas (t:=0) hel hb hhi hblt hlt;obtain ⟨ao6,cap6,ao7,cap7,ao8,cap8,rfl,-⟩:=zaH hrk;have c0:wr.cell? ⟨b,off+k*9,none⟩=some (.int .i64 (x k).kind):=hcell 0 (by decide);have c1:wr.cell? ⟨b,off+k*9+1,none⟩=some (.int .i64 (x k).seq):=hcell 1 (by decide);have c2:wr.cell? ⟨b,off+k*9+2,none⟩=some (.string (x k).name):=hcell 2 (by decide);have c3:wr.cell? ⟨b,off+k*9+3,none⟩=some (.int .i64 (x k).length):=hcell 3 (by decide);have c4:wr.cell? ⟨b,off+k*9+4,none⟩=some (.int .i64 (x k).group):=hcell 4 (by decide);have c5:wr.cell? ⟨b,off+k*9+5,none⟩=some (.int .i64 (x k).row):=hcell 5 (by decide);have c6:wr.cell? ⟨b,off+k*9+6,none⟩=some (.slice ao6 (x k).rows.1 cap6):=hcell 6 (by decide);have c7:wr.cell? ⟨b,off+k*9+7,none⟩=some (.slice ao7 (x k).data.1 cap7):=hcell 7 (by decide);have c8:wr.cell? ⟨b,off+k*9+8,none⟩=some (.slice ao8 (x k).delta.1 cap8):=hcell 8 (by decide);clear hc hel hcell
   go_wp2_with fail
   refine (zgW _ (x k) hi wr hrk (Nat.le_trans hhi hb.size) (hn2 k hlt)).mono ?_;rintro e w2 ⟨cs',rfl,o2,hb2⟩;obtain ⟨bao6,bcap6,bao7,bcap7,bao8,bcap8,rfl⟩:=zgm o2;obtain ⟨z0,s0⟩:=sp.some hb2 hlt (show 0<zab.sz by decide);have s0:w2.cell? ⟨w.heap.size,k*9,none⟩=some z0:=s0;have sf0:=(sp.below hb2).frozen (k*9);obtain ⟨z1,s1⟩:=sp.some hb2 hlt (show 1<zab.sz by decide);have s1:w2.cell? ⟨w.heap.size,k*9+1,none⟩=some z1:=s1;have sf1:=(sp.below hb2).frozen (k*9+1);obtain ⟨z2,s2⟩:=sp.some hb2 hlt (show 2<zab.sz by decide);have s2:w2.cell? ⟨w.heap.size,k*9+2,none⟩=some z2:=s2;have sf2:=(sp.below hb2).frozen (k*9+2);obtain ⟨z3,s3⟩:=sp.some hb2 hlt (show 3<zab.sz by decide);have s3:w2.cell? ⟨w.heap.size,k*9+3,none⟩=some z3:=s3;have sf3:=(sp.below hb2).frozen (k*9+3);obtain ⟨z4,s4⟩:=sp.some hb2 hlt (show 4<zab.sz by decide);have s4:w2.cell? ⟨w.heap.size,k*9+4,none⟩=some z4:=s4;have sf4:=(sp.below hb2).frozen (k*9+4);obtain ⟨z5,s5⟩:=sp.some hb2 hlt (show 5<zab.sz by decide);have s5:w2.cell? ⟨w.heap.size,k*9+5,none⟩=some z5:=s5;have sf5:=(sp.below hb2).frozen (k*9+5);obtain ⟨z6,s6⟩:=sp.some hb2 hlt (show 6<zab.sz by decide);have s6:w2.cell? ⟨w.heap.size,k*9+6,none⟩=some z6:=s6;have sf6:=(sp.below hb2).frozen (k*9+6);obtain ⟨z7,s7⟩:=sp.some hb2 hlt (show 7<zab.sz by decide);have s7:w2.cell? ⟨w.heap.size,k*9+7,none⟩=some z7:=s7;have sf7:=(sp.below hb2).frozen (k*9+7);obtain ⟨z8,s8⟩:=sp.some hb2 hlt (show 8<zab.sz by decide);have s8:w2.cell? ⟨w.heap.size,k*9+8,none⟩=some z8:=s8;have sf8:=(sp.below hb2).frozen (k*9+8);have N:=sp.next hb2 hlt o2 hb.size;have N2:Below w.heap.size w (stN w2 w.heap.size (k*zab.sz) [.int .i64 (x k).kind,.int .i64 (x k).seq,.string (x k).name,.int .i64 (x k).length,.int .i64 (x k).group,.int .i64 (x k).row,.slice bao6 (x k).rows.1 bcap6,.slice bao7 (x k).data.1 bcap7,.slice bao8 (x k).delta.1 bcap8]):=(hb.trans (hb2.mono hb.size)).trans (zbk (Nat.le_refl _) _ _);clear o2 hb2 sp hb
   go_wp2_with fail
   go_roundw
   case rel=>
    obtain ⟨ce',Ls',N⟩:=N;exact ⟨k+1,by omega,by go_num,ce',Ls',N,N2⟩
   case measure=>simp [intOf];omega
  ·obtain rfl:k=n:=by omega
   go_wp2;go_ret;exact ⟨_,rfl,sp.done (Nat.le_refl _),hb⟩
set_option maxRecDepth 20000 in
theorem zgp:ToV zaq zaQ 60:=fun cs d hi w r hhi hn=>by
 obtain ⟨ao1,cap1,rfl,h1⟩:=zaW r;clear r;unfold zaQ at hn;have R1:=hid h1;clear h1
 go_enter Tryz.func60,Tryz.ntmps60
 go_wp2_with fail
 have T0:=zbP w #[.bool d.wiped,.slice ao1 d.recs.1 cap1] #[.bool false,.slice none 0 0] #[.bool d.wiped,.slice none 0 0] 83 88 88;refine (zgo _ d.recs hi _ ((zab.slice 92).rd_below R1.out T0.bel hhi) (Nat.le_trans hhi T0.bel.size) (by omega)).mono ?_;rintro e w1 ⟨v1,rfl,o1,b1⟩;have L1:=T0.lt;obtain ⟨bo1,bcap1,hv⟩:=zcy o1;obtain rfl:=zcl hv;clear hv;have T1:Three w w1 #[.bool d.wiped,.slice ao1 d.recs.1 cap1] #[.bool false,.slice none 0 0] #[.bool d.wiped,.slice none 0 0] 83 88 88:=T0.call b1;have O1:Hid (OwnT (zab.slice 92) w1 (w.heap.size+1+1+1) (w1.heap.size) d.recs [.slice bo1 d.recs.1 bcap1]):=o1.weaken (by simp<;>omega) (Nat.le_refl _);clear o1;have LT1:w.heap.size+1+1+1≤w1.heap.size:=T1.lt;have y1_0:w1.cell? ⟨w.heap.size+1+1,0,none⟩=some (.bool d.wiped):=T1.b3.cell 0;have y1_1:w1.cell? ⟨w.heap.size+1+1,1,none⟩=some (.slice none 0 0):=T1.b3.cell 1;have yf1_1:w1.frozen? ⟨w.heap.size+1+1,1,none⟩=false:=T1.b3.frozen 1;have z1_0:w1.cell? ⟨w.heap.size+1,0,none⟩=some (.bool false):=T1.b2.cell 0;have zf1_0:w1.frozen? ⟨w.heap.size+1,0,none⟩=false:=T1.b2.frozen 0;have z1_1:w1.cell? ⟨w.heap.size+1,1,none⟩=some (.slice none 0 0):=T1.b2.cell 1;have zf1_1:w1.frozen? ⟨w.heap.size+1,1,none⟩=false:=T1.b2.frozen 1;have Bq:=hid T1.bel;clear T1 b1;go_wp2;refine bodyPost_ret (v:=.agg #[.bool d.wiped,.slice bo1 d.recs.1 bcap1]) (by simp [results,Tryz.results60,go_sem,y1_0,z1_0,y1_1,z1_1]) rfl ?_;have F:OwnT zaq w1 (w.heap.size+1+1+1) w1.heap.size d ([.bool d.wiped]++[.slice bo1 d.recs.1 bcap1]):=OwnT.conv (OwnT.pre (A:=layB) (a:=d.wiped) (c:=[.bool d.wiped]) ⟨rfl,trivial,rfl⟩ (O1.out));exact ⟨[.bool d.wiped,.slice bo1 d.recs.1 bcap1],rfl,OwnT.fin F 1 0 [.slice bo1 d.recs.1 bcap1] [.bool d.wiped,.slice bo1 d.recs.1 bcap1] _ rfl,zb5 Bq.out 1 0 [.slice bo1 d.recs.1 bcap1] [.bool d.wiped,.slice bo1 d.recs.1 bcap1] _ rfl⟩
theorem zfE:(Tryz.prog.info? 88).map (fun i=>(i.zero.map (·.cells),i.size,i.bytes))=some (some #[.bool false,.slice none 0 0],2,32):=by kernel_rfl
theorem zfF:ToS (zaq.slice 88) (szSl zaQ) 29:=fun v d hi w h hhi hn=>by
 obtain ⟨n,x⟩:=d;obtain ⟨ao,cap,hv,hm,hc⟩:=h
 cases hv
 have hn1:=zec hn;have hn2:∀ i,i<n→zaQ (x i)≤1048576:=fun i hi=>zcn hn hi
 simp only at hn1 hm hc
 clear hn
 go_enter Tryz.func29,Tryz.ntmps29
 go_wp2_with (at_make;refine zcw zaq [.bool false,.slice none 0 0] _ 88 32 (by decide) rfl Tryz.underlying36 zfE x (fun _=>[]) _ rfl _ _ rfl _ _ n rfl rfl rfl rfl (by omega) (by omega) ?_;intro w1 sp1 hb1)
 go_loopw [4] (fun i wr=>∃ k:Nat,k≤n∧i=.int .i64 k∧∃ ce Ls,SlP zaq 88 wr w.heap.size w.heap.size n n k x ce Ls∧Below w.heap.size w wr) (fun i _=>n-(intOf i).toNat)
 case atStart=>exact ⟨0,Nat.zero_le _,rfl,_,_,sp1,hb1⟩
 case round=>
  clear sp1 hb1;obtain ⟨k,hk,rfl,ce,Ls,sp,hb⟩:=hrel
  by_cases hlt:k<n
  ·obtain ⟨b,off,rfl,hblt,hel⟩:=hc (by omega)
   obtain ⟨ck,hrk,hcell⟩:=zas (t:=0) hel hb hhi hblt hlt;obtain ⟨ao1,cap1,rfl,-⟩:=zaW hrk;have c0:wr.cell? ⟨b,off+k*2,none⟩=some (.bool (x k).wiped):=hcell 0 (by decide);have c1:wr.cell? ⟨b,off+k*2+1,none⟩=some (.slice ao1 (x k).recs.1 cap1):=hcell 1 (by decide);clear hc hel hcell
   go_wp2_with fail
   refine (zgp _ (x k) hi wr hrk (Nat.le_trans hhi hb.size) (hn2 k hlt)).mono ?_;rintro e w2 ⟨cs',rfl,o2,hb2⟩;obtain ⟨bao1,bcap1,rfl⟩:=zfA o2;obtain ⟨z0,s0⟩:=sp.some hb2 hlt (show 0<zaq.sz by decide);have s0:w2.cell? ⟨w.heap.size,k*2,none⟩=some z0:=s0;have sf0:=(sp.below hb2).frozen (k*2);obtain ⟨z1,s1⟩:=sp.some hb2 hlt (show 1<zaq.sz by decide);have s1:w2.cell? ⟨w.heap.size,k*2+1,none⟩=some z1:=s1;have sf1:=(sp.below hb2).frozen (k*2+1);have N:=sp.next hb2 hlt o2 hb.size;have N2:Below w.heap.size w (stN w2 w.heap.size (k*zaq.sz) [.bool (x k).wiped,.slice bao1 (x k).recs.1 bcap1]):=(hb.trans (hb2.mono hb.size)).trans (zbk (Nat.le_refl _) _ _);clear o2 hb2 sp hb
   go_wp2_with fail
   go_roundw
   case rel=>
    obtain ⟨ce',Ls',N⟩:=N;exact ⟨k+1,by omega,by go_num,ce',Ls',N,N2⟩
   case measure=>simp [intOf];omega
  ·obtain rfl:k=n:=by omega
   go_wp2;go_ret;exact ⟨_,rfl,sp.done (Nat.le_refl _),hb⟩
set_option maxRecDepth 20000 in
theorem zfG:ToV zaj zbG 8:=fun cs d hi w r hhi hn=>by
 obtain ⟨ao1,cap1,ao2,cap2,ao3,cap3,rfl,h1,h2,h3,k0,k4,k5⟩:=zaM r;clear r;unfold zbG at hn;have R1:=hid h1;have R2:=hid h2;have R3:=hid h3;clear h1 h2 h3;have Q0:=hid k0;have Q4:=hid k4;have Q5:=hid k5;clear k0 k4 k5
 go_enter Tryz.func8,Tryz.ntmps8
 go_wp2_with fail
 have T0:=zbP w (rwW d ao1 cap1 ao2 cap2 ao3 cap3).toArray (rwV 0 0 0 0 0 0 0 0 0 none 0 0 none 0 0 none 0 0 0 0 false).toArray (rwV 0 0 0 0 0 0 0 0 0 none 0 0 none 0 0 none 0 0 0 0 false).toArray 28 38 38;refine (zeQ d.shape _).mono ?_;rintro e w1 ⟨rfl,b1⟩;unfold zac;have L1:=T0.lt;have T1:Three w w1 (rwW d ao1 cap1 ao2 cap2 ao3 cap3).toArray (rwV 0 0 0 0 0 0 0 0 0 none 0 0 none 0 0 none 0 0 0 0 false).toArray (rwV 0 0 0 0 0 0 0 0 0 none 0 0 none 0 0 none 0 0 0 0 false).toArray 28 38 38:=T0.call b1;have LT1:w.heap.size+1+1+1≤w1.heap.size:=T1.lt;have x1_9:w1.cell? ⟨w.heap.size,9,none⟩=some (.slice ao1 d.groups.1 cap1):=T1.b1.cell 9;have y1_0:w1.cell? ⟨w.heap.size+1+1,0,none⟩=some (.int .i64 0):=T1.b3.cell 0;have y1_1:w1.cell? ⟨w.heap.size+1+1,1,none⟩=some (.int .i64 0):=T1.b3.cell 1;have y1_2:w1.cell? ⟨w.heap.size+1+1,2,none⟩=some (.int .i64 0):=T1.b3.cell 2;have y1_3:w1.cell? ⟨w.heap.size+1+1,3,none⟩=some (.int .i64 0):=T1.b3.cell 3;have y1_4:w1.cell? ⟨w.heap.size+1+1,4,none⟩=some (.int .i64 0):=T1.b3.cell 4;have y1_5:w1.cell? ⟨w.heap.size+1+1,5,none⟩=some (.int .i64 0):=T1.b3.cell 5;have y1_6:w1.cell? ⟨w.heap.size+1+1,6,none⟩=some (.int .i64 0):=T1.b3.cell 6;have y1_7:w1.cell? ⟨w.heap.size+1+1,7,none⟩=some (.int .i64 0):=T1.b3.cell 7;have y1_8:w1.cell? ⟨w.heap.size+1+1,8,none⟩=some (.int .i64 0):=T1.b3.cell 8;have yf1_0:w1.frozen? ⟨w.heap.size+1+1,0,none⟩=false:=T1.b3.frozen 0;have yf1_1:w1.frozen? ⟨w.heap.size+1+1,1,none⟩=false:=T1.b3.frozen 1;have yf1_2:w1.frozen? ⟨w.heap.size+1+1,2,none⟩=false:=T1.b3.frozen 2;have yf1_3:w1.frozen? ⟨w.heap.size+1+1,3,none⟩=false:=T1.b3.frozen 3;have yf1_4:w1.frozen? ⟨w.heap.size+1+1,4,none⟩=false:=T1.b3.frozen 4
 have yf1_5:w1.frozen? ⟨w.heap.size+1+1,5,none⟩=false:=T1.b3.frozen 5;have yf1_6:w1.frozen? ⟨w.heap.size+1+1,6,none⟩=false:=T1.b3.frozen 6;have yf1_7:w1.frozen? ⟨w.heap.size+1+1,7,none⟩=false:=T1.b3.frozen 7;have yf1_8:w1.frozen? ⟨w.heap.size+1+1,8,none⟩=false:=T1.b3.frozen 8;have V1:Three w (((((((((w1.setCell ⟨w.heap.size+1+1,0,none⟩ (.int .i64 (d.shape 0))).setCell ⟨w.heap.size+1+1,1,none⟩ (.int .i64 (d.shape 1))).setCell ⟨w.heap.size+1+1,2,none⟩ (.int .i64 (d.shape 2))).setCell ⟨w.heap.size+1+1,3,none⟩ (.int .i64 (d.shape 3))).setCell ⟨w.heap.size+1+1,4,none⟩ (.int .i64 (d.shape 4))).setCell ⟨w.heap.size+1+1,5,none⟩ (.int .i64 (d.shape 5))).setCell ⟨w.heap.size+1+1,6,none⟩ (.int .i64 (d.shape 6))).setCell ⟨w.heap.size+1+1,7,none⟩ (.int .i64 (d.shape 7))).setCell ⟨w.heap.size+1+1,8,none⟩ (.int .i64 (d.shape 8))) (rwW d ao1 cap1 ao2 cap2 ao3 cap3).toArray (rwV 0 0 0 0 0 0 0 0 0 none 0 0 none 0 0 none 0 0 0 0 false).toArray #[.int .i64 (d.shape 0),.int .i64 (d.shape 1),.int .i64 (d.shape 2),.int .i64 (d.shape 3),.int .i64 (d.shape 4),.int .i64 (d.shape 5),.int .i64 (d.shape 6),.int .i64 (d.shape 7),.int .i64 (d.shape 8),.slice none 0 0,.slice none 0 0,.slice none 0 0,.int .i64 0,.int .i64 0,.bool false] 28 38 38:=T1.st3 0 (rwS d.shape) (c3':=[.int .i64 (d.shape 0),.int .i64 (d.shape 1),.int .i64 (d.shape 2),.int .i64 (d.shape 3),.int .i64 (d.shape 4),.int .i64 (d.shape 5),.int .i64 (d.shape 6),.int .i64 (d.shape 7),.int .i64 (d.shape 8),.slice none 0 0,.slice none 0 0,.slice none 0 0,.int .i64 0,.int .i64 0,.bool false]) rfl;clear T1 b1
 go_wp2_with fail
 refine (zej _ d.groups hi _ (((zah.slice 120).slice 96).rd_below R1.out V1.bel hhi) (Nat.le_trans hhi V1.bel.size) (by omega)).mono ?_;rintro e w2 ⟨v2,rfl,o2,b2⟩;have L2:=V1.lt;obtain ⟨bo1,bcap1,hv⟩:=zcy o2;obtain rfl:=zcl hv;clear hv;have T2:Three w w2 (rwW d ao1 cap1 ao2 cap2 ao3 cap3).toArray (rwV 0 0 0 0 0 0 0 0 0 none 0 0 none 0 0 none 0 0 0 0 false).toArray #[.int .i64 (d.shape 0),.int .i64 (d.shape 1),.int .i64 (d.shape 2),.int .i64 (d.shape 3),.int .i64 (d.shape 4),.int .i64 (d.shape 5),.int .i64 (d.shape 6),.int .i64 (d.shape 7),.int .i64 (d.shape 8),.slice none 0 0,.slice none 0 0,.slice none 0 0,.int .i64 0,.int .i64 0,.bool false] 28 38 38:=V1.call b2;have O1:Hid (OwnT ((zah.slice 120).slice 96) w2 (w.heap.size+1+1+1) (w2.heap.size) d.groups [.slice bo1 d.groups.1 bcap1]):=o2.weaken (by simp<;>omega) (Nat.le_refl _);clear o2;have LT2:w.heap.size+1+1+1≤w2.heap.size:=T2.lt
 have S2:w1.heap.size≤w2.heap.size:=by
  have:=b2.size
  simpa using this
 have x2_10:w2.cell? ⟨w.heap.size,10,none⟩=some (.slice ao2 d.on.1 cap2):=T2.b1.cell 10;have y2_9:w2.cell? ⟨w.heap.size+1+1,9,none⟩=some (.slice none 0 0):=T2.b3.cell 9;have yf2_9:w2.frozen? ⟨w.heap.size+1+1,9,none⟩=false:=T2.b3.frozen 9;have V2:Three w (w2.setCell ⟨w.heap.size+1+1,9,none⟩ (.slice bo1 d.groups.1 bcap1)) (rwW d ao1 cap1 ao2 cap2 ao3 cap3).toArray (rwV 0 0 0 0 0 0 0 0 0 none 0 0 none 0 0 none 0 0 0 0 false).toArray #[.int .i64 (d.shape 0),.int .i64 (d.shape 1),.int .i64 (d.shape 2),.int .i64 (d.shape 3),.int .i64 (d.shape 4),.int .i64 (d.shape 5),.int .i64 (d.shape 6),.int .i64 (d.shape 7),.int .i64 (d.shape 8),.slice bo1 d.groups.1 bcap1,.slice none 0 0,.slice none 0 0,.int .i64 0,.int .i64 0,.bool false] 28 38 38:=T2.st3 9 [.slice bo1 d.groups.1 bcap1] (c3':=[.int .i64 (d.shape 0),.int .i64 (d.shape 1),.int .i64 (d.shape 2),.int .i64 (d.shape 3),.int .i64 (d.shape 4),.int .i64 (d.shape 5),.int .i64 (d.shape 6),.int .i64 (d.shape 7),.int .i64 (d.shape 8),.slice bo1 d.groups.1 bcap1,.slice none 0 0,.slice none 0 0,.int .i64 0,.int .i64 0,.bool false]) rfl;clear T2 b2
 go_wp2_with fail
 refine (zed _ d.on hi _ (zaA.rd_below R2.out V2.bel hhi) (Nat.le_trans hhi V2.bel.size) (by omega)).mono ?_;rintro e w3 ⟨v3,rfl,o3,b3⟩;have L3:=V2.lt;obtain ⟨bo2,bcap2,hv⟩:=zdu o3;obtain rfl:=zcl hv;clear hv;have T3:Three w w3 (rwW d ao1 cap1 ao2 cap2 ao3 cap3).toArray (rwV 0 0 0 0 0 0 0 0 0 none 0 0 none 0 0 none 0 0 0 0 false).toArray #[.int .i64 (d.shape 0),.int .i64 (d.shape 1),.int .i64 (d.shape 2),.int .i64 (d.shape 3),.int .i64 (d.shape 4),.int .i64 (d.shape 5),.int .i64 (d.shape 6),.int .i64 (d.shape 7),.int .i64 (d.shape 8),.slice bo1 d.groups.1 bcap1,.slice none 0 0,.slice none 0 0,.int .i64 0,.int .i64 0,.bool false] 28 38 38:=V2.call b3;have O1x:OwnT ((zah.slice 120).slice 96) w3 (w.heap.size+1+1+1) (w2.heap.size) d.groups [.slice bo1 d.groups.1 bcap1]:=((O1.out).set (show w.heap.size+1+1<_ by omega)).call b3;clear O1;have O1:=hid O1x;clear O1x;have O2:Hid (OwnT zaA w3 (w2.heap.size) (w3.heap.size) d.on [.slice bo2 d.on.1 bcap2]):=o3.weaken (by simp<;>omega) (Nat.le_refl _);clear o3;have LT3:w.heap.size+1+1+1≤w3.heap.size:=T3.lt
 have S3:w2.heap.size≤w3.heap.size:=by
  have:=b3.size
  simpa using this
 have x3_11:w3.cell? ⟨w.heap.size,11,none⟩=some (.slice ao3 d.tapes.1 cap3):=T3.b1.cell 11;have y3_10:w3.cell? ⟨w.heap.size+1+1,10,none⟩=some (.slice none 0 0):=T3.b3.cell 10;have yf3_10:w3.frozen? ⟨w.heap.size+1+1,10,none⟩=false:=T3.b3.frozen 10;have V3:Three w (w3.setCell ⟨w.heap.size+1+1,10,none⟩ (.slice bo2 d.on.1 bcap2)) (rwW d ao1 cap1 ao2 cap2 ao3 cap3).toArray (rwV 0 0 0 0 0 0 0 0 0 none 0 0 none 0 0 none 0 0 0 0 false).toArray #[.int .i64 (d.shape 0),.int .i64 (d.shape 1),.int .i64 (d.shape 2),.int .i64 (d.shape 3),.int .i64 (d.shape 4),.int .i64 (d.shape 5),.int .i64 (d.shape 6),.int .i64 (d.shape 7),.int .i64 (d.shape 8),.slice bo1 d.groups.1 bcap1,.slice bo2 d.on.1 bcap2,.slice none 0 0,.int .i64 0,.int .i64 0,.bool false] 28 38 38:=T3.st3 10 [.slice bo2 d.on.1 bcap2] (c3':=[.int .i64 (d.shape 0),.int .i64 (d.shape 1),.int .i64 (d.shape 2),.int .i64 (d.shape 3),.int .i64 (d.shape 4),.int .i64 (d.shape 5),.int .i64 (d.shape 6),.int .i64 (d.shape 7),.int .i64 (d.shape 8),.slice bo1 d.groups.1 bcap1,.slice bo2 d.on.1 bcap2,.slice none 0 0,.int .i64 0,.int .i64 0,.bool false]) rfl;clear T3 b3
 go_wp2_with fail
 refine (zfF _ d.tapes hi _ ((zaq.slice 88).rd_below R3.out V3.bel hhi) (Nat.le_trans hhi V3.bel.size) (by omega)).mono ?_;rintro e w4 ⟨v4,rfl,o4,b4⟩;have L4:=V3.lt;obtain ⟨bo3,bcap3,hv⟩:=zcy o4;obtain rfl:=zcl hv;clear hv;have T4:Three w w4 (rwW d ao1 cap1 ao2 cap2 ao3 cap3).toArray (rwV 0 0 0 0 0 0 0 0 0 none 0 0 none 0 0 none 0 0 0 0 false).toArray #[.int .i64 (d.shape 0),.int .i64 (d.shape 1),.int .i64 (d.shape 2),.int .i64 (d.shape 3),.int .i64 (d.shape 4),.int .i64 (d.shape 5),.int .i64 (d.shape 6),.int .i64 (d.shape 7),.int .i64 (d.shape 8),.slice bo1 d.groups.1 bcap1,.slice bo2 d.on.1 bcap2,.slice none 0 0,.int .i64 0,.int .i64 0,.bool false] 28 38 38:=V3.call b4;have O1x:OwnT ((zah.slice 120).slice 96) w4 (w.heap.size+1+1+1) (w2.heap.size) d.groups [.slice bo1 d.groups.1 bcap1]:=((O1.out).set (show w.heap.size+1+1<_ by omega)).call b4;clear O1;have O1:=hid O1x;clear O1x;have O2x:OwnT zaA w4 (w2.heap.size) (w3.heap.size) d.on [.slice bo2 d.on.1 bcap2]:=((O2.out).set (show w.heap.size+1+1<_ by omega)).call b4;clear O2;have O2:=hid O2x;clear O2x;have O3:Hid (OwnT (zaq.slice 88) w4 (w3.heap.size) (w4.heap.size) d.tapes [.slice bo3 d.tapes.1 bcap3]):=o4.weaken (by simp<;>omega) (Nat.le_refl _);clear o4;have LT4:w.heap.size+1+1+1≤w4.heap.size:=T4.lt
 have S4:w3.heap.size≤w4.heap.size:=by
  have:=b4.size
  simpa using this
 have x4_12:w4.cell? ⟨w.heap.size,12,none⟩=some (.int .i64 d.writes):=T4.b1.cell 12;have x4_13:w4.cell? ⟨w.heap.size,13,none⟩=some (.int .i64 d.stop):=T4.b1.cell 13;have x4_14:w4.cell? ⟨w.heap.size,14,none⟩=some (.bool d.down):=T4.b1.cell 14;have y4_0:w4.cell? ⟨w.heap.size+1+1,0,none⟩=some (.int .i64 (d.shape 0)):=T4.b3.cell 0;have y4_1:w4.cell? ⟨w.heap.size+1+1,1,none⟩=some (.int .i64 (d.shape 1)):=T4.b3.cell 1;have y4_2:w4.cell? ⟨w.heap.size+1+1,2,none⟩=some (.int .i64 (d.shape 2)):=T4.b3.cell 2;have y4_3:w4.cell? ⟨w.heap.size+1+1,3,none⟩=some (.int .i64 (d.shape 3)):=T4.b3.cell 3;have y4_4:w4.cell? ⟨w.heap.size+1+1,4,none⟩=some (.int .i64 (d.shape 4)):=T4.b3.cell 4;have y4_5:w4.cell? ⟨w.heap.size+1+1,5,none⟩=some (.int .i64 (d.shape 5)):=T4.b3.cell 5;have y4_6:w4.cell? ⟨w.heap.size+1+1,6,none⟩=some (.int .i64 (d.shape 6)):=T4.b3.cell 6;have y4_7:w4.cell? ⟨w.heap.size+1+1,7,none⟩=some (.int .i64 (d.shape 7)):=T4.b3.cell 7;have y4_8:w4.cell? ⟨w.heap.size+1+1,8,none⟩=some (.int .i64 (d.shape 8)):=T4.b3.cell 8;have y4_9:w4.cell? ⟨w.heap.size+1+1,9,none⟩=some (.slice bo1 d.groups.1 bcap1):=T4.b3.cell 9;have y4_10:w4.cell? ⟨w.heap.size+1+1,10,none⟩=some (.slice bo2 d.on.1 bcap2):=T4.b3.cell 10;have y4_11:w4.cell? ⟨w.heap.size+1+1,11,none⟩=some (.slice none 0 0):=T4.b3.cell 11;have y4_12:w4.cell? ⟨w.heap.size+1+1,12,none⟩=some (.int .i64 0):=T4.b3.cell 12;have y4_13:w4.cell? ⟨w.heap.size+1+1,13,none⟩=some (.int .i64 0):=T4.b3.cell 13;have y4_14:w4.cell? ⟨w.heap.size+1+1,14,none⟩=some (.bool false):=T4.b3.cell 14;have yf4_11:w4.frozen? ⟨w.heap.size+1+1,11,none⟩=false:=T4.b3.frozen 11;have yf4_12:w4.frozen? ⟨w.heap.size+1+1,12,none⟩=false:=T4.b3.frozen 12;have yf4_13:w4.frozen? ⟨w.heap.size+1+1,13,none⟩=false:=T4.b3.frozen 13;have yf4_14:w4.frozen? ⟨w.heap.size+1+1,14,none⟩=false:=T4.b3.frozen 14;have z4_0:w4.cell? ⟨w.heap.size+1,0,none⟩=some (.int .i64 0):=T4.b2.cell 0;have zf4_0:w4.frozen? ⟨w.heap.size+1,0,none⟩=false:=T4.b2.frozen 0;have z4_1:w4.cell? ⟨w.heap.size+1,1,none⟩=some (.int .i64 0):=T4.b2.cell 1;have zf4_1:w4.frozen? ⟨w.heap.size+1,1,none⟩=false:=T4.b2.frozen 1;have z4_2:w4.cell? ⟨w.heap.size+1,2,none⟩=some (.int .i64 0):=T4.b2.cell 2;have zf4_2:w4.frozen? ⟨w.heap.size+1,2,none⟩=false:=T4.b2.frozen 2;have z4_3:w4.cell? ⟨w.heap.size+1,3,none⟩=some (.int .i64 0):=T4.b2.cell 3;have zf4_3:w4.frozen? ⟨w.heap.size+1,3,none⟩=false:=T4.b2.frozen 3;have z4_4:w4.cell? ⟨w.heap.size+1,4,none⟩=some (.int .i64 0):=T4.b2.cell 4;have zf4_4:w4.frozen? ⟨w.heap.size+1,4,none⟩=false:=T4.b2.frozen 4;have z4_5:w4.cell? ⟨w.heap.size+1,5,none⟩=some (.int .i64 0):=T4.b2.cell 5;have zf4_5:w4.frozen? ⟨w.heap.size+1,5,none⟩=false:=T4.b2.frozen 5
 have z4_6:w4.cell? ⟨w.heap.size+1,6,none⟩=some (.int .i64 0):=T4.b2.cell 6;have zf4_6:w4.frozen? ⟨w.heap.size+1,6,none⟩=false:=T4.b2.frozen 6;have z4_7:w4.cell? ⟨w.heap.size+1,7,none⟩=some (.int .i64 0):=T4.b2.cell 7;have zf4_7:w4.frozen? ⟨w.heap.size+1,7,none⟩=false:=T4.b2.frozen 7;have z4_8:w4.cell? ⟨w.heap.size+1,8,none⟩=some (.int .i64 0):=T4.b2.cell 8;have zf4_8:w4.frozen? ⟨w.heap.size+1,8,none⟩=false:=T4.b2.frozen 8;have z4_9:w4.cell? ⟨w.heap.size+1,9,none⟩=some (.slice none 0 0):=T4.b2.cell 9;have zf4_9:w4.frozen? ⟨w.heap.size+1,9,none⟩=false:=T4.b2.frozen 9;have z4_10:w4.cell? ⟨w.heap.size+1,10,none⟩=some (.slice none 0 0):=T4.b2.cell 10;have zf4_10:w4.frozen? ⟨w.heap.size+1,10,none⟩=false:=T4.b2.frozen 10;have z4_11:w4.cell? ⟨w.heap.size+1,11,none⟩=some (.slice none 0 0):=T4.b2.cell 11;have zf4_11:w4.frozen? ⟨w.heap.size+1,11,none⟩=false:=T4.b2.frozen 11;have z4_12:w4.cell? ⟨w.heap.size+1,12,none⟩=some (.int .i64 0):=T4.b2.cell 12;have zf4_12:w4.frozen? ⟨w.heap.size+1,12,none⟩=false:=T4.b2.frozen 12;have z4_13:w4.cell? ⟨w.heap.size+1,13,none⟩=some (.int .i64 0):=T4.b2.cell 13;have zf4_13:w4.frozen? ⟨w.heap.size+1,13,none⟩=false:=T4.b2.frozen 13;have z4_14:w4.cell? ⟨w.heap.size+1,14,none⟩=some (.bool false):=T4.b2.cell 14;have zf4_14:w4.frozen? ⟨w.heap.size+1,14,none⟩=false:=T4.b2.frozen 14;have Bq:=hid T4.bel;clear T4 b4;go_wp2;refine bodyPost_ret (v:=.agg (rwW d bo1 bcap1 bo2 bcap2 bo3 bcap3).toArray) (by simp [results,Tryz.results8,go_sem,y4_0,z4_0,y4_1,z4_1,y4_2,z4_2,y4_3,z4_3,y4_4,z4_4,y4_5,z4_5,y4_6,z4_6,y4_7,z4_7,y4_8,z4_8,y4_9,z4_9,y4_10,z4_10,y4_11,z4_11,y4_12,z4_12,y4_13,z4_13,y4_14,z4_14]) rfl ?_;have F:OwnT zaj w4 (w.heap.size+1+1+1) w4.heap.size d ((rwS d.shape)++([.slice bo1 d.groups.1 bcap1]++([.slice bo2 d.on.1 bcap2]++([.slice bo3 d.tapes.1 bcap3]++([.int .i64 d.writes]++([.int .i64 d.stop]++[.bool d.down])))))):=OwnT.conv (OwnT.pre (A:=(zdD 9)) (a:=d.shape) (c:=(rwS d.shape)) ⟨rfl,Q0.out,rfl⟩ (OwnT.two O1.out (OwnT.two O2.out (OwnT.two O3.out (OwnT.pre (A:=layI) (a:=d.writes) (c:=[.int .i64 d.writes]) ⟨rfl,Q4.out,rfl⟩ (OwnT.pre (A:=layI) (a:=d.stop) (c:=[.int .i64 d.stop]) ⟨rfl,Q5.out,rfl⟩ (OwnT.nil (A:=layB) (a:=d.down) (c:=[.bool d.down]) ⟨rfl,trivial,rfl⟩ w4.heap.size w4.heap.size))) (by omega) (by omega) (by omega)) (by omega) (by omega) (by omega)) (by omega) (by omega) (by omega)))
 exact ⟨(rwW d bo1 bcap1 bo2 bcap2 bo3 bcap3),rfl,OwnT.fin F 11 0 [.slice bo3 d.tapes.1 bcap3,.int .i64 d.writes,.int .i64 d.stop,.bool d.down] (rwW d bo1 bcap1 bo2 bcap2 bo3 bcap3) _ rfl,zb5 Bq.out 11 0 [.slice bo3 d.tapes.1 bcap3,.int .i64 d.writes,.int .i64 d.stop,.bool d.down] (rwW d bo1 bcap1 bo2 bcap2 bo3 bcap3) _ rfl⟩
set_option maxRecDepth 20000 in
theorem zfH:EqV zau 154:=fun c1 c2 d h1 h2 w r1 r2 u1 u2=>by
 obtain ⟨ao1,cap1,rfl,g1,-⟩:=zbh r1;obtain ⟨bao1,bcap1,rfl,q1,-⟩:=zbh r2;clear r1 r2;have G1:=hid g1;have E1:=hid q1;clear g1 q1
 go_enter Tryz.func154,Tryz.ntmps154
 go_wp2_with fail
 have T0:=zaD w #[.int .i64 d.stamp,.slice ao1 d.bytes.1 cap1] #[.int .i64 d.stamp,.slice bao1 d.bytes.1 bcap1] 122 122;refine (zcL _ _ d.bytes h1 h2 _ (zak.rd_below G1.out T0.bel u1) (zak.rd_below E1.out T0.bel u2) (Nat.le_trans u1 T0.bel.size) (Nat.le_trans u2 T0.bel.size)).mono ?_;rintro e w1 ⟨rfl,b1⟩;have T1:Two w w1 #[.int .i64 d.stamp,.slice ao1 d.bytes.1 cap1] #[.int .i64 d.stamp,.slice bao1 d.bytes.1 bcap1] 122 122:=T0.call b1;clear T0 b1;have B:=hid T1.bel;clear T1;go_wp2;go_ret;exact ⟨rfl,B.out⟩
theorem zeV:EqS (zau.slice 122) 139:=fun v1 v2 d h1 h2 w r1 r2 u1 u2=>by
 obtain ⟨n,x⟩:=d;obtain ⟨ao,cap,hv,hm,hc⟩:=r1
 cases hv
 obtain ⟨ao',cap',hv',hm',hc'⟩:=r2
 cases hv'
 simp only at hm hc hc'
 unfold maxLen at hm;clear hm'
 go_enter Tryz.func139,Tryz.ntmps139
 go_wp2
 go_loopw [5] (fun i wr=>∃ k:Nat,k≤n∧i=.int .i64 k∧Below w.heap.size w wr) (fun i _=>n-(intOf i).toNat)
 case atStart=>exact ⟨0,Nat.zero_le _,rfl,Below.refl _ _⟩
 case round=>
  obtain ⟨k,hk,rfl,hb⟩:=hrel
  by_cases hlt:k<n
  ·obtain ⟨b,off,rfl,hblt,hel⟩:=hc (by omega)
   obtain ⟨b',off',rfl,hblt',hel'⟩:=hc' (by omega);obtain ⟨ck,hrk,hcell⟩:=zas (t:=0) hel (below_drewN hb 1) u1 hblt hlt;obtain ⟨ck',hrk',hcell'⟩:=zas (t:=0) hel' (below_drewN hb 1) u2 hblt' hlt;obtain ⟨ao1,cap1,rfl,-⟩:=zbh hrk;obtain ⟨bao1,bcap1,rfl,-⟩:=zbh hrk';have c0:wr.cell? ⟨b,off+k*2,none⟩=some (.int .i64 (x k).stamp):=hcell 0 (by decide);have c1:wr.cell? ⟨b,off+k*2+1,none⟩=some (.slice ao1 (x k).bytes.1 cap1):=hcell 1 (by decide);have e0:wr.cell? ⟨b',off'+k*2,none⟩=some (.int .i64 (x k).stamp):=hcell' 0 (by decide);have e1:wr.cell? ⟨b',off'+k*2+1,none⟩=some (.slice bao1 (x k).bytes.1 bcap1):=hcell' 1 (by decide);have C1:=zfH _ _ (x k) h1 h2 (wr.drewN 1) hrk hrk' (Nat.le_trans u1 hb.size) (Nat.le_trans u2 hb.size);clear hc hc' hel hel' hcell hcell' hrk hrk';go_wp2
   go_region_with (go_at_call 154;refine C1.mono ?_;rintro ee w2 ⟨rfl,hb2⟩)
   all_goals
    have R':Below w.heap.size w w2:=hb.trans ((below_drewN (Below.refl wr.heap.size wr) 1).trans hb2 |>.mono hb.size);clear hb2;go_wp2
    go_roundw
    case rel=>exact ⟨k+1,by omega,by go_num,R'⟩
    case measure=>simp [intOf];omega
  ·obtain rfl:k=n:=by omega
   go_wp2;go_ret;exact ⟨rfl,hb⟩
set_option maxRecDepth 20000 in
theorem zfI:EqV zah 116:=fun c1 c2 d h1 h2 w r1 r2 u1 u2=>by
 obtain ⟨ao1,cap1,rfl,g1⟩:=zbi r1;obtain ⟨bao1,bcap1,rfl,q1⟩:=zbi r2;clear r1 r2;have G1:=hid g1;have E1:=hid q1;clear g1 q1
 go_enter Tryz.func116,Tryz.ntmps116
 go_wp2_with fail
 have T0:=zaD w #[.bool d.wiped,.slice ao1 d.blocks.1 cap1] #[.bool d.wiped,.slice bao1 d.blocks.1 bcap1] 120 120;refine (zeV _ _ d.blocks h1 h2 _ ((zau.slice 122).rd_below G1.out T0.bel u1) ((zau.slice 122).rd_below E1.out T0.bel u2) (Nat.le_trans u1 T0.bel.size) (Nat.le_trans u2 T0.bel.size)).mono ?_;rintro e w1 ⟨rfl,b1⟩;have T1:Two w w1 #[.bool d.wiped,.slice ao1 d.blocks.1 cap1] #[.bool d.wiped,.slice bao1 d.blocks.1 bcap1] 120 120:=T0.call b1;clear T0 b1;have B:=hid T1.bel;clear T1;go_wp2;go_ret;exact ⟨rfl,B.out⟩
theorem zeW:EqS (zah.slice 120) 75:=fun v1 v2 d h1 h2 w r1 r2 u1 u2=>by
 obtain ⟨n,x⟩:=d;obtain ⟨ao,cap,hv,hm,hc⟩:=r1
 cases hv
 obtain ⟨ao',cap',hv',hm',hc'⟩:=r2
 cases hv'
 simp only at hm hc hc'
 unfold maxLen at hm;clear hm'
 go_enter Tryz.func75,Tryz.ntmps75
 go_wp2
 go_loopw [5] (fun i wr=>∃ k:Nat,k≤n∧i=.int .i64 k∧Below w.heap.size w wr) (fun i _=>n-(intOf i).toNat)
 case atStart=>exact ⟨0,Nat.zero_le _,rfl,Below.refl _ _⟩
 case round=>
  obtain ⟨k,hk,rfl,hb⟩:=hrel
  by_cases hlt:k<n
  ·obtain ⟨b,off,rfl,hblt,hel⟩:=hc (by omega)
   obtain ⟨b',off',rfl,hblt',hel'⟩:=hc' (by omega);obtain ⟨ck,hrk,hcell⟩:=zas (t:=0) hel (below_drewN hb 1) u1 hblt hlt;obtain ⟨ck',hrk',hcell'⟩:=zas (t:=0) hel' (below_drewN hb 1) u2 hblt' hlt;obtain ⟨ao1,cap1,rfl,-⟩:=zbi hrk;obtain ⟨bao1,bcap1,rfl,-⟩:=zbi hrk';have c0:wr.cell? ⟨b,off+k*2,none⟩=some (.bool (x k).wiped):=hcell 0 (by decide);have c1:wr.cell? ⟨b,off+k*2+1,none⟩=some (.slice ao1 (x k).blocks.1 cap1):=hcell 1 (by decide);have e0:wr.cell? ⟨b',off'+k*2,none⟩=some (.bool (x k).wiped):=hcell' 0 (by decide);have e1:wr.cell? ⟨b',off'+k*2+1,none⟩=some (.slice bao1 (x k).blocks.1 bcap1):=hcell' 1 (by decide);have C1:=zfI _ _ (x k) h1 h2 (wr.drewN 1) hrk hrk' (Nat.le_trans u1 hb.size) (Nat.le_trans u2 hb.size);clear hc hc' hel hel' hcell hcell' hrk hrk';go_wp2
   go_region_with (go_at_call 116;refine C1.mono ?_;rintro ee w2 ⟨rfl,hb2⟩)
   all_goals
    have R':Below w.heap.size w w2:=hb.trans ((below_drewN (Below.refl wr.heap.size wr) 1).trans hb2 |>.mono hb.size);clear hb2;go_wp2
    go_roundw
    case rel=>exact ⟨k+1,by omega,by go_num,R'⟩
    case measure=>simp [intOf];omega
  ·obtain rfl:k=n:=by omega
   go_wp2;go_ret;exact ⟨rfl,hb⟩
theorem zek:EqS ((zah.slice 120).slice 96) 35:=fun v1 v2 d h1 h2 w r1 r2 u1 u2=>by
 obtain ⟨n,x⟩:=d;obtain ⟨ao,cap,hv,hm,hc⟩:=r1
 cases hv
 obtain ⟨ao',cap',hv',hm',hc'⟩:=r2
 cases hv'
 simp only at hm hc hc'
 unfold maxLen at hm;clear hm'
 go_enter Tryz.func35,Tryz.ntmps35
 go_wp2
 go_loopw [5] (fun i wr=>∃ k:Nat,k≤n∧i=.int .i64 k∧Below w.heap.size w wr) (fun i _=>n-(intOf i).toNat)
 case atStart=>exact ⟨0,Nat.zero_le _,rfl,Below.refl _ _⟩
 case round=>
  obtain ⟨k,hk,rfl,hb⟩:=hrel
  by_cases hlt:k<n
  ·obtain ⟨b,off,rfl,hblt,hel⟩:=hc (by omega)
   obtain ⟨b',off',rfl,hblt',hel'⟩:=hc' (by omega);obtain ⟨ck,hrk,hcell⟩:=zas (t:=0) hel (below_drewN hb 1) u1 hblt hlt;obtain ⟨ck',hrk',hcell'⟩:=zas (t:=0) hel' (below_drewN hb 1) u2 hblt' hlt;obtain ⟨ao9,cap9,rfl⟩:=zbq hrk;obtain ⟨bao9,bcap9,rfl⟩:=zbq hrk'
   have c0:wr.cell? ⟨b,off+k,none⟩=some (.slice ao9 (x k).1 cap9):=by
    have h:=hcell 0 (show 0<1 by decide);rw [show (zah.slice 120).sz=1 from rfl,Nat.mul_one,Nat.add_zero] at h;exact h
   have e0:wr.cell? ⟨b',off'+k,none⟩=some (.slice bao9 (x k).1 bcap9):=by
    have h:=hcell' 0 (show 0<1 by decide);rw [show (zah.slice 120).sz=1 from rfl,Nat.mul_one,Nat.add_zero] at h;exact h
   have C1:=zeW _ _ (x k) h1 h2 (wr.drewN 1) hrk hrk' (Nat.le_trans u1 hb.size) (Nat.le_trans u2 hb.size);clear hc hc' hel hel' hcell hcell' hrk hrk';go_wp2
   go_region_with (go_at_call 75;refine C1.mono ?_;rintro ee w2 ⟨rfl,hb2⟩)
   all_goals
    have R':Below w.heap.size w w2:=hb.trans ((below_drewN (Below.refl wr.heap.size wr) 1).trans hb2 |>.mono hb.size);clear hb2;go_wp2
    go_roundw
    case rel=>exact ⟨k+1,by omega,by go_num,R'⟩
    case measure=>simp [intOf];omega
  ·obtain rfl:k=n:=by omega
   go_wp2;go_ret;exact ⟨rfl,hb⟩
set_option maxRecDepth 20000 in
theorem zgX:EqV zab 74:=fun c1 c2 d h1 h2 w r1 r2 u1 u2=>by
 obtain ⟨ao6,cap6,ao7,cap7,ao8,cap8,rfl,g6,g7,g8,-⟩:=zaH r1;obtain ⟨bao6,bcap6,bao7,bcap7,bao8,bcap8,rfl,q6,q7,q8,-⟩:=zaH r2;clear r1 r2;have G6:=hid g6;have E6:=hid q6;have G7:=hid g7;have E7:=hid q7;have G8:=hid g8;have E8:=hid q8;clear g6 q6 g7 q7 g8 q8
 go_enter Tryz.func74,Tryz.ntmps74
 go_wp2_with fail
 have T0:=zaD w (rwR d ao6 cap6 ao7 cap7 ao8 cap8).toArray (rwR d bao6 bcap6 bao7 bcap7 bao8 bcap8).toArray 92 92;refine (zee _ _ d.rows h1 h2 _ (zaA.rd_below G6.out T0.bel u1) (zaA.rd_below E6.out T0.bel u2) (Nat.le_trans u1 T0.bel.size) (Nat.le_trans u2 T0.bel.size)).mono ?_;rintro e w1 ⟨rfl,b1⟩;have T1:Two w w1 (rwR d ao6 cap6 ao7 cap7 ao8 cap8).toArray (rwR d bao6 bcap6 bao7 bcap7 bao8 bcap8).toArray 92 92:=T0.call b1;clear T0 b1;have x1_7:w1.cell? ⟨w.heap.size,7,none⟩=some (.slice ao7 d.data.1 cap7):=T1.b1.cell 7;have y1_7:w1.cell? ⟨w.heap.size+1,7,none⟩=some (.slice bao7 d.data.1 bcap7):=T1.b2.cell 7
 go_wp2_with fail
 refine (zcL _ _ d.data h1 h2 _ (zak.rd_below G7.out T1.bel u1) (zak.rd_below E7.out T1.bel u2) (Nat.le_trans u1 T1.bel.size) (Nat.le_trans u2 T1.bel.size)).mono ?_;rintro e w2 ⟨rfl,b2⟩;have T2:Two w w2 (rwR d ao6 cap6 ao7 cap7 ao8 cap8).toArray (rwR d bao6 bcap6 bao7 bcap7 bao8 bcap8).toArray 92 92:=T1.call b2;clear T1 b2;have x2_8:w2.cell? ⟨w.heap.size,8,none⟩=some (.slice ao8 d.delta.1 cap8):=T2.b1.cell 8;have y2_8:w2.cell? ⟨w.heap.size+1,8,none⟩=some (.slice bao8 d.delta.1 bcap8):=T2.b2.cell 8
 go_wp2_with fail
 refine (zcL _ _ d.delta h1 h2 _ (zak.rd_below G8.out T2.bel u1) (zak.rd_below E8.out T2.bel u2) (Nat.le_trans u1 T2.bel.size) (Nat.le_trans u2 T2.bel.size)).mono ?_;rintro e w3 ⟨rfl,b3⟩;have T3:Two w w3 (rwR d ao6 cap6 ao7 cap7 ao8 cap8).toArray (rwR d bao6 bcap6 bao7 bcap7 bao8 bcap8).toArray 92 92:=T2.call b3;clear T2 b3;have B:=hid T3.bel;clear T3;go_wp2;go_ret;exact ⟨rfl,B.out⟩
theorem zgq:EqS (zab.slice 92) 33:=fun v1 v2 d h1 h2 w r1 r2 u1 u2=>by
 obtain ⟨n,x⟩:=d;obtain ⟨ao,cap,hv,hm,hc⟩:=r1
 cases hv
 obtain ⟨ao',cap',hv',hm',hc'⟩:=r2
 cases hv'
 simp only at hm hc hc'
 unfold maxLen at hm;clear hm'
 go_enter Tryz.func33,Tryz.ntmps33
 go_wp2
 go_loopw [5] (fun i wr=>∃ k:Nat,k≤n∧i=.int .i64 k∧Below w.heap.size w wr) (fun i _=>n-(intOf i).toNat)
 case atStart=>exact ⟨0,Nat.zero_le _,rfl,Below.refl _ _⟩
 case round=>
  obtain ⟨k,hk,rfl,hb⟩:=hrel
  by_cases hlt:k<n
  ·obtain ⟨b,off,rfl,hblt,hel⟩:=hc (by omega)
   obtain ⟨b',off',rfl,hblt',hel'⟩:=hc' (by omega);obtain ⟨ck,hrk,hcell⟩:=zas (t:=0) hel (below_drewN hb 1) u1 hblt hlt;obtain ⟨ck',hrk',hcell'⟩:=zas (t:=0) hel' (below_drewN hb 1) u2 hblt' hlt;obtain ⟨ao6,cap6,ao7,cap7,ao8,cap8,rfl,-⟩:=zaH hrk;obtain ⟨bao6,bcap6,bao7,bcap7,bao8,bcap8,rfl,-⟩:=zaH hrk';have c0:wr.cell? ⟨b,off+k*9,none⟩=some (.int .i64 (x k).kind):=hcell 0 (by decide);have c1:wr.cell? ⟨b,off+k*9+1,none⟩=some (.int .i64 (x k).seq):=hcell 1 (by decide);have c2:wr.cell? ⟨b,off+k*9+2,none⟩=some (.string (x k).name):=hcell 2 (by decide);have c3:wr.cell? ⟨b,off+k*9+3,none⟩=some (.int .i64 (x k).length):=hcell 3 (by decide);have c4:wr.cell? ⟨b,off+k*9+4,none⟩=some (.int .i64 (x k).group):=hcell 4 (by decide);have c5:wr.cell? ⟨b,off+k*9+5,none⟩=some (.int .i64 (x k).row):=hcell 5 (by decide);have c6:wr.cell? ⟨b,off+k*9+6,none⟩=some (.slice ao6 (x k).rows.1 cap6):=hcell 6 (by decide);have c7:wr.cell? ⟨b,off+k*9+7,none⟩=some (.slice ao7 (x k).data.1 cap7):=hcell 7 (by decide);have c8:wr.cell? ⟨b,off+k*9+8,none⟩=some (.slice ao8 (x k).delta.1 cap8):=hcell 8 (by decide);have e0:wr.cell? ⟨b',off'+k*9,none⟩=some (.int .i64 (x k).kind):=hcell' 0 (by decide);have e1:wr.cell? ⟨b',off'+k*9+1,none⟩=some (.int .i64 (x k).seq):=hcell' 1 (by decide);have e2:wr.cell? ⟨b',off'+k*9+2,none⟩=some (.string (x k).name):=hcell' 2 (by decide);have e3:wr.cell? ⟨b',off'+k*9+3,none⟩=some (.int .i64 (x k).length):=hcell' 3 (by decide);have e4:wr.cell? ⟨b',off'+k*9+4,none⟩=some (.int .i64 (x k).group):=hcell' 4 (by decide);have e5:wr.cell? ⟨b',off'+k*9+5,none⟩=some (.int .i64 (x k).row):=hcell' 5 (by decide);have e6:wr.cell? ⟨b',off'+k*9+6,none⟩=some (.slice bao6 (x k).rows.1 bcap6):=hcell' 6 (by decide);have e7:wr.cell? ⟨b',off'+k*9+7,none⟩=some (.slice bao7 (x k).data.1 bcap7):=hcell' 7 (by decide);have e8:wr.cell? ⟨b',off'+k*9+8,none⟩=some (.slice bao8 (x k).delta.1 bcap8):=hcell' 8 (by decide);have C1:=zgX _ _ (x k) h1 h2 (wr.drewN 1) hrk hrk' (Nat.le_trans u1 hb.size) (Nat.le_trans u2 hb.size);clear hc hc' hel hel' hcell hcell' hrk hrk';go_wp2
   go_region_with (go_at_call 74;refine C1.mono ?_;rintro ee w2 ⟨rfl,hb2⟩)
   all_goals
    have R':Below w.heap.size w w2:=hb.trans ((below_drewN (Below.refl wr.heap.size wr) 1).trans hb2 |>.mono hb.size);clear hb2;go_wp2
    go_roundw
    case rel=>exact ⟨k+1,by omega,by go_num,R'⟩
    case measure=>simp [intOf];omega
  ·obtain rfl:k=n:=by omega
   go_wp2;go_ret;exact ⟨rfl,hb⟩
set_option maxRecDepth 20000 in
theorem zgr:EqV zaq 76:=fun c1 c2 d h1 h2 w r1 r2 u1 u2=>by
 obtain ⟨ao1,cap1,rfl,g1⟩:=zaW r1;obtain ⟨bao1,bcap1,rfl,q1⟩:=zaW r2;clear r1 r2;have G1:=hid g1;have E1:=hid q1;clear g1 q1
 go_enter Tryz.func76,Tryz.ntmps76
 go_wp2_with fail
 have T0:=zaD w #[.bool d.wiped,.slice ao1 d.recs.1 cap1] #[.bool d.wiped,.slice bao1 d.recs.1 bcap1] 88 88;refine (zgq _ _ d.recs h1 h2 _ ((zab.slice 92).rd_below G1.out T0.bel u1) ((zab.slice 92).rd_below E1.out T0.bel u2) (Nat.le_trans u1 T0.bel.size) (Nat.le_trans u2 T0.bel.size)).mono ?_;rintro e w1 ⟨rfl,b1⟩;have T1:Two w w1 #[.bool d.wiped,.slice ao1 d.recs.1 cap1] #[.bool d.wiped,.slice bao1 d.recs.1 bcap1] 88 88:=T0.call b1;clear T0 b1;have B:=hid T1.bel;clear T1;go_wp2;go_ret;exact ⟨rfl,B.out⟩
theorem zfJ:EqS (zaq.slice 88) 37:=fun v1 v2 d h1 h2 w r1 r2 u1 u2=>by
 obtain ⟨n,x⟩:=d;obtain ⟨ao,cap,hv,hm,hc⟩:=r1
 cases hv
 obtain ⟨ao',cap',hv',hm',hc'⟩:=r2
 cases hv'
 simp only at hm hc hc'
 unfold maxLen at hm;clear hm'
 go_enter Tryz.func37,Tryz.ntmps37
 go_wp2
 go_loopw [5] (fun i wr=>∃ k:Nat,k≤n∧i=.int .i64 k∧Below w.heap.size w wr) (fun i _=>n-(intOf i).toNat)
 case atStart=>exact ⟨0,Nat.zero_le _,rfl,Below.refl _ _⟩
 case round=>
  obtain ⟨k,hk,rfl,hb⟩:=hrel
  by_cases hlt:k<n
  ·obtain ⟨b,off,rfl,hblt,hel⟩:=hc (by omega)
   obtain ⟨b',off',rfl,hblt',hel'⟩:=hc' (by omega);obtain ⟨ck,hrk,hcell⟩:=zas (t:=0) hel (below_drewN hb 1) u1 hblt hlt;obtain ⟨ck',hrk',hcell'⟩:=zas (t:=0) hel' (below_drewN hb 1) u2 hblt' hlt;obtain ⟨ao1,cap1,rfl,-⟩:=zaW hrk;obtain ⟨bao1,bcap1,rfl,-⟩:=zaW hrk';have c0:wr.cell? ⟨b,off+k*2,none⟩=some (.bool (x k).wiped):=hcell 0 (by decide);have c1:wr.cell? ⟨b,off+k*2+1,none⟩=some (.slice ao1 (x k).recs.1 cap1):=hcell 1 (by decide);have e0:wr.cell? ⟨b',off'+k*2,none⟩=some (.bool (x k).wiped):=hcell' 0 (by decide);have e1:wr.cell? ⟨b',off'+k*2+1,none⟩=some (.slice bao1 (x k).recs.1 bcap1):=hcell' 1 (by decide);have C1:=zgr _ _ (x k) h1 h2 (wr.drewN 1) hrk hrk' (Nat.le_trans u1 hb.size) (Nat.le_trans u2 hb.size);clear hc hc' hel hel' hcell hcell' hrk hrk';go_wp2
   go_region_with (go_at_call 76;refine C1.mono ?_;rintro ee w2 ⟨rfl,hb2⟩)
   all_goals
    have R':Below w.heap.size w w2:=hb.trans ((below_drewN (Below.refl wr.heap.size wr) 1).trans hb2 |>.mono hb.size);clear hb2;go_wp2
    go_roundw
    case rel=>exact ⟨k+1,by omega,by go_num,R'⟩
    case measure=>simp [intOf];omega
  ·obtain rfl:k=n:=by omega
   go_wp2;go_ret;exact ⟨rfl,hb⟩
theorem zeX (s:Nat→Int) (w:World) :
 Calls Tryz.prog 34 #[zac s,zac s] w fun e w'=>e=.returned (.bool true)∧Below w.heap.size w w':=by
 unfold zac
 go_enter Tryz.func34,Tryz.ntmps34
 go_wp2;go_ret;exact ⟨rfl,((Below.refl _ _).alloc (Nat.le_refl _) _).alloc (by simp) _⟩
set_option maxRecDepth 20000 in
theorem zfK:EqV zaj 11:=fun c1 c2 d h1 h2 w r1 r2 u1 u2=>by
 obtain ⟨ao1,cap1,ao2,cap2,ao3,cap3,rfl,g1,g2,g3,-⟩:=zaM r1;obtain ⟨bao1,bcap1,bao2,bcap2,bao3,bcap3,rfl,q1,q2,q3,-⟩:=zaM r2;clear r1 r2;have G1:=hid g1;have E1:=hid q1;have G2:=hid g2;have E2:=hid q2;have G3:=hid g3;have E3:=hid q3;clear g1 q1 g2 q2 g3 q3
 go_enter Tryz.func11,Tryz.ntmps11
 go_wp2_with fail
 have T0:=zaD w (rwW d ao1 cap1 ao2 cap2 ao3 cap3).toArray (rwW d bao1 bcap1 bao2 bcap2 bao3 bcap3).toArray 38 38;refine (zeX d.shape _).mono ?_;rintro e w1 ⟨rfl,b1⟩;have T1:Two w w1 (rwW d ao1 cap1 ao2 cap2 ao3 cap3).toArray (rwW d bao1 bcap1 bao2 bcap2 bao3 bcap3).toArray 38 38:=T0.call b1;clear T0 b1;have x1_9:w1.cell? ⟨w.heap.size,9,none⟩=some (.slice ao1 d.groups.1 cap1):=T1.b1.cell 9;have y1_9:w1.cell? ⟨w.heap.size+1,9,none⟩=some (.slice bao1 d.groups.1 bcap1):=T1.b2.cell 9
 go_wp2_with fail
 refine (zek _ _ d.groups h1 h2 _ (((zah.slice 120).slice 96).rd_below G1.out T1.bel u1) (((zah.slice 120).slice 96).rd_below E1.out T1.bel u2) (Nat.le_trans u1 T1.bel.size) (Nat.le_trans u2 T1.bel.size)).mono ?_;rintro e w2 ⟨rfl,b2⟩;have T2:Two w w2 (rwW d ao1 cap1 ao2 cap2 ao3 cap3).toArray (rwW d bao1 bcap1 bao2 bcap2 bao3 bcap3).toArray 38 38:=T1.call b2;clear T1 b2;have x2_10:w2.cell? ⟨w.heap.size,10,none⟩=some (.slice ao2 d.on.1 cap2):=T2.b1.cell 10;have y2_10:w2.cell? ⟨w.heap.size+1,10,none⟩=some (.slice bao2 d.on.1 bcap2):=T2.b2.cell 10
 go_wp2_with fail
 refine (zee _ _ d.on h1 h2 _ (zaA.rd_below G2.out T2.bel u1) (zaA.rd_below E2.out T2.bel u2) (Nat.le_trans u1 T2.bel.size) (Nat.le_trans u2 T2.bel.size)).mono ?_;rintro e w3 ⟨rfl,b3⟩;have T3:Two w w3 (rwW d ao1 cap1 ao2 cap2 ao3 cap3).toArray (rwW d bao1 bcap1 bao2 bcap2 bao3 bcap3).toArray 38 38:=T2.call b3;clear T2 b3;have x3_11:w3.cell? ⟨w.heap.size,11,none⟩=some (.slice ao3 d.tapes.1 cap3):=T3.b1.cell 11;have y3_11:w3.cell? ⟨w.heap.size+1,11,none⟩=some (.slice bao3 d.tapes.1 bcap3):=T3.b2.cell 11
 go_wp2_with fail
 refine (zfJ _ _ d.tapes h1 h2 _ ((zaq.slice 88).rd_below G3.out T3.bel u1) ((zaq.slice 88).rd_below E3.out T3.bel u2) (Nat.le_trans u1 T3.bel.size) (Nat.le_trans u2 T3.bel.size)).mono ?_;rintro e w4 ⟨rfl,b4⟩;have T4:Two w w4 (rwW d ao1 cap1 ao2 cap2 ao3 cap3).toArray (rwW d bao1 bcap1 bao2 bcap2 bao3 bcap3).toArray 38 38:=T3.call b4;clear T3 b4;have x4_12:w4.cell? ⟨w.heap.size,12,none⟩=some (.int .i64 d.writes):=T4.b1.cell 12;have y4_12:w4.cell? ⟨w.heap.size+1,12,none⟩=some (.int .i64 d.writes):=T4.b2.cell 12;have x4_13:w4.cell? ⟨w.heap.size,13,none⟩=some (.int .i64 d.stop):=T4.b1.cell 13;have y4_13:w4.cell? ⟨w.heap.size+1,13,none⟩=some (.int .i64 d.stop):=T4.b2.cell 13;have x4_14:w4.cell? ⟨w.heap.size,14,none⟩=some (.bool d.down):=T4.b1.cell 14;have y4_14:w4.cell? ⟨w.heap.size+1,14,none⟩=some (.bool d.down):=T4.b2.cell 14;have B:=hid T4.bel;clear T4;go_wp2;go_ret;exact ⟨rfl,B.out⟩
theorem zfL:SzV zau zaL 140:=fun cs d hi L w r hhi hL=>by
 obtain ⟨ao1,cap1,rfl,r1,k0⟩:=zbh r;clear r;unfold zaL;have R1:=hid r1;clear r1
 go_enter Tryz.func140,Tryz.ntmps140
 go_wp2_with fail
 have T0:=zaB w #[.int .i64 d.stamp,.slice ao1 d.bytes.1 cap1] 152;refine (zcM _ d.bytes hi L _ (zak.rd_below R1.out T0.bel hhi) (Nat.le_trans hhi T0.bel.size) (by omega)).mono ?_;rintro e w1 ⟨y1,rfl,s1,b1⟩;have T1:One w w1 #[.int .i64 d.stamp,.slice ao1 d.bytes.1 cap1] 152:=T0.call b1;have HB1:=hid T1.bel
 rcases s1 with rfl | ⟨l1,hy1⟩
 ·clear T1 T0 b1
  go_wp2;go_ret;exact ⟨-1,rfl,.inl rfl,HB1.out⟩
 obtain ⟨M1,hM1⟩:∃ M:Nat,M+lenD d.bytes=L:=⟨L-lenD d.bytes,by omega⟩
 obtain rfl:y1=((M1:Nat):Int):=by omega
 have HM1:=hid hM1
 have hML1:M1≤L:=by omega
 have hz1:¬ ((M1:Int)<0):=by omega
 clear hM1 hy1 l1 T0 b1;clear T1;go_wp2;go_ret;exact ⟨M1,rfl,.inr ⟨by have e0:=HM1.out;omega,by have e0:=HM1.out;omega⟩,HB1.out⟩
theorem zeY:SzS (zau.slice 122) (szSl zaL) 119:=fun v d hi L w h hhi hL=>by
 obtain ⟨n,x⟩:=d;obtain ⟨ao,cap,hv,hm,hc⟩:=h
 cases hv
 simp only at hm hc
 unfold maxLen at hm
 by_cases hnL:L<n
 ·clear hc
  have hz:(L:Int)-(n:Int)<0:=by omega
  go_enter Tryz.func119,Tryz.ntmps119
  go_wp2;go_ret;exact ⟨-1,rfl,.inl rfl,Below.refl _ _⟩
 ·have hz:¬ (L:Int)-(n:Int)<0:=by omega
  go_enter Tryz.func119,Tryz.ntmps119
  go_wp2
  go_loopw [1,5] (fun y i wr=>∃ k M:Nat,k≤n∧i=.int .i64 k∧y=.int .i64 M∧M+n+sumN (fun i=>zaL (x i)) k=L∧Below w.heap.size w wr) (fun _ i _=>n-(intOf i).toNat)
  case atStart=>exact ⟨0,L-n,Nat.zero_le _,rfl,zd4 (by omega),by simp [sumN];omega,Below.refl _ _⟩
  case round=>
   obtain ⟨k,M,hk,rfl,rfl,hM,hb⟩:=hrel;have HM:=hid hM
   have hML:M≤L:=by omega
   clear hM
   by_cases hlt:k<n
   ·obtain ⟨b,off,rfl,hblt,hel⟩:=hc (by omega)
    obtain ⟨ck,hrk,hcell⟩:=zas (t:=0) hel hb hhi hblt hlt;obtain ⟨ao1,cap1,rfl,-⟩:=zbh hrk;have c0:wr.cell? ⟨b,off+k*2,none⟩=some (.int .i64 (x k).stamp):=hcell 0 (by decide);have c1:wr.cell? ⟨b,off+k*2+1,none⟩=some (.slice ao1 (x k).bytes.1 cap1):=hcell 1 (by decide);clear hc hel hcell
    go_wp2_with fail
    refine (zfL _ (x k) hi M _ hrk (Nat.le_trans hhi hb.size) (by omega)).mono ?_;rintro e w2 ⟨y,rfl,s,b2⟩;have HB:=hid (hb.trans (b2.mono hb.size));clear b2 hb hrk
    rcases s with rfl | ⟨l1,hy⟩
    ·go_wp2
     go_ret;exact ⟨-1,rfl,.inl rfl,HB.out⟩
    ·obtain ⟨M',hM'⟩:∃ M':Nat,M'+zaL (x k)=M:=⟨M-zaL (x k),by omega⟩
     obtain rfl:y=(M':Int):=by omega
     have HM':=hid hM'
     have hz2:¬ ((M':Int)<0):=by omega
     clear hM' hy l1
     go_wp2_with fail
     go_roundw
     case rel=>exact ⟨k+1,M',by omega,by go_num,rfl,by
      have e1:=HM.out;have e2:=HM'.out;have e3:sumN (fun i=>zaL (x i)) (k+1)=sumN (fun i=>zaL (x i)) k+zaL (x k):=rfl
      omega,HB.out⟩
     case measure=>simp [intOf];omega
   ·obtain rfl:k=n:=by omega
    go_wp2;go_ret
    exact ⟨M,rfl,.inr ⟨by
     have e1:=HM.out
     show k+sumN (fun i=>zaL (x i)) k≤L
     omega,by
     have e1:=HM.out
     show (M:Int)=(L:Int)-((k+sumN (fun i=>zaL (x i)) k:Nat):Int)
     omega⟩,hb⟩
theorem zfM:SzV zah zat 85:=fun cs d hi L w r hhi hL=>by
 obtain ⟨ao1,cap1,rfl,r1⟩:=zbi r;clear r;unfold zat;have R1:=hid r1;clear r1
 go_enter Tryz.func85,Tryz.ntmps85
 go_wp2_with fail
 have T0:=zaB w #[.bool d.wiped,.slice ao1 d.blocks.1 cap1] 115;refine (zeY _ d.blocks hi L _ ((zau.slice 122).rd_below R1.out T0.bel hhi) (Nat.le_trans hhi T0.bel.size) (by omega)).mono ?_;rintro e w1 ⟨y1,rfl,s1,b1⟩;have T1:One w w1 #[.bool d.wiped,.slice ao1 d.blocks.1 cap1] 115:=T0.call b1;have HB1:=hid T1.bel
 rcases s1 with rfl | ⟨l1,hy1⟩
 ·clear T1 T0 b1
  go_wp2;go_ret;exact ⟨-1,rfl,.inl rfl,HB1.out⟩
 obtain ⟨M1,hM1⟩:∃ M:Nat,M+(szSl zaL) d.blocks=L:=⟨L-(szSl zaL) d.blocks,by omega⟩
 obtain rfl:y1=((M1:Nat):Int):=by omega
 have HM1:=hid hM1
 have hML1:M1≤L:=by omega
 have hz1:¬ ((M1:Int)<0):=by omega
 clear hM1 hy1 l1 T0 b1;clear T1;go_wp2;go_ret;exact ⟨M1,rfl,.inr ⟨by have e0:=HM1.out;omega,by have e0:=HM1.out;omega⟩,HB1.out⟩
theorem zeZ:SzS (zah.slice 120) (szSl zat) 49:=fun v d hi L w h hhi hL=>by
 obtain ⟨n,x⟩:=d;obtain ⟨ao,cap,hv,hm,hc⟩:=h
 cases hv
 simp only at hm hc
 unfold maxLen at hm
 by_cases hnL:L<n
 ·clear hc
  have hz:(L:Int)-(n:Int)<0:=by omega
  go_enter Tryz.func49,Tryz.ntmps49
  go_wp2;go_ret;exact ⟨-1,rfl,.inl rfl,Below.refl _ _⟩
 ·have hz:¬ (L:Int)-(n:Int)<0:=by omega
  go_enter Tryz.func49,Tryz.ntmps49
  go_wp2
  go_loopw [1,5] (fun y i wr=>∃ k M:Nat,k≤n∧i=.int .i64 k∧y=.int .i64 M∧M+n+sumN (fun i=>zat (x i)) k=L∧Below w.heap.size w wr) (fun _ i _=>n-(intOf i).toNat)
  case atStart=>exact ⟨0,L-n,Nat.zero_le _,rfl,zd4 (by omega),by simp [sumN];omega,Below.refl _ _⟩
  case round=>
   obtain ⟨k,M,hk,rfl,rfl,hM,hb⟩:=hrel;have HM:=hid hM
   have hML:M≤L:=by omega
   clear hM
   by_cases hlt:k<n
   ·obtain ⟨b,off,rfl,hblt,hel⟩:=hc (by omega)
    obtain ⟨ck,hrk,hcell⟩:=zas (t:=0) hel hb hhi hblt hlt;obtain ⟨ao1,cap1,rfl,-⟩:=zbi hrk;have c0:wr.cell? ⟨b,off+k*2,none⟩=some (.bool (x k).wiped):=hcell 0 (by decide);have c1:wr.cell? ⟨b,off+k*2+1,none⟩=some (.slice ao1 (x k).blocks.1 cap1):=hcell 1 (by decide);clear hc hel hcell
    go_wp2_with fail
    refine (zfM _ (x k) hi M _ hrk (Nat.le_trans hhi hb.size) (by omega)).mono ?_;rintro e w2 ⟨y,rfl,s,b2⟩;have HB:=hid (hb.trans (b2.mono hb.size));clear b2 hb hrk
    rcases s with rfl | ⟨l1,hy⟩
    ·go_wp2
     go_ret;exact ⟨-1,rfl,.inl rfl,HB.out⟩
    ·obtain ⟨M',hM'⟩:∃ M':Nat,M'+zat (x k)=M:=⟨M-zat (x k),by omega⟩
     obtain rfl:y=(M':Int):=by omega
     have HM':=hid hM'
     have hz2:¬ ((M':Int)<0):=by omega
     clear hM' hy l1
     go_wp2_with fail
     go_roundw
     case rel=>exact ⟨k+1,M',by omega,by go_num,rfl,by
      have e1:=HM.out;have e2:=HM'.out;have e3:sumN (fun i=>zat (x i)) (k+1)=sumN (fun i=>zat (x i)) k+zat (x k):=rfl
      omega,HB.out⟩
     case measure=>simp [intOf];omega
   ·obtain rfl:k=n:=by omega
    go_wp2;go_ret
    exact ⟨M,rfl,.inr ⟨by
     have e1:=HM.out
     show k+sumN (fun i=>zat (x i)) k≤L
     omega,by
     have e1:=HM.out
     show (M:Int)=(L:Int)-((k+sumN (fun i=>zat (x i)) k:Nat):Int)
     omega⟩,hb⟩
theorem zel:SzS ((zah.slice 120).slice 96) (szSl (szSl zat)) 20:=fun v d hi L w h hhi hL=>by
 obtain ⟨n,x⟩:=d;obtain ⟨ao,cap,hv,hm,hc⟩:=h
 cases hv
 simp only at hm hc
 unfold maxLen at hm
 by_cases hnL:L<n
 ·clear hc
  have hz:(L:Int)-(n:Int)<0:=by omega
  go_enter Tryz.func20,Tryz.ntmps20
  go_wp2;go_ret;exact ⟨-1,rfl,.inl rfl,Below.refl _ _⟩
 ·have hz:¬ (L:Int)-(n:Int)<0:=by omega
  go_enter Tryz.func20,Tryz.ntmps20
  go_wp2
  go_loopw [1,5] (fun y i wr=>∃ k M:Nat,k≤n∧i=.int .i64 k∧y=.int .i64 M∧M+n+sumN (fun i=>(szSl zat) (x i)) k=L∧Below w.heap.size w wr) (fun _ i _=>n-(intOf i).toNat)
  case atStart=>exact ⟨0,L-n,Nat.zero_le _,rfl,zd4 (by omega),by simp [sumN];omega,Below.refl _ _⟩
  case round=>
   obtain ⟨k,M,hk,rfl,rfl,hM,hb⟩:=hrel;have HM:=hid hM
   have hML:M≤L:=by omega
   clear hM
   by_cases hlt:k<n
   ·obtain ⟨b,off,rfl,hblt,hel⟩:=hc (by omega)
    obtain ⟨ck,hrk,hcell⟩:=zas (t:=0) hel hb hhi hblt hlt;obtain ⟨ao9,cap9,rfl⟩:=zbq hrk
    have c0:wr.cell? ⟨b,off+k,none⟩=some (.slice ao9 (x k).1 cap9):=by
     have h:=hcell 0 (show 0<1 by decide);rw [show (zah.slice 120).sz=1 from rfl,Nat.mul_one,Nat.add_zero] at h;exact h
    clear hc hel hcell
    go_wp2_with fail
    refine (zeZ _ (x k) hi M _ hrk (Nat.le_trans hhi hb.size) (by omega)).mono ?_;rintro e w2 ⟨y,rfl,s,b2⟩;have HB:=hid (hb.trans (b2.mono hb.size));clear b2 hb hrk
    rcases s with rfl | ⟨l1,hy⟩
    ·go_wp2
     go_ret;exact ⟨-1,rfl,.inl rfl,HB.out⟩
    ·obtain ⟨M',hM'⟩:∃ M':Nat,M'+(szSl zat) (x k)=M:=⟨M-(szSl zat) (x k),by omega⟩
     obtain rfl:y=(M':Int):=by omega
     have HM':=hid hM'
     have hz2:¬ ((M':Int)<0):=by omega
     clear hM' hy l1
     go_wp2_with fail
     go_roundw
     case rel=>exact ⟨k+1,M',by omega,by go_num,rfl,by
      have e1:=HM.out;have e2:=HM'.out;have e3:sumN (fun i=>(szSl zat) (x i)) (k+1)=sumN (fun i=>(szSl zat) (x i)) k+(szSl zat) (x k):=rfl
      omega,HB.out⟩
     case measure=>simp [intOf];omega
   ·obtain rfl:k=n:=by omega
    go_wp2;go_ret
    exact ⟨M,rfl,.inr ⟨by
     have e1:=HM.out
     show k+sumN (fun i=>(szSl zat) (x i)) k≤L
     omega,by
     have e1:=HM.out
     show (M:Int)=(L:Int)-((k+sumN (fun i=>(szSl zat) (x i)) k:Nat):Int)
     omega⟩,hb⟩
theorem zgY:SzV zab za2 120:=fun cs d hi L w r hhi hL=>by
 obtain ⟨ao6,cap6,ao7,cap7,ao8,cap8,rfl,r6,r7,r8,k0,k1,k2,k3,k4,k5⟩:=zaH r;clear r;unfold za2;have R6:=hid r6;have R7:=hid r7;have R8:=hid r8;clear r6 r7 r8;unfold maxLen at k2
 by_cases hnm:L<d.name.size
 ·have hz:(L:Int)-(d.name.size:Int)<0:=by omega
  go_enter Tryz.func120,Tryz.ntmps120
  go_wp2;go_ret;exact ⟨-1,rfl,.inl rfl,(zaB w _ _).bel⟩
 ·have hz:¬ (L:Int)-(d.name.size:Int)<0:=by omega
  obtain ⟨M0,hM0⟩:∃ M0:Nat,M0+d.name.size=L:=⟨L-d.name.size,by omega⟩
  have eM0:(L:Int)-(d.name.size:Int)=(M0:Int):=by omega
  go_enter Tryz.func120,Tryz.ntmps120
  go_wp2_with fail
  have T0:=zaB w (rwR d ao6 cap6 ao7 cap7 ao8 cap8).toArray 141;have HM0:=hid hM0
  have hML0:M0≤L:=by omega
  first | rw [eM0] | skip
  clear hM0;refine (zef _ d.rows hi M0 _ (zaA.rd_below R6.out T0.bel hhi) (Nat.le_trans hhi T0.bel.size) (by omega)).mono ?_;rintro e w1 ⟨y1,rfl,s1,b1⟩;have T1:One w w1 (rwR d ao6 cap6 ao7 cap7 ao8 cap8).toArray 141:=T0.call b1;have x1_7:w1.cell? ⟨w.heap.size,7,none⟩=some (.slice ao7 d.data.1 cap7):=T1.b1.cell 7;have HB1:=hid T1.bel
  rcases s1 with rfl | ⟨l1,hy1⟩
  ·clear T1 T0 b1
   go_wp2;go_ret;exact ⟨-1,rfl,.inl rfl,HB1.out⟩
  obtain ⟨M1,hM1⟩:∃ M:Nat,M+lenD d.rows=M0:=⟨M0-lenD d.rows,by omega⟩
  obtain rfl:y1=((M1:Nat):Int):=by omega
  have HM1:=hid hM1
  have hML1:M1≤M0:=by omega
  have hz1:¬ ((M1:Int)<0):=by omega
  clear hM1 hy1 l1 T0 b1
  go_wp2_with fail
  refine (zcM _ d.data hi M1 _ (zak.rd_below R7.out T1.bel hhi) (Nat.le_trans hhi T1.bel.size) (by omega)).mono ?_;rintro e w2 ⟨y2,rfl,s2,b2⟩;have T2:One w w2 (rwR d ao6 cap6 ao7 cap7 ao8 cap8).toArray 141:=T1.call b2;have x2_8:w2.cell? ⟨w.heap.size,8,none⟩=some (.slice ao8 d.delta.1 cap8):=T2.b1.cell 8;have HB2:=hid T2.bel
  rcases s2 with rfl | ⟨l2,hy2⟩
  ·clear T2 T1 b2
   go_wp2;go_ret;exact ⟨-1,rfl,.inl rfl,HB2.out⟩
  obtain ⟨M2,hM2⟩:∃ M:Nat,M+lenD d.data=M1:=⟨M1-lenD d.data,by omega⟩
  obtain rfl:y2=((M2:Nat):Int):=by omega
  have HM2:=hid hM2
  have hML2:M2≤M1:=by omega
  have hz2:¬ ((M2:Int)<0):=by omega
  clear hM2 hy2 l2 T1 b2
  go_wp2_with fail
  refine (zcM _ d.delta hi M2 _ (zak.rd_below R8.out T2.bel hhi) (Nat.le_trans hhi T2.bel.size) (by omega)).mono ?_;rintro e w3 ⟨y3,rfl,s3,b3⟩;have T3:One w w3 (rwR d ao6 cap6 ao7 cap7 ao8 cap8).toArray 141:=T2.call b3;have HB3:=hid T3.bel
  rcases s3 with rfl | ⟨l3,hy3⟩
  ·clear T3 T2 b3
   go_wp2;go_ret;exact ⟨-1,rfl,.inl rfl,HB3.out⟩
  obtain ⟨M3,hM3⟩:∃ M:Nat,M+lenD d.delta=M2:=⟨M2-lenD d.delta,by omega⟩
  obtain rfl:y3=((M3:Nat):Int):=by omega
  have HM3:=hid hM3
  have hML3:M3≤M2:=by omega
  have hz3:¬ ((M3:Int)<0):=by omega
  clear hM3 hy3 l3 T2 b3;clear T3;go_wp2;go_ret;exact ⟨M3,rfl,.inr ⟨by have e0:=HM0.out;have e1:=HM1.out;have e2:=HM2.out;have e3:=HM3.out;omega,by have e0:=HM0.out;have e1:=HM1.out;have e2:=HM2.out;have e3:=HM3.out;omega⟩,HB3.out⟩
theorem zgs:SzS (zab.slice 92) (szSl za2) 86:=fun v d hi L w h hhi hL=>by
 obtain ⟨n,x⟩:=d;obtain ⟨ao,cap,hv,hm,hc⟩:=h
 cases hv
 simp only at hm hc
 unfold maxLen at hm
 by_cases hnL:L<n
 ·clear hc
  have hz:(L:Int)-(n:Int)<0:=by omega
  go_enter Tryz.func86,Tryz.ntmps86
  go_wp2;go_ret;exact ⟨-1,rfl,.inl rfl,Below.refl _ _⟩
 ·have hz:¬ (L:Int)-(n:Int)<0:=by omega
  go_enter Tryz.func86,Tryz.ntmps86
  go_wp2
  go_loopw [1,5] (fun y i wr=>∃ k M:Nat,k≤n∧i=.int .i64 k∧y=.int .i64 M∧M+n+sumN (fun i=>za2 (x i)) k=L∧Below w.heap.size w wr) (fun _ i _=>n-(intOf i).toNat)
  case atStart=>exact ⟨0,L-n,Nat.zero_le _,rfl,zd4 (by omega),by simp [sumN];omega,Below.refl _ _⟩
  case round=>
   obtain ⟨k,M,hk,rfl,rfl,hM,hb⟩:=hrel;have HM:=hid hM
   have hML:M≤L:=by omega
   clear hM
   by_cases hlt:k<n
   ·obtain ⟨b,off,rfl,hblt,hel⟩:=hc (by omega)
    obtain ⟨ck,hrk,hcell⟩:=zas (t:=0) hel hb hhi hblt hlt;obtain ⟨ao6,cap6,ao7,cap7,ao8,cap8,rfl,-⟩:=zaH hrk;have c0:wr.cell? ⟨b,off+k*9,none⟩=some (.int .i64 (x k).kind):=hcell 0 (by decide);have c1:wr.cell? ⟨b,off+k*9+1,none⟩=some (.int .i64 (x k).seq):=hcell 1 (by decide);have c2:wr.cell? ⟨b,off+k*9+2,none⟩=some (.string (x k).name):=hcell 2 (by decide);have c3:wr.cell? ⟨b,off+k*9+3,none⟩=some (.int .i64 (x k).length):=hcell 3 (by decide);have c4:wr.cell? ⟨b,off+k*9+4,none⟩=some (.int .i64 (x k).group):=hcell 4 (by decide);have c5:wr.cell? ⟨b,off+k*9+5,none⟩=some (.int .i64 (x k).row):=hcell 5 (by decide);have c6:wr.cell? ⟨b,off+k*9+6,none⟩=some (.slice ao6 (x k).rows.1 cap6):=hcell 6 (by decide);have c7:wr.cell? ⟨b,off+k*9+7,none⟩=some (.slice ao7 (x k).data.1 cap7):=hcell 7 (by decide);have c8:wr.cell? ⟨b,off+k*9+8,none⟩=some (.slice ao8 (x k).delta.1 cap8):=hcell 8 (by decide);clear hc hel hcell
    go_wp2_with fail
    refine (zgY _ (x k) hi M _ hrk (Nat.le_trans hhi hb.size) (by omega)).mono ?_;rintro e w2 ⟨y,rfl,s,b2⟩;have HB:=hid (hb.trans (b2.mono hb.size));clear b2 hb hrk
    rcases s with rfl | ⟨l1,hy⟩
    ·go_wp2
     go_ret;exact ⟨-1,rfl,.inl rfl,HB.out⟩
    ·obtain ⟨M',hM'⟩:∃ M':Nat,M'+za2 (x k)=M:=⟨M-za2 (x k),by omega⟩
     obtain rfl:y=(M':Int):=by omega
     have HM':=hid hM'
     have hz2:¬ ((M':Int)<0):=by omega
     clear hM' hy l1
     go_wp2_with fail
     go_roundw
     case rel=>exact ⟨k+1,M',by omega,by go_num,rfl,by
      have e1:=HM.out;have e2:=HM'.out;have e3:sumN (fun i=>za2 (x i)) (k+1)=sumN (fun i=>za2 (x i)) k+za2 (x k):=rfl
      omega,HB.out⟩
     case measure=>simp [intOf];omega
   ·obtain rfl:k=n:=by omega
    go_wp2;go_ret
    exact ⟨M,rfl,.inr ⟨by
     have e1:=HM.out
     show k+sumN (fun i=>za2 (x i)) k≤L
     omega,by
     have e1:=HM.out
     show (M:Int)=(L:Int)-((k+sumN (fun i=>za2 (x i)) k:Nat):Int)
     omega⟩,hb⟩
theorem zgt:SzV zaq zaQ 50:=fun cs d hi L w r hhi hL=>by
 obtain ⟨ao1,cap1,rfl,r1⟩:=zaW r;clear r;unfold zaQ;have R1:=hid r1;clear r1
 go_enter Tryz.func50,Tryz.ntmps50
 go_wp2_with fail
 have T0:=zaB w #[.bool d.wiped,.slice ao1 d.recs.1 cap1] 83;refine (zgs _ d.recs hi L _ ((zab.slice 92).rd_below R1.out T0.bel hhi) (Nat.le_trans hhi T0.bel.size) (by omega)).mono ?_;rintro e w1 ⟨y1,rfl,s1,b1⟩;have T1:One w w1 #[.bool d.wiped,.slice ao1 d.recs.1 cap1] 83:=T0.call b1;have HB1:=hid T1.bel
 rcases s1 with rfl | ⟨l1,hy1⟩
 ·clear T1 T0 b1
  go_wp2;go_ret;exact ⟨-1,rfl,.inl rfl,HB1.out⟩
 obtain ⟨M1,hM1⟩:∃ M:Nat,M+(szSl za2) d.recs=L:=⟨L-(szSl za2) d.recs,by omega⟩
 obtain rfl:y1=((M1:Nat):Int):=by omega
 have HM1:=hid hM1
 have hML1:M1≤L:=by omega
 have hz1:¬ ((M1:Int)<0):=by omega
 clear hM1 hy1 l1 T0 b1;clear T1;go_wp2;go_ret;exact ⟨M1,rfl,.inr ⟨by have e0:=HM1.out;omega,by have e0:=HM1.out;omega⟩,HB1.out⟩
theorem zfN:SzS (zaq.slice 88) (szSl zaQ) 22:=fun v d hi L w h hhi hL=>by
 obtain ⟨n,x⟩:=d;obtain ⟨ao,cap,hv,hm,hc⟩:=h
 cases hv
 simp only at hm hc
 unfold maxLen at hm
 by_cases hnL:L<n
 ·clear hc
  have hz:(L:Int)-(n:Int)<0:=by omega
  go_enter Tryz.func22,Tryz.ntmps22
  go_wp2;go_ret;exact ⟨-1,rfl,.inl rfl,Below.refl _ _⟩
 ·have hz:¬ (L:Int)-(n:Int)<0:=by omega
  go_enter Tryz.func22,Tryz.ntmps22
  go_wp2
  go_loopw [1,5] (fun y i wr=>∃ k M:Nat,k≤n∧i=.int .i64 k∧y=.int .i64 M∧M+n+sumN (fun i=>zaQ (x i)) k=L∧Below w.heap.size w wr) (fun _ i _=>n-(intOf i).toNat)
  case atStart=>exact ⟨0,L-n,Nat.zero_le _,rfl,zd4 (by omega),by simp [sumN];omega,Below.refl _ _⟩
  case round=>
   obtain ⟨k,M,hk,rfl,rfl,hM,hb⟩:=hrel;have HM:=hid hM
   have hML:M≤L:=by omega
   clear hM
   by_cases hlt:k<n
   ·obtain ⟨b,off,rfl,hblt,hel⟩:=hc (by omega)
    obtain ⟨ck,hrk,hcell⟩:=zas (t:=0) hel hb hhi hblt hlt;obtain ⟨ao1,cap1,rfl,-⟩:=zaW hrk;have c0:wr.cell? ⟨b,off+k*2,none⟩=some (.bool (x k).wiped):=hcell 0 (by decide);have c1:wr.cell? ⟨b,off+k*2+1,none⟩=some (.slice ao1 (x k).recs.1 cap1):=hcell 1 (by decide);clear hc hel hcell
    go_wp2_with fail
    refine (zgt _ (x k) hi M _ hrk (Nat.le_trans hhi hb.size) (by omega)).mono ?_;rintro e w2 ⟨y,rfl,s,b2⟩;have HB:=hid (hb.trans (b2.mono hb.size));clear b2 hb hrk
    rcases s with rfl | ⟨l1,hy⟩
    ·go_wp2
     go_ret;exact ⟨-1,rfl,.inl rfl,HB.out⟩
    ·obtain ⟨M',hM'⟩:∃ M':Nat,M'+zaQ (x k)=M:=⟨M-zaQ (x k),by omega⟩
     obtain rfl:y=(M':Int):=by omega
     have HM':=hid hM'
     have hz2:¬ ((M':Int)<0):=by omega
     clear hM' hy l1
     go_wp2_with fail
     go_roundw
     case rel=>exact ⟨k+1,M',by omega,by go_num,rfl,by
      have e1:=HM.out;have e2:=HM'.out;have e3:sumN (fun i=>zaQ (x i)) (k+1)=sumN (fun i=>zaQ (x i)) k+zaQ (x k):=rfl
      omega,HB.out⟩
     case measure=>simp [intOf];omega
   ·obtain rfl:k=n:=by omega
    go_wp2;go_ret
    exact ⟨M,rfl,.inr ⟨by
     have e1:=HM.out
     show k+sumN (fun i=>zaQ (x i)) k≤L
     omega,by
     have e1:=HM.out
     show (M:Int)=(L:Int)-((k+sumN (fun i=>zaQ (x i)) k:Nat):Int)
     omega⟩,hb⟩
theorem zfO:SzV zaj zbG 6:=fun cs d hi L w r hhi hL=>by
 obtain ⟨ao1,cap1,ao2,cap2,ao3,cap3,rfl,r1,r2,r3,k0,k4,k5⟩:=zaM r;clear r;unfold zbG;have R1:=hid r1;have R2:=hid r2;have R3:=hid r3;clear r1 r2 r3
 go_enter Tryz.func6,Tryz.ntmps6
 go_wp2_with fail
 have T0:=zaB w (rwW d ao1 cap1 ao2 cap2 ao3 cap3).toArray 28;refine (zel _ d.groups hi L _ (((zah.slice 120).slice 96).rd_below R1.out T0.bel hhi) (Nat.le_trans hhi T0.bel.size) (by omega)).mono ?_;rintro e w1 ⟨y1,rfl,s1,b1⟩;have T1:One w w1 (rwW d ao1 cap1 ao2 cap2 ao3 cap3).toArray 28:=T0.call b1;have x1_10:w1.cell? ⟨w.heap.size,10,none⟩=some (.slice ao2 d.on.1 cap2):=T1.b1.cell 10;have HB1:=hid T1.bel
 rcases s1 with rfl | ⟨l1,hy1⟩
 ·clear T1 T0 b1
  go_wp2;go_ret;exact ⟨-1,rfl,.inl rfl,HB1.out⟩
 obtain ⟨M1,hM1⟩:∃ M:Nat,M+(szSl (szSl zat)) d.groups=L:=⟨L-(szSl (szSl zat)) d.groups,by omega⟩
 obtain rfl:y1=((M1:Nat):Int):=by omega
 have HM1:=hid hM1
 have hML1:M1≤L:=by omega
 have hz1:¬ ((M1:Int)<0):=by omega
 clear hM1 hy1 l1 T0 b1
 go_wp2_with fail
 refine (zef _ d.on hi M1 _ (zaA.rd_below R2.out T1.bel hhi) (Nat.le_trans hhi T1.bel.size) (by omega)).mono ?_;rintro e w2 ⟨y2,rfl,s2,b2⟩;have T2:One w w2 (rwW d ao1 cap1 ao2 cap2 ao3 cap3).toArray 28:=T1.call b2;have x2_11:w2.cell? ⟨w.heap.size,11,none⟩=some (.slice ao3 d.tapes.1 cap3):=T2.b1.cell 11;have HB2:=hid T2.bel
 rcases s2 with rfl | ⟨l2,hy2⟩
 ·clear T2 T1 b2
  go_wp2;go_ret;exact ⟨-1,rfl,.inl rfl,HB2.out⟩
 obtain ⟨M2,hM2⟩:∃ M:Nat,M+lenD d.on=M1:=⟨M1-lenD d.on,by omega⟩
 obtain rfl:y2=((M2:Nat):Int):=by omega
 have HM2:=hid hM2
 have hML2:M2≤M1:=by omega
 have hz2:¬ ((M2:Int)<0):=by omega
 clear hM2 hy2 l2 T1 b2
 go_wp2_with fail
 refine (zfN _ d.tapes hi M2 _ ((zaq.slice 88).rd_below R3.out T2.bel hhi) (Nat.le_trans hhi T2.bel.size) (by omega)).mono ?_;rintro e w3 ⟨y3,rfl,s3,b3⟩;have T3:One w w3 (rwW d ao1 cap1 ao2 cap2 ao3 cap3).toArray 28:=T2.call b3;have HB3:=hid T3.bel
 rcases s3 with rfl | ⟨l3,hy3⟩
 ·clear T3 T2 b3
  go_wp2;go_ret;exact ⟨-1,rfl,.inl rfl,HB3.out⟩
 obtain ⟨M3,hM3⟩:∃ M:Nat,M+(szSl zaQ) d.tapes=M2:=⟨M2-(szSl zaQ) d.tapes,by omega⟩
 obtain rfl:y3=((M3:Nat):Int):=by omega
 have HM3:=hid hM3
 have hML3:M3≤M2:=by omega
 have hz3:¬ ((M3:Int)<0):=by omega
 clear hM3 hy3 l3 T2 b3;clear T3;go_wp2;go_ret;exact ⟨M3,rfl,.inr ⟨by have e0:=HM1.out;have e1:=HM2.out;have e2:=HM3.out;omega,by have e0:=HM1.out;have e1:=HM2.out;have e2:=HM3.out;omega⟩,HB3.out⟩
def zaz (b:ByteArray) (i:Nat):Nat:=if h:i<b.size then (b[i]'h).toNat else 0
theorem zcf (b:ByteArray) (i:Nat) (h:i<b.size) (w:World):(Instr.index 9 (.string b) (.int .i64 (i:Int))).run Tryz.prog w=.ok (.int .u8 (zaz b i)) w:=by
 rw [run_index_string w 9 b .i64 (i:Int) Tryz.underlying9,dif_pos ⟨by omega,by omega⟩]
 simp [zaz,h]
def LetP (y:Nat):Prop:=97≤y∧y≤122
def DigP (y:Nat):Prop:=48≤y∧y≤57
def zbt (b:ByteArray):Prop:=1≤b.size∧b.size≤8∧LetP (zaz b 0)∧∀ i,i<b.size→LetP (zaz b i)∨DigP (zaz b i)
def zhD (b:ByteArray) (x:Int):Prop:=(x=5∧¬ zbt b)∨(x=0∧zbt b)
theorem zem (
 b:ByteArray) (hb:b.size≤1048576) (w:World) :
 Calls Tryz.prog 91 #[.string b] w fun e w'=>∃ x,e=.returned (.int .i64 x)∧zhD b x∧w'=w:=by
 by_cases h1:1≤b.size
 ·have t1:decide (
   (b.size:Int)<1)=false:=by simp;omega
  have t1n:decide (b.size<1)=false:=decide_eq_false (by omega);have t1z:decide (b.size=0)=false:=decide_eq_false (by omega)
  by_cases h2:b.size≤8
  ·have t2:decide ((8:Int)<(b.size:Int))=false:=by simp;omega
   have t2n:decide (8<b.size)=false:=by simp;omega
   have hix:=zcf b 0 h1;have e0:((0:Nat):Int)=0:=rfl;rw [e0] at hix;obtain ⟨y,hy⟩:∃ y,y=zaz b 0:=⟨_,rfl⟩;rw [← hy] at hix;have HY:=hid hy;clear e0 hy
   by_cases h3:y<97
   ·have HN:Hid (¬ zbt b):=fun h=>by have:=h.2.2.1.1;rw [← HY.out] at this;omega
    have t3:decide ((y:Int)<97)=true:=by simp;omega
    go_enter Tryz.func91,Tryz.ntmps91
    go_wp2;go_ret;exact ⟨5,rfl,.inl ⟨rfl,HN.out⟩,rfl⟩
   ·have t3:decide ((y:Int)<97)=false:=by simp;omega
    have t3n:decide (y<97)=false:=by simp;omega
    by_cases h4:122<y
    ·have HN:Hid (¬ zbt b):=fun h=>by have:=h.2.2.1.2;rw [← HY.out] at this;omega
     have t4:decide ((122:Int)<(y:Int))=true:=by simp;omega
     clear h3
     go_enter Tryz.func91,Tryz.ntmps91
     go_wp2;go_ret;exact ⟨5,rfl,.inl ⟨rfl,HN.out⟩,rfl⟩
    ·have t4:decide ((122:Int)<(y:Int))=false:=by simp;omega
     have t4n:decide (122<y)=false:=by simp;omega
     have HL:Hid (LetP (zaz b 0)):=by show LetP (zaz b 0);rw [← HY.out];exact ⟨by omega,by omega⟩
     clear h3 h4
     go_enter Tryz.func91,Tryz.ntmps91
     go_wp2
     go_loop [3] (fun i=>∃ k:Nat,k≤b.size∧i=.int .i64 k∧∀ i,i<k→LetP (zaz b i)∨DigP (zaz b i)) (fun i=>b.size-(intOf i).toNat)
     case atStart=>exact ⟨0,Nat.zero_le _,rfl,fun i hi=>by omega⟩
     case round=>
      obtain ⟨k,hk,rfl,hall⟩:=hrel;have HALL:=hid hall;clear hall
      by_cases hlt:k<b.size
      ·have hik:=zcf b k hlt
       obtain ⟨z,hz⟩:∃ z,z=zaz b k:=⟨_,rfl⟩;rw [← hz] at hik;have HZ:=hid hz;clear hz
       by_cases c1:z<97
       ·have s1:decide (
         (z:Int)<97)=true:=by simp;omega
        by_cases c3:z<48
        ·have s3:decide ((z:Int)<48)=true:=by simp;omega
         have HN:Hid (¬ zbt b):=fun h=>by
          have:=h.2.2.2 k hlt;rw [← HZ.out] at this;unfold LetP DigP at this;omega
         go_wp2;go_ret;exact ⟨5,rfl,.inl ⟨rfl,HN.out⟩,rfl⟩
        ·have s3:decide ((z:Int)<48)=false:=by simp;omega
         have s3n:decide (z<48)=false:=by simp;omega
         by_cases c4:57<z
         ·have s4:decide ((57:Int)<(z:Int))=true:=by simp;omega
          have HN:Hid (¬ zbt b):=fun h=>by
           have:=h.2.2.2 k hlt;rw [← HZ.out] at this;unfold LetP DigP at this;omega
          clear c3;go_wp2;go_ret;exact ⟨5,rfl,.inl ⟨rfl,HN.out⟩,rfl⟩
         ·have s4:decide ((57:Int)<(z:Int))=false:=by simp;omega
          have s4n:decide (57<z)=false:=by simp;omega
          have HD:Hid (DigP (zaz b k)):=by show DigP (zaz b k);rw [← HZ.out];exact ⟨by omega,by omega⟩
          clear c3 c4;go_wp2
          go_round
          case rel=>exact ⟨k+1,by omega,by go_num,fun i hi=>by
           by_cases c:i=k
           ·right;rw [c];exact HD.out
           ·exact HALL.out i (by omega)⟩
          case measure=>simp [intOf];omega
       ·have s1:decide ((z:Int)<97)=false:=by simp;omega
        have s1n:decide (z<97)=false:=by simp;omega
        by_cases c2:122<z
        ·have s2:decide ((122:Int)<(z:Int))=true:=by simp;omega
         have s3:decide ((z:Int)<48)=false:=by simp;omega
         have s3n:decide (z<48)=false:=by simp;omega
         have s4:decide ((57:Int)<(z:Int))=true:=by simp;omega
         have HN:Hid (¬ zbt b):=fun h=>by
          have:=h.2.2.2 k hlt;rw [← HZ.out] at this;unfold LetP DigP at this;omega
         clear c1;go_wp2;go_ret;exact ⟨5,rfl,.inl ⟨rfl,HN.out⟩,rfl⟩
        ·have s2:decide ((122:Int)<(z:Int))=false:=by simp;omega
         have s2n:decide (122<z)=false:=by simp;omega
         have HD:Hid (LetP (zaz b k)):=by show LetP (zaz b k);rw [← HZ.out];exact ⟨by omega,by omega⟩
         clear c1 c2;go_wp2
         go_round
         case rel=>exact ⟨k+1,by omega,by go_num,fun i hi=>by
          by_cases c:i=k
          ·left;rw [c];exact HD.out
          ·exact HALL.out i (by omega)⟩
         case measure=>simp [intOf];omega
      ·obtain rfl:k=b.size:=by omega
       have HY2:Hid (zbt b):=⟨h1,h2,HL.out,HALL.out⟩;go_wp2;go_ret;exact ⟨0,rfl,.inr ⟨rfl,HY2.out⟩,rfl⟩
  ·have HN:Hid (¬ zbt b):=fun h=>h2 h.2.1
   have t2:decide ((8:Int)<(b.size:Int))=true:=by simp;omega
   have t2i:(8:Int)<(b.size:Int):=by omega
   clear h2
   go_enter Tryz.func91,Tryz.ntmps91
   go_wp2;go_ret;exact ⟨5,rfl,.inl ⟨rfl,HN.out⟩,rfl⟩
 ·have HN:Hid (¬ zbt b):=fun h=>h1 h.1
  have t1:decide ((b.size:Int)<1)=true:=by simp;omega
  have t1i:(b.size:Int)<1:=by omega
  clear h1
  go_enter Tryz.func91,Tryz.ntmps91
  go_wp2;go_ret;exact ⟨5,rfl,.inl ⟨rfl,HN.out⟩,rfl⟩
def InP (x a b:Int):Prop:=a≤x∧x≤b
def zbm (n:Nat) (g:Nat→Int) (most:Int):Prop:=∀ i,i<n→InP (g i) 0 most∧∀ t,t<i→g t≠g i
def za8 (s:Nat→Int) (r:RecD):Prop:=
 (r.length=-1∧r.data.1=0∧r.rows.1=0) ∨
 (r.length≠-1∧1≤r.length∧r.length≤3*(s 2*4)∧
  (
   (0<r.data.1∧(r.data.1:Int)=r.length∧r.rows.1=0) ∨
   (r.data.1=0∧(r.rows.1:Int)=(r.length+s 2*4-1)/(s 2*4)∧zbm r.rows.1 r.rows.2 (s 4-1))))
def zhl (s:Nat→Int) (r:RecD):Prop:=InP r.group 0 (s 0-1)∧InP r.row 0 (s 4-1)∧(r.data.1:Int)=s 2*4∧(r.delta.1:Int)=s 2*4
def zhm (s:Nat→Int) (r:RecD):Prop:=InP r.group 0 (s 0+s 1-1)
def zdG (s:Nat→Int) (r:RecD):Prop:=(r.delta.1:Int)=s 0+s 1∧r.delta.2 r.group.toNat=0∧∀ i,i<r.rows.1→r.delta.2 (r.rows.2 i).toNat≠0
def zfl (s:Nat→Int) (r:RecD):Prop:=InP r.group 0 (s 0+s 1-1)∧InP r.row 0 (s 4-1)∧zb6 r.rows.1 r.rows.2 (s 0+s 1-1)∧(r.data.1:Int)=s 2*4∧zdG s r
def zaV (s:Nat→Int) (r:RecD):Prop:=(r.kind=1∧za8 s r)∨(r.kind=2∧zhl s r)∨(r.kind=3∧zhm s r)∨(r.kind=4∧zfl s r)
def zb7 (r:RecD):Prop:=r.name=ByteArray.empty∧r.length=0
def zaR (r:RecD):Prop:=
 (r.kind=1∧r.group=0∧r.row=0∧r.delta.1=0)∨(r.kind=2∧zb7 r∧r.rows.1=0) ∨
 (r.kind=3∧zb7 r∧r.row=0∧r.rows.1=0∧r.data.1=0∧r.delta.1=0)∨(r.kind=4∧zb7 r)
def zcA (r:RecD):Prop:=r.kind=1→zbt r.name
def Stair:List (Prop×Int)→(Int→Prop)→Int→Prop
 | [],K,x=>K x
 | (p,c)::l,K,x=>(¬ p∧x=c)∨(p∧Stair l K x)
theorem Stair.fall {p:Prop} {c:Int} {l:List (Prop×Int)} {K:Int→Prop} (h:¬ p):Stair ((p,c)::l) K c:=.inl ⟨h,rfl⟩
theorem Stair.pass {p:Prop} {c:Int} {l:List (Prop×Int)} {K:Int→Prop} {x:Int} (h:p) (k:Stair l K x):Stair ((p,c)::l) K x:=.inr ⟨h,k⟩
theorem Stair.last {K:Int→Prop} {x:Int} (h:K x):Stair [] K x:=h
theorem Stair.one {K:Int→Prop} (hK:∀ x y,K x→K y→x=y):∀ (l:List (Prop×Int)) {x y:Int},Stair l K x→Stair l K y→x=y
 | [],x,y,h,k=>hK x y h k
 | (p,c)::l,x,y,h,k=>by
  rcases h with ⟨h1,h2⟩ | ⟨h1,h2⟩<;>rcases k with ⟨k1,k2⟩ | ⟨k1,k2⟩
  ·rw [h2,k2]
  ·exact absurd k1 h1
  ·exact absurd h1 k1
  ·exact Stair.one hK l h2 k2
def isZ (x:Int):Prop:=x=0
theorem zgu (x y:Int) (h:isZ x) (k:isZ y):x=y:=by rw [show x=0 from h,show y=0 from k]
def RecAns (s:Nat→Int) (r:RecD) (x:Int):Prop:=
 Stair [(zai s,3),(InP r.kind 1 4,5),(InP r.seq 1 1000000000,3),(zcA r,5),(zaV s r,3),(zaR r,1)] isZ x
theorem RecAns.one {s:Nat→Int} {r:RecD} {x y:Int} (h:RecAns s r x) (k:RecAns s r y):x=y:=Stair.one zgu _ h k
def zcm (b:BlockD):Prop:=InP b.stamp 0 1000000000∧b.bytes.1=4
def zc5 (s:Nat→Int) (p:Nat×(Nat→BlockD)):Prop:=(p.1:Int)=s 4∧∀ i,i<p.1→zcm (p.2 i)
def zdH (s:Nat→Int) (p:Nat×(Nat→DriveD)):Prop:=(p.1:Int)=s 2+s 3∧∀ i,i<p.1→zc5 s (p.2 i).blocks
def zb1 (d:WorldD):Prop:=(d.groups.1:Int)=d.shape 0+d.shape 1∧∀ i,i<d.groups.1→zdH d.shape (d.groups.2 i)
def OnP (d:WorldD):Prop:=zbm d.on.1 d.on.2 (d.shape 0+d.shape 1-1)∧(d.on.1:Int)≤d.shape 5∧(d.down=true→d.on.1=0)
def zbR (d:WorldD):Prop:=zb1 d∧OnP d∧d.tapes.1=2
def FewP (d:WorldD):Prop:=∀ t,t<d.tapes.1→(d.tapes.2 t).recs.1≤200
def RecsAns (s:Nat→Int) (n:Nat) (x:Nat→TapeD) (c:Int):Prop:=
 (c=0∧∀ t,t<n→∀ i,i<(x t).recs.1→RecAns s ((x t).recs.2 i) 0) ∨
 (c≠0∧∃ t i,t<n∧i<(x t).recs.1∧RecAns s ((x t).recs.2 i) c∧(∀ k,k<i→RecAns s ((x t).recs.2 k) 0)∧∀ u,u<t→∀ k,k<(x u).recs.1→RecAns s ((x u).recs.2 k) 0)
theorem RecsAns.one {s:Nat→Int} {n:Nat} {x:Nat→TapeD} {c e:Int} (h:RecsAns s n x c) (k:RecsAns s n x e):c=e:=by
 rcases h with ⟨rfl,h⟩ | ⟨hc,t,i,ht,hi,hr,hb,hu⟩<;>rcases k with ⟨rfl,k⟩ | ⟨kc,t',i',kt,ki,kr,kb,ku⟩
 ·rfl
 ·exact absurd (kr.one (h t' kt i' ki)) kc
 ·exact absurd (hr.one (k t ht i hi)) hc
 ·rcases Nat.lt_trichotomy t t' with c1 | c1 | c1
  ·exact absurd (hr.one (ku t c1 i hi)) hc
  ·subst c1
   rcases Nat.lt_trichotomy i i' with c2 | c2 | c2
   ·exact absurd (hr.one (kb i c2)) hc
   ·subst c2;exact hr.one kr
   ·exact absurd (kr.one (hb i' c2)) kc
  ·exact absurd (kr.one (hu t' c1 i' ki)) kc
def zfm (d:WorldD):Prop:=∀ t,t<d.tapes.1→(d.tapes.2 t).wiped=true→(d.tapes.2 t).recs.1=0
def zen (d:WorldD):Prop:=InP d.writes 0 1000000000∧InP d.stop (-1) 1000000000
def WldAns (d:WorldD) (x:Int):Prop:=
 Stair [(zai d.shape,3),(zbR d,1),(FewP d,2)] (fun x=>(x≠0∧RecsAns d.shape d.tapes.1 d.tapes.2 x)∨(RecsAns d.shape d.tapes.1 d.tapes.2 0∧Stair [(zfm d,1),(zen d,3)] isZ x)) x
theorem WldAns.one {d:WorldD} {x y:Int} (h:WldAns d x) (k:WldAns d y):x=y:=by
 refine Stair.one (fun x y h k=>?_) _ h k
 rcases h with ⟨h1,h2⟩ | ⟨h1,h2⟩<;>rcases k with ⟨k1,k2⟩ | ⟨k1,k2⟩
 ·exact h2.one k2
 ·exact absurd (h2.one k1) h1
 ·exact absurd (k2.one h1) k1
 ·exact Stair.one zgu _ h2 k2
structure OkWorld (d:WorldD):Prop where
 shape:zai d.shape
 form:zbR d
 few:FewP d
 recs:∀ t,t<d.tapes.1→∀ i,i<(d.tapes.2 t).recs.1→RecAns d.shape ((d.tapes.2 t).recs.2 i) 0
 clean:zfm d
 count:zen d
theorem WldAns.ok {d:WorldD} (h:WldAns d 0):OkWorld d:=by
 rcases h with ⟨_,h⟩ | ⟨h1,h⟩
 ·omega
 rcases h with ⟨_,h⟩ | ⟨h2,h⟩
 ·omega
 rcases h with ⟨_,h⟩ | ⟨h3,h⟩
 ·omega
 rcases h with ⟨h,_⟩ | ⟨h4,h⟩
 ·exact absurd rfl h
 rcases h with ⟨_,h⟩ | ⟨h5,h⟩
 ·omega
 rcases h with ⟨_,h⟩ | ⟨h6,h⟩
 ·omega
 rcases h4 with ⟨_,h4⟩ | ⟨h4,_⟩
 ·exact ⟨h1,h2,h3,h4,h5,h6⟩
 ·exact absurd rfl h4
theorem exB (P:Prop):∃ b:Bool,b=true↔P:=by
 by_cases h:P
 ·exact ⟨true,by simp [h]⟩
 ·exact ⟨false,by simp [h]⟩
def intR (code value:Int):Value:=.agg #[.int .i64 code,.int .i64 value]
theorem zfP (c v:Int) (w:World) :
 Calls Tryz.prog 17 #[intR c v,intR c v] w fun e w'=>e=.returned (.bool true)∧Below w.heap.size w w':=by
 unfold intR
 go_enter Tryz.func17,Tryz.ntmps17
 go_wp2;go_ret;exact ⟨rfl,((Below.refl _ _).alloc (Nat.le_refl _) _).alloc (by simp) _⟩
theorem zgv (v:Value) (n:Nat) (g:Nat→Int) (hi:Nat) (x:Int) (w:World) (r:RdI w hi v n g) :
 Calls Tryz.prog 90 #[v,.int .i64 x] w (zaN (HasP n g x) w):=by
 obtain ⟨ao,cap,rfl,hm,hc⟩:=r;unfold maxLen at hm
 go_enter Tryz.func90,Tryz.ntmps90
 go_wp2
 go_loop [5] (fun i=>∃ k:Nat,k≤n∧i=.int .i64 k∧∀ i,i<k→g i≠x) (fun i=>n-(intOf i).toNat)
 case atStart=>exact ⟨0,Nat.zero_le _,rfl,fun i hi=>by omega⟩
 case round=>
  obtain ⟨k,hk,rfl,hall⟩:=hrel;have HALL:=hid hall;clear hall
  by_cases hlt:k<n
  ·obtain ⟨b,off,rfl,hblt,hcell⟩:=hc (by omega)
   have hck:w.cell? ⟨b,off+k,none⟩=some (.int .i64 (g k)):=hcell k hlt;obtain ⟨y,hy⟩:∃ y,y=g k:=⟨_,rfl⟩;have HY:=hid hy;rw [← hy] at hck;clear hc hcell hy
   by_cases heq:y=x
   ·have tn:(y==x)=true:=by simp [heq]
    have HE:=hid heq;clear heq;go_wp2;go_ret;exact zao rfl ⟨k,hlt,by rw [← HY.out];exact HE.out⟩ (Below.refl _ _)
   ·have tn:(y==x)=false:=by simp [heq]
    have HE:=hid heq;clear heq;go_wp2
    go_round
    case rel=>exact ⟨k+1,by omega,by go_num,fun i hi=>by
     by_cases c:i=k
     ·rw [c,← HY.out];exact HE.out
     ·exact HALL.out i (by omega)⟩
    case measure=>simp [intOf];omega
  ·obtain rfl:k=n:=by omega
   go_wp2;go_ret;exact zae rfl (fun ⟨i,hi,h⟩=>HALL.out i hi h) (Below.refl _ _)
theorem zav {f:Nat} {args:Array Value} {W:World} {v:Value} (h:∀ w',Below W.heap.size W w'→Calls Tryz.prog f args w' fun e w''=>e=.returned v∧Below w'.heap.size w' w'') :
 ∀ d os,Calls Tryz.prog f args (Go.Sort.grow (redrawn W d) os) fun e w''=>e=.returned v∧∃ p:Regrown,w''=Go.Sort.grow (redrawn W p.d) p.os:=fun d os=>Calls.regrown_of (h _ (below_regrown W d os))
theorem zdw {f:Nat} {args:Array Value} {W:World} {v:Value} (h:∀ w',Calls Tryz.prog f args w' fun e w''=>e=.returned v∧w''=w') :
 ∀ d os,Calls Tryz.prog f args (Go.Sort.grow (redrawn W d) os) fun e w''=>e=.returned v∧∃ p:Regrown,w''=Go.Sort.grow (redrawn W p.d) p.os:=
 zav fun w' _=>(h w').mono fun e w'' ⟨h1,h2⟩=>⟨h1,by rw [h2];exact Below.refl _ _⟩
theorem za0 {f:Nat} {args:Array Value} {w:World} {P:Prop} {b:Bool} (h:Calls Tryz.prog f args w (zaN P w)) (hb:b=true↔P):Calls Tryz.prog f args w fun e w'=>e=.returned (.bool b)∧Below w.heap.size w w':=
 h.mono fun e w' ⟨b',h1,h2,h3⟩=>⟨by rw [h1];congr 2;cases b<;>cases b'<;>simp_all,h3⟩
theorem zbQ {v a b:Int} {t:Bool} (ht:t=true↔InP v a b) (w:World) :
 Calls Tryz.prog 45 #[.int .i64 v,.int .i64 a,.int .i64 b] w fun e w'=>e=.returned (.bool t)∧w'=w:=by
 cases t with
 | true=>exact zaE v a b (ht.1 rfl).1 (ht.1 rfl).2 w
 | false=>
  have:¬ InP v a b:=fun h=>by have:=ht.2 h;cases this
  exact zbJ v a b (by unfold InP at this;omega) w
theorem zaC {W w':World} (h:∃ p:Regrown,w'=Go.Sort.grow (redrawn W p.d) p.os):Below W.heap.size W w':=by
 obtain ⟨p,rfl⟩:=h;exact below_regrown W p.d p.os
structure WQ (P:Program) (ops:Array Oper) (C:World→Prop) (Q:Act→Prop) (l:List Oper) (a:Act):Prop where
 out:wpQuiet P ops C Q l a
theorem WQ.skip {P:Program} {ops:Array Oper} {C:World→Prop} {Q:Act→Prop} {a:Act} {o:Oper} {rest:List Oper} (hw:Region.wanted o (yielded ops a.tmps)=false)
 (h:∀ K:Act→Prop,(∀ a,WQ P ops C Q rest a→K a)→K (a.put o.dst undef)):WQ P ops C Q (o::rest) a:=by
 refine ⟨?_⟩;unfold wpQuiet;rw [if_neg (by rw [hw];decide)];exact (h _ (fun _ h=>h)).out
theorem WQ.want {P:Program} {ops:Array Oper} {C:World→Prop} {Q:Act→Prop} {a:Act} {o:Oper} {rest:List Oper} (hw:Region.wanted o (yielded ops a.tmps)=true)
 (h:∀ K:Act→Prop,(∀ a,WQ P ops C Q rest a→K a)→o.quiet P a C K):WQ P ops C Q (o::rest) a:=by
 refine ⟨?_⟩;unfold wpQuiet;rw [if_pos hw];exact Oper.quiet_mono (fun a h=>h.out) (h _ (fun _ h=>h))
theorem WQ.nil {P:Program} {ops:Array Oper} {C:World→Prop} {Q:Act→Prop} {a:Act} (h:Q a):WQ P ops C Q [] a:=⟨wpQuiet_nil h⟩
theorem WQ.region {P:Program} {id:Nat} {Q:Exit→Act→World→Prop} {a:Act} {w:World} {l:List Oper} (hm:P.follows .mixedOrders=true) (hB:Region.lexB .any l.toArray=true)
 (h:WQ P l.toArray (fun w'=>∃ p:Regrown,w'=Go.Sort.grow (redrawn w p.d) p.os) (fun a'=>∀ w',(∃ p:Regrown,w'=Go.Sort.grow (redrawn w p.d) p.os)→Q .normal a' w') l a):(Code.region id l.toArray true).wp P Q a w:=wp_region_quiet_below hm hB h.out
theorem zhn {w w1:World} {cs ds:Array Value} {t u:TypeId} (h:Below ((w.alloc (.cells cs t)).alloc (.cells ds u)).heap.size ((w.alloc (.cells cs t)).alloc (.cells ds u)) w1) :
 Box w1 w.heap.size cs t∧Box w1 (w.heap.size+1) ds u∧Below w.heap.size w w1∧w.heap.size+1<w1.heap.size:=by
 have h2:=bnew h
 have e:(w.alloc (.cells cs t)).heap.size=w.heap.size+1:=by simp
 have k2:=zar (w.alloc (.cells cs t)) ds u;rw [e] at k2;have z:=bsize h;rw [e] at z;exact ⟨(zar w cs t).below h2 (by simp),k2.below h (by simp),bnew h2,z⟩
theorem zcg (s:Nat→Int) (h1:1≤s 2) (h2:s 2≤1000) (w:World) :
 Calls Tryz.prog 93 #[zac s] w fun e w'=>e=.returned (.int .i64 (s 2*4))∧Below w.heap.size w w':=by
 unfold zac;obtain ⟨a2,h0⟩:∃ a,a=s 2:=⟨_,rfl⟩;rw [← h0] at h1 h2 ⊢;clear h0;have B0:Below w.heap.size w (w.alloc (.cells #[.int .i64 (s 0),.int .i64 (s 1),.int .i64 a2,.int .i64 (s 3),.int .i64 (s 4),.int .i64 (s 5),.int .i64 (s 6),.int .i64 (s 7),.int .i64 (s 8)] 34)):=bnew (Below.refl _ _)
 go_enter Tryz.func93,Tryz.ntmps93
 go_wp2;go_ret;exact ⟨rfl,B0⟩
theorem zhE {B:Nat} {w W w2:World} {cs:Array Value} {t:TypeId} (hX:Box W B cs t) (hB:Below B w W) (hb:Below W.heap.size W w2):Box w2 B cs t∧Below B w w2:=
 ⟨hX.below hb hX.lt,hB.trans (hb.mono (Nat.le_of_lt hX.lt))⟩
theorem ze0 (s:Nat→Int) (h1:1≤s 2) (h2:s 2≤1000) (l:Int) (h3:0≤l) (h4:l≤1000000000) (w:World) :
 Calls Tryz.prog 122 #[zac s,.int .i64 l] w fun e w'=>e=.returned (.int .i64 ((l+s 2*4-1)/(s 2*4)))∧Below w.heap.size w w':=by
 have CL:=zcg s h1 h2;unfold zac;have K0:Hid (Box (w.alloc (.cells (rwS s).toArray 34)) w.heap.size (rwS s).toArray 34):=zar w _ _;have KB:Hid (Below w.heap.size w (w.alloc (.cells (rwS s).toArray 34))):=bnew (Below.refl _ _);obtain ⟨S,hS⟩:∃ S,S=s 2*4:=⟨_,rfl⟩;rw [← hS];rw [← hS] at CL
 have q1:4≤S:=by omega
 have q2:S≤4000:=by omega
 have q3:0≤l+S-1:=by omega
 clear hS
 go_enter Tryz.func122,Tryz.ntmps122
 go_wp2_with fail
 go_region_with (go_at_call 93;refine (CL _).mono ?_;rintro ee w2 ⟨rfl,hb2⟩;(first | (obtain ⟨hX2,hB2⟩:=zhE hX hB ⟨hb2.os,hb2.tape,hb2.output,hb2.size,hb2.block⟩;clear hb2;obtain ⟨x0,x1,x2,x3,x4,x5,x6,x7,x8⟩:=box9 hX2) | (obtain ⟨hX,hB⟩:=zhE K0.out KB.out ⟨hb2.os,hb2.tape,hb2.output,hb2.size,hb2.block⟩;clear hb2;obtain ⟨x0,x1,x2,x3,x4,x5,x6,x7,x8⟩:=box9 hX)))
 all_goals
  clear hX hX2;go_wp2;go_ret;exact ⟨rfl,hB2⟩
theorem zfQ (s:Nat→Int) (h1:1≤s 2) (h2:s 2≤1000) (l:Int) (w:World) :
 Calls Tryz.prog 121 #[zac s,.int .i64 l] w fun e w'=>∃ c,e=.returned (.int .i64 c)∧((l<1∧c=6)∨(1≤l∧3*(s 2*4)<l∧c=2)∨(1≤l∧l≤3*(s 2*4)∧c=0))∧Below w.heap.size w w':=by
 have CL:=zcg s h1 h2;have KB:Hid (Below w.heap.size w (w.alloc (.cells (rwS s).toArray 34))):=bnew (Below.refl _ _);obtain ⟨S,hS⟩:∃ S,S=s 2*4:=⟨_,rfl⟩;rw [← hS];rw [← hS] at CL
 have q1:4≤S:=by omega
 have q2:S≤4000:=by omega
 clear hS;unfold zac
 by_cases c1:l<1
 ·go_enter Tryz.func121,Tryz.ntmps121
  go_wp2;go_ret;exact ⟨6,rfl,.inl ⟨c1,rfl⟩,KB.out⟩
 ·by_cases c2:3*S<l
  ·go_enter Tryz.func121,Tryz.ntmps121
   go_wp2_with fail
   refine (CL _).mono ?_;rintro e w2 ⟨rfl,hb2⟩;have B:=bnew hb2;clear hb2;go_wp2;go_ret;exact ⟨2,rfl,.inr (.inl ⟨by omega,c2,rfl⟩),B⟩
  ·go_enter Tryz.func121,Tryz.ntmps121
   go_wp2_with fail
   refine (CL _).mono ?_;rintro e w2 ⟨rfl,hb2⟩;have B:=bnew hb2;clear hb2;go_wp2;go_ret;exact ⟨0,rfl,.inr (.inr ⟨by omega,by omega,rfl⟩),B⟩
def zho (s:Nat→Int) (l x c:Int):Prop:=
 (¬ zai s∧c=3∧x=0)∨(zai s∧l<1∧c=6∧x=0)∨(zai s∧1≤l∧3*(s 2*4)<l∧c=2∧x=0)∨(zai s∧1≤l∧l≤3*(s 2*4)∧c=0∧x=(l+s 2*4-1)/(s 2*4))
end Go.Proofs.YthcmdnlkohdeaaaGreat
