/- What WipedOf tells; walks of both sides. -/
import Derived.OrdersHeld
import Derived.Deep.RegionHeld
import Derived.Test.YtkmglpaaeogapaaGreatRows
import Derived.Test.YtkmglpaaeogapaaGreatZPwipedah
set_option linter.unusedVariables false
set_option linter.unusedSimpArgs false
set_option maxHeartbeats 16000000
namespace Go.Proofs.YtkmglpaaeogapaaGreat
open Go.RowKit F256
def wipB (d:WorldD) (G:Nat):Nat→Bool:=fun k=>((d.groups.2 G).2 k).wiped
def wipF (d:WorldD) (G:Nat):Nat→Int:=fun i=>(zcV (wipB d G) (d.groups.2 G).1 i:Int)
def KnowAns (d:WorldD) (g x:Int):Prop:=(x≠0∧WldAns d x)∨(WldAns d 0∧((¬ InP g 0 (d.shape 0+d.shape 1-1)∧x=3)∨(InP g 0 (d.shape 0+d.shape 1-1)∧x=0)))
theorem KnowAns.one {d:WorldD} {g x y:Int} (h:KnowAns d g x) (k:KnowAns d g y):x=y:=by
 rcases h with ⟨h1,h2⟩ | ⟨h1,h2⟩<;>rcases k with ⟨k1,k2⟩ | ⟨k1,k2⟩
 ·exact h2.one k2
 ·exact absurd (h2.one k1) h1
 ·exact absurd (k2.one h1) k1
 ·rcases h2 with ⟨a,rfl⟩ | ⟨a,rfl⟩<;>rcases k2 with ⟨b,rfl⟩ | ⟨b,rfl⟩
  ·rfl
  ·exact absurd b a
  ·exact absurd a b
  ·rfl
theorem KnowAns.zero {d:WorldD} {g:Int} (h:KnowAns d g 0):WldAns d 0∧InP g 0 (d.shape 0+d.shape 1-1):=by
 rcases h with ⟨h1,h2⟩ | ⟨h1,h2⟩
 ·exact absurd rfl h1
 ·rcases h2 with ⟨a,b⟩ | ⟨a,b⟩
  ·omega
  ·exact ⟨h1,a⟩
theorem zhb (d:WorldD) (g:Int):∃ x,KnowAns d g x∨¬ ∃ y,WldAns d y:=by
 by_cases h:∃ y,WldAns d y
 ·obtain ⟨y,hy⟩:=h
  by_cases h0:y=0
  ·subst h0
   by_cases hg:InP g 0 (d.shape 0+d.shape 1-1)
   ·exact ⟨0,.inl (.inr ⟨hy,.inr ⟨hg,rfl⟩⟩)⟩
   ·exact ⟨3,.inl (.inr ⟨hy,.inl ⟨hg,rfl⟩⟩)⟩
  ·exact ⟨y,.inl (.inl ⟨h0,hy⟩)⟩
 ·exact ⟨0,.inr h⟩
theorem zcg {d:WorldD} {g x:Int} (h:KnowAns d g x):-9223372036854775808≤x∧x≤9223372036854775807:=by
 rcases h with ⟨h1,h2⟩ | ⟨h1,h2⟩
 ·exact zgy h2
 ·rcases h2 with ⟨a,rfl⟩ | ⟨a,rfl⟩<;>decide
def WipAns (d:WorldD) (g:Int) (q:IntsResultD):Prop:=(∃ x,x≠0∧KnowAns d g x∧q=⟨x,(0,fun _=>0)⟩)∨(KnowAns d g 0∧q=⟨0,((zaW (wipB d g.toNat) (d.groups.2 g.toNat).1).length,wipF d g.toNat)⟩)
theorem WipAns.one {d:WorldD} {g:Int} {p q:IntsResultD} (h:WipAns d g p) (k:WipAns d g q):p=q:=by
 rcases h with ⟨x,h1,h2,rfl⟩ | ⟨h1,rfl⟩<;>rcases k with ⟨y,k1,k2,rfl⟩ | ⟨k1,rfl⟩
 ·rw [h2.one k2]
 ·exact absurd (h2.one k1) h1
 ·exact absurd (k2.one h1) k1
 ·rfl
def zgz (P:IntsResultD→Prop) (w:World) (e:Ending) (w':World):Prop:=∃ q cs,e=.returned (.agg cs.toArray)∧P q∧OwnT zao w' w.heap.size w'.heap.size q cs∧Below w.heap.size w w'
theorem zb6:(Tryz.prog.info? 31).map (·.size)=some 2:=by kernel_rfl
theorem zdP {w:World} {lo hi n cap:Nat} {ao:Option Addr} {f:Nat→Int} (h:OwnI w lo hi (.slice ao n cap) n f) (hhi:hi≤w.heap.size) (hb:∀ i,-9223372036854775808≤f i∧f i≤9223372036854775807) (c:Int) (hc:-9223372036854775808≤c∧c≤9223372036854775807):OwnT zao w lo hi ⟨c,(n,f)⟩ [.int .i64 c,.slice ao n cap]:=
 ⟨(
  Value.slice ao n cap).ownBlock.toList,zcC ⟨c,(n,f)⟩ ⟨_,rfl,rfl,h.weaken (Nat.zero_le _) hhi,hb⟩ hc,by cases (Value.slice ao n cap).ownBlock<;>simp,fun b hb=>by
  have e:(Value.slice ao n cap).ownBlock=some b:=by simpa using hb
  exact ⟨(h.1.lt b e).1,h.2 b e⟩⟩
theorem zcF (w:World) (c:Int) (hc:-9223372036854775808≤c∧c≤9223372036854775807) (lo hi:Nat) (hhi:hi≤w.heap.size):OwnT zao w lo hi ⟨c,(0,fun _=>0)⟩ [.int .i64 c,.slice none 0 0]:=zdP (zgF w lo hi _) hhi (fun _=>by decide) c hc
theorem zdQ {d:WorldD} (h:OkWorld d) {G:Nat} (hG:G<d.groups.1):((d.groups.2 G).1:Int)=d.shape 2+d.shape 3∧(d.groups.2 G).1≤100:=by
 have h1:=(h.form.1.2 G hG).1;obtain ⟨_,q,_⟩:=h.shape;unfold Shp at q;omega
theorem zgA {d:WorldD} (h:OkWorld d) {G:Nat} (hG:G<d.groups.1) (i:Nat):-9223372036854775808≤wipF d G i∧wipF d G i≤9223372036854775807:=by
 have h1:=zgV (wipB d G) (d.groups.2 G).1 i;have h2:=(zdQ h hG).2;unfold wipF;omega
set_option maxRecDepth 20000 in
theorem zdl (d:WorldD) (g:Int) (cs:List Value) (hi:Nat) (w:World) (h:zae.rd w hi d cs) (hhi:hi≤w.heap.size) (hsz:zaQ d≤1048576) :
 Calls Tryz.prog 22 #[.agg cs.toArray,.int .i64 g] w (fun e w'=>∃ x,e=.returned (.int .i64 x)∧KnowAns d g x∧Below w.heap.size w w'):=by
 have h':=h;obtain ⟨ao1,cap1,ao2,cap2,ao3,cap3,rfl,g1,g2,g3,k0,k4,k5⟩:=zaB h';have HRD:=hid h;have HSZ:=hid hsz;clear h h' hsz g1 g2 g3 k0 k4 k5;have T0:=zav w (rwW d ao1 cap1 ao2 cap2 ao3 cap3).toArray 37
 go_enter Tryz.func22,Tryz.ntmps22
 go_wp2_with (refine zaq 37 (.tmp 2) rfl rfl (w.heap.size) rfl (T0.b1) Tryz.underlying37 zcQ rfl ?_)
 refine (zdL d _ hi _ (zae.rd_below HRD.out T0.bel hhi) (Nat.le_trans hhi T0.bel.size) (zcU HSZ.out)).mono ?_;rintro e w1 ⟨x,rfl,hx,b1⟩;have HT1:=hid (T0.call b1);have HX:=hid hx;clear b1 T0 hx
 by_cases hx0:x=0
 case neg=>
  have hne:(x != 0)=true:=by simp [hx0]
  go_wp2;go_ret;exact ⟨x,rfl,.inl ⟨hx0,HX.out⟩,HT1.out.bel⟩
 subst hx0;have HOK:=hid (WldAns.ok HX.out);obtain ⟨t,ht⟩:∃ t:Bool,(t=true↔InP g 0 (d.shape 0+d.shape 1-1)):=⟨@decide _ (Classical.propDecidable _),@decide_eq_true_iff _ (Classical.propDecidable _)⟩;have HTT:=hid ht;have x_0:w1.cell? ⟨w.heap.size,0,none⟩=some (.int .i64 (d.shape 0)):=HT1.out.b1.cell 0;have x_1:w1.cell? ⟨w.heap.size,1,none⟩=some (.int .i64 (d.shape 1)):=HT1.out.b1.cell 1;have x_2:w1.cell? ⟨w.heap.size,2,none⟩=some (.int .i64 (d.shape 2)):=HT1.out.b1.cell 2;have x_3:w1.cell? ⟨w.heap.size,3,none⟩=some (.int .i64 (d.shape 3)):=HT1.out.b1.cell 3;have x_4:w1.cell? ⟨w.heap.size,4,none⟩=some (.int .i64 (d.shape 4)):=HT1.out.b1.cell 4;have x_5:w1.cell? ⟨w.heap.size,5,none⟩=some (.int .i64 (d.shape 5)):=HT1.out.b1.cell 5;have x_6:w1.cell? ⟨w.heap.size,6,none⟩=some (.int .i64 (d.shape 6)):=HT1.out.b1.cell 6;have x_7:w1.cell? ⟨w.heap.size,7,none⟩=some (.int .i64 (d.shape 7)):=HT1.out.b1.cell 7;have x_8:w1.cell? ⟨w.heap.size,8,none⟩=some (.int .i64 (d.shape 8)):=HT1.out.b1.cell 8;have CB:=zc9 HOK.out.shape ht w1;unfold zac at CB;clear ht
 go_wp2_with fail
 refine CB.mono ?_;rintro e w2 ⟨rfl,b2⟩;have HB2:Hid (Below w.heap.size w w2):=(HT1.out.call b2).bel;clear CB b2 HT1 x_0 x_1 x_2 x_3 x_4 x_5 x_6 x_7 x_8
 cases t with
 | true=>
  go_wp2;go_ret;exact ⟨0,rfl,.inr ⟨HX.out,.inr ⟨HTT.out.1 (by simp),rfl⟩⟩,HB2.out⟩
 | false=>
  go_wp2;go_ret;exact ⟨3,rfl,.inr ⟨HX.out,.inl ⟨fun h=>absurd (HTT.out.2 h) (by simp),rfl⟩⟩,HB2.out⟩
set_option maxRecDepth 20000 in
theorem zes (d:WorldD) (g:Int) (cs:List Value) (hi:Nat) (w:World) (h:zae.rd w hi d cs) (hhi:hi≤w.heap.size) (hsz:zaQ d≤1048576) :
 Calls Tryz.prog 16 #[.agg cs.toArray,.int .i64 g,.int .i64 0] w (fun e w'=>∃ x,e=.returned (.int .i64 x)∧KnowAns d g x∧Below w.heap.size w w'):=by
 have h':=h;obtain ⟨ao1,cap1,ao2,cap2,ao3,cap3,rfl,g1,g2,g3,k0,k4,k5⟩:=zaB h';have HRD:=hid h;have HSZ:=hid hsz;clear h h' hsz g1 g2 g3 k0 k4 k5;have T0:=zav w (rwW d ao1 cap1 ao2 cap2 ao3 cap3).toArray 37
 go_enter Tryz.func16,Tryz.ntmps16
 go_wp2_with (refine zaq 37 (.tmp 3) rfl rfl (w.heap.size) rfl (T0.b1) Tryz.underlying37 zcQ rfl ?_)
 refine (zdN d _ hi _ (zae.rd_below HRD.out T0.bel hhi) (Nat.le_trans hhi T0.bel.size) (zcU HSZ.out)).mono ?_;rintro e w1 ⟨x,rfl,hx,b1⟩;have HT1:=hid (T0.call b1);have HX:=hid hx;clear b1 T0 hx
 by_cases hx0:x=0
 case neg=>
  have hne:(x != 0)=true:=by simp [hx0]
  go_wp2;go_ret;exact ⟨x,rfl,.inl ⟨hx0,HX.out⟩,HT1.out.bel⟩
 subst hx0;have HOK:=hid (WldAns.ok HX.out);obtain ⟨t,ht⟩:∃ t:Bool,(t=true↔InP g 0 (d.shape 0+d.shape 1-1)):=⟨@decide _ (Classical.propDecidable _),@decide_eq_true_iff _ (Classical.propDecidable _)⟩;have HTT:=hid ht;have x_0:w1.cell? ⟨w.heap.size,0,none⟩=some (.int .i64 (d.shape 0)):=HT1.out.b1.cell 0;have x_1:w1.cell? ⟨w.heap.size,1,none⟩=some (.int .i64 (d.shape 1)):=HT1.out.b1.cell 1;have x_2:w1.cell? ⟨w.heap.size,2,none⟩=some (.int .i64 (d.shape 2)):=HT1.out.b1.cell 2;have x_3:w1.cell? ⟨w.heap.size,3,none⟩=some (.int .i64 (d.shape 3)):=HT1.out.b1.cell 3;have x_4:w1.cell? ⟨w.heap.size,4,none⟩=some (.int .i64 (d.shape 4)):=HT1.out.b1.cell 4;have x_5:w1.cell? ⟨w.heap.size,5,none⟩=some (.int .i64 (d.shape 5)):=HT1.out.b1.cell 5;have x_6:w1.cell? ⟨w.heap.size,6,none⟩=some (.int .i64 (d.shape 6)):=HT1.out.b1.cell 6;have x_7:w1.cell? ⟨w.heap.size,7,none⟩=some (.int .i64 (d.shape 7)):=HT1.out.b1.cell 7;have x_8:w1.cell? ⟨w.heap.size,8,none⟩=some (.int .i64 (d.shape 8)):=HT1.out.b1.cell 8;have CB:=ze9 d.shape HOK.out.shape g 0 0 w1;unfold zac at CB;clear ht
 go_wp2_with fail
 refine CB.mono ?_;rintro e w2 ⟨u,rfl,hu,b2⟩;have HB2:Hid (Below w.heap.size w w2):=(HT1.out.call b2).bel
 have eu:t=u:=by
  have hiff:u=true↔InP g 0 (d.shape 0+d.shape 1-1):=by
   rw [hu];obtain ⟨s1,q,_⟩:=HOK.out.shape;unfold Shp3 at s1;unfold Shp at q;unfold zfr InP
   constructor
   ·exact fun h=>h.1
   ·intro h;exact ⟨h,by omega,by omega⟩
  cases t<;>cases u<;>first | rfl | (exfalso;have a:=HTT.out;simp only [Bool.false_eq_true,false_iff,true_iff] at a hiff;first | exact a hiff | exact hiff a)
 subst eu;clear hu;clear CB b2 HT1 x_0 x_1 x_2 x_3 x_4 x_5 x_6 x_7 x_8
 cases t with
 | true=>
  go_wp2;go_ret;exact ⟨0,rfl,.inr ⟨HX.out,.inr ⟨HTT.out.1 (by simp),rfl⟩⟩,HB2.out⟩
 | false=>
  go_wp2;go_ret;exact ⟨3,rfl,.inr ⟨HX.out,.inl ⟨fun h=>absurd (HTT.out.2 h) (by simp),rfl⟩⟩,HB2.out⟩
set_option maxRecDepth 20000 in
theorem zfa (d:WorldD) (cs:List Value) (hi G:Nat) (w:World) (h:zae.rd w hi d cs) (hhi:hi≤w.heap.size) (hG:G<d.groups.1) (hfew:(d.groups.2 G).1≤100) :
 Calls Tryz.prog 23 #[.agg cs.toArray,.int .i64 (G:Int)] w (fun e w'=>∃ v',e=.returned v'∧OwnI w' w.heap.size w'.heap.size v' (zaW (wipB d G) (d.groups.2 G).1).length (wipF d G)∧Below w.heap.size w w'):=by
 obtain ⟨ao1,cap1,ao2,cap2,ao3,cap3,rfl,g1,g2,g3,k0,k4,k5⟩:=zaB h;obtain ⟨_,_,e1,hm1,hc1⟩:=g1
 cases e1
 obtain ⟨b1,off1,he1,hb1,hel1⟩:=hc1 (by omega);subst he1;obtain ⟨cg,hrg,hcg⟩:=hel1 G hG;obtain ⟨ao9,cap9,rfl⟩:=za4 hrg
 have c0:w.cell? ⟨b1,off1+G,none⟩=some (.slice ao9 (d.groups.2 G).1 cap9):=by
  have:=hcg 0 (by decide)
  have e:off1+(G*(zaa.slice 73).sz+0)=off1+G:=by show off1+(G*1+0)=off1+G;omega
  rw [e] at this;exact this
 obtain ⟨_,_,e9,hm9,hc9⟩:=hrg
 cases e9
 have hc9':(d.groups.2 G).1≠0→∃ b off,ao9=some ⟨b,off,none⟩∧b<hi∧∀ i,i<(d.groups.2 G).1→∃ ce,zaa.rd w hi ((d.groups.2 G).2 i) ce∧∀ j,j<zaa.sz→w.cell? ⟨b,off+(i*zaa.sz+j),none⟩=ce[j]?:=hc9;obtain ⟨nG,hnG⟩:∃ n,n=(d.groups.2 G).1:=⟨_,rfl⟩;have HNG:=hid hnG;rw [← hnG] at c0 hc9' hfew;have HC9:=hid hc9'
 have i1:(0:Int)≤(G:Int):=by omega
 have i2:(G:Int)<(d.groups.1:Int):=by omega
 clear g2 g3 k0 k4 k5 hcg hel1 hc1 hm1 hm9 hc9 hc9' hnG;have T0:=zav w (rwW d (some ⟨b1,off1,none⟩) cap1 ao2 cap2 ao3 cap3).toArray 37;have z0:w.heap.size<(w.alloc (.cells (rwW d (some ⟨b1,off1,none⟩) cap1 ao2 cap2 ao3 cap3).toArray 37)).heap.size:=T0.b1.lt;have bL:Below (w.alloc (.cells (rwW d (some ⟨b1,off1,none⟩) cap1 ao2 cap2 ao3 cap3).toArray 37)).heap.size (w.alloc (.cells (rwW d (some ⟨b1,off1,none⟩) cap1 ao2 cap2 ao3 cap3).toArray 37)) ((w.alloc (.cells (rwW d (some ⟨b1,off1,none⟩) cap1 ao2 cap2 ao3 cap3).toArray 37)).alloc (.cells #[] 2)):=(Below.refl _ _).alloc (Nat.le_refl _) _;have T1:=T0.call bL;have I0:=(zdT (w.alloc (.cells (rwW d (some ⟨b1,off1,none⟩) cap1 ao2 cap2 ao3 cap3).toArray 37)) (wipF d G)).weaken (lo':=w.heap.size+1) (by omega) (Nat.le_refl _)
 have hsA:(w.alloc (.cells (rwW d (some ⟨b1,off1,none⟩) cap1 ao2 cap2 ao3 cap3).toArray 37)).heap.size=w.heap.size+1:=by show (w.heap.push _).size=_;exact Array.size_push ..
 have I0:OwnI ((w.alloc (.cells (rwW d (some ⟨b1,off1,none⟩) cap1 ao2 cap2 ao3 cap3).toArray 37)).alloc (.cells #[] 2)) (w.heap.size+1) ((w.alloc (.cells (rwW d (some ⟨b1,off1,none⟩) cap1 ao2 cap2 ao3 cap3).toArray 37)).alloc (.cells #[] 2)).heap.size (.slice (some ⟨w.heap.size+1,0,none⟩) 0 0) 0 (wipF d G):=by rw [hsA] at I0;exact I0
 have x9:((w.alloc (.cells (rwW d (some ⟨b1,off1,none⟩) cap1 ao2 cap2 ao3 cap3).toArray 37)).alloc (.cells #[] 2)).cell? ⟨w.heap.size,9,none⟩=some (.slice (some ⟨b1,off1,none⟩) d.groups.1 cap1):=T1.b1.cell 9;have c0':=(T1.bel.cell (p:=⟨b1,off1+G,none⟩) (by show b1<w.heap.size;omega)).trans c0;clear T0 bL hsA
 go_enter Tryz.func23,Tryz.ntmps23
 go_wp2
 go_loopw [5,15] (fun vo i wr=>∃ k:Nat,k≤nG∧i=.int .i64 k∧OwnI wr (w.heap.size+1) wr.heap.size vo (zaW (wipB d G) k).length (wipF d G)∧One w wr (rwW d (some ⟨b1,off1,none⟩) cap1 ao2 cap2 ao3 cap3).toArray 37) (fun _ i _=>nG-(intOf i).toNat)
 case atStart=>exact ⟨0,Nat.zero_le _,rfl,I0,T1⟩
 case round=>
  clear T1 I0 x9 c0' z0;obtain ⟨k,hk,rfl,hI,T⟩:=hrel;obtain ⟨wx,rfl⟩:∃ y,y=wr:=⟨_,rfl⟩;obtain ⟨c,hc⟩:∃ c,c=(zaW (wipB d G) k).length:=⟨_,rfl⟩;have HC:=hid hc;rw [← hc] at hI
  have hck:c≤k:=by rw [hc];exact zeX _ _
  obtain ⟨aoo,capo,hvo⟩:=hI.slice;subst hvo;have HI:=hid hI;have HT:=hid T;have zx:w.heap.size<wx.heap.size:=T.b1.lt;clear hI hc
  by_cases hlt:k<nG
  ·obtain ⟨b,off,rfl,hblt,hcell⟩:=HC9.out (by omega)
   obtain ⟨cd,hrd,hcd⟩:=hcell k hlt;obtain ⟨ao5,cap5,rfl,g5⟩:=zaU hrd;have c2:wx.cell? ⟨b,off+k*2,none⟩=some (.bool ((d.groups.2 G).2 k).wiped):=(T.bel.cell (p:=⟨b,off+k*2,none⟩) (by show b<w.heap.size;omega)).trans (hcd 0 (by decide));have c3:wx.cell? ⟨b,off+k*2+1,none⟩=some (.slice ao5 ((d.groups.2 G).2 k).blocks.1 cap5):=(T.bel.cell (p:=⟨b,off+k*2+1,none⟩) (by show b<w.heap.size;omega)).trans (hcd 1 (by decide));obtain ⟨m5,hm5⟩:∃ m,m=((d.groups.2 G).2 k).blocks.1:=⟨_,rfl⟩;obtain ⟨t,ht⟩:∃ t,t=((d.groups.2 G).2 k).wiped:=⟨_,rfl⟩;have HW:Hid (wipB d G k=t):=ht.symm;rw [← hm5] at c3;rw [← ht] at c2
   have i3:(0:Int)≤(k:Int):=by omega
   have i4:(k:Int)<(nG:Int):=by omega
   have bA:=bAl wx (.cells #[.bool t,.slice ao5 m5 cap5] 73);have XD:=zax wx #[.bool t,.slice ao5 m5 cap5] 73;clear hcell hcd hrd g5 T hm5 ht
   go_upto_region 5 with fail
   obtain ⟨W5,hW5⟩:∃ x,x=wx.alloc (.cells #[.bool t,.slice ao5 m5 cap5] 73):=⟨_,rfl⟩;rw [← hW5] at bA XD ⊢;have z5:wx.heap.size≤W5.heap.size:=bA.size;have HI5:Hid (OwnI W5 (w.heap.size+1) W5.heap.size (.slice aoo c capo) c (wipF d G)):=(HI.out.below bA (Nat.le_refl _)).mono bA.size;have HT5:Hid (One w W5 (rwW d (some ⟨b1,off1,none⟩) cap1 ao2 cap2 ao3 cap3).toArray 37):=HT.out.call bA;have d0:W5.cell? ⟨wx.heap.size,0,none⟩=some (.bool t):=XD.cell 0;clear hW5 c2 c3 bA XD HI HT
   cases t with
   | false=>
    go_wp2
    go_roundw
    case rel=>exact ⟨k+1,by omega,by go_num,by rw [zen HW.out,← HC.out];exact HI5.out,HT5.out⟩
    case measure=>simp [intOf];omega
   | true=>
    have HF:Hid (wipF d G c=(k:Int)):=by
     show wipF d G c=(k:Int)
     have:=(zdO (p:=wipB d G) HW.out (d.groups.2 G).1 (by rw [← HNG.out];exact hlt)).1;unfold wipF;rw [HC.out,this]
    go_wp2_with (at_builtin;refine zdm rfl (.tmp 22) (.tmp 24) rfl (w.heap.size+1) W5.heap.size (.slice aoo c capo) c (wipF d G) ?_ ?_ W5.heap.size 1 ?_ ?_ (by omega) ?_ ?_;(simp [Act.eval]);exact HI5.out.alloc _;(simp [Act.eval]);(rw [HF.out];simp);(simp;omega);intro v2 w3 o3 b3)
    have b4:Below (w.heap.size+1) W5 w3:=((Below.refl (w.heap.size+1) W5).alloc (by omega) _).trans b3;have HT3:Hid (One w w3 (rwW d (some ⟨b1,off1,none⟩) cap1 ao2 cap2 ao3 cap3).toArray 37):=⟨HT5.out.b1.below b4 (by omega),HT5.out.bel.trans (b4.mono (by omega))⟩;have HI4:=hid o3;clear o3 b3 b4 HI5 HT5 d0;go_wp2
    go_roundw
    case rel=>exact ⟨k+1,by omega,by go_num,by
     have e:(zaW (wipB d G) (k+1)).length=c+1:=by rw [zbz,if_pos HW.out,List.length_append,← HC.out];rfl
     rw [e];exact HI4.out,HT3.out⟩
    case measure=>simp [intOf];omega
  ·obtain rfl:k=nG:=by omega
   clear T hlt;go_wp2;go_ret;exact ⟨_,rfl,by rw [← HNG.out,← HC.out];exact HI.out.weaken (by omega) (Nat.le_refl _),HT.out.bel⟩
set_option maxRecDepth 20000 in
theorem zet (d:WorldD) (cs:List Value) (hi B G:Nat) (w:World) (h:zae.rd w hi d cs) (hhi:hi≤w.heap.size) (hBX:Box w B cs.toArray 37) (hG:G<d.groups.1) (hfew:(d.groups.2 G).1≤100) :
 Calls Tryz.prog 17 #[.pointer (some ⟨B,0,none⟩),.int .i64 (G:Int)] w (fun e w'=>∃ v',e=.returned v'∧OwnI w' w.heap.size w'.heap.size v' (zaW (wipB d G) (d.groups.2 G).1).length (wipF d G)∧Below w.heap.size w w'):=by
 obtain ⟨ao1,cap1,ao2,cap2,ao3,cap3,rfl,g1,g2,g3,k0,k4,k5⟩:=zaB h;obtain ⟨_,_,e1,hm1,hc1⟩:=g1
 cases e1
 obtain ⟨b1,off1,he1,hb1,hel1⟩:=hc1 (by omega);subst he1;obtain ⟨cg,hrg,hcg⟩:=hel1 G hG;obtain ⟨ao9,cap9,rfl⟩:=za4 hrg
 have c0:w.cell? ⟨b1,off1+G,none⟩=some (.slice ao9 (d.groups.2 G).1 cap9):=by
  have:=hcg 0 (by decide)
  have e:off1+(G*(zaa.slice 73).sz+0)=off1+G:=by show off1+(G*1+0)=off1+G;omega
  rw [e] at this;exact this
 obtain ⟨_,_,e9,hm9,hc9⟩:=hrg
 cases e9
 have hc9':(d.groups.2 G).1≠0→∃ b off,ao9=some ⟨b,off,none⟩∧b<hi∧∀ i,i<(d.groups.2 G).1→∃ ce,zaa.rd w hi ((d.groups.2 G).2 i) ce∧∀ j,j<zaa.sz→w.cell? ⟨b,off+(i*zaa.sz+j),none⟩=ce[j]?:=hc9;obtain ⟨nG,hnG⟩:∃ n,n=(d.groups.2 G).1:=⟨_,rfl⟩;have HNG:=hid hnG;rw [← hnG] at c0 hc9' hfew;have HC9:=hid hc9'
 have i1:(0:Int)≤(G:Int):=by omega
 have i2:(G:Int)<(d.groups.1:Int):=by omega
 clear g2 g3 k0 k4 k5 hcg hel1 hc1 hm1 hm9 hc9 hc9' hnG;have hBlt:=hBX.lt;have HX9:Hid (w.cell? ⟨B,9,none⟩=some (.slice (some ⟨b1,off1,none⟩) d.groups.1 cap1)):=hBX.cell 9;have HC0:=hid c0;have bL:=bAl w (.cells #[] 2);have I0:=zdT w (wipF d G);clear hBX c0
 go_enter Tryz.func17,Tryz.ntmps17
 go_wp2
 go_loopw [5,6] (fun vo i wr=>∃ k:Nat,k≤nG∧i=.int .i64 k∧OwnI wr w.heap.size wr.heap.size vo (zaW (wipB d G) k).length (wipF d G)∧Below w.heap.size w wr) (fun _ i _=>nG-(intOf i).toNat)
 case atStart=>exact ⟨0,Nat.zero_le _,rfl,I0,bL⟩
 case round=>
  clear I0 bL;obtain ⟨k,hk,rfl,hI,bw⟩:=hrel;obtain ⟨wx,rfl⟩:∃ y,y=wr:=⟨_,rfl⟩;obtain ⟨c,hc⟩:∃ c,c=(zaW (wipB d G) k).length:=⟨_,rfl⟩;have HC:=hid hc;rw [← hc] at hI
  have hck:c≤k:=by rw [hc];exact zeX _ _
  obtain ⟨aoo,capo,hvo⟩:=hI.slice;subst hvo;have HI5:=hid hI;have HBW:=hid bw;have zx:w.heap.size≤wx.heap.size:=bw.size;have x9:wx.cell? ⟨B,9,none⟩=some (.slice (some ⟨b1,off1,none⟩) d.groups.1 cap1):=(bw.cell (p:=⟨B,9,none⟩) hBlt).trans HX9.out;have c0:wx.cell? ⟨b1,off1+G,none⟩=some (.slice ao9 nG cap9):=(bw.cell (p:=⟨b1,off1+G,none⟩) (by show b1<w.heap.size;omega)).trans HC0.out;clear hI hc
  by_cases hlt:k<nG
  ·obtain ⟨b,off,rfl,hblt,hcell⟩:=HC9.out (by omega)
   obtain ⟨cd,hrd,hcd⟩:=hcell k hlt;obtain ⟨ao5,cap5,rfl,g5⟩:=zaU hrd;have c2:wx.cell? ⟨b,off+k*2,none⟩=some (.bool ((d.groups.2 G).2 k).wiped):=(bw.cell (p:=⟨b,off+k*2,none⟩) (by show b<w.heap.size;omega)).trans (hcd 0 (by decide));obtain ⟨t,ht⟩:∃ t,t=((d.groups.2 G).2 k).wiped:=⟨_,rfl⟩;have HW:Hid (wipB d G k=t):=ht.symm;rw [← ht] at c2
   have i3:(0:Int)≤(k:Int):=by omega
   have i4:(k:Int)<(nG:Int):=by omega
   clear hcell hcd hrd g5 ht bw
   cases t with
   | false=>
    go_wp2
    go_roundw
    case rel=>exact ⟨k+1,by omega,by go_num,by rw [zen HW.out,← HC.out];exact HI5.out,HBW.out⟩
    case measure=>simp [intOf];omega
   | true=>
    have HF:Hid (wipF d G c=(k:Int)):=by
     show wipF d G c=(k:Int)
     have:=(zdO (p:=wipB d G) HW.out (d.groups.2 G).1 (by rw [← HNG.out];exact hlt)).1;unfold wipF;rw [HC.out,this]
    go_wp2_with (at_builtin;refine zdm rfl (.tmp 31) (.tmp 33) rfl w.heap.size wx.heap.size (.slice aoo c capo) c (wipF d G) ?_ ?_ wx.heap.size 1 ?_ ?_ (by omega) ?_ ?_;(simp [Act.eval]);exact HI5.out.alloc _;(simp [Act.eval]);(rw [HF.out];simp);(simp;omega);intro v2 w3 o3 b3)
    have b4:Below w.heap.size wx w3:=((Below.refl w.heap.size wx).alloc (by omega) _).trans b3;have HB3:Hid (Below w.heap.size w w3):=HBW.out.trans b4;have HI4:=hid o3;clear o3 b3 b4 HI5 HBW;go_wp2
    go_roundw
    case rel=>exact ⟨k+1,by omega,by go_num,by
     have e:(zaW (wipB d G) (k+1)).length=c+1:=by rw [zbz,if_pos HW.out,List.length_append,← HC.out];rfl
     rw [e];exact HI4.out,HB3.out⟩
    case measure=>simp [intOf];omega
  ·obtain rfl:k=nG:=by omega
   clear bw hlt;go_wp2;go_ret;exact ⟨_,rfl,by rw [← HNG.out,← HC.out];exact HI5.out,HBW.out⟩
set_option maxRecDepth 20000 in
theorem zfb (d:WorldD) (g:Int) (cs:List Value) (hi:Nat) (w:World) (h:zae.rd w hi d cs) (hhi:hi≤w.heap.size) (hsz:zaQ d≤1048576) :
 Calls Tryz.prog 7 #[.agg cs.toArray,.int .i64 g] w (zgz (WipAns d g) w):=by
 have h':=h;obtain ⟨ao1,cap1,ao2,cap2,ao3,cap3,rfl,g1,g2,g3,k0,k4,k5⟩:=zaB h';have HRD:=hid h;clear h h' g1 g2 g3 k0 k4 k5;have T0:=zaC w (rwW d ao1 cap1 ao2 cap2 ao3 cap3).toArray #[.int .i64 0,.slice none 0 0] 37 31
 go_enter Tryz.func7,Tryz.ntmps7
 go_wp2_with (refine zaq 37 (.tmp 2) rfl rfl (w.heap.size) rfl (T0.b1) Tryz.underlying37 zcQ rfl ?_)
 refine (zdl d g _ hi _ (zae.rd_below HRD.out T0.bel hhi) (Nat.le_trans hhi T0.bel.size) hsz).mono ?_;rintro e w1 ⟨x,rfl,hx,b1⟩;have HT1:=hid (T0.call b1);have HX:=hid hx;have z1:w.heap.size+1<w1.heap.size:=HT1.out.b2.lt;clear b1 T0 hx
 by_cases hx0:x=0
 case neg=>
  have hne:(x != 0)=true:=by simp [hx0]
  go_wp2_with (refine zbP 31 _ _ rfl rfl (w.heap.size+1) rfl (cs:=[.int .i64 x,.slice none 0 0]) rfl (HT1.out.b2) zb6 rfl rfl ((zcF w1 x (zcg HX.out) 0 0 (Nat.zero_le _)).one) ?_;intro w9 X9 C9 z9)
  refine zdM Tryz.results7 rfl X9 Tryz.underlying31 zb6 rfl rfl ?_;have zz:=C9.size;exact ⟨⟨x,(0,fun _=>0)⟩,[.int .i64 x,.slice none 0 0],rfl,.inl ⟨x,hx0,HX.out,rfl⟩,zcF w9 x (zcg HX.out) _ _ (Nat.le_refl _),HT1.out.bel.trans (C9.bel (fun b hb=>by simp at hb;omega) HT1.out.bel.size)⟩
 subst hx0;have hK:=KnowAns.zero HX.out;have HOK:=hid (WldAns.ok hK.1);obtain ⟨G,hGe⟩:∃ G:Nat,g=(G:Int):=⟨g.toNat,by have:=hK.2.1;omega⟩;subst hGe
 have hG:G<d.groups.1:=by have h1:=hK.2.2;have h2:=HOK.out.form.1.1;omega
 have hfew:=(zdQ HOK.out hG).2;have HIN:=hid (zgA HOK.out hG);have CC:=zfa d _ hi G w1 (zae.rd_below HRD.out HT1.out.bel hhi) (by omega) hG hfew;clear hK
 go_wp2_with (refine zaq 37 (.tmp 2) rfl rfl (w.heap.size) rfl (HT1.out.b1) Tryz.underlying37 zcQ rfl ?_)
 refine CC.mono ?_;rintro e w2 ⟨v2,rfl,hO,b2⟩;have HT2:=hid (HT1.out.call b2);have z2:w1.heap.size≤w2.heap.size:=b2.size;obtain ⟨c,hc⟩:∃ c,c=(zaW (wipB d G) (d.groups.2 G).1).length:=⟨_,rfl⟩;have HC:=hid hc;rw [← hc] at hO;obtain ⟨a3,c3,hv3⟩:=hO.slice;subst hv3;have HO3:Hid (OwnT zao w2 w1.heap.size w2.heap.size ⟨0,(c,wipF d G)⟩ [.int .i64 0,.slice a3 c c3]):=zdP hO (Nat.le_refl _) HIN.out 0 (by decide);clear hO b2 CC hc HT1
 go_wp2_with (refine zbP 31 _ _ rfl rfl (w.heap.size+1) rfl (cs:=[.int .i64 0,.slice a3 c c3]) rfl (HT2.out.b2) zb6 rfl rfl (HO3.out.one) ?_;intro w9 X9 C9 z9)
 refine zdM Tryz.results7 rfl X9 Tryz.underlying31 zb6 rfl rfl ?_;have zz:=C9.size;have O9:=(HO3.out.chgk C9 (fun b hb=>by simp at hb;omega)).weaken (lo':=w.heap.size) (hi':=w9.heap.size) (by omega) zz;exact ⟨_,_,rfl,.inr ⟨HX.out,by rw [HC.out];rfl⟩,O9,HT2.out.bel.trans (C9.bel (fun b hb=>by simp at hb;omega) HT2.out.bel.size)⟩
set_option maxRecDepth 20000 in
theorem zfc (d:WorldD) (g:Int) (cs:List Value) (hi:Nat) (w:World) (h:zae.rd w hi d cs) (hhi:hi≤w.heap.size) (hsz:zaQ d≤1048576) :
 Calls Tryz.prog 5 #[.agg cs.toArray,.int .i64 g] w (zgz (WipAns d g) w):=by
 have h':=h;obtain ⟨ao1,cap1,ao2,cap2,ao3,cap3,rfl,g1,g2,g3,k0,k4,k5⟩:=zaB h';have HRD:=hid h;clear h h' g1 g2 g3 k0 k4 k5;have T0:=zaC w (rwW d ao1 cap1 ao2 cap2 ao3 cap3).toArray #[.int .i64 0,.slice none 0 0] 37 31
 go_enter Tryz.func5,Tryz.ntmps5
 go_wp2_with (refine zaq 37 (.tmp 2) rfl rfl (w.heap.size) rfl (T0.b1) Tryz.underlying37 zcQ rfl ?_)
 refine (zes d g _ hi _ (zae.rd_below HRD.out T0.bel hhi) (Nat.le_trans hhi T0.bel.size) hsz).mono ?_;rintro e w1 ⟨x,rfl,hx,b1⟩;have HT1:=hid (T0.call b1);have HX:=hid hx;have z1:w.heap.size+1<w1.heap.size:=HT1.out.b2.lt;clear b1 T0 hx
 by_cases hx0:x=0
 case neg=>
  have hne:(x != 0)=true:=by simp [hx0]
  go_wp2_with (refine zbP 31 _ _ rfl rfl (w.heap.size+1) rfl (cs:=[.int .i64 x,.slice none 0 0]) rfl (HT1.out.b2) zb6 rfl rfl ((zcF w1 x (zcg HX.out) 0 0 (Nat.zero_le _)).one) ?_;intro w9 X9 C9 z9)
  refine zdM Tryz.results5 rfl X9 Tryz.underlying31 zb6 rfl rfl ?_;have zz:=C9.size;exact ⟨⟨x,(0,fun _=>0)⟩,[.int .i64 x,.slice none 0 0],rfl,.inl ⟨x,hx0,HX.out,rfl⟩,zcF w9 x (zcg HX.out) _ _ (Nat.le_refl _),HT1.out.bel.trans (C9.bel (fun b hb=>by simp at hb;omega) HT1.out.bel.size)⟩
 subst hx0;have hK:=KnowAns.zero HX.out;have HOK:=hid (WldAns.ok hK.1);obtain ⟨G,hGe⟩:∃ G:Nat,g=(G:Int):=⟨g.toNat,by have:=hK.2.1;omega⟩;subst hGe
 have hG:G<d.groups.1:=by have h1:=hK.2.2;have h2:=HOK.out.form.1.1;omega
 have hfew:=(zdQ HOK.out hG).2;have HIN:=hid (zgA HOK.out hG);have CC:=zet d (rwW d ao1 cap1 ao2 cap2 ao3 cap3) hi w.heap.size G w1 (zae.rd_below HRD.out HT1.out.bel hhi) (by omega) HT1.out.b1 hG hfew;clear hK
 go_wp2_with fail
 refine CC.mono ?_;rintro e w2 ⟨v2,rfl,hO,b2⟩;have HT2:=hid (HT1.out.call b2);have z2:w1.heap.size≤w2.heap.size:=b2.size;obtain ⟨c,hc⟩:∃ c,c=(zaW (wipB d G) (d.groups.2 G).1).length:=⟨_,rfl⟩;have HC:=hid hc;rw [← hc] at hO;obtain ⟨a3,c3,hv3⟩:=hO.slice;subst hv3;have HO3:Hid (OwnT zao w2 w1.heap.size w2.heap.size ⟨0,(c,wipF d G)⟩ [.int .i64 0,.slice a3 c c3]):=zdP hO (Nat.le_refl _) HIN.out 0 (by decide);clear hO b2 CC hc HT1
 go_wp2_with (refine zbP 31 _ _ rfl rfl (w.heap.size+1) rfl (cs:=[.int .i64 0,.slice a3 c c3]) rfl (HT2.out.b2) zb6 rfl rfl (HO3.out.one) ?_;intro w9 X9 C9 z9)
 refine zdM Tryz.results5 rfl X9 Tryz.underlying31 zb6 rfl rfl ?_;have zz:=C9.size;have O9:=(HO3.out.chgk C9 (fun b hb=>by simp at hb;omega)).weaken (lo':=w.heap.size) (hi':=w9.heap.size) (by omega) zz;exact ⟨_,_,rfl,.inr ⟨HX.out,by rw [HC.out];rfl⟩,O9,HT2.out.bel.trans (C9.bel (fun b hb=>by simp at hb;omega) HT2.out.bel.size)⟩
end Go.Proofs.YtkmglpaaeogapaaGreat
namespace Go.Proofs.YtkmglpaaeogapaaGreat
open Go.RowKit
section
variable {P:Program} {ops:Array Oper} {Q:Exit→Act→World→Prop} {md:Region.Mode} {S:World→Prop} {L:Nat}
def zbm (P:Program) (md:Region.Mode) (ops:Array Oper) (Q:Exit→Act→World→Prop) (S:World→Prop) (L:Nat):Nat→Array Bool→Act→World→Prop
 | 0,listed,a,w=>Region.ready md ops listed=[]∧Q .normal a w
 | fuel+1,listed,a,w=>
  (Region.ready md ops listed=[]→Q .normal a w)∧
  ∀ i∈Region.ready md ops listed,wpOp P ops Q i (fun a' w'=>(i≠L→S w')∧zbm P md ops Q S L fuel (listed.setIfInBounds i true) a' w') a w
theorem zdr:∀ (fuel:Nat) (listed:Array Bool) (a:Act) (w:World),zbm P md ops Q S L fuel listed a w→wpAny P md ops Q fuel listed a w
 | 0,_,_,_,h=>h
 | fuel+1,_,_,_,h=>⟨h.1,fun i hi=>wpOp_mono (fun a' w' h'=>zdr fuel _ a' w' h'.2) (h.2 i hi)⟩
def zcM (md:Region.Mode) (ops:Array Oper) (listed:Array Bool):Prop:=
 ∀ j oj,ops[j]?=some oj→listed.getD j false=true→∀ e∈oj.after,Region.binds md e=true→listed.getD e.on false=true
def zdd (md:Region.Mode) (ops:Array Oper) (listed:Array Bool):Bool:=
 (List.range ops.size).all fun j=>!listed.getD j false||((ops[j]?).map (·.after.all fun e=>!Region.binds md e||listed.getD e.on false)).getD false
theorem zgB {listed:Array Bool} (h:zdd md ops listed=true):zcM md ops listed:=fun j oj hj hl e he hb=>by
 unfold zdd at h;have hlt:j<ops.size:=(Array.getElem?_eq_some_iff.1 hj).1;have h1:=List.all_eq_true.1 h j (List.mem_range.2 hlt);rw [hl,hj] at h1
 simp only [Bool.not_true,Bool.false_or,Option.map_some,Option.getD_some,Array.all_eq_true_iff_forall_mem] at h1
 have h2:=h1 e he;rw [hb] at h2
 simpa using h2
theorem zfd {listed:Array Bool} {j:Nat} (h:zcM md ops listed) (hj:j∈Region.ready md ops listed):zcM md ops (listed.setIfInBounds j true):=fun k ok hk hl e he hb=>by
 obtain ⟨_,o,ho,hall⟩:=mem_ready.1 hj
 by_cases c:j=k
 ·subst c
  rw [hk] at ho
  cases ho
  exact getD_set_true (hall e he hb)
 ·rw [getD_set_ne false c] at hl
  exact getD_set_true (h k ok hk hl e he hb)
def depB (md:Region.Mode) (ops:Array Oper):Nat→Nat→Nat→Bool
 | 0,l,i=>l==i
 | n+1,l,i=>l==i||((ops[l]?).map (·.after.any fun e=>Region.binds md e&&depB md ops n e.on i)).getD false
theorem zds {listed:Array Bool} (hc:zcM md ops listed):∀ (n l i:Nat),depB md ops n l i=true→listed.getD l false=true→listed.getD i false=true
 | 0,l,i,h,hl=>by
  unfold depB at h
  have:l=i:=by simpa using h
  rw [← this];exact hl
 | n+1,l,i,h,hl=>by
  unfold depB at h
  rcases Bool.or_eq_true _ _ ▸ h with h1 | h1
  ·have:l=i:=by simpa using h1
   rw [← this];exact hl
  ·cases ho:ops[l]? with
   | none=>rw [ho] at h1;simp at h1
   | some o=>
    rw [ho] at h1
    simp only [Option.map_some,Option.getD_some] at h1
    obtain ⟨k,hk,hbk⟩:=Array.any_eq_true.1 h1;obtain ⟨hb,hd⟩:=Bool.and_eq_true _ _ ▸ hbk;exact zds hc n _ i hd (hc l o ho hl _ (Array.getElem_mem hk) hb)
theorem zgC {listed:Array Bool} (hc:zcM md ops listed) {n i:Nat} (hne:L≠i) (hd:depB md ops n L i=true) (hi:listed.getD i false=false):L∉Region.ready md ops listed:=fun hL=>by
 obtain ⟨_,o,ho,hall⟩:=mem_ready.1 hL
 cases n with
 | zero=>unfold depB at hd;exact hne (by simpa using hd)
 | succ n=>
  unfold depB at hd
  rcases Bool.or_eq_true _ _ ▸ hd with h1 | h1
  ·exact hne (by simpa using h1)
  ·rw [ho] at h1
   simp only [Option.map_some,Option.getD_some] at h1
   obtain ⟨k,hk,hbk⟩:=Array.any_eq_true.1 h1;obtain ⟨hb,hd'⟩:=Bool.and_eq_true _ _ ▸ hbk;have:=zds hc n _ i hd' (hall _ (Array.getElem_mem hk) hb);rw [hi] at this
   cases this
theorem zck {listed:Array Bool} {i:Nat} (h:listed.getD i true=false):listed.getD i false=false:=by
 rcases Nat.lt_or_ge i listed.size with h' | h'
 ·simpa [h'] using h
 ·simp [Array.getElem?_eq_none h'] at h
theorem zeu {i:Nat} {oi:Oper} {v:Value} (hi:ops[i]?=some oi) (hsel:∀ (j:Nat) (o:Oper) cs b,ops[j]?=some o→o.op≠.select cs b)
 (hQ:∀ c a w,Q (.panic c) (a.put oi.dst v) w→Q (.panic c) a w) (hLi:L≠i) {n:Nat} (hd:depB md ops n L i=true) :
 ∀ (fuel:Nat) (listed:Array Bool) (a:Act) (w:World),zcM md ops listed→
  (∀ j oj,ops[j]?=some oj→j≠i→listed.getD j true=false→(∀ e∈oj.after,Region.binds md e=true→e.on≠i)→oi.apart ops oj=true)→
  i∈Region.ready md ops listed→YieldsIf P ops S oi v a→S w→
  zbm P md ops Q S L fuel (listed.setIfInBounds i true) (a.put oi.dst v) w→zbm P md ops Q S L (fuel+1) listed a w:=by
 intro fuel
 induction fuel with
 | zero=>
  intro listed a w _ _ hr hy hS H;refine ⟨fun h=>(by rw [h] at hr;cases hr),fun j hj=>?_⟩
  by_cases hji:j=i
  ·subst hji;exact hy.wpOp hi hS ⟨fun _=>hS,H⟩
  ·have:=ready_mono hj hji
   rw [H.1] at this
   cases this
 | succ fuel ih=>
  intro listed a w hcl hfree hr hy hS H;refine ⟨fun h=>(by rw [h] at hr;cases hr),fun j hj=>?_⟩
  by_cases hji:j=i
  ·subst hji;exact hy.wpOp hi hS ⟨fun _=>hS,H⟩
  ·have hjL:j≠L:=fun h=>by
    subst h;exact zgC hcl hLi hd (zck (mem_ready.1 hr).1) hj
   have h1:=H.2 j (ready_mono hj hji);obtain ⟨hjun,oj,hoj,hall⟩:=mem_ready.1 hj
   have hnot:∀ e∈oj.after,Region.binds md e=true→e.on≠i:=fun e he hb heq=>by
    have h1:=hall e he hb;have h0:=zck (mem_ready.1 hr).1;rw [heq,h0] at h1
    cases h1
   have h2:=wpOp_putIf hoj (hfree j oj hoj hji hjun hnot) (fun cs b=>hsel i oi cs b hi) (fun cs b=>hsel j oj cs b hoj) hQ hy h1
   have hfree':∀ k ok,ops[k]?=some ok→k≠i→(listed.setIfInBounds j true).getD k true=false→
    (∀ e∈ok.after,Region.binds md e=true→e.on≠i)→oi.apart ops ok=true:=fun k ok hk hki hun hno=>by
    refine hfree k ok hk hki ?_ hno
    by_cases hjk:j=k
    ·subst hjk;exact hjun
    ·rw [getD_set_ne true hjk] at hun;exact hun
   refine wpOp_mono (fun a' w' h3=>⟨h3.2.1,ih (listed.setIfInBounds j true) a' w' (zfd hcl hj) hfree' (ready_mono hr (Ne.symm hji)) h3.1 (h3.2.1 hjL) ?_⟩) h2;rw [Array.setIfInBounds_comm _ _ hji];exact h3.2.2
theorem zbR {i:Nat} {oi:Oper} {v:Value} {fuel:Nat} {listed:Array Bool} {a:Act} {w:World} (n:Nat) (hi:ops[i]?=some oi)
 (hs:(Region.noSelect ops&&Region.free md ops listed i&&(Region.ready md ops listed).contains i&&!(L==i)&&depB md ops n L i&&zdd md ops listed)=true)
 (hQ:∀ c a w,Q (.panic c) (a.put oi.dst v) w→Q (.panic c) a w) (hy:YieldsIf P ops S oi v a) (hS:S w)
 (h:zbm P md ops Q S L fuel (listed.setIfInBounds i true) (a.put oi.dst v) w):zbm P md ops Q S L (fuel+1) listed a w:=by
 simp only [Bool.and_eq_true,Bool.not_eq_true',beq_eq_false_iff_ne] at hs
 obtain ⟨⟨⟨⟨⟨h1,h2⟩,h3⟩,h4⟩,h5⟩,h6⟩:=hs;exact zeu hi (Region.noSelect_spec h1) hQ h4 h5 fuel listed a w (zgB h6) (Region.free_spec hi h2) (by simpa using h3) hy hS h
theorem zhm (i:Nat) {oi:Oper} {v:Value} {fuel:Nat} {listed:Array Bool} {a:Act} {w:World} (hi:ops[i]?=some oi) (hy:∀ w,S w→(execOp a.eval oi).run P w=.ok (.value v) w) (h:zbm P md ops Q S L fuel (listed.setIfInBounds i true) (a.put oi.dst v) w) (hs:(Region.noSelect ops && Region.free md ops listed i && (Region.ready md ops listed).contains i && !(L==i) && depB md ops 16 L i && zdd md ops listed)=true:=by kernel_rfl) (hQ:∀ c a w,Q (.panic c) (a.put oi.dst v) w→Q (.panic c) a w:=by exact fun _ _ _ h=>h) (hw:Region.wanted oi (yielded ops a.tmps)=true:=by first | rfl | kernel_rfl) (hS:S w:=by assumption):zbm P md ops Q S L (fuel+1) listed a w:=zbR 16 hi hs hQ (Or.inl ⟨hw,hy⟩) hS h
theorem zhn (i:Nat) {oi:Oper} {v:Value} {fuel:Nat} {listed:Array Bool} {a:Act} {w:World} (hi:ops[i]?=some oi) (h:zbm P md ops Q S L fuel (listed.setIfInBounds i true) (a.put oi.dst v) w) (hy:∀ w,S w→(execOp a.eval oi).run P w=.ok (.value v) w:=by intro w' hSw;(try dsimp only at hSw);(repeat (have _q:=And.left hSw;replace hSw:=And.right hSw));go_simp;try with_reducible rfl) (hs:(Region.noSelect ops && Region.free md ops listed i && (Region.ready md ops listed).contains i && !(L==i) && depB md ops 16 L i && zdd md ops listed)=true:=by kernel_rfl) (hQ:∀ c a w,Q (.panic c) (a.put oi.dst v) w→Q (.panic c) a w:=by exact fun _ _ _ h=>h) (hw:Region.wanted oi (yielded ops a.tmps)=true:=by first | kernel_rfl | rfl) (hS:S w:=by assumption):zbm P md ops Q S L (fuel+1) listed a w:=zbR 16 hi hs hQ (Or.inl ⟨hw,hy⟩) hS h
theorem zdt {i:Nat} {o:Oper} {fuel:Nat} {listed:Array Bool} {a:Act} {w:World} (ho:ops[i]?=some o) (hr:Region.ready md ops listed=[i])
 (h:∀ K':Act→World→Prop,Shut (∀ a w,S w→(S w→zbm P md ops Q S L fuel (listed.setIfInBounds i true) a w)→K' a w)→if Region.wanted o (yielded ops a.tmps)=true then Oper.wp P o a w K' Q else K' (a.put o.dst undef) w):zbm P md ops Q S L (fuel+1) listed a w:=by
 refine ⟨fun h0=>(by rw [hr] at h0;cases h0),fun j hj=>?_⟩;rw [hr] at hj
 obtain rfl:j=i:=by simpa using hj
 exact wpOp_step ho (fun K' hK=>h K' (fun a w hS hW=>hK a w ⟨fun _=>hS,hW hS⟩))
theorem zfe {o:Oper} {fuel:Nat} {listed:Array Bool} {a:Act} {w:World} (ho:ops[L]?=some o) (hr:Region.ready md ops listed=[L])
 (h:∀ K':Act→World→Prop,Shut (∀ a w,zbm P md ops Q S L fuel (listed.setIfInBounds L true) a w→K' a w)→if Region.wanted o (yielded ops a.tmps)=true then Oper.wp P o a w K' Q else K' (a.put o.dst undef) w):zbm P md ops Q S L (fuel+1) listed a w:=by
 refine ⟨fun h0=>(by rw [hr] at h0;cases h0),fun j hj=>?_⟩;rw [hr] at hj
 obtain rfl:j=L:=by simpa using hj
 exact wpOp_step ho (fun K' hK=>h K' (fun a w hW=>hK a w ⟨fun hn=>absurd rfl hn,hW⟩))
theorem zff {listed:Array Bool} {a:Act} {w:World} (hr:Region.ready md ops listed=[]) (h:Q .normal a w):∀ fuel,zbm P md ops Q S L fuel listed a w
 | 0=>⟨hr,h⟩
 | _+1=>⟨fun _=>h,by rw [hr];simp⟩
theorem zfg {id:Nat} {a:Act} {w:World} (L:Nat) (S:World→Prop) (hm:P.follows .mixedOrders=true) (hS:S w.drew)
 (h:S w.drew→zbm P .any ops Q S L ops.size (Array.replicate ops.size false) a w.drew):(Code.region id ops true).wp P Q a w:=
 wp_region_any hm (zdr _ _ _ _ (h hS))
end
section
variable {ops:Array Oper} {Q:Exit→Act→World→Prop} {md:Region.Mode} {S:World→Prop} {L:Nat}
theorem zdu {o:Oper} {a:Act} (T:TypeId) (x:Operand) (ho:o.op=.load T x) (hg:o.guard=none) (b:Nat) (hx:a.eval x=.pointer (some ⟨b,0,none⟩)) {cs:List Value} (hB:∀ w,S w→Box w b cs.toArray T) {fs:Array Field} (hu:Tryz.prog.underlying T=some (.struct fs)) {n:Nat} (hi:(Tryz.prog.info? T).map (·.size)=some n) (hl:cs.length=n):YieldsIf Tryz.prog ops S o (.agg cs.toArray) a:=by
 refine .inl ⟨by simp [Region.wanted,hg],fun w hS=>?_⟩;unfold execOp
 simp only [ho,hx,Instr.loadAt,Instr.sureAddr,Sem.run_bind,Sem.run_pure,Result.andThen_ok,run_loadVar_row w b T T cs.toArray (0,0) (.struct fs) (hB w hS) hu rfl (by rw [hi];simp [hl])]
end
theorem zfZ (w:World):Below w.heap.size w w.drew:=⟨rfl,rfl,rfl,Nat.le_refl _,fun _ _=>rfl⟩
end Go.Proofs.YtkmglpaaeogapaaGreat
namespace Go.Proofs.YtkmglpaaeogapaaGreat
open Go.RowKit F256
set_option maxRecDepth 20000 in
theorem zde:EqV zao 8:=fun c1 c2 d h1 h2 w r1 r2 u1 u2=>by
 obtain ⟨ao1,cap1,rfl,g1,-⟩:=zbp r1;obtain ⟨bao1,bcap1,rfl,q1,-⟩:=zbp r2;clear r1 r2;have G1:=hid g1;have E1:=hid q1;clear g1 q1
 go_enter Tryz.func8,Tryz.ntmps8
 go_wp2_with fail
 have T0:=zaC w #[.int .i64 d.code,.slice ao1 d.list.1 cap1] #[.int .i64 d.code,.slice bao1 d.list.1 bcap1] 31 31;refine (zc4 _ _ d.list h1 h2 _ (zag.rd_below G1.out T0.bel u1) (zag.rd_below E1.out T0.bel u2) (Nat.le_trans u1 T0.bel.size) (Nat.le_trans u2 T0.bel.size)).mono ?_;rintro e w1 ⟨rfl,b1⟩;have T1:Two w w1 #[.int .i64 d.code,.slice ao1 d.list.1 cap1] #[.int .i64 d.code,.slice bao1 d.list.1 bcap1] 31 31:=T0.call b1;clear T0 b1;have B:=hid T1.bel;clear T1;go_wp2;go_ret;exact ⟨rfl,B.out⟩
theorem zcN:MkV zao zaH zbf 11:=fun cs d L j w h nd hj=>by
 obtain ⟨ao1,cap1,K1,rfl,hLL,o1,k0⟩:=zdi h;clear h;have hLM:=hLL.symm;subst hLM;unfold zaH at hj ⊢;have Z1:=zag.own_lt o1;have bz:=bAl w (.cells #[.int .i64 d.code,.slice ao1 d.list.1 cap1] 31);have B0:Hid (Box (w.alloc (.cells #[.int .i64 d.code,.slice ao1 d.list.1 cap1] 31)) w.heap.size #[.int .i64 d.code,.slice ao1 d.list.1 cap1] 31):=zax _ _ _;have CH0:Hid (ChgL (K1) w (w.alloc (.cells #[.int .i64 d.code,.slice ao1 d.list.1 cap1] 31))):=ChgL.of_below bz;have O0_1:Hid (zag.own (w.alloc (.cells #[.int .i64 d.code,.slice ao1 d.list.1 cap1] 31)) d.list [.slice ao1 d.list.1 cap1] K1):=zag.own_kept o1 (fun b hb=>bz.block b (Z1 b hb));clear bz o1
 go_enter Tryz.func11,Tryz.ntmps11
 go_wp2_with fail
 refine (zcm _ d.list K1 (j) _ O0_1.out nd (by omega)).mono ?_;rintro e w1 ⟨rfl,p1,q1⟩;have O1_1:=hid p1;have B1:Hid (Box w1 w.heap.size #[.int .i64 d.code,.slice ao1 d.list.1 cap1] 31):=(q1.block w.heap.size B0.out.lt (fun hb=>by have:=Z1 _ hb;omega)).trans B0.out;have CH1:Hid (ChgL (K1) w w1):=CH0.out.sub q1 (fun b hb=>hb);clear p1 q1;go_wp2;go_ret;exact ⟨zci (by omega),zcC (zbf j d) O1_1.out k0,CH1.out⟩
theorem zcO:HdV zao zaH zbf 12:=fun cs d hi j w h hhi hj=>by
 obtain ⟨ao1,cap1,rfl,r1,-⟩:=zbp h;clear h;unfold zaH at hj ⊢;have R1:=hid r1;clear r1
 change Calls Tryz.prog 12 #[.agg #[.int .i64 d.code,.slice ao1 d.list.1 cap1],.int .i64 j] w _
 go_enter Tryz.func12,Tryz.ntmps12
 go_wp2_with fail
 have T0:=zav w #[.int .i64 d.code,.slice ao1 d.list.1 cap1] 31;refine (zeD _ d.list hi (j) _ (zag.rd_below R1.out T0.bel hhi) (Nat.le_trans hhi T0.bel.size) (by omega)).mono ?_;rintro e w1 ⟨rfl,b1⟩;have T1:One w w1 #[.int .i64 d.code,.slice ao1 d.list.1 cap1] 31:=T0.call b1
 have hz1:¬ (((j+lenD d.list:Nat):Int)<0):=by omega
 have HB:=hid T1.bel;clear b1 T1;go_wp2;go_ret;exact ⟨zci (by omega),HB.out⟩
end Go.Proofs.YtkmglpaaeogapaaGreat
namespace Go.Proofs.YtkmglpaaeogapaaGreat
open Go.ChangeShapes Go.WideShapes Go.ChangeAt Go.RowKit F256
theorem zbA {w:World} {hi:Nat} {d:IntsResultD} {cs:List Value} (h:zao.rd w hi d cs):∃ v0 vp vl vq,cs=[.int .i64 v0,.slice vp vl vq]:=by
 obtain ⟨p1,pc1,rfl,-⟩:=zbp h;exact ⟨_,_,_,_,rfl⟩
theorem zbB:(Tryz.prog.info? 31).map (fun i=>(i.zero.map (·.cells),i.size))=some (some #[.int .i64 0,.slice none 0 0],2):=by kernel_rfl
theorem zho (d:WorldD) (g:Int):∃ q,WipAns d g q:=by
 obtain ⟨x,hx⟩:=zhb d g
 rcases hx with hx | hx
 ·by_cases h:x=0
  ·subst h;exact ⟨_,.inr ⟨hx,rfl⟩⟩
  ·exact ⟨_,.inl ⟨x,h,hx,rfl⟩⟩
 ·exact absurd (zgN d) hx
theorem zhp {d:WorldD} {g:Int} {q:IntsResultD} (hq:WipAns d g q) (hsz:zaQ d≤1048576):zaH q≤90000000:=by
 rcases hq with ⟨x,_,_,rfl⟩ | ⟨h0,rfl⟩
 ·exact Nat.zero_le _
 ·have hK:=h0.zero
  have hok:=WldAns.ok hK.1
  have hG:g.toNat<d.groups.1:=by have h1:=hK.2.2;have h3:=hK.2.1;have h2:=hok.form.1.1;omega
  have h1:=zeX (wipB d g.toNat) (d.groups.2 g.toNat).1;have h2:=(zdQ hok hG).2
  show (zaW (wipB d g.toNat) (d.groups.2 g.toNat).1).length≤_
  omega
theorem zgD {d:WorldD} {g:Int} {q:IntsResultD} {w:World} {f:Nat} {args:Array Value} (hq:WipAns d g q) (h:Calls Tryz.prog f args w (zgz (WipAns d g) w)):Calls Tryz.prog f args w fun e w'=>∃ cs,e=.returned (.agg cs.toArray)∧OwnT zao w' w.heap.size w'.heap.size q cs∧Below w.heap.size w w':=
 h.mono fun e w' ⟨d',cs,h1,h2,h3,h4⟩=>⟨cs,h1,by rw [hq.one h2];exact h3,h4⟩
theorem zcq:(Tryz.prog.info? 31).map (·.size)=some 2:=by kernel_rfl
set_option maxRecDepth 20000 in
theorem zcr (d:WorldD) (cs:List Value) (i0:Int) (w:World) (rd0:zae.rd w w.heap.size d cs) (hi0:-9223372036854775808≤i0∧i0≤9223372036854775807) :
 Calls Tryz.prog 3 #[.agg cs.toArray,.int .i64 i0] w fun e w'=>e=.returned (.bool true)∧Below w.heap.size w w':=by
 obtain ⟨v0,v1,v2,v3,v4,v5,v6,v7,v8,vp0,vl0,vq0,vp1,vl1,vq1,vp2,vl2,vq2,v9,v10,vb,rfl⟩:=zgw rd0;have HR:=hid rd0
 skip
 clear rd0 hi0;have T0:=zav w (rwV v0 v1 v2 v3 v4 v5 v6 v7 v8 vp0 vl0 vq0 vp1 vl1 vq1 vp2 vl2 vq2 v9 v10 vb).toArray 28
 go_enter Tryz.func3,Tryz.ntmps3
 go_wp2_with (refine zaq 28 (.tmp 2) rfl rfl (w.heap.size) rfl T0.b1 Tryz.underlying28 zc8 rfl ?_)
 refine (zfO _ d w.heap.size 1048576 _ (zae.rd_below HR.out T0.bel (Nat.le_refl _)) T0.bel.size (by omega)).mono ?_;rintro e w1 ⟨x,rfl,hx,b1⟩;have T1:=T0.call b1;have HT1:=hid T1;clear b1 T0
 rcases hx with rfl | ⟨hsz,hx⟩
 ·clear T1
  go_wp2;go_ret;exact ⟨rfl,HT1.out.bel⟩
 have hx0:¬ x<0:=by omega
 clear hx;obtain ⟨q,hq⟩:=zho d i0;obtain ⟨N,hN⟩:∃ N,N=1+zaH q:=⟨_,rfl⟩
 have hj:1+zaH q≤100000000:=by have:=zhp hq hsz;omega
 obtain ⟨M,hM⟩:∃ M,M=1+zcc d:=⟨_,rfl⟩
 have hk:1+zcc d≤100000000:=by have:=zfS d;omega
 have CT:∀ w',Below w1.heap.size w1 w'→Calls Tryz.prog 6 #[.agg (rwV v0 v1 v2 v3 v4 v5 v6 v7 v8 vp0 vl0 vq0 vp1 vl1 vq1 vp2 vl2 vq2 v9 v10 vb).toArray] w' fun e w''=>∃ cs',e=.returned (.agg cs'.toArray)∧OwnT zae w'' w'.heap.size w''.heap.size d cs'∧Below w'.heap.size w' w'':=fun w' hb=>
  zfG _ d w.heap.size w' (zae.rd_below (zae.rd_below HR.out HT1.out.bel (Nat.le_refl _)) hb HT1.out.bel.size) (Nat.le_trans HT1.out.bel.size hb.size) hsz
 have CS:=fun (cs':List Value) (hi:Nat) (w':World) (h1:zae.rd w' hi d cs') (h2:hi≤w'.heap.size)=>zgD hq (zfc d i0 cs' hi w' h1 h2 hsz);have CI:=fun (cs':List Value) (hi:Nat) (w':World) (h1:zae.rd w' hi d cs') (h2:hi≤w'.heap.size)=>zgD hq (zfb d i0 cs' hi w' h1 h2 hsz);have CE:=fun c1 c2 h1 h2 w'=>zde c1 c2 q h1 h2 w';have CW:=fun c1 c2 h1 h2 w'=>zfK c1 c2 d h1 h2 w';have CM:=fun {w':World} {lo hi:Nat} {cs:List Value} (h:OwnT zao w' lo hi q cs)=>zgZ zcN h 1 hj;have CK:=fun {w':World} {lo hi:Nat} {cs:List Value} (h:OwnT zae w' lo hi d cs)=>zgZ zeh h 1 hk;have CH:=fun (cs:List Value) (hi:Nat) (w':World) (h:zao.rd w' hi (zbf 1 q) cs) (hh:hi≤w'.heap.size)=>zcO cs q hi 1 w' h hh hj;rw [← hN] at CM CH;rw [← hM] at CK;clear hN hM hj hk hq hsz
 go_wp2_with (refine zaq 28 (.tmp 2) rfl rfl (w.heap.size) rfl T1.b1 Tryz.underlying28 zc8 rfl ?_)
 refine (CT _ (Below.refl _ _)).mono ?_;rintro e w2 ⟨c2,rfl,o2,b2⟩;have z1:w.heap.size<w1.heap.size:=T1.b1.lt;clear T1
 go_wp2_with fail
 refine (CS _ _ _ o2.rd (Nat.le_refl _)).mono ?_;rintro e w3 ⟨cS,rfl,oS,b3⟩;obtain ⟨s0,sp,sl,sq,rfl⟩:=zbA oS.rd;have z2:w1.heap.size≤w2.heap.size:=b2.size;have z3:w2.heap.size≤w3.heap.size:=b3.size;have B3:Below w1.heap.size w1 w3:=b2.trans (b3.mono b2.size);clear o2 b2 b3
 go_upto_region 6 with (refine zbo 31 6 (.tmp 21) _ _ 2 rfl rfl rfl rfl rfl rfl rfl rfl zbB rfl rfl oS.one ?_)
 have bA:=bAl w3 (.cells #[.int .i64 s0,.slice sp sl sq] 31);have S4:=zax w3 #[.int .i64 s0,.slice sp sl sq] 31;obtain ⟨W4,hW4⟩:∃ x,x=w3.alloc (.cells #[.int .i64 s0,.slice sp sl sq] 31):=⟨_,rfl⟩;rw [← hW4] at bA S4 ⊢;have B4:=B3.trans (bA.mono (by omega));have P4:=HT1.out.call B4;have OS4:=oS.call bA;have z4:w3.heap.size<W4.heap.size:=S4.lt;clear bA hW4 oS B3
 go_wp2_with (refine zaq 28 (.tmp 2) rfl rfl (w.heap.size) rfl P4.b1 Tryz.underlying28 zc8 rfl ?_)
 refine (CT _ B4).mono ?_;rintro e w5 ⟨cX,rfl,oX,b5⟩;obtain ⟨x0,x1,x2,x3,x4,x5,x6,x7,x8,xp0,xl0,xq0,xp1,xl1,xq1,xp2,xl2,xq2,x9,x10,xb,rfl⟩:=zgU oX;have z5:W4.heap.size≤w5.heap.size:=b5.size;have B5:=B4.trans (b5.mono (by omega));have S5:=S4.call b5;have OS5:=OS4.call b5;clear P4 b5 B4 S4 OS4
 go_upto_region 7 with (refine zbo 37 7 (.tmp 23) _ _ 15 rfl rfl rfl rfl rfl rfl rfl rfl zhk rfl rfl oX.one ?_)
 have bA:=bAl w5 (.cells (rwV x0 x1 x2 x3 x4 x5 x6 x7 x8 xp0 xl0 xq0 xp1 xl1 xq1 xp2 xl2 xq2 x9 x10 xb).toArray 37);have X6:=zax w5 (rwV x0 x1 x2 x3 x4 x5 x6 x7 x8 xp0 xl0 xq0 xp1 xl1 xq1 xp2 xl2 xq2 x9 x10 xb).toArray 37;obtain ⟨W6,hW6⟩:∃ x,x=w5.alloc (.cells (rwV x0 x1 x2 x3 x4 x5 x6 x7 x8 xp0 xl0 xq0 xp1 xl1 xq1 xp2 xl2 xq2 x9 x10 xb).toArray 37):=⟨_,rfl⟩;rw [← hW6] at bA X6 ⊢;have B6:=B5.trans (bA.mono (by omega));have S6:=S5.call bA;have OS6:=OS5.call bA;have OX6:=oX.call bA;have z6:w5.heap.size<W6.heap.size:=X6.lt;clear bA hW6 oX B5 S5 OS5
 go_wp2_with (refine zaq 37 (.tmp 7) rfl rfl (w5.heap.size) rfl X6 Tryz.underlying37 zcQ rfl ?_)
 refine (CI _ _ _ OX6.rd (by omega)).mono ?_;rintro e w7 ⟨cG,rfl,oG,b7⟩;obtain ⟨g0,gp,gl,gq,rfl⟩:=zbA oG.rd;have z7:W6.heap.size≤w7.heap.size:=b7.size;have B7:=B6.trans (b7.mono (by omega));have S7:=S6.call b7;have OS7:=OS6.call b7;have X7:=X6.call b7;have OX7:=OX6.call b7;clear b7 B6 S6 OS6 X6 OX6
 go_upto_region 8 with (refine zbo 31 8 (.tmp 26) _ _ 2 rfl rfl rfl rfl rfl rfl rfl rfl zbB rfl rfl oG.one ?_)
 have bA:=bAl w7 (.cells #[.int .i64 g0,.slice gp gl gq] 31);have G8:=zax w7 #[.int .i64 g0,.slice gp gl gq] 31;obtain ⟨W8,hW8⟩:∃ x,x=w7.alloc (.cells #[.int .i64 g0,.slice gp gl gq] 31):=⟨_,rfl⟩;rw [← hW8] at bA G8 ⊢;have B8:=B7.trans (bA.mono (by omega));have S8:=S7.call bA;have OS8:=OS7.call bA;have X8:=X7.call bA;have OX8:=OX7.call bA;have OG8:=oG.call bA;have z8:w7.heap.size<W8.heap.size:=G8.lt;clear bA hW8 oG B7 S7 OS7 X7 OX7
 go_wp2_with (first | (refine zaq 31 (.tmp 8) rfl rfl (w7.heap.size) rfl G8 Tryz.underlying31 zcq rfl ?_) | (refine zaq 31 (.tmp 6) rfl rfl (w3.heap.size) rfl S8 Tryz.underlying31 zcq rfl ?_))
 refine (CE _ _ _ _ _ OG8.rd OS8.rd (by omega) (by omega)).mono ?_;rintro e w9 ⟨rfl,b9⟩;have z9:W8.heap.size≤w9.heap.size:=b9.size;have B9:=B8.trans (b9.mono (by omega));have S9:=hid (S8.call b9);have OS9:=hid (OS8.call b9);have X9:=hid (X8.call b9);have OX9:=hid (OX8.call b9);have G9:=hid (G8.call b9);have OG9:=hid (OG8.call b9);have HB9:=hid B9;have P9:=hid (HT1.out.call B9);have CTc:=fun w' (hb:Below w9.heap.size w9 w')=>CT w' (HB9.out.trans (hb.mono (by omega)));clear b9 B8 S8 OS8 X8 OX8 G8 OG8 B9
 go_upto_region 10 with fail
 go_cut [35] (fun v wx=>v=.bool false∧Below w9.heap.size w9 wx)
 case first=>
  have KS:∀ w',Below w9.heap.size w9 w'→(Box w' (w5.heap.size) (rwV x0 x1 x2 x3 x4 x5 x6 x7 x8 xp0 xl0 xq0 xp1 xl1 xq1 xp2 xl2 xq2 x9 x10 xb).toArray 37∧Box w' (w.heap.size) (rwV v0 v1 v2 v3 v4 v5 v6 v7 v8 vp0 vl0 vq0 vp1 vl1 vq1 vp2 vl2 vq2 v9 v10 vb).toArray 28):=fun w' hb=>⟨(X9.out).call hb,(P9.out.b1).call hb⟩;have B0:Below w9.heap.size w9 w9.drew:=zfZ _;refine zfg 4 (fun w'=>Box w' (w5.heap.size) (rwV x0 x1 x2 x3 x4 x5 x6 x7 x8 xp0 xl0 xq0 xp1 xl1 xq1 xp2 xl2 xq2 x9 x10 xb).toArray 37∧Box w' (w.heap.size) (rwV v0 v1 v2 v3 v4 v5 v6 v7 v8 vp0 vl0 vq0 vp1 vl1 vq1 vp2 vl2 vq2 v9 v10 vb).toArray 28) (by kernel_rfl) (KS _ B0) (fun hHeld=>?_);refine zbR (i:=0) (oi:=_) 16 rfl (by kernel_rfl) (fun _ _ _ h=>h) (zdu 37 (.tmp 7) rfl rfl (w5.heap.size) rfl (cs:=(rwV x0 x1 x2 x3 x4 x5 x6 x7 x8 xp0 xl0 xq0 xp1 xl1 xq1 xp2 xl2 xq2 x9 x10 xb)) (fun w' h=>h.1) Tryz.underlying37 zcQ rfl) (by assumption) ?_
  try simp only [Act.put,SL]
  refine zbR (i:=1) (oi:=_) 16 rfl (by kernel_rfl) (fun _ _ _ h=>h) (zdu 28 (.tmp 2) rfl rfl (w.heap.size) rfl (cs:=(rwV v0 v1 v2 v3 v4 v5 v6 v7 v8 vp0 vl0 vq0 vp1 vl1 vq1 vp2 vl2 vq2 v9 v10 vb)) (fun w' h=>h.2) Tryz.underlying28 zc8 rfl) (by assumption) ?_
  try simp only [Act.put,SL]
  refine zdt (i:=2) (o:=_) rfl (by kernel_rfl) (fun KC hKC=>?_);refine zdS rfl 6 _ _ rfl #[.agg (rwV v0 v1 v2 v3 v4 v5 v6 v7 v8 vp0 vl0 vq0 vp1 vl1 vq1 vp2 vl2 vq2 v9 v10 vb).toArray] ?_ Tryz.func6 (by kernel_rfl) (by kernel_rfl) (CTc _ B0) ?_
  ·simp [Act.eval,Act.put]
  rintro ee wb ⟨cs',rfl,oR,bb⟩;have bR:Below w9.heap.size w9 wb:=B0.trans (bb.mono B0.size);refine ⟨_,rfl,?_⟩;refine hKC.out _ _ (KS _ bR) (fun hHeld=>?_);clear hKC KC
  try simp only [Act.put,SL]
  refine zdt (i:=3) (o:=_) rfl (by kernel_rfl) (fun KC hKC=>?_);refine zdS rfl 9 _ _ rfl #[.agg (rwV x0 x1 x2 x3 x4 x5 x6 x7 x8 xp0 xl0 xq0 xp1 xl1 xq1 xp2 xl2 xq2 x9 x10 xb).toArray,.agg cs'.toArray] ?_ Tryz.func9 (by kernel_rfl) (by kernel_rfl) (CW _ _ _ _ _ ((OX9.out).call bR).rd oR.rd (Nat.le_trans (by omega) bR.size) (Nat.le_refl _)) ?_
  ·simp [Act.eval,Act.put]
  rintro ee wc' ⟨rfl,bc⟩;have bC:Below w9.heap.size w9 wc':=bR.trans (bc.mono bR.size);refine ⟨_,rfl,?_⟩;refine hKC.out _ _ (KS _ bC) (fun hHeld=>?_);clear hKC KC
  try simp only [Act.put,SL]
  refine zfe (o:=_) rfl (by kernel_rfl) (fun KC hKC=>?_);go_simp;refine hKC.out _ _ ?_;clear hKC KC
  try simp only [Act.put,SL]
  refine zff (by kernel_rfl) ?_ _;go_wp2
  go_meet
  exact ⟨rfl,bC⟩
 case rest=>
  obtain ⟨rfl,b10⟩:=hcut;obtain ⟨w10,rfl⟩:∃ x,x=wc:=⟨_,rfl⟩;clear CTc;have z10:w9.heap.size≤w10.heap.size:=b10.size;have B10:=HB9.out.trans (b10.mono (by omega));have S10:=S9.out.call b10;have OS10:=OS9.out.call b10;have X10:=X9.out.call b10;have OX10:=OX9.out.call b10;have G10:=G9.out.call b10;have OG10:=OG9.out.call b10;clear b10 HB9 S9 OS9 X9 OX9 G9 OG9 P9
  have hm0:¬ (M:Int)<0:=by omega
  go_wp2_with (refine zaq 37 (.tmp 7) rfl rfl (w5.heap.size) rfl X10 Tryz.underlying37 zcQ rfl ?_)
  refine (CK OX10).mono ?_;rintro e w11 ⟨rfl,OX11,c11⟩;have z11:w10.heap.size≤w11.heap.size:=c11.size;have B11:=B10.trans (c11.bel (B:=w1.heap.size) (by omega) (by omega));have S11:=S10.chg c11 (.inl (by omega));have OS11:=OS10.chg c11 (.inl (by omega));have G11:=G10.chg c11 (.inr (by omega));have OG11:=OG10.chg c11 (.inr (by omega));have u_0:w11.cell? ⟨w7.heap.size,0,none⟩=some (.int .i64 g0):=G11.cell 0;have u_1:w11.cell? ⟨w7.heap.size,1,none⟩=some (.slice gp gl gq):=G11.cell 1;have y_0:w11.cell? ⟨w3.heap.size,0,none⟩=some (.int .i64 s0):=S11.cell 0;have y_1:w11.cell? ⟨w3.heap.size,1,none⟩=some (.slice sp sl sq):=S11.cell 1;clear OX11 c11 B10 S10 OS10 X10 OX10 G10 OG10
  go_wp2_with fail
  refine (CE _ _ _ _ _ OG11.rd OS11.rd (by omega) (by omega)).mono ?_;rintro e w12 ⟨rfl,b12⟩;have z12:w11.heap.size≤w12.heap.size:=b12.size;have B12:=B11.trans (b12.mono (by omega));have S12:=S11.call b12;have OS12:=OS11.call b12;have G12:=G11.call b12;have OG12:=OG11.call b12;clear b12 B11 S11 OS11 G11 OG11 u_0 u_1 y_0 y_1
  go_wp2_with (refine zaq 31 (.tmp 8) rfl rfl (w7.heap.size) rfl G12 Tryz.underlying31 zcq rfl ?_)
  refine (CM OG12).mono ?_;rintro e w13 ⟨rfl,OG13,c13⟩;have z13:w12.heap.size≤w13.heap.size:=c13.size;have B13:=B12.trans (c13.bel (B:=w1.heap.size) (by omega) (by omega));have S13:=S12.chg c13 (.inl (by omega));have OS13:=OS12.chg c13 (.inl (by omega));have G13:=G12.chg c13 (.inr (by omega));clear c13 B12 S12 OS12 G12 OG12
  go_wp2_with (refine zaq 31 (.tmp 8) rfl rfl (w7.heap.size) rfl G13 Tryz.underlying31 zcq rfl ?_)
  refine (CH _ _ _ OG13.rd (by omega)).mono ?_;rintro e w14 ⟨rfl,b14⟩;have z14:w13.heap.size≤w14.heap.size:=b14.size;have B14:=B13.trans (b14.mono (by omega));have S14:=S13.call b14;have OS14:=OS13.call b14;have G14:=G13.call b14;have OG14:=OG13.call b14;have P14:=HT1.out.call B14;clear b14 B13 S13 OS13 G13 OG13
  have hn0:¬ (N:Int)<0:=by omega
  go_wp2_with (refine zaq 28 (.tmp 2) rfl rfl (w.heap.size) rfl P14.b1 Tryz.underlying28 zc8 rfl ?_)
  refine (CT _ B14).mono ?_;rintro e w15 ⟨c15,rfl,o15,b15⟩
  go_wp2_with fail
  refine (CI _ _ _ o15.rd (Nat.le_refl _)).mono ?_;rintro e w16 ⟨cH,rfl,oH,b16⟩;obtain ⟨h0,hp,hl,hq,rfl⟩:=zbA oH.rd;have z15:w14.heap.size≤w15.heap.size:=b15.size;have z16:w15.heap.size≤w16.heap.size:=b16.size;have B16:=(B14.trans (b15.mono (by omega))).trans (b16.mono (by omega));have S16:=(S14.call b15).call b16;have OS16:=(OS14.call b15).call b16;have G16:=(G14.call b15).call b16;have OG16:=(OG14.call b15).call b16;clear P14 o15 b15 b16 B14 S14 OS14 G14 OG14
  go_upto_region 25 with (refine zbo 31 12 (.tmp 61) _ _ 2 rfl rfl rfl rfl rfl rfl rfl rfl zbB rfl rfl oH.one ?_)
  have bA:=bAl w16 (.cells #[.int .i64 h0,.slice hp hl hq] 31);have H17:=zax w16 #[.int .i64 h0,.slice hp hl hq] 31;obtain ⟨W17,hW17⟩:∃ x,x=w16.alloc (.cells #[.int .i64 h0,.slice hp hl hq] 31):=⟨_,rfl⟩;rw [← hW17] at bA H17 ⊢;have B17:=B16.trans (bA.mono (by omega));have S17:=S16.call bA;have OS17:=OS16.call bA;have G17:=G16.call bA;have OG17:=OG16.call bA;have OH17:=oH.call bA;have z17:w16.heap.size<W17.heap.size:=H17.lt;clear bA hW17 oH B16 S16 OS16 G16 OG16
  go_wp2_with (first | (refine zaq 31 (.tmp 12) rfl rfl (w16.heap.size) rfl H17 Tryz.underlying31 zcq rfl ?_) | (refine zaq 31 (.tmp 6) rfl rfl (w3.heap.size) rfl S17 Tryz.underlying31 zcq rfl ?_))
  refine (CE _ _ _ _ _ OH17.rd OS17.rd (by omega) (by omega)).mono ?_;rintro e w18 ⟨rfl,b18⟩;have z18:W17.heap.size≤w18.heap.size:=b18.size;have B18:=B17.trans (b18.mono (by omega));have G18:=G17.call b18;have OG18:=OG17.call b18;clear b18 B17 S17 OS17 G17 OG17 OH17 H17
  go_wp2_with (refine zaq 31 (.tmp 8) rfl rfl (w7.heap.size) rfl G18 Tryz.underlying31 zcq rfl ?_)
  refine (CH _ _ _ OG18.rd (by omega)).mono ?_;rintro e w19 ⟨rfl,b19⟩;have HB:Hid (Below w.heap.size w w19):=(HT1.out.call (B18.trans (b19.mono (by omega)))).bel;clear b19 B18 G18 OG18;go_wp2;go_ret;exact ⟨rfl,HB.out⟩
set_option maxRecDepth 100000 in
theorem zb7 (os:Os) (started:os.Started) (H:Type) (enc:TypeId×Value→H) :
 ReturnsInHanded {} Tryz.checked os 3 .any (Rows.fnExactWipedOfSpec.pre6 enc Tryz.prog Tryz.f3 Rows.fnExactWipedOfRow.domain false) (Rows.fnExactWipedOfSpec.post enc Tryz.prog Tryz.f3 false true false false):=by
 refine returnsInHanded_of_change (C:=Tryz.checked) zf0 started (by kernel_rfl) Tryz.func3
  (ChangeSpec.witness6 (enc:=enc) (C:=Tryz.checked) false ⟨#[],#[.agg (rwV 0 0 0 0 0 0 0 0 0 none 0 0 none 0 0 none 0 0 0 0 false).toArray,.int .i64 0],[]⟩ 8 (by kernel_rfl) (by kernel_rfl) (by kernel_rfl) (by kernel_rfl)) ?_
 intro W base args ds gs before hval0 hW hcnd _;have hval:∀ (j:Nat) t v,Tryz.f3.params[j]?=some t→args[j]?=some v→Value.okWide Tryz.prog W .any base t v:=hval0;have hW':=hW;obtain ⟨p,q,hA0,hV,rfl,hfz,hnd⟩:=hW;have hA:DataW.TrodAll enc Tryz.prog W 0 (fun _=>true) true Tryz.f3.params.toList args.toList ds p:=hA0;rw [Tryz.params3] at hA hval;obtain ⟨v0,vs0,d0,ds0,p0,q0,hargs,rfl,rfl,h0,r0⟩:=trodAll_cons hA;obtain ⟨v1,vs1,d1,ds1,p1,q1,rfl,rfl,rfl,h1,r1⟩:=trodAll_cons r0;obtain ⟨rfl,rfl,rfl⟩:=trodAll_nil r1
 obtain rfl:args=#[v0,v1]:=by cases args;simp_all
 obtain ⟨rfl,rfl⟩:=trodVars_none hV;have k0:=h0
 have lt0:∀ x∈p0,x.block<W.heap.size:=by obtain ⟨m,hm⟩:=k0;exact DataW.trod_lt m _ _ _ hm
 obtain ⟨cs0,a0,rfl,rd0⟩:=zdf zfx Tryz.underlying28 (hval 0 28 v0 rfl rfl) h0;obtain ⟨n1,rfl,rfl,rfl,hn1⟩:=open_int Tryz.underlying2 (hval 1 2 v1 rfl rfl) h1;clear hA0 hval0;refine (zcr a0 cs0 n1 W rd0 (bounds_i64 hn1)).mono fun e W' ⟨he,bel⟩=>?_;subst he;exact ⟨_,rfl,_,_,_,[],_,[],hW',trodAll_mk1 (shut_bool Tryz.underlying4 _),(trodAll_cons_mk (Below.trod zfs (by kernel_rfl) (of_decide_eq_true (by kernel_rfl)) k0 bel lt0) (trodAll_cons_mk (shut_int Tryz.underlying2 hn1) trodAll_mk0)),rfl,bel.frame _,fun h=>by cases h⟩
end Go.Proofs.YtkmglpaaeogapaaGreat
