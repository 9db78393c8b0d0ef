/- movedBlock of the program. -/
import Derived.Test.YtlpbohnadenacaaGreatZPredomal
import Derived.Test.YtlpbohnadenacaaGreatZPredomak
set_option linter.unusedVariables false
set_option linter.unusedSimpArgs false
set_option maxHeartbeats 16000000
namespace Go.Proofs.YtlpbohnadenacaaGreat
open Go.RowKit F256
theorem zdD:(Tryz.prog.info? 99).map (·.size)=some 2:=by kernel_rfl
theorem zhu:Tryz.prog.follows Departure.mixedOrders=true:=by kernel_rfl
theorem zjR {n:Nat} {args:Array Value} {w:World} {R:Ending→World→Prop} (h:Calls Tryz.prog n args w R):Calls Tryz.prog n (args++#[]) w R:=by rw [Array.append_empty];exact h
theorem zcE {ops:Array Oper} {o:Oper} {a:Act} {w:World} {K:Act→World→Prop} {Q:Exit→Act→World→Prop} {F:Prop} (T:TypeId) (x y:Operand) (ho:o.op=.store T x y) (hgd:o.guard=none) (b:Nat) (hx:a.eval x=.pointer (some ⟨b,0,none⟩)) {cs old:List Value} (hy:a.eval y=.agg cs.toArray) (hB:Box w b old.toArray T) {n:Nat} (hi:(Tryz.prog.info? T).map (·.size)=some n) (hl:cs.length=n) (hol:old.length=n) (h1:∀ v,v∈cs→v.oneCell'=true)
 (h:∀ w',Box w' b cs.toArray T→ChgL [b] w w'→w'.heap.size=w.heap.size→K (a.put o.dst undef) w'):if Region.wanted o (yielded ops a.tmps)=true then Oper.wp Tryz.prog o a w K Q else F:=by
 have hw:Region.wanted o (yielded ops a.tmps)=true:=by simp [Region.wanted,hgd]
 rw [if_pos hw];refine wp_store_row T x y ho b cs.toArray hx hy T old.toArray hB (by rw [hi];simp [hl]) (by simp [hl,hol]) (by simp;exact h1) ?_;exact h _ (setRow_heap w b _ cs.toArray T (0,0) hB) (zdT b _) (by simp)
theorem zdF {w:World} {hi n:Nat} {ao:Option Addr} {c:Nat} {p:Nat×(Nat→Nat)} (h:zad.rd w hi p [.slice ao n c]):Rd w hi (.slice ao n c) p.1 p.2∧∀ i,p.2 i<256:=by
 obtain ⟨v',e,r,kf⟩:=h
 obtain rfl:v'=.slice ao n c:=by simpa using e.symm
 exact ⟨r,kf⟩
set_option maxRecDepth 100000 in
theorem zjS (s:Nat→Int) (hok:zar s) (G k:Nat) (was:BlockD) (mv:RecD) (wo:Option Addr) (wc:Nat) (ao6 ao7 ao8:Option Addr) (cap6 cap7 cap8:Nat) (hi:Nat) (w:World) (hhi:hi≤w.heap.size) (hr:zae.rd w hi mv [.int .i64 mv.kind,.int .i64 mv.seq,.string mv.name,.int .i64 mv.length,.int .i64 mv.group,.int .i64 mv.row,.slice ao6 mv.rows.1 cap6,.slice ao7 mv.data.1 cap7,.slice ao8 mv.delta.1 cap8]) (hb:zaf.rd w hi was [.int .i64 was.stamp,.slice wo was.bytes.1 wc]) (hG:(G:Int)<s 0) (hk:(k:Int)<s 2+s 3) (hd:mv.data.1=4*(s 2).toNat) :
 Calls Tryz.prog 82 #[zak s,.int .i64 (G:Int),.int .i64 (k:Int),.agg #[.int .i64 was.stamp,.slice wo was.bytes.1 wc],.agg #[.int .i64 mv.kind,.int .i64 mv.seq,.string mv.name,.int .i64 mv.length,.int .i64 mv.group,.int .i64 mv.row,.slice ao6 mv.rows.1 cap6,.slice ao7 mv.data.1 cap7,.slice ao8 mv.delta.1 cap8]] w fun e w'=>∃ g off cp,e=.returned (.agg #[.int .i64 mv.seq,.slice (some ⟨g,off,none⟩) 4 cp])∧w.heap.size≤g∧g<w'.heap.size∧(∀ t,t<4→w'.cell? ⟨g,off+t,none⟩=some (.int .u8 (movN s G k was mv t)))∧Below w.heap.size w w':=by
 have hsb:=okB hok;have HOK:=hid hok;obtain ⟨x6,y6,x7,y7,x8,y8,e9,r6,r7,r8,-⟩:=za5 hr;have T0:=zeQ w #[.int .i64 (s 0),.int .i64 (s 1),.int .i64 (s 2),.int .i64 (s 3),.int .i64 (s 4),.int .i64 (s 5),.int .i64 (s 6),.int .i64 (s 7),.int .i64 (s 8)] #[.int .i64 was.stamp,.slice wo was.bytes.1 wc] #[.int .i64 mv.kind,.int .i64 mv.seq,.string mv.name,.int .i64 mv.length,.int .i64 mv.group,.int .i64 mv.row,.slice ao6 mv.rows.1 cap6,.slice ao7 mv.data.1 cap7,.slice ao8 mv.delta.1 cap8] #[.int .i64 0,.slice none 0 0] 34 99 43 99;have CI:=zcn (x:=(G:Int)) (t:=true) hok (by unfold InP;simp;omega) ((((w.alloc (.cells #[.int .i64 (s 0),.int .i64 (s 1),.int .i64 (s 2),.int .i64 (s 3),.int .i64 (s 4),.int .i64 (s 5),.int .i64 (s 6),.int .i64 (s 7),.int .i64 (s 8)] 34)).alloc (.cells #[.int .i64 was.stamp,.slice wo was.bytes.1 wc] 99)).alloc (.cells #[.int .i64 mv.kind,.int .i64 mv.seq,.string mv.name,.int .i64 mv.length,.int .i64 mv.group,.int .i64 mv.row,.slice ao6 mv.rows.1 cap6,.slice ao7 mv.data.1 cap7,.slice ao8 mv.delta.1 cap8] 43)).alloc (.cells #[.int .i64 0,.slice none 0 0] 99))
 unfold zak at *
 obtain ⟨D,hD⟩:∃ D:Nat,s 2=(D:Int):=⟨(s 2).toNat,by omega⟩;obtain ⟨S,hS⟩:∃ S:Nat,s 3=(S:Int):=⟨(s 3).toNat,by omega⟩;have HD:=hid hD;have HS3:=hid hS
 have eD:(s 2).toNat=D:=by omega
 have hs7:(Value.slice ao7 mv.data.1 cap7)=.slice x7 mv.data.1 y7:=by
  have:=congrArg (fun l=>l[7]?) e9
  simpa using this
 have r7':zad.rd w hi mv.data [.slice ao7 mv.data.1 cap7]:=by rw [hs7];exact r7
 obtain ⟨RD7,KD7⟩:=zdF r7';rw [eD] at hd;rw [hd] at RD7;have HDL:=hid hd;have HRD7:=hid RD7;have HKD7:=hid KD7
 have HMV:Hid (∀ t,movN s G k was mv t=encN D mv.data.2 k t):=fun t=>by
  unfold movN;rw [if_pos hG,eD]
 have x_0:((((w.alloc (.cells #[.int .i64 (s 0),.int .i64 (s 1),.int .i64 (s 2),.int .i64 (s 3),.int .i64 (s 4),.int .i64 (s 5),.int .i64 (s 6),.int .i64 (s 7),.int .i64 (s 8)] 34)).alloc (.cells #[.int .i64 was.stamp,.slice wo was.bytes.1 wc] 99)).alloc (.cells #[.int .i64 mv.kind,.int .i64 mv.seq,.string mv.name,.int .i64 mv.length,.int .i64 mv.group,.int .i64 mv.row,.slice ao6 mv.rows.1 cap6,.slice ao7 mv.data.1 cap7,.slice ao8 mv.delta.1 cap8] 43)).alloc (.cells #[.int .i64 0,.slice none 0 0] 99)).cell? ⟨w.heap.size,0,none⟩=some (.int .i64 (s 0)):=T0.b1.cell 0;have x_1:((((w.alloc (.cells #[.int .i64 (s 0),.int .i64 (s 1),.int .i64 (s 2),.int .i64 (s 3),.int .i64 (s 4),.int .i64 (s 5),.int .i64 (s 6),.int .i64 (s 7),.int .i64 (s 8)] 34)).alloc (.cells #[.int .i64 was.stamp,.slice wo was.bytes.1 wc] 99)).alloc (.cells #[.int .i64 mv.kind,.int .i64 mv.seq,.string mv.name,.int .i64 mv.length,.int .i64 mv.group,.int .i64 mv.row,.slice ao6 mv.rows.1 cap6,.slice ao7 mv.data.1 cap7,.slice ao8 mv.delta.1 cap8] 43)).alloc (.cells #[.int .i64 0,.slice none 0 0] 99)).cell? ⟨w.heap.size,1,none⟩=some (.int .i64 (s 1)):=T0.b1.cell 1;have x_2:((((w.alloc (.cells #[.int .i64 (s 0),.int .i64 (s 1),.int .i64 (s 2),.int .i64 (s 3),.int .i64 (s 4),.int .i64 (s 5),.int .i64 (s 6),.int .i64 (s 7),.int .i64 (s 8)] 34)).alloc (.cells #[.int .i64 was.stamp,.slice wo was.bytes.1 wc] 99)).alloc (.cells #[.int .i64 mv.kind,.int .i64 mv.seq,.string mv.name,.int .i64 mv.length,.int .i64 mv.group,.int .i64 mv.row,.slice ao6 mv.rows.1 cap6,.slice ao7 mv.data.1 cap7,.slice ao8 mv.delta.1 cap8] 43)).alloc (.cells #[.int .i64 0,.slice none 0 0] 99)).cell? ⟨w.heap.size,2,none⟩=some (.int .i64 (s 2)):=T0.b1.cell 2;have x_3:((((w.alloc (.cells #[.int .i64 (s 0),.int .i64 (s 1),.int .i64 (s 2),.int .i64 (s 3),.int .i64 (s 4),.int .i64 (s 5),.int .i64 (s 6),.int .i64 (s 7),.int .i64 (s 8)] 34)).alloc (.cells #[.int .i64 was.stamp,.slice wo was.bytes.1 wc] 99)).alloc (.cells #[.int .i64 mv.kind,.int .i64 mv.seq,.string mv.name,.int .i64 mv.length,.int .i64 mv.group,.int .i64 mv.row,.slice ao6 mv.rows.1 cap6,.slice ao7 mv.data.1 cap7,.slice ao8 mv.delta.1 cap8] 43)).alloc (.cells #[.int .i64 0,.slice none 0 0] 99)).cell? ⟨w.heap.size,3,none⟩=some (.int .i64 (s 3)):=T0.b1.cell 3;have x_4:((((w.alloc (.cells #[.int .i64 (s 0),.int .i64 (s 1),.int .i64 (s 2),.int .i64 (s 3),.int .i64 (s 4),.int .i64 (s 5),.int .i64 (s 6),.int .i64 (s 7),.int .i64 (s 8)] 34)).alloc (.cells #[.int .i64 was.stamp,.slice wo was.bytes.1 wc] 99)).alloc (.cells #[.int .i64 mv.kind,.int .i64 mv.seq,.string mv.name,.int .i64 mv.length,.int .i64 mv.group,.int .i64 mv.row,.slice ao6 mv.rows.1 cap6,.slice ao7 mv.data.1 cap7,.slice ao8 mv.delta.1 cap8] 43)).alloc (.cells #[.int .i64 0,.slice none 0 0] 99)).cell? ⟨w.heap.size,4,none⟩=some (.int .i64 (s 4)):=T0.b1.cell 4;have x_5:((((w.alloc (.cells #[.int .i64 (s 0),.int .i64 (s 1),.int .i64 (s 2),.int .i64 (s 3),.int .i64 (s 4),.int .i64 (s 5),.int .i64 (s 6),.int .i64 (s 7),.int .i64 (s 8)] 34)).alloc (.cells #[.int .i64 was.stamp,.slice wo was.bytes.1 wc] 99)).alloc (.cells #[.int .i64 mv.kind,.int .i64 mv.seq,.string mv.name,.int .i64 mv.length,.int .i64 mv.group,.int .i64 mv.row,.slice ao6 mv.rows.1 cap6,.slice ao7 mv.data.1 cap7,.slice ao8 mv.delta.1 cap8] 43)).alloc (.cells #[.int .i64 0,.slice none 0 0] 99)).cell? ⟨w.heap.size,5,none⟩=some (.int .i64 (s 5)):=T0.b1.cell 5
 have x_6:((((w.alloc (.cells #[.int .i64 (s 0),.int .i64 (s 1),.int .i64 (s 2),.int .i64 (s 3),.int .i64 (s 4),.int .i64 (s 5),.int .i64 (s 6),.int .i64 (s 7),.int .i64 (s 8)] 34)).alloc (.cells #[.int .i64 was.stamp,.slice wo was.bytes.1 wc] 99)).alloc (.cells #[.int .i64 mv.kind,.int .i64 mv.seq,.string mv.name,.int .i64 mv.length,.int .i64 mv.group,.int .i64 mv.row,.slice ao6 mv.rows.1 cap6,.slice ao7 mv.data.1 cap7,.slice ao8 mv.delta.1 cap8] 43)).alloc (.cells #[.int .i64 0,.slice none 0 0] 99)).cell? ⟨w.heap.size,6,none⟩=some (.int .i64 (s 6)):=T0.b1.cell 6;have x_7:((((w.alloc (.cells #[.int .i64 (s 0),.int .i64 (s 1),.int .i64 (s 2),.int .i64 (s 3),.int .i64 (s 4),.int .i64 (s 5),.int .i64 (s 6),.int .i64 (s 7),.int .i64 (s 8)] 34)).alloc (.cells #[.int .i64 was.stamp,.slice wo was.bytes.1 wc] 99)).alloc (.cells #[.int .i64 mv.kind,.int .i64 mv.seq,.string mv.name,.int .i64 mv.length,.int .i64 mv.group,.int .i64 mv.row,.slice ao6 mv.rows.1 cap6,.slice ao7 mv.data.1 cap7,.slice ao8 mv.delta.1 cap8] 43)).alloc (.cells #[.int .i64 0,.slice none 0 0] 99)).cell? ⟨w.heap.size,7,none⟩=some (.int .i64 (s 7)):=T0.b1.cell 7;have x_8:((((w.alloc (.cells #[.int .i64 (s 0),.int .i64 (s 1),.int .i64 (s 2),.int .i64 (s 3),.int .i64 (s 4),.int .i64 (s 5),.int .i64 (s 6),.int .i64 (s 7),.int .i64 (s 8)] 34)).alloc (.cells #[.int .i64 was.stamp,.slice wo was.bytes.1 wc] 99)).alloc (.cells #[.int .i64 mv.kind,.int .i64 mv.seq,.string mv.name,.int .i64 mv.length,.int .i64 mv.group,.int .i64 mv.row,.slice ao6 mv.rows.1 cap6,.slice ao7 mv.data.1 cap7,.slice ao8 mv.delta.1 cap8] 43)).alloc (.cells #[.int .i64 0,.slice none 0 0] 99)).cell? ⟨w.heap.size,8,none⟩=some (.int .i64 (s 8)):=T0.b1.cell 8
 have hDb:1≤D∧D≤3∧S≤2:=by omega
 have hkn:k<D+S:=by omega
 clear hr hb e9 r6 r7 r8 r7' RD7 KD7 hok hs7 eD hD hS hd
 go_enter Tryz.func82,Tryz.ntmps82
 go_wp2_with fail
 refine CI.mono ?_;rintro e w1 ⟨rfl,b1⟩;have HT1:=hid (T0.call b1);have bD:Below w1.heap.size w1 w1.drew:=⟨rfl,rfl,rfl,Nat.le_refl _,fun _ _=>rfl⟩;have HTD:=hid (HT1.out.call bD);have CB:=zjR (zeH D S (by omega) (by omega) (by omega) (.slice ao7 (4*D) cap7) mv.data.2 hi w1.drew (HRD7.out.below HTD.out.bel hhi) (Nat.le_trans hhi HTD.out.bel.size) HKD7.out);have c3:w1.drew.cell? ⟨w.heap.size+1+1,1,none⟩=some (.int .i64 mv.seq):=HTD.out.b3.cell 1
 have c7:w1.drew.cell? ⟨w.heap.size+1+1,7,none⟩=some (.slice ao7 (4*D) cap7):=by have:=HTD.out.b3.cell 7;rw [HDL.out] at this;exact this
 have d2:w1.drew.cell? ⟨w.heap.size,2,none⟩=some (.int .i64 (D:Int)):=by have:=HTD.out.b1.cell 2;rw [HD.out] at this;exact this
 have d3:w1.drew.cell? ⟨w.heap.size,3,none⟩=some (.int .i64 (S:Int)):=by have:=HTD.out.b1.cell 3;rw [HS3.out] at this;exact this
 have i1:(0:Int)≤(k:Int):=by omega
 have i2:(k:Int)<((D+S:Nat):Int):=by omega
 have i3:(k:Int)<(D:Int)+(S:Int):=by omega
 have z1:w.heap.size+1+1+1<w1.heap.size:=HT1.out.b4.lt;clear CI b1 T0 x_0 x_1 x_2 x_3 x_4 x_5 x_6 x_7 x_8
 go_upto_region 2 with fail
 refine zcy 14 (fun w'=>w'.cell? ⟨w.heap.size+1+1,1,none⟩=some (.int .i64 mv.seq)∧w'.cell? ⟨w.heap.size+1+1,7,none⟩=some (.slice ao7 (4*D) cap7)∧w'.cell? ⟨w.heap.size,2,none⟩=some (.int .i64 (D:Int))∧w'.cell? ⟨w.heap.size,3,none⟩=some (.int .i64 (S:Int))) zhu ⟨c3,c7,d2,d3⟩ (fun hHeld=>?_);refine zap (i:=0) (oi:=_) (v:=?_) rfl (by kernel_rfl) (fun _ _ _ h=>h) (Or.inl ⟨by kernel_rfl,?_⟩) (by assumption) ?_
 rotate_left
 ·intro w' hSw
  try dsimp only at hSw
  obtain ⟨q1,q2,q3,q4⟩:=hSw;go_simp
  try with_reducible rfl
 try simp only [Act.put,SL]
 refine zap (i:=1) (oi:=_) (v:=?_) rfl (by kernel_rfl) (fun _ _ _ h=>h) (Or.inl ⟨by kernel_rfl,?_⟩) (by assumption) ?_
 rotate_left
 ·intro w' hSw
  try dsimp only at hSw
  obtain ⟨q1,q2,q3,q4⟩:=hSw;go_simp
  try with_reducible rfl
 try simp only [Act.put,SL]
 refine zap (i:=2) (oi:=_) (v:=?_) rfl (by kernel_rfl) (fun _ _ _ h=>h) (Or.inl ⟨by kernel_rfl,?_⟩) (by assumption) ?_
 rotate_left
 ·intro w' hSw
  try dsimp only at hSw
  obtain ⟨q1,q2,q3,q4⟩:=hSw;go_simp
  try with_reducible rfl
 try simp only [Act.put,SL]
 refine zap (i:=3) (oi:=_) (v:=?_) rfl (by kernel_rfl) (fun _ _ _ h=>h) (Or.inl ⟨by kernel_rfl,?_⟩) (by assumption) ?_
 rotate_left
 ·intro w' hSw
  try dsimp only at hSw
  obtain ⟨q1,q2,q3,q4⟩:=hSw;go_simp
  try with_reducible rfl
 try simp only [Act.put,SL]
 refine zap (i:=4) (oi:=_) (v:=?_) rfl (by kernel_rfl) (fun _ _ _ h=>h) (Or.inl ⟨by kernel_rfl,?_⟩) (by assumption) ?_
 rotate_left
 ·intro w' hSw
  try dsimp only at hSw
  obtain ⟨q1,q2,q3,q4⟩:=hSw;go_simp
  try with_reducible rfl
 try simp only [Act.put,SL]
 refine zap (i:=5) (oi:=_) (v:=?_) rfl (by kernel_rfl) (fun _ _ _ h=>h) (Or.inl ⟨by kernel_rfl,?_⟩) (by assumption) ?_
 rotate_left
 ·intro w' hSw
  try dsimp only at hSw
  obtain ⟨q1,q2,q3,q4⟩:=hSw;go_simp
  try with_reducible rfl
 try simp only [Act.put,SL]
 refine zap (i:=6) (oi:=_) (v:=?_) rfl (by kernel_rfl) (fun _ _ _ h=>h) (Or.inl ⟨by kernel_rfl,?_⟩) (by assumption) ?_
 rotate_left
 ·intro w' hSw
  try dsimp only at hSw
  obtain ⟨q1,q2,q3,q4⟩:=hSw;go_simp
  try with_reducible rfl
 try simp only [Act.put,SL]
 refine zap (i:=7) (oi:=_) (v:=?_) rfl (by kernel_rfl) (fun _ _ _ h=>h) (Or.inl ⟨by kernel_rfl,?_⟩) (by assumption) ?_
 rotate_left
 ·intro w' hSw
  try dsimp only at hSw
  obtain ⟨q1,q2,q3,q4⟩:=hSw;go_simp
  try with_reducible rfl
 try simp only [Act.put,SL]
 refine zap (i:=9) (oi:=_) (v:=?_) rfl (by kernel_rfl) (fun _ _ _ h=>h) (Or.inl ⟨by kernel_rfl,?_⟩) (by assumption) ?_
 rotate_left
 ·intro w' hSw
  try dsimp only at hSw
  obtain ⟨q1,q2,q3,q4⟩:=hSw;go_simp
  try with_reducible rfl
 try simp only [Act.put,SL]
 refine zbt (i:=8) (o:=_) rfl (by kernel_rfl) (fun KC hKC=>?_);refine zcM (by kernel_rfl) (.func 119) 119 #[] _ _ rfl (by simp [Act.eval,Act.put]) #[.int .i64 (D:Int),.int .i64 (S:Int),.slice ao7 (4*D) cap7] (by simp [Act.eval,Act.put]) Tryz.func119 (by kernel_rfl) (by kernel_rfl) CB ?_;rintro e w5 ⟨v5,rfl,⟨g5,p5,h5,C5,F5⟩,b5⟩;refine ⟨_,rfl,?_⟩;have HT5:=hid (HTD.out.call b5);have e3:w5.cell? ⟨w.heap.size+1+1,1,none⟩=some (.int .i64 mv.seq):=HT5.out.b3.cell 1
 have e7:w5.cell? ⟨w.heap.size+1+1,7,none⟩=some (.slice ao7 (4*D) cap7):=by have:=HT5.out.b3.cell 7;rw [HDL.out] at this;exact this
 have f2:w5.cell? ⟨w.heap.size,2,none⟩=some (.int .i64 (D:Int)):=by have:=HT5.out.b1.cell 2;rw [HD.out] at this;exact this
 have f3:w5.cell? ⟨w.heap.size,3,none⟩=some (.int .i64 (S:Int)):=by have:=HT5.out.b1.cell 3;rw [HS3.out] at this;exact this
 have hS5:w5.cell? ⟨w.heap.size+1+1,1,none⟩=some (.int .i64 mv.seq)∧w5.cell? ⟨w.heap.size+1+1,7,none⟩=some (.slice ao7 (4*D) cap7)∧w5.cell? ⟨w.heap.size,2,none⟩=some (.int .i64 (D:Int))∧w5.cell? ⟨w.heap.size,3,none⟩=some (.int .i64 (S:Int)):=⟨e3,e7,f2,f3⟩;refine hKC _ _ hS5 ?_;clear hKC KC
 try simp only [Act.put,SL]
 have hv5:=F5.val;subst hv5;have y5:w5.cell? ⟨g5,k,none⟩=some (.slice (some ⟨h5,4*k,none⟩) 4 4):=F5.cell k hkn;have HF5:=hid F5;clear F5 CB;refine zap (i:=10) (oi:=_) (v:=?_) rfl (by kernel_rfl) (fun _ _ _ h=>h) (Or.inl ⟨by kernel_rfl,?_⟩) (by assumption) ?_
 rotate_left
 ·intro w' hSw
  try dsimp only at hSw
  obtain ⟨q1,q2,q3,q4⟩:=hSw;go_simp
  try with_reducible rfl
 try simp only [Act.put,SL]
 refine zbt (i:=11) (o:=_) rfl (by kernel_rfl) (fun KC hKC=>?_);rw [if_pos (by kernel_rfl)];go_simp;refine hKC _ _ hS5 ?_;clear hKC KC
 try simp only [Act.put,SL]
 refine zap (i:=12) (oi:=_) (v:=?_) rfl (by kernel_rfl) (fun _ _ _ h=>h) (Or.inl ⟨by kernel_rfl,?_⟩) (by assumption) ?_
 rotate_left
 ·intro w' hSw
  try dsimp only at hSw
  obtain ⟨q1,q2,q3,q4⟩:=hSw;go_simp
  try with_reducible rfl
 try simp only [Act.put,SL]
 refine zbt (i:=13) (o:=_) rfl (by kernel_rfl) (fun KC hKC=>?_);refine zcE 99 _ _ rfl rfl (w.heap.size+1+1+1) (by simp [Act.eval,Act.put]) (cs:=[.int .i64 mv.seq,.slice (some ⟨h5,4*k,none⟩) 4 4]) (old:=[.int .i64 0,.slice none 0 0]) (by simp [Act.eval,Act.put]) (HT5.out.b4) zdD rfl rfl (fun v hv=>by simp at hv;rcases hv with rfl | rfl<;>rfl) ?_;intro w9 X9 C9 z9;have hk9:∀ b j v,b<w.heap.size+1+1+1→w5.cell? ⟨b,j,none⟩=some v→w9.cell? ⟨b,j,none⟩=some v:=fun b j v hb h=>(World.cell?_of_block (a:=⟨b,j,none⟩) (C9.block b (by have:=HT5.out.b4.lt;omega) (by simp;omega))).trans h;refine hKC _ _ ⟨hk9 _ _ _ (by omega) e3,hk9 _ _ _ (by omega) e7,hk9 _ _ _ (by omega) f2,hk9 _ _ _ (by omega) f3⟩ ?_;clear hKC KC
 try simp only [Act.put,SL]
 refine zb6 (by kernel_rfl) ?_ _;go_wp2;refine zbh Tryz.results82 rfl X9 Tryz.underlying99 zdD rfl rfl ?_;have l5:=HF5.out.blocks;have w5z:=HF5.out.hlow;have hwd:w1.drew.heap.size=w1.heap.size:=rfl
 exact ⟨h5,4*k,4,rfl,by omega,by omega,fun t ht=>by
  rw [HMV.out]
  exact (World.cell?_of_block (C9.block h5 l5.2 (by simp;omega))).trans (HF5.out.at k t hkn ht),HT5.out.bel.trans (C9.bel (fun b hb=>by simp at hb;omega) HT5.out.bel.size)⟩
theorem zjT {w:World} {lo lo' hi n cap g:Nat} {f:Nat→Nat} (h:Own w lo hi (.slice (some ⟨g,0,none⟩) n cap) n f) (hl:lo'≤g):Own w lo' hi (.slice (some ⟨g,0,none⟩) n cap) n f:=by
 refine ⟨⟨h.1.1,?_⟩,h.2⟩
 rcases h.1.2 with ⟨e,_⟩ | ⟨g',c',cur,e,_,rest⟩
 ·cases e
 ·cases e
  exact .inr ⟨g,_,cur,rfl,hl,rest⟩
theorem zeh {w:World} {lo hi n:Nat} {v:Value} {f:Nat→Nat} (h:Own w lo hi v n f) (h0:n≠0):∃ g cap,v=.slice (some ⟨g,0,none⟩) n cap∧lo≤g∧g<hi:=by
 rcases h.1.2 with ⟨_,e⟩ | ⟨g,cap,cur,e,hl,rest⟩
 ·exact absurd e h0
 ·subst e
  exact ⟨g,cap,rfl,hl,h.2 g rfl⟩
set_option maxRecDepth 100000 in
theorem zkR (s:Nat→Int) (hok:zar s) (G k:Nat) (was:BlockD) (mv:RecD) (wo:Option Addr) (wc:Nat) (ao6 ao7 ao8:Option Addr) (cap6 cap7 cap8:Nat) (hi:Nat) (w:World) (hhi:hi≤w.heap.size) (hr:zae.rd w hi mv [.int .i64 mv.kind,.int .i64 mv.seq,.string mv.name,.int .i64 mv.length,.int .i64 mv.group,.int .i64 mv.row,.slice ao6 mv.rows.1 cap6,.slice ao7 mv.data.1 cap7,.slice ao8 mv.delta.1 cap8]) (hb:zaf.rd w hi was [.int .i64 was.stamp,.slice wo was.bytes.1 wc]) (hG:s 0≤(G:Int)) (hG2:(G:Int)<s 0+s 1) (hk:(k:Int)<s 2+s 3) (hd:mv.delta.1=4*(s 2).toNat) (hw4:was.bytes.1=4) (hgr:InP mv.group 0 (s 0-1)) :
 Calls Tryz.prog 82 #[zak s,.int .i64 (G:Int),.int .i64 (k:Int),.agg #[.int .i64 was.stamp,.slice wo was.bytes.1 wc],.agg #[.int .i64 mv.kind,.int .i64 mv.seq,.string mv.name,.int .i64 mv.length,.int .i64 mv.group,.int .i64 mv.row,.slice ao6 mv.rows.1 cap6,.slice ao7 mv.data.1 cap7,.slice ao8 mv.delta.1 cap8]] w fun e w'=>∃ g off cp,e=.returned (.agg #[.int .i64 mv.seq,.slice (some ⟨g,off,none⟩) 4 cp])∧w.heap.size≤g∧g<w'.heap.size∧(∀ t,t<4→w'.cell? ⟨g,off+t,none⟩=some (.int .u8 (movN s G k was mv t)))∧Below w.heap.size w w':=by
 have hsb:=okB hok;have HOK:=hid hok;obtain ⟨x6,y6,x7,y7,x8,y8,e9,r6,r7,r8,-⟩:=za5 hr;have T0:=zeQ w #[.int .i64 (s 0),.int .i64 (s 1),.int .i64 (s 2),.int .i64 (s 3),.int .i64 (s 4),.int .i64 (s 5),.int .i64 (s 6),.int .i64 (s 7),.int .i64 (s 8)] #[.int .i64 was.stamp,.slice wo was.bytes.1 wc] #[.int .i64 mv.kind,.int .i64 mv.seq,.string mv.name,.int .i64 mv.length,.int .i64 mv.group,.int .i64 mv.row,.slice ao6 mv.rows.1 cap6,.slice ao7 mv.data.1 cap7,.slice ao8 mv.delta.1 cap8] #[.int .i64 0,.slice none 0 0] 34 99 43 99;have CI:=zcn (x:=(G:Int)) (t:=false) hok (by unfold InP;simp;omega) ((((w.alloc (.cells #[.int .i64 (s 0),.int .i64 (s 1),.int .i64 (s 2),.int .i64 (s 3),.int .i64 (s 4),.int .i64 (s 5),.int .i64 (s 6),.int .i64 (s 7),.int .i64 (s 8)] 34)).alloc (.cells #[.int .i64 was.stamp,.slice wo was.bytes.1 wc] 99)).alloc (.cells #[.int .i64 mv.kind,.int .i64 mv.seq,.string mv.name,.int .i64 mv.length,.int .i64 mv.group,.int .i64 mv.row,.slice ao6 mv.rows.1 cap6,.slice ao7 mv.data.1 cap7,.slice ao8 mv.delta.1 cap8] 43)).alloc (.cells #[.int .i64 0,.slice none 0 0] 99))
 unfold zak at *
 obtain ⟨D,hD⟩:∃ D:Nat,s 2=(D:Int):=⟨(s 2).toNat,by omega⟩;obtain ⟨S,hS⟩:∃ S:Nat,s 3=(S:Int):=⟨(s 3).toNat,by omega⟩;have HD:=hid hD;have HS3:=hid hS
 have eD:(s 2).toNat=D:=by omega
 have hs8:(Value.slice ao8 mv.delta.1 cap8)=.slice x8 mv.delta.1 y8:=by
  have:=congrArg (fun l=>l[8]?) e9
  simpa using this
 have r8':zad.rd w hi mv.delta [.slice ao8 mv.delta.1 cap8]:=by rw [hs8];exact r8
 obtain ⟨RD8,KD8⟩:=zdF r8';rw [eD] at hd;rw [hd] at RD8;have HDL:=hid hd;have HRD8:=hid RD8;have HKD8:=hid KD8;obtain ⟨xo,xc,eb,rb,-⟩:=za6 hb
 have hsb1:(Value.slice wo was.bytes.1 wc)=.slice xo was.bytes.1 xc:=by
  have:=congrArg (fun l=>l[1]?) eb
  simpa using this
 have HRB:Hid (zad.rd w hi was.bytes [.slice wo was.bytes.1 wc]):=by rw [hsb1];exact rb
 have HW4:=hid hw4;obtain ⟨F,hF⟩:∃ F,F=facN s G mv.group:=⟨_,rfl⟩
 have hF256:F<256:=by rw [hF];exact zcr 254
 have HMV:Hid (∀ t,movN s G k was mv t=was.bytes.2 t ^^^ mulN F (encN D mv.delta.2 k t)):=fun t=>by
  unfold movN;rw [if_neg (by omega),eD,hF]
 have hsub:IntKind.i64.wrap ((G:Int)-s 0)=(G:Int)-s 0:=by rw [IntKind.wrap_i64];omega
 have hFP:FacP (s 0) (s 1) mv.group ((G:Int)-s 0):=⟨hok.1,hgr,by omega,by omega⟩
 have HFE:Hid (((powN ((128+(8+((G:Int)-s 0).toNat)) ^^^ mv.group.toNat) 254:Nat):Int)=(F:Int)):=by
  show ((powN ((128+(8+((G:Int)-s 0).toNat)) ^^^ mv.group.toNat) 254:Nat):Int)=(F:Int)
  rw [hF];unfold facN;rw [show ((G:Int)-s 0).toNat=G-(s 0).toNat by omega]
 have CFO:=fun w'=>zfz (s 0) (s 1) mv.group ((G:Int)-s 0) w';have x_0:((((w.alloc (.cells #[.int .i64 (s 0),.int .i64 (s 1),.int .i64 (s 2),.int .i64 (s 3),.int .i64 (s 4),.int .i64 (s 5),.int .i64 (s 6),.int .i64 (s 7),.int .i64 (s 8)] 34)).alloc (.cells #[.int .i64 was.stamp,.slice wo was.bytes.1 wc] 99)).alloc (.cells #[.int .i64 mv.kind,.int .i64 mv.seq,.string mv.name,.int .i64 mv.length,.int .i64 mv.group,.int .i64 mv.row,.slice ao6 mv.rows.1 cap6,.slice ao7 mv.data.1 cap7,.slice ao8 mv.delta.1 cap8] 43)).alloc (.cells #[.int .i64 0,.slice none 0 0] 99)).cell? ⟨w.heap.size,0,none⟩=some (.int .i64 (s 0)):=T0.b1.cell 0;have x_1:((((w.alloc (.cells #[.int .i64 (s 0),.int .i64 (s 1),.int .i64 (s 2),.int .i64 (s 3),.int .i64 (s 4),.int .i64 (s 5),.int .i64 (s 6),.int .i64 (s 7),.int .i64 (s 8)] 34)).alloc (.cells #[.int .i64 was.stamp,.slice wo was.bytes.1 wc] 99)).alloc (.cells #[.int .i64 mv.kind,.int .i64 mv.seq,.string mv.name,.int .i64 mv.length,.int .i64 mv.group,.int .i64 mv.row,.slice ao6 mv.rows.1 cap6,.slice ao7 mv.data.1 cap7,.slice ao8 mv.delta.1 cap8] 43)).alloc (.cells #[.int .i64 0,.slice none 0 0] 99)).cell? ⟨w.heap.size,1,none⟩=some (.int .i64 (s 1)):=T0.b1.cell 1;have x_2:((((w.alloc (.cells #[.int .i64 (s 0),.int .i64 (s 1),.int .i64 (s 2),.int .i64 (s 3),.int .i64 (s 4),.int .i64 (s 5),.int .i64 (s 6),.int .i64 (s 7),.int .i64 (s 8)] 34)).alloc (.cells #[.int .i64 was.stamp,.slice wo was.bytes.1 wc] 99)).alloc (.cells #[.int .i64 mv.kind,.int .i64 mv.seq,.string mv.name,.int .i64 mv.length,.int .i64 mv.group,.int .i64 mv.row,.slice ao6 mv.rows.1 cap6,.slice ao7 mv.data.1 cap7,.slice ao8 mv.delta.1 cap8] 43)).alloc (.cells #[.int .i64 0,.slice none 0 0] 99)).cell? ⟨w.heap.size,2,none⟩=some (.int .i64 (s 2)):=T0.b1.cell 2;have x_3:((((w.alloc (.cells #[.int .i64 (s 0),.int .i64 (s 1),.int .i64 (s 2),.int .i64 (s 3),.int .i64 (s 4),.int .i64 (s 5),.int .i64 (s 6),.int .i64 (s 7),.int .i64 (s 8)] 34)).alloc (.cells #[.int .i64 was.stamp,.slice wo was.bytes.1 wc] 99)).alloc (.cells #[.int .i64 mv.kind,.int .i64 mv.seq,.string mv.name,.int .i64 mv.length,.int .i64 mv.group,.int .i64 mv.row,.slice ao6 mv.rows.1 cap6,.slice ao7 mv.data.1 cap7,.slice ao8 mv.delta.1 cap8] 43)).alloc (.cells #[.int .i64 0,.slice none 0 0] 99)).cell? ⟨w.heap.size,3,none⟩=some (.int .i64 (s 3)):=T0.b1.cell 3;have x_4:((((w.alloc (.cells #[.int .i64 (s 0),.int .i64 (s 1),.int .i64 (s 2),.int .i64 (s 3),.int .i64 (s 4),.int .i64 (s 5),.int .i64 (s 6),.int .i64 (s 7),.int .i64 (s 8)] 34)).alloc (.cells #[.int .i64 was.stamp,.slice wo was.bytes.1 wc] 99)).alloc (.cells #[.int .i64 mv.kind,.int .i64 mv.seq,.string mv.name,.int .i64 mv.length,.int .i64 mv.group,.int .i64 mv.row,.slice ao6 mv.rows.1 cap6,.slice ao7 mv.data.1 cap7,.slice ao8 mv.delta.1 cap8] 43)).alloc (.cells #[.int .i64 0,.slice none 0 0] 99)).cell? ⟨w.heap.size,4,none⟩=some (.int .i64 (s 4)):=T0.b1.cell 4
 have x_5:((((w.alloc (.cells #[.int .i64 (s 0),.int .i64 (s 1),.int .i64 (s 2),.int .i64 (s 3),.int .i64 (s 4),.int .i64 (s 5),.int .i64 (s 6),.int .i64 (s 7),.int .i64 (s 8)] 34)).alloc (.cells #[.int .i64 was.stamp,.slice wo was.bytes.1 wc] 99)).alloc (.cells #[.int .i64 mv.kind,.int .i64 mv.seq,.string mv.name,.int .i64 mv.length,.int .i64 mv.group,.int .i64 mv.row,.slice ao6 mv.rows.1 cap6,.slice ao7 mv.data.1 cap7,.slice ao8 mv.delta.1 cap8] 43)).alloc (.cells #[.int .i64 0,.slice none 0 0] 99)).cell? ⟨w.heap.size,5,none⟩=some (.int .i64 (s 5)):=T0.b1.cell 5;have x_6:((((w.alloc (.cells #[.int .i64 (s 0),.int .i64 (s 1),.int .i64 (s 2),.int .i64 (s 3),.int .i64 (s 4),.int .i64 (s 5),.int .i64 (s 6),.int .i64 (s 7),.int .i64 (s 8)] 34)).alloc (.cells #[.int .i64 was.stamp,.slice wo was.bytes.1 wc] 99)).alloc (.cells #[.int .i64 mv.kind,.int .i64 mv.seq,.string mv.name,.int .i64 mv.length,.int .i64 mv.group,.int .i64 mv.row,.slice ao6 mv.rows.1 cap6,.slice ao7 mv.data.1 cap7,.slice ao8 mv.delta.1 cap8] 43)).alloc (.cells #[.int .i64 0,.slice none 0 0] 99)).cell? ⟨w.heap.size,6,none⟩=some (.int .i64 (s 6)):=T0.b1.cell 6;have x_7:((((w.alloc (.cells #[.int .i64 (s 0),.int .i64 (s 1),.int .i64 (s 2),.int .i64 (s 3),.int .i64 (s 4),.int .i64 (s 5),.int .i64 (s 6),.int .i64 (s 7),.int .i64 (s 8)] 34)).alloc (.cells #[.int .i64 was.stamp,.slice wo was.bytes.1 wc] 99)).alloc (.cells #[.int .i64 mv.kind,.int .i64 mv.seq,.string mv.name,.int .i64 mv.length,.int .i64 mv.group,.int .i64 mv.row,.slice ao6 mv.rows.1 cap6,.slice ao7 mv.data.1 cap7,.slice ao8 mv.delta.1 cap8] 43)).alloc (.cells #[.int .i64 0,.slice none 0 0] 99)).cell? ⟨w.heap.size,7,none⟩=some (.int .i64 (s 7)):=T0.b1.cell 7;have x_8:((((w.alloc (.cells #[.int .i64 (s 0),.int .i64 (s 1),.int .i64 (s 2),.int .i64 (s 3),.int .i64 (s 4),.int .i64 (s 5),.int .i64 (s 6),.int .i64 (s 7),.int .i64 (s 8)] 34)).alloc (.cells #[.int .i64 was.stamp,.slice wo was.bytes.1 wc] 99)).alloc (.cells #[.int .i64 mv.kind,.int .i64 mv.seq,.string mv.name,.int .i64 mv.length,.int .i64 mv.group,.int .i64 mv.row,.slice ao6 mv.rows.1 cap6,.slice ao7 mv.data.1 cap7,.slice ao8 mv.delta.1 cap8] 43)).alloc (.cells #[.int .i64 0,.slice none 0 0] 99)).cell? ⟨w.heap.size,8,none⟩=some (.int .i64 (s 8)):=T0.b1.cell 8
 have hDb:1≤D∧D≤3∧S≤2:=by omega
 have hkn:k<D+S:=by omega
 clear hr hb e9 r6 r7 r8 r8' RD8 KD8 hok hs8 eb rb hsb1 hF hw4 eD hD hS hd
 go_enter Tryz.func82,Tryz.ntmps82
 go_wp2_with fail
 refine CI.mono ?_;rintro e w1 ⟨rfl,b1⟩;have HT1:=hid (T0.call b1);have u0:w1.cell? ⟨w.heap.size,0,none⟩=some (.int .i64 (s 0)):=HT1.out.b1.cell 0;have u1:w1.cell? ⟨w.heap.size,1,none⟩=some (.int .i64 (s 1)):=HT1.out.b1.cell 1;have u4:w1.cell? ⟨w.heap.size+1+1,4,none⟩=some (.int .i64 mv.group):=HT1.out.b3.cell 4;clear CI b1 T0 x_0 x_1 x_2 x_3 x_4 x_5 x_6 x_7 x_8
 go_wp2_with fail
 refine (CFO w1).mono ?_;rintro e w2 ⟨fx,fv,rfl,hfa,b2⟩
 obtain ⟨rfl,rfl⟩:fx=0∧fv=(F:Int):=by
  rcases hfa with ⟨_,_,h⟩ | ⟨h1,_,h2⟩
  ·exact absurd hFP h
  ·exact ⟨h1,h2.trans HFE.out⟩
 have HT2:=hid (HT1.out.call b2)
 have hfld:∀ w',(Instr.field 158 (.agg #[.int .i64 0,.int .i64 (F:Int)]) 1).run Tryz.prog w'=.ok (.int .i64 (F:Int)) w':=fun w'=>by kernel_rfl
 have v1:w2.cell? ⟨w.heap.size+1,1,none⟩=some (.slice wo was.bytes.1 wc):=HT2.out.b2.cell 1;have CC:=zcC (.slice wo was.bytes.1 wc) was.bytes hi w2 (zad.rd_below HRB.out HT2.out.bel hhi) (Nat.le_trans hhi HT2.out.bel.size) (by show was.bytes.1≤1048576;have:=HW4.out;omega);clear b2 hfa u0 u1 u4 CFO
 try unfold intR
 go_wp2_with fail
 refine CC.mono ?_;rintro e w3 ⟨v3,rfl,O3,b3⟩;have HT3:=hid (HT2.out.call b3);obtain ⟨K3,o3,-,in3⟩:=O3;obtain ⟨v3',e3,eK,O3',kf3⟩:=o3
 obtain rfl:v3'=v3:=by simpa using e3.symm
 rw [HW4.out] at O3';obtain ⟨g3,c3,hv3,-,hg3⟩:=zeh O3' (by decide);subst hv3;have hg3l:w2.heap.size≤g3:=(in3 g3 (by rw [eK];simp [Value.ownBlock])).1;have HO3:=hid (zjT O3' hg3l);have HKF3:=hid kf3;have z3:w2.heap.size≤w3.heap.size:=b3.size
 have d2:w3.cell? ⟨w.heap.size,2,none⟩=some (.int .i64 (D:Int)):=by have:=HT3.out.b1.cell 2;rw [HD.out] at this;exact this
 have d3:w3.cell? ⟨w.heap.size,3,none⟩=some (.int .i64 (S:Int)):=by have:=HT3.out.b1.cell 3;rw [HS3.out] at this;exact this
 have d8:w3.cell? ⟨w.heap.size+1+1,8,none⟩=some (.slice ao8 (4*D) cap8):=by have:=HT3.out.b3.cell 8;rw [HDL.out] at this;exact this
 have CBk:=zeH D S (by omega) (by omega) (by omega) (.slice ao8 (4*D) cap8) mv.delta.2 hi w3 (HRD8.out.below HT3.out.bel hhi) (Nat.le_trans hhi HT3.out.bel.size) HKD8.out;clear CC b3 O3' e3 eK in3 kf3 v1 hfld
 go_wp2_with fail
 refine CBk.mono ?_;rintro e w5 ⟨v5,rfl,⟨g5,p5,h5,C5,F5⟩,b5⟩;have HT5:=hid (HT3.out.call b5);have hv5:=F5.val;subst hv5;have y5:w5.cell? ⟨g5,k,none⟩=some (.slice (some ⟨h5,4*k,none⟩) 4 4):=F5.cell k hkn;have HF5:=hid F5;have l5:=F5.blocks;have hlo5:=F5.hlow;have z5:w3.heap.size≤w5.heap.size:=b5.size;have HO5:=hid (HO3.out.below b5 (Nat.le_refl _))
 have i1:(0:Int)≤(k:Int):=by omega
 have i2:(k:Int)<((D+S:Nat):Int):=by omega
 have i3:(k:Int)<(D:Int)+(S:Int):=by omega
 have wu:IntKind.u8.wrap (F:Int)=(F:Int):=by rw [show IntKind.u8.wrap (F:Int)=(F:Int)%256 from rfl];omega
 have CA:=zfs g3 c3 4 was.bytes.2 (encN D mv.delta.2 k) (movN s G k was mv) F w2.heap.size w3.heap.size h5 (4*k) 4 w5 HO5.out z5 l5.2 (.inr hlo5) (fun t ht=>HF5.out.at k t hkn ht) hg3l hg3 HKF3.out (fun t=>zdC HKD8.out k t) hF256 (fun t _=>HMV.out t) (by decide);clear CBk b5 F5 d2 d3 d8
 go_wp2_with fail
 refine CA.mono ?_;rintro e w6 ⟨rfl,O6,c6⟩;have HO6:=hid O6;have z2:w.heap.size+1+1+1<w2.heap.size:=HT2.out.b4.lt;have bC6:Below w2.heap.size w5 w6:=⟨c6.os,c6.tape,c6.output,c6.size,fun b hb=>c6.block b (by omega) (.inl hb)⟩;have T6b3:Box w6 (w.heap.size+1+1) #[.int .i64 mv.kind,.int .i64 mv.seq,.string mv.name,.int .i64 mv.length,.int .i64 mv.group,.int .i64 mv.row,.slice ao6 mv.rows.1 cap6,.slice ao7 mv.data.1 cap7,.slice ao8 mv.delta.1 cap8] 43:=HT5.out.b3.below bC6 (by omega);have T6b4:Box w6 (w.heap.size+1+1+1) #[.int .i64 0,.slice none 0 0] 99:=HT5.out.b4.below bC6 (by omega);have HB6:Hid (Below w.heap.size w w6):=HT5.out.bel.trans (bC6.mono (by omega));have r1:w6.cell? ⟨w.heap.size+1+1,1,none⟩=some (.int .i64 mv.seq):=T6b3.cell 1;clear CA O6 c6 y5 bC6
 go_wp2_with (refine zaF 99 _ _ rfl rfl (w.heap.size+1+1+1) rfl (cs:=[.int .i64 mv.seq,.slice (some ⟨g3,0,none⟩) 4 c3]) rfl T6b4 zdD rfl rfl (fun v hv=>by simp at hv;rcases hv with rfl | rfl<;>rfl) ?_;intro w9 X9 C9 z9)
 refine zbh Tryz.results82 rfl X9 Tryz.underlying99 zdD rfl rfl ?_;have zz:=C9.size;have hgl:g3<w6.heap.size:=(HO6.out.1.lt g3 rfl).2
 exact ⟨g3,0,c3,rfl,by omega,by omega,fun t ht=>by
  have h9:w6.cell? ⟨g3,t,none⟩=some (.int .u8 (movN s G k was mv t)):=by
   have h8:=HO6.out.1.cellAt t (by omega);rw [h8,zas _ _ _ ht]
  rw [Nat.zero_add]
  exact (World.cell?_of_block (C9.block g3 hgl (by simp;omega))).trans h9,HB6.out.trans (C9.bel (fun b hb=>by simp at hb;omega) HB6.out.size)⟩
def zbG (d:WorldD) (G k:Nat) (mv:RecD):Prop:=(((d.groups.2 G).2 k)).wiped=false∧((((d.groups.2 G).2 k)).blocks.2 mv.row.toNat).stamp<mv.seq
instance (d:WorldD) (G k:Nat) (mv:RecD):Decidable (zbG d G k mv):=by unfold zbG;infer_instance
def zao (s:Nat→Int) (G:Nat) (mv:RecD) (k:Nat) (d:WorldD):Outc:=
 if zbG d G k mv then rawO (fun d=>zch d G k mv.row.toNat (movB s G k ((((d.groups.2 G).2 k)).blocks.2 mv.row.toNat) mv)) d else .done 0 d
def zcj (s:Nat→Int) (G n:Nat) (mv:RecD) (d:WorldD):Outc:=runO (zao s G mv) n 0 d
structure MvOk (s:Nat→Int) (n G:Nat) (mv:RecD):Prop where
 ok:zar s
 all:(G:Int)<s 0+s 1
 num:(n:Int)=s 2+s 3
 row:0≤mv.row
 grp:InP mv.group 0 (s 0-1)
 dat:(G:Int)<s 0→mv.data.1=4*(s 2).toNat
 dlt:s 0≤(G:Int)→mv.delta.1=4*(s 2).toNat
structure FitR (s:Nat→Int) (n G:Nat) (mv:RecD) (d:WorldD):Prop where
 shape:d.shape=s
 grp:G<d.groups.1
 num:(d.groups.2 G).1=n
 row:∀ k,k<n→mv.row.toNat<(((d.groups.2 G).2 k)).blocks.1
 four:∀ k,k<n→((((d.groups.2 G).2 k)).blocks.2 mv.row.toNat).bytes.1=4
 low:-9223372036854775808≤d.writes
theorem FitR.write {s:Nat→Int} {n G:Nat} {mv:RecD} {d:WorldD} (h:FitR s n G mv d) (k:Nat) (b:BlockD) (hb:b.bytes.1=4):FitR s n G mv { zch d G k mv.row.toNat b with writes:=d.writes+1 }:=by
 have e:∀ j,((upd (d.groups.2 G).2 k (zbf ((d.groups.2 G).2 k) mv.row.toNat b)) j).blocks.1=((d.groups.2 G).2 j).blocks.1:=fun j=>by
  by_cases c:j=k
  ·subst c;rw [zaH];rfl
  ·rw [zaN _ _ c]
 have e0:(upd d.groups.2 G ((d.groups.2 G).1,upd (d.groups.2 G).2 k (zbf ((d.groups.2 G).2 k) mv.row.toNat b))) G=((d.groups.2 G).1,upd (d.groups.2 G).2 k (zbf ((d.groups.2 G).2 k) mv.row.toNat b)):=zaH ..;refine ⟨h.shape,h.grp,?_,fun j hj=>?_,fun j hj=>?_,by show _≤d.writes+1;have:=h.low;omega⟩
 ·show ((upd d.groups.2 G ((d.groups.2 G).1,upd (d.groups.2 G).2 k (zbf ((d.groups.2 G).2 k) mv.row.toNat b))) G).1=n
  rw [e0];exact h.num
 ·show _<(((upd d.groups.2 G ((d.groups.2 G).1,upd (d.groups.2 G).2 k (zbf ((d.groups.2 G).2 k) mv.row.toNat b))) G).2 j).blocks.1
  rw [e0];show _<((upd (d.groups.2 G).2 k (zbf ((d.groups.2 G).2 k) mv.row.toNat b)) j).blocks.1
  rw [e j];exact h.row j hj
 ·show ((((upd d.groups.2 G ((d.groups.2 G).1,upd (d.groups.2 G).2 k (zbf ((d.groups.2 G).2 k) mv.row.toNat b))) G).2 j).blocks.2 mv.row.toNat).bytes.1=4
  rw [e0];show (((upd (d.groups.2 G).2 k (zbf ((d.groups.2 G).2 k) mv.row.toNat b)) j).blocks.2 mv.row.toNat).bytes.1=4
  by_cases c:j=k
  ·subst c
   rw [zaH]
   show ((upd _ mv.row.toNat b) mv.row.toNat).bytes.1=4
   rw [zaH];exact hb
  ·rw [zaN _ _ c];exact h.four j hj
theorem zis {s:Nat→Int} {G k:Nat} {was:BlockD} {mv:RecD} (hd:∀ i,mv.data.2 i<256) (hl:∀ i,mv.delta.2 i<256) (hw:∀ i,was.bytes.2 i<256) (t:Nat):movN s G k was mv t<256:=by
 unfold movN
 split
 ·exact zdC hd k t
 ·exact Nat.xor_lt_two_pow (n:=8) (hw t) (zb4 (zcr 254))
structure GrpO (w:World) (E:Nat) (d:WorldD) (cs:List Value) (G g1 c1 gg cap:Nat):Prop where
 nine:cs[9]?=some (.slice (some ⟨g1,0,none⟩) d.groups.1 c1)
 l1:g1<w.heap.size
 ne:g1≠E
 row:w.cell? ⟨g1,G,none⟩=some (.slice (some ⟨gg,0,none⟩) (d.groups.2 G).1 cap)
 lg:gg<w.heap.size
 each:∀ k,k<(d.groups.2 G).1→∀ R,R<(((d.groups.2 G).2 k)).blocks.1→∃ gb cap9 ao ca,gb<w.heap.size∧w.cell? ⟨gg,k*2,none⟩=some (.bool (((d.groups.2 G).2 k)).wiped)∧w.cell? ⟨gg,k*2+1,none⟩=some (.slice (some ⟨gb,0,none⟩) (((d.groups.2 G).2 k)).blocks.1 cap9)∧w.cell? ⟨gb,R*2,none⟩=some (.int .i64 ((((d.groups.2 G).2 k)).blocks.2 R).stamp)∧w.cell? ⟨gb,R*2+1,none⟩=some (.slice ao ((((d.groups.2 G).2 k)).blocks.2 R).bytes.1 ca)∧zaf.rd w w.heap.size ((((d.groups.2 G).2 k)).blocks.2 R) [.int .i64 ((((d.groups.2 G).2 k)).blocks.2 R).stamp,.slice ao ((((d.groups.2 G).2 k)).blocks.2 R).bytes.1 ca]
theorem zeR {w:World} {E G:Nat} {d:WorldD} {cs:List Value} {K:List Nat} (hO:EncO w E d cs K) (hG:G<d.groups.1) (hn:(d.groups.2 G).1≠0):∃ g1 c1 gg cap,GrpO w E d cs G g1 c1 gg cap:=by
 obtain ⟨p1,c1,p2,c2,p3,c3,K1,K2,K3,rfl,rfl,WO⟩:=hO.open;obtain ⟨g1,cc1,gg,cap,ce,Ls,e1,c0,S2,nd2,in2,in1,ng1,back⟩:=WO.drives2 (Nat.le_refl _) (Nat.zero_le _) hG hn
 simp only [Value.slice.injEq,true_and] at e1
 obtain ⟨rfl,rfl⟩:=e1;refine ⟨g1,c1,gg,cap,rfl,(WO.inn g1 (List.mem_append_left _ in1)).2,fun h=>hO.ne (by rw [← h];exact List.mem_append_left _ in1),c0,S2.lt,fun k hk R hR=>?_⟩;obtain ⟨ao9,cap9,K9,e9,eK9,o9⟩:=zdh (S2.each k hk);obtain ⟨gb,cp9,cb,Lb,eb,eLb,SB⟩:=zbc o9 (by omega)
 simp only [List.cons.injEq,Value.slice.injEq,and_true,true_and] at eb
 obtain ⟨rfl,rfl⟩:=eb;have oR:=SB.each R hR;obtain ⟨a0,ca0,KB,eR,eKB,-⟩:=zcJ oR;refine ⟨gb,cap9,a0,ca0,SB.lt,?_,(S2.cell hk (j:=1) (by decide)).trans (by rw [e9];rfl),?_,(SB.cell hR (j:=1) (by decide)).trans (by rw [eR];rfl),?_⟩
 ·exact (S2.cell hk (j:=0) (by decide)).trans (by rw [e9];rfl)
 ·exact (SB.cell hR (j:=0) (by decide)).trans (by rw [eR];rfl)
 ·rw [← eR]
  exact zaf.own_rd oR (fun b hb=>zaf.own_lt oR b hb)
theorem zkS (s:Nat→Int) (n G k:Nat) (was:BlockD) (mv:RecD) (wo:Option Addr) (wc:Nat) (ao6 ao7 ao8:Option Addr) (cap6 cap7 cap8 hi:Nat) (w:World) (hM:MvOk s n G mv) (hhi:hi≤w.heap.size) (hr:zae.rd w hi mv [.int .i64 mv.kind,.int .i64 mv.seq,.string mv.name,.int .i64 mv.length,.int .i64 mv.group,.int .i64 mv.row,.slice ao6 mv.rows.1 cap6,.slice ao7 mv.data.1 cap7,.slice ao8 mv.delta.1 cap8]) (hb:zaf.rd w hi was [.int .i64 was.stamp,.slice wo was.bytes.1 wc]) (hk:k<n) (hw4:was.bytes.1=4) :
 Calls Tryz.prog 82 #[zak s,.int .i64 (G:Int),.int .i64 (k:Int),.agg #[.int .i64 was.stamp,.slice wo was.bytes.1 wc],.agg #[.int .i64 mv.kind,.int .i64 mv.seq,.string mv.name,.int .i64 mv.length,.int .i64 mv.group,.int .i64 mv.row,.slice ao6 mv.rows.1 cap6,.slice ao7 mv.data.1 cap7,.slice ao8 mv.delta.1 cap8]] w fun e w'=>∃ g off cp,e=.returned (.agg #[.int .i64 mv.seq,.slice (some ⟨g,off,none⟩) 4 cp])∧w.heap.size≤g∧g<w'.heap.size∧(∀ t,t<4→w'.cell? ⟨g,off+t,none⟩=some (.int .u8 (movN s G k was mv t)))∧Below w.heap.size w w':=by
 have hk':(k:Int)<s 2+s 3:=by have:=hM.num;omega
 by_cases c:(G:Int)<s 0
 ·exact zjS s hM.ok G k was mv wo wc ao6 ao7 ao8 cap6 cap7 cap8 hi w hhi hr hb c hk' (hM.dat c)
 ·exact zkR s hM.ok G k was mv wo wc ao6 ao7 ao8 cap6 cap7 cap8 hi w hhi hr hb (by omega) hM.all hk' (hM.dlt (by omega)) hw4 hM.grp
theorem zi4 {w:World} {g off cp:Nat} {q:Int} {f:Nat→Nat} (hg:g<w.heap.size) (hc:∀ t,t<4→w.cell? ⟨g,off+t,none⟩=some (.int .u8 (f t))) (hf:∀ t,f t<256) (hq:-9223372036854775808≤q∧q≤9223372036854775807):zaf.rd w w.heap.size ⟨q,(4,f)⟩ [.int .i64 q,.slice (some ⟨g,off,none⟩) 4 cp]:=by
 refine ⟨[.int .i64 q],[.slice (some ⟨g,off,none⟩) 4 cp],rfl,⟨rfl,hq⟩,⟨_,rfl,?_,hf⟩⟩;exact ⟨some ⟨g,off,none⟩,cp,rfl,by unfold maxLen;simp,fun _=>⟨g,off,rfl,hg,fun t ht=>hc t ht⟩⟩
set_option maxRecDepth 100000 in
theorem zit (d:WorldD) (cs:List Value) (hi tb cb:Nat) (w:World) (h:zab.rd w hi d cs) (hhi:hi≤w.heap.size) (hsz:zaW d≤1048576) (o:Outc) (hcb:Box w cb #[.int .i64 0] 2)
 (HW:∀ (W3:World) (E:Nat) (K:List Nat),Below w.heap.size w W3→w.heap.size≤E→(∀ b,b∈K→w.heap.size≤b)→EncB W3 E d K→Calls Tryz.prog 79 #[.pointer (some ⟨E,0,none⟩),.pointer (some ⟨tb,0,none⟩),.pointer (some ⟨cb,0,none⟩)] W3 (CarP o E cb W3 K)) :
 Calls Tryz.prog 78 #[.agg cs.toArray,.func (.func 79) #[] #[.pointer (some ⟨tb,0,none⟩),.pointer (some ⟨cb,0,none⟩)]] w (PowP o cb w):=by
 obtain ⟨v0,v1,v2,v3,v4,v5,v6,v7,v8,vp0,vl0,vq0,vp1,vl1,vq1,vp2,vl2,vq2,v9,v10,vb,rfl⟩:=zgu h;have hmf:∀ (fn:Fn) (first cap:Array Value) (w:World),(Instr.makeFunc fn first cap).run Tryz.prog w=.ok (.func fn first cap) w:=fun _ _ _ _=>rfl;have hcl:=hcb.lt;have T0:=zaC w #[.int .i64 v0,.int .i64 v1,.int .i64 v2,.int .i64 v3,.int .i64 v4,.int .i64 v5,.int .i64 v6,.int .i64 v7,.int .i64 v8,.slice vp0 vl0 vq0,.slice vp1 vl1 vq1,.slice vp2 vl2 vq2,.int .i64 v9,.int .i64 v10,.bool vb] #[.int .i64 0,.int .i64 0,.int .i64 0,.int .i64 0,.int .i64 0,.int .i64 0,.int .i64 0,.int .i64 0,.int .i64 0,.int .i64 0,.slice none 0 0,.slice none 0 0,.slice none 0 0,.int .i64 0,.int .i64 0,.bool false] 38 40;have CC:=fun w' (hb:Below w.heap.size w w')=>zho [.int .i64 v0,.int .i64 v1,.int .i64 v2,.int .i64 v3,.int .i64 v4,.int .i64 v5,.int .i64 v6,.int .i64 v7,.int .i64 v8,.slice vp0 vl0 vq0,.slice vp1 vl1 vq1,.slice vp2 vl2 vq2,.int .i64 v9,.int .i64 v10,.bool vb] d hi w' (zab.rd_below h hb hhi) (Nat.le_trans hhi hb.size) hsz;clear h
 go_enter_defers Tryz.func78,Tryz.ntmps78
 go_wp2_with (refine zaj 38 (.tmp 2) rfl rfl (w.heap.size) rfl (T0.b1) Tryz.underlying38 zbd rfl ?_)
 refine (CC _ T0.bel).mono ?_;rintro e w2 ⟨c2,rfl,o2,b2⟩;obtain ⟨u0,u1,u2,u3,u4,u5,u6,u7,u8,up0,ul0,uq0,up1,ul1,uq1,up2,ul2,uq2,u9,u10,ub,rfl⟩:=zi0 o2;have T2:=T0.call b2;have z2:w.heap.size+1<w2.heap.size:=T2.b2.lt;have TB:=zaC w2 #[.int .i32 0,.int .u32 0,.int .u32 0,.int .i32 0,.int .u32 0,.int .i64 u0,.int .i64 u1,.int .i64 u2,.int .i64 u3,.int .i64 u4,.int .i64 u5,.int .i64 u6,.int .i64 u7,.int .i64 u8,.slice up0 ul0 uq0,.slice up1 ul1 uq1,.slice up2 ul2 uq2,.int .i64 u9,.int .i64 u10,.bool ub] #[.pointer (some ⟨w2.heap.size,0,none⟩)] 133 117;obtain ⟨K,hk1,hk2,hk3⟩:=o2;have hkz:∀ b,b∈K→w.heap.size≤b∧b<w2.heap.size:=fun b hb=>⟨by have:=hk3 b hb;simp at this;omega,(hk3 b hb).2⟩
 go_upto_region 2 with fail
 obtain ⟨W3,hW3⟩:∃ x,x=(w2.alloc (.cells #[.int .i32 0,.int .u32 0,.int .u32 0,.int .i32 0,.int .u32 0,.int .i64 u0,.int .i64 u1,.int .i64 u2,.int .i64 u3,.int .i64 u4,.int .i64 u5,.int .i64 u6,.int .i64 u7,.int .i64 u8,.slice up0 ul0 uq0,.slice up1 ul1 uq1,.slice up2 ul2 uq2,.int .i64 u9,.int .i64 u10,.bool ub] 133)).alloc (.cells #[.pointer (some ⟨w2.heap.size,0,none⟩)] 117):=⟨_,rfl⟩;rw [← hW3] at TB ⊢;clear hW3;have T3:=T2.call TB.bel;have O3:EncB W3 w2.heap.size d K:=⟨[.int .i64 u0,.int .i64 u1,.int .i64 u2,.int .i64 u3,.int .i64 u4,.int .i64 u5,.int .i64 u6,.int .i64 u7,.int .i64 u8,.slice up0 ul0 uq0,.slice up1 ul1 uq1,.slice up2 ul2 uq2,.int .i64 u9,.int .i64 u10,.bool ub],TB.b1,Lay.own_kept _ hk1 (fun b hb=>TB.bel.block b (hkz b hb).2),hk2,fun hb=>by have:=hkz _ hb;omega⟩;have z3:w2.heap.size+1<W3.heap.size:=TB.b2.lt;have x5:W3.cell? ⟨w2.heap.size+1,0,none⟩=some (.pointer (some ⟨w2.heap.size,0,none⟩)):=TB.b2.cell 0;have CB3:=hcb.below T3.bel hcl;have CF0:=HW W3 w2.heap.size K T3.bel (by omega) (fun b hb=>(hkz b hb).1) O3
 have hRn:w.heap.size+1∉K:=fun hm=>by have:=hk3 _ hm;have:=T0.b2.lt;omega
 clear HW hcb CC
 cases o with
 | cut d2=>
  have CF:=CF0.mono (R':=fun e w'=>e=.panicked [{ v:=.iface 187 (.agg #[]),recovered:=false }]∧∃ y0 y1 y2 y3 y4 y5 y6 y7 y8 yp0 yl0 yq0 yp1 yl1 yq1 yp2 yl2 yq2 y9 y10 yb K',Box w' w2.heap.size #[.int .i32 0,.int .u32 0,.int .u32 1,.int .i32 0,.int .u32 0,.int .i64 y0,.int .i64 y1,.int .i64 y2,.int .i64 y3,.int .i64 y4,.int .i64 y5,.int .i64 y6,.int .i64 y7,.int .i64 y8,.slice yp0 yl0 yq0,.slice yp1 yl1 yq1,.slice yp2 yl2 yq2,.int .i64 y9,.int .i64 y10,.bool yb] 133∧EncO w' w2.heap.size (cutW d2) [.int .i64 y0,.int .i64 y1,.int .i64 y2,.int .i64 y3,.int .i64 y4,.int .i64 y5,.int .i64 y6,.int .i64 y7,.int .i64 y8,.slice yp0 yl0 yq0,.slice yp1 yl1 yq1,.slice yp2 yl2 yq2,.int .i64 y9,.int .i64 y10,.bool yb] K'∧(∀ b,b∈K'→b∈K∨W3.heap.size≤b)∧ChgL (w2.heap.size::K) W3 w') (fun e w' ⟨he,K',⟨cs',hX',hO'⟩,hs',hC'⟩=>by
   obtain ⟨y0,y1,y2,y3,y4,y5,y6,y7,y8,yp0,yl0,yq0,yp1,yl1,yq1,yp2,yl2,yq2,y9,y10,yb,rfl⟩:=zb1 hO'.own
   exact ⟨he,y0,y1,y2,y3,y4,y5,y6,y7,y8,yp0,yl0,yq0,yp1,yl1,yq1,yp2,yl2,yq2,y9,y10,yb,K',hX',hO',hs',hC'⟩)
  clear CF0
  go_wp2_with (go_at_call 79;refine CF.mono ?_;rintro e w5 ⟨rfl,y0,y1,y2,y3,y4,y5,y6,y7,y8,yp0,yl0,yq0,yp1,yl1,yq1,yp2,yl2,yq2,y9,y10,yb,K5,X5,O5,s5,C5⟩)
  have nin:∀ x,x<w2.heap.size→x∉K→x∉w2.heap.size::K:=fun x h1 h2 hm=>by
   rcases List.mem_cons.1 hm with h | h
   ·omega
   ·exact h2 h
  have hR5:=T3.b2.chgl C5 (nin _ z2 hRn)
  have P5:=TB.b2.chgl C5 (fun hm=>by
   rcases List.mem_cons.1 hm with h | h
   ·omega
   ·have:=hkz _ h;omega)
  have CB5:=CB3.chgl C5 (nin _ (by omega) (fun hm=>by have:=hkz _ hm;omega));refine leaves_cons (f:=118) (args:=#[.pointer (some ⟨w.heap.size+1,0,none⟩),.pointer (some ⟨w2.heap.size+1,0,none⟩)]) (by simp) (by simp [go_sem]) ?_;refine (zjH _ _ (w.heap.size+1) (w2.heap.size+1) w2.heap.size 0 1 0 _ _ _ _ _ _ _ _ _ _ _ _ _ _ _ _ _ _ _ _ _ _ hR5 (P5.cell 0) X5 (by omega) (by omega)).mono ?_;rintro e u' w7 ⟨rfl,rfl,R7,C7⟩
  simp only [settle,Leaves,List.dropWhile]
  have z5:=C5.size;have z7:=C7.size;have h5:=fun b hb=>zab.own_lt O5.own b hb
  have hK5:∀ b,b∈K5→w.heap.size≤b∧b≠w.heap.size+1:=fun b hb=>by
   rcases s5 b hb with h | h
   ·exact ⟨(hkz b h).1,fun e=>hRn (e ▸ h)⟩
   ·omega
  have B5:Below w.heap.size w w5:=T3.bel.trans (C5.bel (fun b hb=>by
   rcases List.mem_cons.1 hb with h | h
   ·omega
   ·exact (hkz b h).1) T3.bel.size)
  have B7:Below w.heap.size w w7:=B5.trans (C7.bel (fun b hb=>by simp at hb;omega) B5.size);have CB7:=CB5.chgl C7 (by simp;omega);have C7w:ChgL [cb] w w7:=ChgL.of_below B7;have O7:OwnT zab w7 w.heap.size w7.heap.size (cutW d2) [.int .i64 y0,.int .i64 y1,.int .i64 y2,.int .i64 y3,.int .i64 y4,.int .i64 y5,.int .i64 y6,.int .i64 y7,.int .i64 y8,.slice yp0 yl0 yq0,.slice yp1 yl1 yq1,.slice yp2 yl2 yq2,.int .i64 y9,.int .i64 y10,.bool yb]:=⟨K5,Lay.own_chgL _ O5.own C7 (fun b hb hm=>by simp at hm;exact (hK5 b hb).2 hm),O5.nd,fun b hb=>⟨(hK5 b hb).1,by have:=h5 b hb;omega⟩⟩;refine ⟨_,results_cell_row Tryz.results78 _ w7 (w.heap.size+1) 40 #[.int .i64 9,.int .i64 y0,.int .i64 y1,.int .i64 y2,.int .i64 y3,.int .i64 y4,.int .i64 y5,.int .i64 y6,.int .i64 y7,.int .i64 y8,.slice yp0 yl0 yq0,.slice yp1 yl1 yq1,.slice yp2 yl2 yq2,.int .i64 y9,.int .i64 y10,.bool yb] (0,0) (.struct _) rfl R7 Tryz.underlying40 rfl (by rw [zau];rfl),?_⟩;exact ⟨[.int .i64 9,.int .i64 y0,.int .i64 y1,.int .i64 y2,.int .i64 y3,.int .i64 y4,.int .i64 y5,.int .i64 y6,.int .i64 y7,.int .i64 y8,.slice yp0 yl0 yq0,.slice yp1 yl1 yq1,.slice yp2 yl2 yq2,.int .i64 y9,.int .i64 y10,.bool yb],rfl,zbC 9 (by decide) O7,CB7,C7w⟩
 | done c d2=>
  have CF:=CF0.mono (R':=fun e w'=>e=.returned (.tuple #[])∧∃ y0 y1 y2 y3 y4 y5 y6 y7 y8 yp0 yl0 yq0 yp1 yl1 yq1 yp2 yl2 yq2 y9 y10 yb K',Box w' w2.heap.size #[.int .i32 0,.int .u32 0,.int .u32 0,.int .i32 0,.int .u32 0,.int .i64 y0,.int .i64 y1,.int .i64 y2,.int .i64 y3,.int .i64 y4,.int .i64 y5,.int .i64 y6,.int .i64 y7,.int .i64 y8,.slice yp0 yl0 yq0,.slice yp1 yl1 yq1,.slice yp2 yl2 yq2,.int .i64 y9,.int .i64 y10,.bool yb] 133∧EncO w' w2.heap.size d2 [.int .i64 y0,.int .i64 y1,.int .i64 y2,.int .i64 y3,.int .i64 y4,.int .i64 y5,.int .i64 y6,.int .i64 y7,.int .i64 y8,.slice yp0 yl0 yq0,.slice yp1 yl1 yq1,.slice yp2 yl2 yq2,.int .i64 y9,.int .i64 y10,.bool yb] K'∧(∀ b,b∈K'→b∈K∨W3.heap.size≤b)∧Box w' cb #[.int .i64 c] 2∧ChgL (w2.heap.size::cb::K) W3 w') (fun e w' ⟨he,K',⟨cs',hX',hO'⟩,hs',hb',hC'⟩=>by
   obtain ⟨y0,y1,y2,y3,y4,y5,y6,y7,y8,yp0,yl0,yq0,yp1,yl1,yq1,yp2,yl2,yq2,y9,y10,yb,rfl⟩:=zb1 hO'.own
   exact ⟨he,y0,y1,y2,y3,y4,y5,y6,y7,y8,yp0,yl0,yq0,yp1,yl1,yq1,yp2,yl2,yq2,y9,y10,yb,K',hX',hO',hs',hb',hC'⟩)
  have nin:∀ x,x≠w2.heap.size→x≠cb→x∉K→x∉w2.heap.size::cb::K:=fun x h1 h2 h3 hm=>by
   rcases List.mem_cons.1 hm with h | h
   ·exact h1 h
   ·rcases List.mem_cons.1 h with h | h
    ·exact h2 h
    ·exact h3 h
  have hRK:=nin (w.heap.size+1) (by omega) (by omega) hRn;clear CF0
  go_wp2_with (first | (go_at_call 79;refine CF.mono ?_;rintro e w5 ⟨rfl,y0,y1,y2,y3,y4,y5,y6,y7,y8,yp0,yl0,yq0,yp1,yl1,yq1,yp2,yl2,yq2,y9,y10,yb,K5,X5,O5,s5,CB5,C5⟩;have hR5:=T3.b2.chgl C5 hRK) | (refine zaj 40 (.tmp 4) rfl rfl (w.heap.size+1) rfl (hR5) Tryz.underlying40 zau rfl ?_) | (refine zaF 40 _ _ rfl rfl (w.heap.size+1) rfl (cs:=[.int .i64 0,.int .i64 0,.int .i64 0,.int .i64 0,.int .i64 0,.int .i64 0,.int .i64 0,.int .i64 0,.int .i64 0,.int .i64 0,.slice none 0 0,.slice none 0 0,.slice none 0 0,.int .i64 0,.int .i64 0,.bool false]) rfl hR5 zau rfl rfl (zcc 0 (by decide) w) ?_;intro w6 R6 C6 z6))
  have z5:=C5.size;have P5:=TB.b2.chgl C5 (nin _ (by omega) (by omega) (fun hm=>by have:=hkz _ hm;omega));have P6:=P5.chgl C6 (by simp;omega);have X6:=X5.chgl C6 (by simp;omega);refine leaves_cons (f:=118) (args:=#[.pointer (some ⟨w.heap.size+1,0,none⟩),.pointer (some ⟨w2.heap.size+1,0,none⟩)]) (by simp) (by simp [go_sem]) ?_;refine (zkG (w.heap.size+1) (w2.heap.size+1) w2.heap.size 0 0 0 _ _ _ _ _ _ _ _ _ _ _ _ _ _ _ _ _ _ _ _ _ _ R6 (P6.cell 0) X6 (by omega) (by omega)).mono ?_;rintro e u' w7 ⟨rfl,rfl,R7,C7⟩
  simp only [settle,Leaves]
  have z7:=C7.size;have h5:=fun b hb=>zab.own_lt O5.own b hb
  have hK5:∀ b,b∈K5→w.heap.size≤b∧b≠w.heap.size+1:=fun b hb=>by
   rcases s5 b hb with h | h
   ·exact ⟨(hkz b h).1,fun e=>hRn (e ▸ h)⟩
   ·omega
  have C5w:ChgL [cb] w w5:=⟨C5.os.trans T3.bel.os,C5.tape.trans T3.bel.tape,C5.output.trans T3.bel.output,Nat.le_trans T3.bel.size z5,fun b hb hm=>by
   refine (C5.block b (Nat.lt_of_lt_of_le hb T3.bel.size) (nin b (by omega) (fun h=>hm (by simp [h])) (fun h=>by have:=hkz b h;omega))).trans (T3.bel.block b hb)⟩
  have C67:ChgL [w.heap.size+1] w5 w7:=C6.trans C7;have C7w:ChgL [cb] w w7:=⟨C67.os.trans C5w.os,C67.tape.trans C5w.tape,C67.output.trans C5w.output,Nat.le_trans C5w.size C67.size,fun b hb hm=>(C67.block b (Nat.lt_of_lt_of_le hb C5w.size) (by simp;omega)).trans (C5w.block b hb hm)⟩;have CB7:=CB5.chgl C67 (by simp;omega);have O7:OwnT zab w7 w.heap.size w7.heap.size d2 [.int .i64 y0,.int .i64 y1,.int .i64 y2,.int .i64 y3,.int .i64 y4,.int .i64 y5,.int .i64 y6,.int .i64 y7,.int .i64 y8,.slice yp0 yl0 yq0,.slice yp1 yl1 yq1,.slice yp2 yl2 yq2,.int .i64 y9,.int .i64 y10,.bool yb]:=⟨K5,Lay.own_chgL _ O5.own C67 (fun b hb hm=>by simp at hm;exact (hK5 b hb).2 hm),O5.nd,fun b hb=>⟨(hK5 b hb).1,by have:=h5 b hb;have:=C67.size;omega⟩⟩;refine ⟨_,results_cell_row Tryz.results78 _ w7 (w.heap.size+1) 40 #[.int .i64 0,.int .i64 y0,.int .i64 y1,.int .i64 y2,.int .i64 y3,.int .i64 y4,.int .i64 y5,.int .i64 y6,.int .i64 y7,.int .i64 y8,.slice yp0 yl0 yq0,.slice yp1 yl1 yq1,.slice yp2 yl2 yq2,.int .i64 y9,.int .i64 y10,.bool yb] (0,0) (.struct _) rfl R7 Tryz.underlying40 rfl (by rw [zau];rfl),?_⟩;exact ⟨[.int .i64 0,.int .i64 y0,.int .i64 y1,.int .i64 y2,.int .i64 y3,.int .i64 y4,.int .i64 y5,.int .i64 y6,.int .i64 y7,.int .i64 y8,.slice yp0 yl0 yq0,.slice yp1 yl1 yq1,.slice yp2 yl2 yq2,.int .i64 y9,.int .i64 y10,.bool yb],rfl,zbC 0 (by decide) O7,CB7,C7w⟩
def Outc.final:Outc→WorldResultD
 | .done c d=>if c=0 then ⟨0,d⟩ else ⟨c,zgj⟩
 | .cut d=>⟨9,cutW d⟩
theorem zi5:(Tryz.prog.info? 40).map (fun i=>(i.zero.map (·.cells),i.size))=some (some #[.int .i64 0,.int .i64 0,.int .i64 0,.int .i64 0,.int .i64 0,.int .i64 0,.int .i64 0,.int .i64 0,.int .i64 0,.int .i64 0,.slice none 0 0,.slice none 0 0,.slice none 0 0,.int .i64 0,.int .i64 0,.bool false],16):=by kernel_rfl
theorem zlJ {w:World} {lo hi:Nat} {q:WorldResultD} {cs:List Value} (h:OwnT zai w lo hi q cs):∃ r0 y0 y1 y2 y3 y4 y5 y6 y7 y8 yp0 yl0 yq0 yp1 yl1 yq1 yp2 yl2 yq2 y9 y10 yb,cs=[.int .i64 r0,.int .i64 y0,.int .i64 y1,.int .i64 y2,.int .i64 y3,.int .i64 y4,.int .i64 y5,.int .i64 y6,.int .i64 y7,.int .i64 y8,.slice yp0 yl0 yq0,.slice yp1 yl1 yq1,.slice yp2 yl2 yq2,.int .i64 y9,.int .i64 y10,.bool yb]:=by
 obtain ⟨M,h1,_⟩:=h;obtain ⟨c,d',K1,M1,rfl,_,⟨rfl,_⟩,h2⟩:=h1;obtain ⟨y0,y1,y2,y3,y4,y5,y6,y7,y8,yp0,yl0,yq0,yp1,yl1,yq1,yp2,yl2,yq2,y9,y10,yb,rfl⟩:=zb1 h2;exact ⟨_,y0,y1,y2,y3,y4,y5,y6,y7,y8,yp0,yl0,yq0,yp1,yl1,yq1,yp2,yl2,yq2,y9,y10,yb,rfl⟩
set_option maxRecDepth 100000 in
theorem zhv (d:WorldD) (cs:List Value) (hi:Nat) (F:Nat→Nat) (caps:Nat→Array Value) (f:Nat→WorldD→Outc) (fit:Nat→WorldD→Prop) (n b off cap:Nat) (w:World) (h:zab.rd w hi d cs) (hhi:hi≤w.heap.size) (hsz:zaW d≤1048576)
 (hT:∀ i,i<n→TaskV (F i) (caps i) (f i) (fit i) w.heap.size w) (hc:∀ i,i<n→w.cell? ⟨b,off+i,none⟩=some (.func (.func (F i)) #[] (caps i))) (hb:b<w.heap.size) (hn:n≤1000000) (hf:zfm f fit n 0 d) (hco:-9223372036854775808≤(runO f n 0 d).code∧(runO f n 0 d).code≤9223372036854775807) :
 Calls Tryz.prog 34 #[.agg cs.toArray,.slice (some ⟨b,off,none⟩) n cap] w fun e w'=>∃ cs',e=.returned (.agg cs'.toArray)∧OwnT zai w' w.heap.size w'.heap.size (runO f n 0 d).final cs'∧Below w.heap.size w w':=by
 obtain ⟨v0,v1,v2,v3,v4,v5,v6,v7,v8,vp0,vl0,vq0,vp1,vl1,vq1,vp2,vl2,vq2,v9,v10,vb,rfl⟩:=zgu h;have hmf:∀ (fn:Fn) (first cap:Array Value) (w:World),(Instr.makeFunc fn first cap).run Tryz.prog w=.ok (.func fn first cap) w:=fun _ _ _ _=>rfl;have T0:=zbD w (rwV v0 v1 v2 v3 v4 v5 v6 v7 v8 vp0 vl0 vq0 vp1 vl1 vq1 vp2 vl2 vq2 v9 v10 vb).toArray #[.slice (some ⟨b,off,none⟩) n cap] rwZ.toArray 38 115 40;have HRD:=hid h;clear h;obtain ⟨oc,hoc⟩:∃ x,x=runO f n 0 d:=⟨_,rfl⟩;rw [← hoc] at hco ⊢
 go_enter Tryz.func34,Tryz.ntmps34
 go_upto_region 1 with fail
 obtain ⟨W1,hW1⟩:∃ x,x=(((w.alloc (.cells (rwV v0 v1 v2 v3 v4 v5 v6 v7 v8 vp0 vl0 vq0 vp1 vl1 vq1 vp2 vl2 vq2 v9 v10 vb).toArray 38)).alloc (.cells #[.slice (some ⟨b,off,none⟩) n cap] 115)).alloc (.cells rwZ.toArray 40)):=⟨_,rfl⟩;rw [← hW1] at T0 ⊢
 have z1:W1.heap.size=w.heap.size+1+1+1:=by rw [hW1];simp
 clear hW1;have XC:=zay W1 #[.int .i64 0] 2;have bC:=bAl W1 (.cells #[.int .i64 0] 2);have T1:=T0.call bC
 go_upto_region 2 with fail
 obtain ⟨W2,hW2⟩:∃ x,x=W1.alloc (.cells #[.int .i64 0] 2):=⟨_,rfl⟩;rw [← hW2] at XC bC T1 ⊢
 have z2:W2.heap.size=w.heap.size+1+1+1+1:=by rw [hW2];simp [z1]
 clear hW2 T0 bC;rw [z1] at XC;have bW:Below w.heap.size w W2:=T1.bel
 have CP:=zit d (rwV v0 v1 v2 v3 v4 v5 v6 v7 v8 vp0 vl0 vq0 vp1 vl1 vq1 vp2 vl2 vq2 v9 v10 vb) hi (w.heap.size+1) (w.heap.size+1+1+1) W2 (zab.rd_below HRD.out bW hhi) (by omega) hsz (runO f n 0 d) XC (fun W3 E K hB hE hK hX=>by
  have b3:Below w.heap.size w W3:=bW.trans (hB.mono (by omega))
  exact zgE F caps f fit w.heap.size n b off cap (w.heap.size+1) (w.heap.size+1+1+1) W3 E d K (fun i hi=>(hT i hi).later b3 (Nat.le_refl _)) (fun i hi=>(b3.cell (p:=⟨b,off+i,none⟩) hb).trans (hc i hi)) (by have:=b3.size;omega) ⟨by omega,fun hm=>by have:=hK b hm;omega⟩ (by omega) (fun x hx=>by have:=hK x hx;omega) hn hX hf
   ((hB.cell (p:=⟨w.heap.size+1,0,none⟩) (by show w.heap.size+1<_;omega)).trans (T1.b2.cell 0)) (XC.below hB (by omega)) ⟨by omega,fun hm=>by have:=hK _ hm;omega⟩)
 rw [← hoc] at CP;have HCO:=hid hco;clear hT hc hf hoc hco
 have CQ:=CP.mono (R':=fun e w'=>∃ r0 y0 y1 y2 y3 y4 y5 y6 y7 y8 yp0 yl0 yq0 yp1 yl1 yq1 yp2 yl2 yq2 y9 y10 yb,e=.returned (.agg (.int .i64 r0::rwV y0 y1 y2 y3 y4 y5 y6 y7 y8 yp0 yl0 yq0 yp1 yl1 yq1 yp2 yl2 yq2 y9 y10 yb).toArray)∧OwnT zai w' W2.heap.size w'.heap.size oc.told (.int .i64 r0::rwV y0 y1 y2 y3 y4 y5 y6 y7 y8 yp0 yl0 yq0 yp1 yl1 yq1 yp2 yl2 yq2 y9 y10 yb)∧Box w' (w.heap.size+1+1+1) #[.int .i64 oc.code] 2∧ChgL [w.heap.size+1+1+1] W2 w') (fun e w' ⟨cs',he,ho,hb',hc'⟩=>by
  obtain ⟨r0,y0,y1,y2,y3,y4,y5,y6,y7,y8,yp0,yl0,yq0,yp1,yl1,yq1,yp2,yl2,yq2,y9,y10,yb,rfl⟩:=zlJ ho
  exact ⟨r0,y0,y1,y2,y3,y4,y5,y6,y7,y8,yp0,yl0,yq0,yp1,yl1,yq1,yp2,yl2,yq2,y9,y10,yb,he,ho,hb',hc'⟩)
 clear CP;obtain ⟨c,hcc⟩:∃ x,x=oc.code:=⟨_,rfl⟩;have HCC:=hid hcc;rw [← hcc] at CQ;clear hcc
 by_cases hc0:c=0
 ·subst hc0
  have HT1:=hid T1
  go_wp2_with (first | (refine zaj 38 (.tmp 2) rfl rfl (w.heap.size) rfl (T1.b1) Tryz.underlying38 zbd rfl ?_) | (go_at_call 78;refine CQ.mono ?_;rintro e w5 ⟨r0,y0,y1,y2,y3,y4,y5,y6,y7,y8,yp0,yl0,yq0,yp1,yl1,yq1,yp2,yl2,yq2,y9,y10,yb,rfl,O5,CB5,C5⟩;have R5:=HT1.out.b3.chgl C5 (by simp)) | (refine zbr 40 6 (.tmp 9) _ _ 16 rfl rfl rfl rfl rfl rfl rfl rfl zi5 rfl rfl O5.one ?_;have bN:=bAl w5 (.cells (.int .i64 r0::rwV y0 y1 y2 y3 y4 y5 y6 y7 y8 yp0 yl0 yq0 yp1 yl1 yq1 yp2 yl2 yq2 y9 y10 yb).toArray 40);have XN:=zay w5 (.int .i64 r0::rwV y0 y1 y2 y3 y4 y5 y6 y7 y8 yp0 yl0 yq0 yp1 yl1 yq1 yp2 yl2 yq2 y9 y10 yb).toArray 40;have cx:=(CB5.below bN CB5.lt).cell 0;have R6:=R5.below bN R5.lt) | (refine zaj 40 (.tmp 6) rfl rfl (w5.heap.size) rfl (XN) Tryz.underlying40 zau rfl ?_) | (refine zaF 40 _ _ rfl rfl (w.heap.size+1+1) rfl (cs:=(.int .i64 r0::rwV y0 y1 y2 y3 y4 y5 y6 y7 y8 yp0 yl0 yq0 yp1 yl1 yq1 yp2 yl2 yq2 y9 y10 yb)) rfl R6 zau rfl rfl O5.one ?_;intro w9 X9 C9 z9))
  refine zbh Tryz.results34 rfl X9 Tryz.underlying40 zau rfl rfl ?_;have z5:=C5.size;have zz:=C9.size
  have e:oc.final=oc.told:=by
   cases oc with
   | cut d2=>rfl
   | done c2 d2=>show (if c2=0 then _ else _)=_;rw [if_pos (show c2=0 from HCC.out.symm)];rfl
  rw [e];have B5:Below w.heap.size w w5:=bW.trans (C5.bel (fun x hx=>by simp at hx;omega) (by omega));have BN:Below w.heap.size w (w5.alloc (.cells (.int .i64 r0::rwV y0 y1 y2 y3 y4 y5 y6 y7 y8 yp0 yl0 yq0 yp1 yl1 yq1 yp2 yl2 yq2 y9 y10 yb).toArray 40)):=B5.trans (bN.mono B5.size)
  have sN:(w5.alloc (.cells (.int .i64 r0::rwV y0 y1 y2 y3 y4 y5 y6 y7 y8 yp0 yl0 yq0 yp1 yl1 yq1 yp2 yl2 yq2 y9 y10 yb).toArray 40)).heap.size=w5.heap.size+1:=by simp
  refine ⟨_,rfl,?_,BN.trans (C9.bel (fun x hx=>by simp at hx;omega) BN.size)⟩;exact (((O5.below bN (Nat.le_refl _)).chgk C9 (fun x hx=>by simp at hx;omega)).weaken (by omega) (by omega))
 ·have hne:(c != 0)=true:=by simpa using hc0
  have HNE:=hid hc0;clear hc0;have HT1:=hid T1
  go_wp2_with (first | (refine zaj 38 (.tmp 2) rfl rfl (w.heap.size) rfl (T1.b1) Tryz.underlying38 zbd rfl ?_) | (go_at_call 78;refine CQ.mono ?_;rintro e w5 ⟨r0,y0,y1,y2,y3,y4,y5,y6,y7,y8,yp0,yl0,yq0,yp1,yl1,yq1,yp2,yl2,yq2,y9,y10,yb,rfl,O5,CB5,C5⟩;have R5:=HT1.out.b3.chgl C5 (by simp)) | (refine zbr 40 6 (.tmp 9) _ _ 16 rfl rfl rfl rfl rfl rfl rfl rfl zi5 rfl rfl O5.one ?_;have bN:=bAl w5 (.cells (.int .i64 r0::rwV y0 y1 y2 y3 y4 y5 y6 y7 y8 yp0 yl0 yq0 yp1 yl1 yq1 yp2 yl2 yq2 y9 y10 yb).toArray 40);have cx:=(CB5.below bN CB5.lt).cell 0;have R6:=R5.below bN R5.lt) | (refine zaF 40 _ _ rfl rfl (w.heap.size+1+1) rfl (cs:=(.int .i64 c::rwY)) rfl R6 zau rfl rfl (zcc c (by rw [HCC.out];exact HCO.out) w) ?_;intro w9 X9 C9 z9))
  refine zbh Tryz.results34 rfl X9 Tryz.underlying40 zau rfl rfl ?_;have z5:=C5.size;have zz:=C9.size
  have e:oc.final=⟨c,zgj⟩:=by
   cases oc with
   | cut d2=>exact absurd HCC.out HNE.out
   | done c2 d2=>
    have e2:c=c2:=HCC.out
    show (if c2=0 then _ else _)=_
    rw [← e2,if_neg HNE.out]
  rw [e];have B5:Below w.heap.size w w5:=bW.trans (C5.bel (fun x hx=>by simp at hx;omega) (by omega));have BN:Below w.heap.size w (w5.alloc (.cells (.int .i64 r0::rwV y0 y1 y2 y3 y4 y5 y6 y7 y8 yp0 yl0 yq0 yp1 yl1 yq1 yp2 yl2 yq2 y9 y10 yb).toArray 40)):=B5.trans (bN.mono B5.size)
  have sN:(w5.alloc (.cells (.int .i64 r0::rwV y0 y1 y2 y3 y4 y5 y6 y7 y8 yp0 yl0 yq0 yp1 yl1 yq1 yp2 yl2 yq2 y9 y10 yb).toArray 40)).heap.size=w5.heap.size+1:=by simp
  refine ⟨_,rfl,?_,BN.trans (C9.bel (fun x hx=>by simp at hx;omega) BN.size)⟩;exact zdS w9 c (by rw [HCC.out];exact HCO.out) _ _
set_option maxRecDepth 20000 in
theorem zjU (b:Nat) (v0 v1 v2 v3 v4 v5 v6 v7 v8 vp0 vl0 vq0 vp1 vl1 vq1 vp2 vl2 vq2 v9 v10 vb:_) (w:World) (hB:Box w b #[.int .i64 v0,.int .i64 v1,.int .i64 v2,.int .i64 v3,.int .i64 v4,.int .i64 v5,.int .i64 v6,.int .i64 v7,.int .i64 v8,.slice vp0 vl0 vq0,.slice vp1 vl1 vq1,.slice vp2 vl2 vq2,.int .i64 v9,.int .i64 v10,.bool vb] 38) (hd:vb=false) (hs:v10≠-1) (hw:v10≤v9) :
 Calls Tryz.prog 66 #[.pointer (some ⟨b,0,none⟩)] w fun e w'=>e=.returned (.bool false)∧Box w' b #[.int .i64 v0,.int .i64 v1,.int .i64 v2,.int .i64 v3,.int .i64 v4,.int .i64 v5,.int .i64 v6,.int .i64 v7,.int .i64 v8,.slice vp0 vl0 vq0,.slice none 0 0,.slice vp2 vl2 vq2,.int .i64 v9,.int .i64 v10,.bool true] 38∧ChgL [b] w w':=by
 subst hd
 have d1:(v10 != -1)=true:=by simpa using hs
 have d2:decide (v10≤v9)=true:=by simpa using hw
 have x12:w.cell? ⟨b,12,none⟩=some (.int .i64 v9):=hB.cell 12;have x13:w.cell? ⟨b,13,none⟩=some (.int .i64 v10):=hB.cell 13;have x14:w.cell? ⟨b,14,none⟩=some (.bool false):=hB.cell 14;clear hs hw
 go_enter Tryz.func66,Tryz.ntmps66
 go_upto_region 3 with fail
 go_quiet (fail)
 go_upto_region 4 with fail
 obtain ⟨W,hW⟩:∃ x,x=w.drewN nq:=⟨_,rfl⟩;rw [← hW]
 have X1:Box W b (rwV v0 v1 v2 v3 v4 v5 v6 v7 v8 vp0 vl0 vq0 vp1 vl1 vq1 vp2 vl2 vq2 v9 v10 false).toArray 38:=by rw [hW];exact hB
 have C1:ChgL [b] w W:=by rw [hW];exact ⟨rfl,rfl,rfl,Nat.le_refl _,fun _ _ _=>rfl⟩
 clear hW x12 x13 x14 hB;have y0:W.cell? ⟨b,14,none⟩=some (.bool false):=X1.cell 14;have yf0:W.frozen? ⟨b,14,none⟩=false:=X1.frozen 14;have X2:Box (W.setCell ⟨b,14,none⟩ (.bool true)) b (rwV v0 v1 v2 v3 v4 v5 v6 v7 v8 vp0 vl0 vq0 vp1 vl1 vq1 vp2 vl2 vq2 v9 v10 true).toArray 38:=X1.setc 14 _;have y1:(W.setCell ⟨b,14,none⟩ (.bool true)).cell? ⟨b,10,none⟩=some (.slice vp1 vl1 vq1):=X2.cell 10;have yf1:(W.setCell ⟨b,14,none⟩ (.bool true)).frozen? ⟨b,10,none⟩=false:=X2.frozen 10;have X3:Box ((W.setCell ⟨b,14,none⟩ (.bool true)).setCell ⟨b,10,none⟩ (.slice none 0 0)) b (rwV v0 v1 v2 v3 v4 v5 v6 v7 v8 vp0 vl0 vq0 none 0 0 vp2 vl2 vq2 v9 v10 true).toArray 38:=X2.setc 10 _;have C3:ChgL [b] w ((W.setCell ⟨b,14,none⟩ (.bool true)).setCell ⟨b,10,none⟩ (.slice none 0 0)):=(C1.st _ 14 _ (by simp)).st _ 10 _ (by simp);clear X1 X2 C1;go_wp2;go_ret;exact ⟨rfl,X3,C3⟩
set_option maxRecDepth 20000 in
theorem zkT (b:Nat) (v0 v1 v2 v3 v4 v5 v6 v7 v8 vp0 vl0 vq0 vp1 vl1 vq1 vp2 vl2 vq2 v9 v10 vb:_) (w:World) (hB:Box w b #[.int .i64 v0,.int .i64 v1,.int .i64 v2,.int .i64 v3,.int .i64 v4,.int .i64 v5,.int .i64 v6,.int .i64 v7,.int .i64 v8,.slice vp0 vl0 vq0,.slice vp1 vl1 vq1,.slice vp2 vl2 vq2,.int .i64 v9,.int .i64 v10,.bool vb] 38) (hd:vb=false) (d1:(v10 != -1)=false) (hwr:-9223372036854775808≤v9∧v9+1≤9223372036854775807) :
 Calls Tryz.prog 66 #[.pointer (some ⟨b,0,none⟩)] w fun e w'=>e=.returned (.bool true)∧Box w' b #[.int .i64 v0,.int .i64 v1,.int .i64 v2,.int .i64 v3,.int .i64 v4,.int .i64 v5,.int .i64 v6,.int .i64 v7,.int .i64 v8,.slice vp0 vl0 vq0,.slice vp1 vl1 vq1,.slice vp2 vl2 vq2,.int .i64 (v9+1),.int .i64 v10,.bool vb] 38∧ChgL [b] w w':=by
 have HD:=hid hd;obtain ⟨vc,hvc⟩:∃ x:Bool,x=vb:=⟨_,rfl⟩
 have zz:IntKind.i64.wrap (v9+1)=v9+1:=by rw [IntKind.wrap_i64];omega
 have x12:w.cell? ⟨b,12,none⟩=some (.int .i64 v9):=hB.cell 12;have x13:w.cell? ⟨b,13,none⟩=some (.int .i64 v10):=hB.cell 13
 have x14:w.cell? ⟨b,14,none⟩=some (.bool false):=by rw [← HD.out];exact hB.cell 14
 clear hwr hd
 go_enter Tryz.func66,Tryz.ntmps66
 go_upto_region 3 with fail
 go_quiet (fail)
 go_upto_region 7 with fail
 obtain ⟨W,hW⟩:∃ x,x=w.drewN nq:=⟨_,rfl⟩;rw [← hW]
 have X1:Box W b (rwV v0 v1 v2 v3 v4 v5 v6 v7 v8 vp0 vl0 vq0 vp1 vl1 vq1 vp2 vl2 vq2 v9 v10 vb).toArray 38:=by rw [hW];exact hB
 have C1:ChgL [b] w W:=by rw [hW];exact ⟨rfl,rfl,rfl,Nat.le_refl _,fun _ _ _=>rfl⟩
 clear hW x12 x13 x14 hB;have y0:W.cell? ⟨b,12,none⟩=some (.int .i64 v9):=X1.cell 12;have yf0:W.frozen? ⟨b,12,none⟩=false:=X1.frozen 12;have X2:Box (W.setCell ⟨b,12,none⟩ (.int .i64 (v9+1))) b #[.int .i64 v0,.int .i64 v1,.int .i64 v2,.int .i64 v3,.int .i64 v4,.int .i64 v5,.int .i64 v6,.int .i64 v7,.int .i64 v8,.slice vp0 vl0 vq0,.slice vp1 vl1 vq1,.slice vp2 vl2 vq2,.int .i64 (v9+1),.int .i64 v10,.bool vb] 38:=X1.setc 12 _;have C2':ChgL [b] w (W.setCell ⟨b,12,none⟩ (.int .i64 (v9+1))):=C1.st _ 12 _ (by simp);clear X1 C1;go_wp2;go_ret;exact ⟨rfl,X2,C2'⟩
set_option maxRecDepth 20000 in
theorem zkU (b:Nat) (v0 v1 v2 v3 v4 v5 v6 v7 v8 vp0 vl0 vq0 vp1 vl1 vq1 vp2 vl2 vq2 v9 v10 vb:_) (w:World) (hB:Box w b #[.int .i64 v0,.int .i64 v1,.int .i64 v2,.int .i64 v3,.int .i64 v4,.int .i64 v5,.int .i64 v6,.int .i64 v7,.int .i64 v8,.slice vp0 vl0 vq0,.slice vp1 vl1 vq1,.slice vp2 vl2 vq2,.int .i64 v9,.int .i64 v10,.bool vb] 38) (hd:vb=false) (d1:(v10 != -1)=true) (d2:decide (v10≤v9)=false) (hwr:-9223372036854775808≤v9∧v9+1≤9223372036854775807) :
 Calls Tryz.prog 66 #[.pointer (some ⟨b,0,none⟩)] w fun e w'=>e=.returned (.bool true)∧Box w' b #[.int .i64 v0,.int .i64 v1,.int .i64 v2,.int .i64 v3,.int .i64 v4,.int .i64 v5,.int .i64 v6,.int .i64 v7,.int .i64 v8,.slice vp0 vl0 vq0,.slice vp1 vl1 vq1,.slice vp2 vl2 vq2,.int .i64 (v9+1),.int .i64 v10,.bool vb] 38∧ChgL [b] w w':=by
 have HD:=hid hd;obtain ⟨vc,hvc⟩:∃ x:Bool,x=vb:=⟨_,rfl⟩
 have zz:IntKind.i64.wrap (v9+1)=v9+1:=by rw [IntKind.wrap_i64];omega
 have x12:w.cell? ⟨b,12,none⟩=some (.int .i64 v9):=hB.cell 12;have x13:w.cell? ⟨b,13,none⟩=some (.int .i64 v10):=hB.cell 13
 have x14:w.cell? ⟨b,14,none⟩=some (.bool false):=by rw [← HD.out];exact hB.cell 14
 clear hwr hd
 go_enter Tryz.func66,Tryz.ntmps66
 go_upto_region 3 with fail
 go_quiet (fail)
 go_upto_region 7 with fail
 obtain ⟨W,hW⟩:∃ x,x=w.drewN nq:=⟨_,rfl⟩;rw [← hW]
 have X1:Box W b (rwV v0 v1 v2 v3 v4 v5 v6 v7 v8 vp0 vl0 vq0 vp1 vl1 vq1 vp2 vl2 vq2 v9 v10 vb).toArray 38:=by rw [hW];exact hB
 have C1:ChgL [b] w W:=by rw [hW];exact ⟨rfl,rfl,rfl,Nat.le_refl _,fun _ _ _=>rfl⟩
 clear hW x12 x13 x14 hB;have y0:W.cell? ⟨b,12,none⟩=some (.int .i64 v9):=X1.cell 12;have yf0:W.frozen? ⟨b,12,none⟩=false:=X1.frozen 12;have X2:Box (W.setCell ⟨b,12,none⟩ (.int .i64 (v9+1))) b #[.int .i64 v0,.int .i64 v1,.int .i64 v2,.int .i64 v3,.int .i64 v4,.int .i64 v5,.int .i64 v6,.int .i64 v7,.int .i64 v8,.slice vp0 vl0 vq0,.slice vp1 vl1 vq1,.slice vp2 vl2 vq2,.int .i64 (v9+1),.int .i64 v10,.bool vb] 38:=X1.setc 12 _;have C2':ChgL [b] w (W.setCell ⟨b,12,none⟩ (.int .i64 (v9+1))):=C1.st _ 12 _ (by simp);clear X1 C1;go_wp2;go_ret;exact ⟨rfl,X2,C2'⟩
theorem zli (b:Nat) (v0 v1 v2 v3 v4 v5 v6 v7 v8 vp0 vl0 vq0 vp1 vl1 vq1 vp2 vl2 vq2 v9 v10 vb:_) (w:World) (hB:Box w b #[.int .i64 v0,.int .i64 v1,.int .i64 v2,.int .i64 v3,.int .i64 v4,.int .i64 v5,.int .i64 v6,.int .i64 v7,.int .i64 v8,.slice vp0 vl0 vq0,.slice vp1 vl1 vq1,.slice vp2 vl2 vq2,.int .i64 v9,.int .i64 v10,.bool vb] 38) (hd:vb=false) (hpw:¬ (v10≠-1∧v10≤v9)) (hwr:-9223372036854775808≤v9∧v9+1≤9223372036854775807) :
 Calls Tryz.prog 66 #[.pointer (some ⟨b,0,none⟩)] w fun e w'=>e=.returned (.bool true)∧Box w' b #[.int .i64 v0,.int .i64 v1,.int .i64 v2,.int .i64 v3,.int .i64 v4,.int .i64 v5,.int .i64 v6,.int .i64 v7,.int .i64 v8,.slice vp0 vl0 vq0,.slice vp1 vl1 vq1,.slice vp2 vl2 vq2,.int .i64 (v9+1),.int .i64 v10,.bool vb] 38∧ChgL [b] w w':=by
 by_cases hs:v10=-1
 ·exact zkT b v0 v1 v2 v3 v4 v5 v6 v7 v8 vp0 vl0 vq0 vp1 vl1 vq1 vp2 vl2 vq2 v9 v10 vb w hB hd (by simpa using hs) hwr
 ·exact zkU b v0 v1 v2 v3 v4 v5 v6 v7 v8 vp0 vl0 vq0 vp1 vl1 vq1 vp2 vl2 vq2 v9 v10 vb w hB hd (by simpa using hs) (by simp only [decide_eq_false_iff_not];exact fun h=>hpw ⟨hs,h⟩) hwr
def SpB (w:World) (B:Nat) (d:WorldD) (K:List Nat):Prop:=∃ cs,Box w B cs.toArray 38∧EncO w B d cs K
def SpP (o:Outc) (B:Nat) (w:World) (K:List Nat) (e:Ending) (w':World):Prop:=match o with
 | .done _ d=>e=.returned (.bool true)∧∃ K',SpB w' B d K'∧(∀ b,b∈K'→b∈K∨w.heap.size≤b)∧ChgL (B::K) w w'
 | .cut d=>e=.returned (.bool false)∧∃ K',SpB w' B (cutW d) K'∧(∀ b,b∈K'→b∈K∨w.heap.size≤b)∧ChgL (B::K) w w'
theorem SpB.lt {w:World} {B:Nat} {d:WorldD} {K:List Nat} (h:SpB w B d K):B<w.heap.size:=by
 obtain ⟨cs,h1,_⟩:=h;exact h1.lt
theorem zi6 (B:Nat) (d:WorldD) (K:List Nat) (w:World) (hX:SpB w B d K) (hd:d.down=false) (hwr:-9223372036854775808≤d.writes∧d.writes+1≤9223372036854775807) :
 Calls Tryz.prog 66 #[.pointer (some ⟨B,0,none⟩)] w fun e w'=>((d.stop≠-1∧d.stop≤d.writes)∧e=.returned (.bool false)∧(∃ K',SpB w' B (cutW d) K'∧∀ b,b∈K'→b∈K)∧ChgL [B] w w')∨(¬ (d.stop≠-1∧d.stop≤d.writes)∧e=.returned (.bool true)∧SpB w' B { d with writes:=d.writes+1 } K∧ChgL [B] w w'):=by
 obtain ⟨cs,hB,hO⟩:=hX;obtain ⟨v0,v1,v2,v3,v4,v5,v6,v7,v8,vp0,vl0,vq0,vp1,vl1,vq1,vp2,vl2,vq2,v9,v10,vb,rfl⟩:=zb1 hO.own;have st:=zkF hO.own;have wt:=zee hO.own;have dn:=zlI hO.T.rd
 by_cases hf:d.stop≠-1∧d.stop≤d.writes
 ·obtain ⟨KC,kc1,kc2,kc3⟩:=zi2 hO.own hO.nd
  refine (zjU B v0 v1 v2 v3 v4 v5 v6 v7 v8 vp0 vl0 vq0 vp1 vl1 vq1 vp2 vl2 vq2 v9 v10 vb w hB (by rw [dn];exact hd) (by rw [st];exact hf.1) (by rw [st,wt];exact hf.2)).mono ?_;rintro e w' ⟨rfl,X5,C5⟩;refine .inl ⟨hf,rfl,⟨KC,⟨_,X5,Lay.own_chgL _ kc1 C5 (fun b hb hm=>?_),kc2,fun hm=>hO.ne (kc3 _ hm)⟩,kc3⟩,C5⟩
  simp at hm
  exact hO.ne (hm ▸ kc3 b hb)
 ·refine (zli B v0 v1 v2 v3 v4 v5 v6 v7 v8 vp0 vl0 vq0 vp1 vl1 vq1 vp2 vl2 vq2 v9 v10 vb w hB (by rw [dn];exact hd) (by rw [st,wt];exact hf) (by rw [wt];exact hwr)).mono ?_
  rintro e w' ⟨rfl,X5,C5⟩;have O2:=zdV (d.writes+1) (by omega) hO.own;rw [wt] at X5;exact .inr ⟨hf,rfl,⟨_,X5,Lay.own_chgL _ O2 C5 (fun b hb hm=>by simp at hm;exact hO.ne (hm ▸ hb)),hO.nd,hO.ne⟩,C5⟩
structure Fit2 (n:Nat) (d:WorldD):Prop where
 two:d.tapes.1=2
 few:∀ T,T<2→(d.tapes.2 T).recs.1≤1048576
 up:d.down=false
 low:-9223372036854775808≤d.writes
 room:d.writes+n≤9223372036854775807
structure Cap2 (w wc:World) (c1:Array Value) (x y:Int) (c4:Array Value) (t1 t4:TypeId):Prop where
 b1:Box wc w.heap.size c1 t1
 b2:Box wc (w.heap.size+1) #[.int .i64 x] 2
 b3:Box wc (w.heap.size+1+1) #[.int .i64 y] 2
 b4:Box wc (w.heap.size+1+1+1) c4 t4
 bel:Below w.heap.size w wc
theorem zbP {P:WorldResultD→Prop} {w wc w9:World} {x:Int} {r:Nat} (hr:w.heap.size≤r) (hx:-9223372036854775808≤x∧x≤9223372036854775807) (hb:Below w.heap.size w wc) (hc:ChgL [r] wc w9) (hP:P ⟨x,zgj⟩):zgk P w (.returned (.agg #[.int .i64 x,.int .i64 0,.int .i64 0,.int .i64 0,.int .i64 0,.int .i64 0,.int .i64 0,.int .i64 0,.int .i64 0,.int .i64 0,.slice none 0 0,.slice none 0 0,.slice none 0 0,.int .i64 0,.int .i64 0,.bool false])) w9:=
 ⟨⟨x,zgj⟩,[.int .i64 x,.int .i64 0,.int .i64 0,.int .i64 0,.int .i64 0,.int .i64 0,.int .i64 0,.int .i64 0,.int .i64 0,.int .i64 0,.slice none 0 0,.slice none 0 0,.slice none 0 0,.int .i64 0,.int .i64 0,.bool false],rfl,hP,zdS _ x hx _ _,hb.trans (hc.bel (fun b hb=>by simp at hb;omega) hb.size)⟩
def AskAns (d:WorldD) (x:Int):Prop:=(x≠0∧WldAns d x)∨(WldAns d 0∧((d.down=true∧x=9)∨(d.down=false∧x=0)))
theorem AskAns.one {d:WorldD} {x y:Int} (h:AskAns d x) (k:AskAns d y):x=y:=by
 rcases h with ⟨h1,h2⟩ | ⟨h1,h2⟩<;>rcases k with ⟨k1,k2⟩ | ⟨k1,k2⟩
 ·exact h2.one k2
 ·exact absurd (h2.one k1) h1
 ·exact absurd (k2.one h1) k1
 ·rcases h2 with ⟨a,rfl⟩ | ⟨a,rfl⟩<;>rcases k2 with ⟨b,rfl⟩ | ⟨b,rfl⟩
  ·rfl
  ·rw [a] at b;cases b
  ·rw [a] at b;cases b
  ·rfl
def zkV (P:Int→Prop) (w:World) (e:Ending) (w':World):Prop:=∃ x,e=.returned (.int .i64 x)∧P x∧Below w.heap.size w w'
set_option maxRecDepth 20000 in
theorem ziu (d:WorldD) (cs:List Value) (hi:Nat) (w:World) (h:zab.rd w hi d cs) (hhi:hi≤w.heap.size) (hsz:zaW d≤1048576) :
 Calls Tryz.prog 48 #[.agg cs.toArray] w (zkV (AskAns d) w):=by
 have C:=fun w' hb=>zgm d cs hi w' (zab.rd_below h (B:=w.heap.size) hb hhi);obtain ⟨ao1,cap1,ao2,cap2,ao3,cap3,rfl,-⟩:=zaK h;have T0:=zaI w (rwW d ao1 cap1 ao2 cap2 ao3 cap3).toArray 38;clear h
 go_enter Tryz.func48,Tryz.ntmps48
 go_wp2_with (refine zaj 38 (.tmp 1) rfl rfl w.heap.size rfl T0.b1 Tryz.underlying38 zbd rfl ?_)
 refine (C _ T0.bel (Nat.le_trans hhi T0.bel.size) (zeD hsz)).mono ?_;rintro e w1 ⟨x,rfl,hx,b1⟩;have T1:=T0.call b1;have HX:=hid hx;have HB:=hid T1.bel;have c14:w1.cell? ⟨w.heap.size,14,none⟩=some (.bool d.down):=T1.b1.cell 14;clear T0 T1 b1 C hx
 by_cases hx0:x=0
 ·subst hx0
  obtain ⟨dn,hdn⟩:∃ b,b=d.down:=⟨_,rfl⟩;rw [← hdn] at c14;have HD:=hid hdn;clear hdn
  cases dn with
  | true=>
   go_wp2;go_ret;exact ⟨9,rfl,.inr ⟨HX.out,.inl ⟨HD.out.symm,rfl⟩⟩,HB.out⟩
  | false=>
   go_wp2;go_ret;exact ⟨0,rfl,.inr ⟨HX.out,.inr ⟨HD.out.symm,rfl⟩⟩,HB.out⟩
 ·have hne:(x != 0)=true:=by simp [hx0]
  go_wp2;go_ret;exact ⟨x,rfl,.inl ⟨hx0,HX.out⟩,HB.out⟩
set_option maxRecDepth 20000 in
theorem ziv (d:WorldD) (cs:List Value) (hi:Nat) (w:World) (h:zab.rd w hi d cs) (hhi:hi≤w.heap.size) (hsz:zaW d≤1048576) :
 Calls Tryz.prog 69 #[.agg cs.toArray] w (zkV (AskAns d) w):=by
 have C:=fun w' hb=>zgt d cs hi w' (zab.rd_below h (B:=w.heap.size) hb hhi);obtain ⟨ao1,cap1,ao2,cap2,ao3,cap3,rfl,-⟩:=zaK h;have T0:=zaI w (rwW d ao1 cap1 ao2 cap2 ao3 cap3).toArray 38;clear h
 go_enter Tryz.func69,Tryz.ntmps69
 go_wp2_with (refine zaj 38 (.tmp 1) rfl rfl w.heap.size rfl T0.b1 Tryz.underlying38 zbd rfl ?_)
 refine (C _ T0.bel (Nat.le_trans hhi T0.bel.size) (zeD hsz)).mono ?_;rintro e w1 ⟨x,rfl,hx,b1⟩;have T1:=T0.call b1;have HX:=hid hx;have HB:=hid T1.bel;have c14:w1.cell? ⟨w.heap.size,14,none⟩=some (.bool d.down):=T1.b1.cell 14;clear T0 T1 b1 C hx
 by_cases hx0:x=0
 ·subst hx0
  obtain ⟨dn,hdn⟩:∃ b,b=d.down:=⟨_,rfl⟩;rw [← hdn] at c14;have HD:=hid hdn;clear hdn
  cases dn with
  | true=>
   go_wp2;go_ret;exact ⟨9,rfl,.inr ⟨HX.out,.inl ⟨HD.out.symm,rfl⟩⟩,HB.out⟩
  | false=>
   go_wp2;go_ret;exact ⟨0,rfl,.inr ⟨HX.out,.inr ⟨HD.out.symm,rfl⟩⟩,HB.out⟩
 ·have hne:(x != 0)=true:=by simp [hx0]
  go_wp2;go_ret;exact ⟨x,rfl,.inl ⟨hx0,HX.out⟩,HB.out⟩
def zhw (s:Nat→Int) (g k r:Int):Prop:=InP g 0 (s 0+s 1-1)∧InP k 0 (s 2+s 3-1)∧InP r 0 (s 4-1)
theorem zl8:(Tryz.prog.info? 34).map (·.size)=some 9:=by kernel_rfl
set_option maxRecDepth 20000 in
theorem ziw (s:Nat→Int) (hok:zar s) (g k r:Int) (w:World):Calls Tryz.prog 49 #[zak s,.int .i64 g,.int .i64 k,.int .i64 r] w (zbI (zhw s g k r) w):=by
 have hb:=okB hok;obtain ⟨t1,h1⟩:=exB (InP g 0 (s 0+s 1-1));obtain ⟨t2,h2⟩:=exB (InP k 0 (s 2+s 3-1));obtain ⟨t3,h3⟩:=exB (InP r 0 (s 4-1));have CA:=fun w'=>zbX s hok w';have CD:=fun w'=>zex s hok w';have C1:=fun w'=>zcl (w:=w') h1;have C2:=fun w'=>zcl (w:=w') h2;have C3:=fun w'=>zcl (w:=w') h3
 have HE:Hid (zhw s g k r↔(t1=true∧t2=true∧t3=true)):=by
  show zhw s g k r↔_
  rw [h1,h2,h3];exact Iff.rfl
 have T0:=zaI w (rwS s).toArray 34;unfold zak at CA CD ⊢;clear h1 h2 h3 hok
 go_enter Tryz.func49,Tryz.ntmps49
 go_wp2_with (refine zaj 34 (.tmp 4) rfl rfl w.heap.size rfl T0.b1 Tryz.underlying34 zl8 rfl ?_)
 refine (CA _).mono ?_;rintro e w1 ⟨rfl,b1⟩;have T1:=T0.call b1;have HT1:=hid T1
 have z1:IntKind.i64.wrap (s 0+s 1-1)=s 0+s 1-1:=by rw [IntKind.wrap_i64];omega
 have z2:IntKind.i64.wrap (s 2+s 3-1)=s 2+s 3-1:=by rw [IntKind.wrap_i64];omega
 have z3:IntKind.i64.wrap (s 4-1)=s 4-1:=by rw [IntKind.wrap_i64];omega
 have x_0:w1.cell? ⟨w.heap.size,0,none⟩=some (.int .i64 (s 0)):=T1.b1.cell 0;have x_1:w1.cell? ⟨w.heap.size,1,none⟩=some (.int .i64 (s 1)):=T1.b1.cell 1;have x_2:w1.cell? ⟨w.heap.size,2,none⟩=some (.int .i64 (s 2)):=T1.b1.cell 2;have x_3:w1.cell? ⟨w.heap.size,3,none⟩=some (.int .i64 (s 3)):=T1.b1.cell 3;have x_4:w1.cell? ⟨w.heap.size,4,none⟩=some (.int .i64 (s 4)):=T1.b1.cell 4;have x_5:w1.cell? ⟨w.heap.size,5,none⟩=some (.int .i64 (s 5)):=T1.b1.cell 5;have x_6:w1.cell? ⟨w.heap.size,6,none⟩=some (.int .i64 (s 6)):=T1.b1.cell 6;have x_7:w1.cell? ⟨w.heap.size,7,none⟩=some (.int .i64 (s 7)):=T1.b1.cell 7;have x_8:w1.cell? ⟨w.heap.size,8,none⟩=some (.int .i64 (s 8)):=T1.b1.cell 8;clear T0 b1 T1
 go_wp2_with fail
 refine (C1 _).mono ?_;rintro e w' ⟨rfl,hw'⟩;obtain rfl:=hw'.symm
 cases t1 with
 | false=>
  go_wp2;go_ret;exact zax rfl (fun h=>by have:=HE.out.1 h;simp at this) HT1.out.bel
 | true=>
 go_wp2_with fail
 refine (CD _).mono ?_;rintro e w2 ⟨rfl,b2⟩;have T2:=HT1.out.call b2;have HB2:=hid T2.bel;have y4:w2.cell? ⟨w.heap.size,4,none⟩=some (.int .i64 (s 4)):=T2.b1.cell 4;clear b2 T2 x_0 x_1 x_2 x_3 x_4 x_5 x_6 x_7 x_8
 go_wp2_with fail
 refine (C2 _).mono ?_;rintro e w' ⟨rfl,hw'⟩;obtain rfl:=hw'.symm
 cases t2 with
 | false=>
  go_wp2;go_ret;exact zax rfl (fun h=>by have:=HE.out.1 h;simp at this) HB2.out
 | true=>
 go_wp2_with fail
 refine (C3 _).mono ?_;rintro e w' ⟨rfl,hw'⟩;obtain rfl:=hw'.symm
 cases t3 with
 | false=>
  go_wp2;go_ret;exact zax rfl (fun h=>by have:=HE.out.1 h;simp at this) HB2.out
 | true=>
  go_wp2;go_ret;exact zaL rfl (HE.out.2 (by simp)) HB2.out
set_option maxRecDepth 20000 in
theorem zlj (d:WorldD) (cs:List Value) (hi:Nat) (g:Int) (w:World) (h:zab.rd w hi d cs) (hhi:hi≤w.heap.size):Calls Tryz.prog 109 #[.agg cs.toArray,.int .i64 g] w (zbI (HasP d.on.1 d.on.2 g) w):=by
 obtain ⟨ao1,cap1,ao2,cap2,ao3,cap3,rfl,g1,g2,g3,-⟩:=zaK h;obtain ⟨_,e2,⟨h2,_⟩,_⟩:=g2
 cases e2
 have T0:=zaI w (rwW d ao1 cap1 ao2 cap2 ao3 cap3).toArray 38;have C:=zez (.slice ao2 d.on.1 cap2) d.on.1 d.on.2 hi g _ (h2.below T0.bel hhi);clear h g1 g3 h2
 go_enter Tryz.func109,Tryz.ntmps109
 go_wp2_with fail
 refine C.mono ?_;rintro e w1 ⟨b,rfl,hb,b1⟩;have HP:=hid hb;have HB:Hid (Below w.heap.size w w1):=(T0.call b1).bel;clear b1 T0 C hb;go_wp2;go_ret;exact ⟨b,rfl,HP.out,HB.out⟩
theorem zkW {d:WorldD} {x:Int} (h:AskAns d x):(-9223372036854775808≤x∧x≤9223372036854775807):=by
 rcases h with ⟨_,h⟩ | ⟨_,h | h⟩
 ·exact zkB h
 ·rw [h.2];decide
 ·rw [h.2];decide
theorem zhx {d:WorldD} (h:AskAns d 0):OkWorld d:=by
 rcases h with ⟨h,_⟩ | ⟨h,_⟩
 ·exact absurd rfl h
 ·exact h.ok
theorem zl9 {d:WorldD} (h:AskAns d 0):d.down=false:=by
 rcases h with ⟨h,_⟩ | ⟨_,⟨_,h⟩ | ⟨h,_⟩⟩
 ·exact absurd rfl h
 ·cases h
 ·exact h
end Go.Proofs.YtlpbohnadenacaaGreat
