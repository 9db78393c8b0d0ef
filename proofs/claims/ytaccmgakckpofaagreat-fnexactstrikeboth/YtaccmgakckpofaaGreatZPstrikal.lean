/- striking as a task; StrikeBoth of the program. -/
import Derived.Deep.RegionHeld3
import Derived.Test.YtaccmgakckpofaaGreatZPstrikak
set_option linter.unusedVariables false
set_option linter.unusedSimpArgs false
set_option maxHeartbeats 16000000
namespace Go.Proofs.YtaccmgakckpofaaGreat
open Go.RowKit F256
theorem zf1 (o:Outc):o.next (fun d=>.done 0 d)=o:=by
 cases o with
 | cut d=>rfl
 | done c d=>
  show (if c=0 then _ else _)=_
  split
  ·rename_i h;rw [h]
  ·rfl
theorem ziN (f:Nat→WorldD→Outc) (d:WorldD):runO f 1 0 d=f 0 d:=zf1 _
theorem zhf {f:Nat→WorldD→Outc} (hf:∀ k d c d',f k d=.done c d'→c=0):∀ (m k:Nat) (d:WorldD) (c:Int) (d':WorldD),runO f m k d=.done c d'→c=0
 | 0,k,d,c,d',h=>by cases h;rfl
 | m+1,k,d,c,d',h=>by
  have h2:(f k d).next (runO f m (k+1))=.done c d':=h
  cases e:f k d with
  | cut x=>rw [e] at h2;cases h2
  | done c2 d2=>
   rw [e,hf k d c2 d2 e] at h2;exact zhf hf m (k+1) d2 c d' h2
theorem zc1 (kd sq:Int):∀ (m k:Nat) (d:WorldD) (c:Int) (d':WorldD),runO (zaw kd sq) m k d=.done c d'→c=0:=zhf (fun k d c d' h=>by
 unfold zaw rawO at h
 split at h
 ·cases h
 ·cases h;rfl)
set_option maxRecDepth 20000 in
theorem ze5 (kd sq:Int) (a1 a2 B:Nat) (w0:World) (h1:w0.cell? ⟨a1,0,none⟩=some (.int .i64 kd)) (h2:w0.cell? ⟨a2,0,none⟩=some (.int .i64 sq)) (l1:a1<B) (l2:a2<B) :
 TaskV 90 #[.pointer (some ⟨a1,0,none⟩),.pointer (some ⟨a2,0,none⟩)] (runO (zaw kd sq) 2 0) (Fit2 2) B w0:=by
 refine ⟨ziI Tryz.func90 (by kernel_rfl) (by kernel_rfl),fun w E d K hB hBE hBK hX hf=>?_⟩
 show Calls Tryz.prog 90 #[.pointer (some ⟨E,0,none⟩),.pointer (some ⟨a1,0,none⟩),.pointer (some ⟨a2,0,none⟩)] w _
 have g1:=(hB.cell (p:=⟨a1,0,none⟩) l1).trans h1;have g2:=(hB.cell (p:=⟨a2,0,none⟩) l2).trans h2;have HX:Hid (EncB w E d K):=hX;have HF:Hid (Fit2 2 d):=hf;have HBK:Hid (∀ b,b∈K→B≤b):=hBK;clear hX hf hBK h1 h2 hB
 go_enter Tryz.func90,Tryz.ntmps90
 go_wp2
 go_loopw [6] (fun i wr=>∃ (k m:Nat) (d1:WorldD) (K1:List Nat),k+m=2∧i=.int .i64 k∧EncB wr E d1 K1∧(∀ x,x∈K1→x∈K∨w.heap.size≤x)∧ChgL (E::K) w wr∧Fit2 m d1∧runO (zaw kd sq) 2 0 d=runO (zaw kd sq) m k d1) (fun i _=>2-(intOf i).toNat)
 case atStart=>exact ⟨0,2,d,K,by omega,rfl,HX.out,fun x hx=>.inl hx,ChgL.refl _ _,HF.out,rfl⟩
 case round=>
  obtain ⟨k,m,d1,K1,hkm,rfl,hX1,hK1,hC1,hf1,ho⟩:=hrel;have HK1:Hid (∀ x,x∈K1→x∈K∨w.heap.size≤x):=hK1;have HC1:Hid (ChgL (E::K) w wr):=hC1;have HO:Hid (runO (zaw kd sq) 2 0 d=runO (zaw kd sq) m k d1):=ho;have HF1:Hid (Fit2 m d1):=hf1;have HX1:Hid (EncB wr E d1 K1):=hX1;have zr:=hC1.size;have zE:=HX.out.lt
  have bB:Below B w wr:=hC1.bel (fun x hx=>by
   rcases List.mem_cons.1 hx with rfl | h
   ·exact hBE
   ·exact HBK.out x h) (by omega)
  have g1':=(bB.cell (p:=⟨a1,0,none⟩) l1).trans g1;have g2':=(bB.cell (p:=⟨a2,0,none⟩) l2).trans g2;clear hK1 hC1 ho hX1 bB
  cases m with
  | zero=>
   obtain rfl:k=2:=by omega
   clear hf1 hkm;go_wp2;go_ret;rw [HO.out];exact ⟨rfl,K1,HX1.out,HK1.out,HC1.out⟩
  | succ m=>
   have hk2:k<2:=by omega
   have t1:(k:Int)<2:=by omega
   have CR:=zhV E d1 K1 k kd sq wr HX1.out (by have:=hf1.two;omega) (hf1.few k hk2) (by have:=hf1.low;have:=hf1.room;omega);obtain ⟨oc,hoc⟩:∃ x,x=rawO (fun d=>zbr d k kd sq) d1:=⟨_,rfl⟩;have HOC:Hid (oc=zaw kd sq k d1):=hoc;rw [← hoc] at CR;clear hf1 hoc
   cases oc with
   | cut d2=>
    go_wp2_with (go_at_call 91;refine CR.mono ?_;rintro e w5 ⟨rfl,K5,X5,s5,C5⟩)
    refine ⟨rfl,?_⟩;rw [HO.out]
    have e:runO (zaw kd sq) (m+1) k d1=.cut d2:=by
     show (zaw kd sq k d1).next _=_
     rw [← HOC.out];rfl
    rw [e];exact RunP.after (rv:=fun c=>.int .i64 c) (o:=.cut d2) HK1.out HC1.out ⟨rfl,K5,X5,s5,C5⟩
   | done c d2=>
    go_wp2_with (go_at_call 91;refine CR.mono ?_;rintro e w5 ⟨rfl,K5,X5,s5,C5⟩)
    go_roundw
    case rel=>
     have c0:c=0:=zc1 kd sq 1 k d1 c d2 (by
      show (zaw kd sq k d1).next _=_
      rw [← HOC.out];exact zf1 _)
     refine ⟨k+1,m,d2,K5,by omega,by go_num,X5,fun x hx=>by
      rcases s5 x hx with h | h
      ·exact HK1.out x h
      ·exact .inr (by omega),zdj HC1.out HK1.out C5,zeg HF1.out hk2 HOC.out.symm,?_⟩
     rw [HO.out]
     show (zaw kd sq k d1).next _=_
     rw [← HOC.out,c0]
     simp [Outc.next]
    case measure=>simp [intOf];omega
theorem zgT (kd sq:Int) (w:World):Calls Tryz.prog 50 #[.int .i64 kd,.int .i64 sq] w fun e w'=>e=.returned (.func (.func 90) #[] #[.pointer (some ⟨w.heap.size,0,none⟩),.pointer (some ⟨w.heap.size+1,0,none⟩)])∧Box w' w.heap.size #[.int .i64 kd] 2∧Box w' (w.heap.size+1) #[.int .i64 sq] 2∧Below w.heap.size w w':=by
 have hmf:∀ (fn:Fn) (first cap:Array Value) (w:World),(Instr.makeFunc fn first cap).run Tryz.prog w=.ok (.func fn first cap) w:=fun _ _ _ _=>rfl;have T0:=zay w #[.int .i64 kd] #[.int .i64 sq] 2 2
 go_enter Tryz.func50,Tryz.ntmps50
 go_wp2;go_ret;exact ⟨by simp,T0.b1,T0.b2,T0.bel⟩
def SbAns (d:WorldD) (kd sq:Int) (r:WorldResultD):Prop:=(∃ x,x≠0∧AskAns d x∧r=⟨x,zfz⟩)∨(AskAns d 0∧r=(runO (zaw kd sq) 2 0 d).final)
theorem SbAns.one {d:WorldD} {kd sq:Int} {r q:WorldResultD} (h:SbAns d kd sq r) (l:SbAns d kd sq q):r=q:=by
 rcases h with ⟨x,h1,h2,rfl⟩ | ⟨h1,rfl⟩<;>rcases l with ⟨y,k1,k2,rfl⟩ | ⟨k1,rfl⟩
 ·rw [h2.one k2]
 ·exact absurd (h2.one k1) h1
 ·exact absurd (k2.one h1) k1
 ·rfl
theorem zjm {d:WorldD} (h:OkWorld d) (hd:d.down=false):Fit2 1000000 d:=by
 obtain ⟨hc,_⟩:=h.count;unfold InP at hc;refine ⟨h.form.2.2,fun T hT=>?_,hd,by omega,by omega⟩;have:=h.few T (by rw [h.form.2.2];exact hT);omega
theorem Fit2.less {n m:Nat} {d:WorldD} (h:Fit2 n d) (hm:m≤n):Fit2 m d:=⟨h.two,h.few,h.up,h.low,by have:=h.room;omega⟩
set_option maxRecDepth 20000 in
theorem zhY (d:WorldD) (kd:Int) (sq:Int) (cs:List Value) (hi:Nat) (w:World) (h:zac.rd w hi d cs) (hhi:hi≤w.heap.size) (hsz:zaU d≤1048576) (hkd:-9223372036854775808≤kd∧kd≤9223372036854775807) (hsq:-9223372036854775808≤sq∧sq≤9223372036854775807) :
 Calls Tryz.prog 19 #[.agg cs.toArray,.int .i64 kd,.int .i64 sq] w (zd2 (SbAns d kd sq) w):=by
 have h':=h;obtain ⟨ao1,cap1,ao2,cap2,ao3,cap3,rfl,g1,g2,g3,k0,k4,k5⟩:=zaN h';have HRD:=hid h;have HSZ:=hid hsz;have Hkd:=hid hkd;have Hsq:=hid hsq;clear h h' hsz g1 g2 g3 k0 k4 k5 hkd hsq;have T0:=zay w (rwW d ao1 cap1 ao2 cap2 ao3 cap3).toArray rwZ.toArray 38 40
 go_enter Tryz.func19,Tryz.ntmps19
 go_wp2_with (refine zap 38 (.tmp 3) rfl rfl (w.heap.size) rfl (T0.b1) Tryz.underlying38 zbq rfl ?_)
 refine (zgS d _ hi _ (zac.rd_below HRD.out T0.bel hhi) (Nat.le_trans hhi T0.bel.size) HSZ.out).mono ?_;rintro e w1 ⟨x,rfl,hx,b1⟩;have HT1:=hid (T0.call b1);have HX:=hid hx;have z1:w.heap.size+1<w1.heap.size:=HT1.out.b2.lt;clear b1 T0 hx
 by_cases hx0:x=0
 case neg=>
  have hne:(x != 0)=true:=by simp [hx0]
  go_wp2_with (refine za4 40 _ _ rfl rfl (w.heap.size+1) rfl (cs:=(.int .i64 x::rwY)) rfl (HT1.out.b2) zaM rfl rfl (zdJ _ (zdk HX.out) w) ?_;intro w9 X9 C9 z9)
  refine zb5 Tryz.results19 rfl X9 Tryz.underlying40 zaM rfl rfl ?_;exact zfC (zdk HX.out) HT1.out.bel C9 (.inl ⟨x,hx0,HX.out,rfl⟩)
 subst hx0;have HOK:=hid (ziM HX.out);have hf0:=zjm HOK.out (zjl HX.out);have CK:=zgT kd sq w1.drew;have B0:Below w1.heap.size w1 w1.drew:=zeC _;have KS:∀ w',Below w1.heap.size w1 w'→(Box w' w.heap.size (rwW d ao1 cap1 ao2 cap2 ao3 cap3).toArray 38):=fun w' hb=>HT1.out.b1.call hb
 go_upto_region 4 with fail
 refine zby 6 (fun w'=>Box w' w.heap.size (rwW d ao1 cap1 ao2 cap2 ao3 cap3).toArray 38) (by kernel_rfl) (KS _ B0) (fun hHeld=>?_);refine zaa (i:=0) (oi:=_) 16 rfl (by kernel_rfl) (fun _ _ _ h=>h) (zdu 38 (.tmp 3) rfl rfl (w.heap.size) rfl (cs:=(rwW d ao1 cap1 ao2 cap2 ao3 cap3)) (fun w' h=>h) Tryz.underlying38 zbq rfl) (by assumption) ?_
 try simp only [Act.put,SL]
 refine zjQ 1 (v:=?_) rfl ?_ ?_
 rotate_left
 ·intro w' hSw;go_simp;try with_reducible rfl
 try simp only [Act.put,SL]
 refine zjQ 2 (v:=?_) rfl ?_ ?_
 rotate_left
 ·intro w' hSw;go_simp;try with_reducible rfl
 try simp only [Act.put,SL]
 refine zaP (i:=3) (o:=_) rfl (by kernel_rfl) (fun KC hKC=>?_);refine zbD rfl 50 _ _ rfl #[.int .i64 kd,.int .i64 sq] ?_ Tryz.func50 (by kernel_rfl) (by kernel_rfl) CK ?_
 ·simp [Act.eval,Act.put]
 rintro ee w5 ⟨rfl,q1,q2,b5'⟩;have b5:Below w1.heap.size w1 w5:=B0.trans b5';refine ⟨_,rfl,?_⟩;refine hKC.out _ _ (KS _ b5) (fun hHeld=>?_);clear hKC KC CK b5'
 try simp only [Act.put,SL]
 refine zaP (i:=4) (o:=_) rfl (by kernel_rfl) (fun KC hKC=>?_);have bN:Below w5.heap.size w5 (w5.alloc (.cells #[.func (.func 90) #[] #[.pointer (some ⟨w1.heap.size,0,none⟩),.pointer (some ⟨w1.heap.size+1,0,none⟩)]] 72)):=(Below.refl _ _).alloc (Nat.le_refl _) _;have XN:Box (w5.alloc (.cells #[.func (.func 90) #[] #[.pointer (some ⟨w1.heap.size,0,none⟩),.pointer (some ⟨w1.heap.size+1,0,none⟩)]] 72)) w5.heap.size #[.func (.func 90) #[] #[.pointer (some ⟨w1.heap.size,0,none⟩),.pointer (some ⟨w1.heap.size+1,0,none⟩)]] 72:=zaA _ _ _;go_simp;refine hKC.out _ _ (KS _ (b5.trans (bN.mono b5.size))) (fun hHeld=>?_);clear hKC KC
 try simp only [Act.put,SL]
 obtain ⟨w6,hw6⟩:∃ x,x=(w5.alloc (.cells #[.func (.func 90) #[] #[.pointer (some ⟨w1.heap.size,0,none⟩),.pointer (some ⟨w1.heap.size+1,0,none⟩)]] 72)):=⟨_,rfl⟩
 have b6:Below w1.heap.size w1 w6:=by rw [hw6];exact b5.trans (bN.mono b5.size)
 have z56:w5.heap.size<w6.heap.size:=by rw [hw6];exact XN.lt
 have T6:=HT1.out.call b6
 have b56:Below w5.heap.size w5 w6:=by rw [hw6];exact bN
 have xN:w6.cell? ⟨w5.heap.size,0+0,none⟩=some (.func (.func 90) #[] #[.pointer (some ⟨w1.heap.size,0,none⟩),.pointer (some ⟨w1.heap.size+1,0,none⟩)]):=by rw [hw6];exact XN.cell 0
 have q1':=q1.below b56 q1.lt;have q2':=q2.below b56 q2.lt
 have CV:=zfY d (rwW d ao1 cap1 ao2 cap2 ao3 cap3) hi (fun _=>90) (fun _=>#[.pointer (some ⟨w1.heap.size,0,none⟩),.pointer (some ⟨w1.heap.size+1,0,none⟩)]) (fun _=>(runO (zaw kd sq) 2 0)) (fun _=>Fit2 2) 1 w5.heap.size 0 1 w6 (zac.rd_below HRD.out T6.bel hhi) (Nat.le_trans hhi T6.bel.size) HSZ.out
  (fun i _=>ze5 kd sq w1.heap.size (w1.heap.size+1) w6.heap.size w6 (q1'.cell 0) (q2'.cell 0) q1'.lt q2'.lt) (fun i hi=>by
   have h0:i=0:=by omega
   subst h0
   exact xN) z56 (by decide) ⟨hf0.less (by decide),by unfold zgP;split<;>simp [zef]⟩ (by
   rw [ziN]
   cases e:(runO (zaw kd sq) 2 0) d with
   | cut x=>exact ⟨show (-9223372036854775808:Int)≤0 by decide,show (0:Int)≤9223372036854775807 by decide⟩
   | done c x=>
    rw [zc1 kd sq _ _ _ _ _ e]
    exact ⟨show (-9223372036854775808:Int)≤0 by decide,show (0:Int)≤9223372036854775807 by decide⟩)
 rw [ziN] at CV
 have CW:=CV.mono (R':=fun e w'=>∃ sc s0 s1 s2 s3 s4 s5 s6 s7 s8 sp0 sl0 sq0 sp1 sl1 sq1 sp2 sl2 sq2 s9 s10 sb,e=.returned (.agg (.int .i64 sc::rwV s0 s1 s2 s3 s4 s5 s6 s7 s8 sp0 sl0 sq0 sp1 sl1 sq1 sp2 sl2 sq2 s9 s10 sb).toArray)∧OwnT zaq w' w6.heap.size w'.heap.size ((runO (zaw kd sq) 2 0) d).final (.int .i64 sc::rwV s0 s1 s2 s3 s4 s5 s6 s7 s8 sp0 sl0 sq0 sp1 sl1 sq1 sp2 sl2 sq2 s9 s10 sb)∧Below w6.heap.size w6 w') (fun e w' ⟨cs',he,ho,hb⟩=>by
  obtain ⟨sc,s0,s1,s2,s3,s4,s5,s6,s7,s8,sp0,sl0,sq0,sp1,sl1,sq1,sp2,sl2,sq2,s9,s10,sb,rfl⟩:=zg9 ho.rd
  exact ⟨sc,s0,s1,s2,s3,s4,s5,s6,s7,s8,sp0,sl0,sq0,sp1,sl1,sq1,sp2,sl2,sq2,s9,s10,sb,he,ho,hb⟩)
 clear CV hf0;rw [← hw6];refine zaP (i:=5) (o:=_) rfl (by kernel_rfl) (fun KC hKC=>?_);refine zbD rfl 37 _ _ rfl #[.agg (rwW d ao1 cap1 ao2 cap2 ao3 cap3).toArray,.slice (some ⟨w5.heap.size,0,none⟩) 1 1] ?_ Tryz.func37 (by kernel_rfl) (by kernel_rfl) CW ?_
 ·simp [Act.eval,Act.put]
 rintro ee w7 ⟨sc,s0,s1,s2,s3,s4,s5,s6,s7,s8,sp0,sl0,sq0,sp1,sl1,sq1,sp2,sl2,sq2,s9,s10,sb,rfl,o7,b7⟩;have T7:=T6.call b7;have z7:w6.heap.size≤w7.heap.size:=b7.size;refine ⟨_,rfl,?_⟩;refine hKC.out _ _ (KS _ (b6.trans (b7.mono b6.size))) (fun hHeld=>?_);clear hKC KC
 try simp only [Act.put,SL]
 refine zf0 rfl (by kernel_rfl) (by kernel_rfl) rfl rfl 40 (.tmp 6) (.tmp 19) rfl (w.heap.size+1) rfl (cs:=(.int .i64 sc::rwV s0 s1 s2 s3 s4 s5 s6 s7 s8 sp0 sl0 sq0 sp1 sl1 sq1 sp2 sl2 sq2 s9 s10 sb)) (old:=rwZ) rfl T7.b2 zaM rfl rfl o7.one (fun w9 X9 C9 z9=>?_);have z6:=b6.size;go_wp2;refine zb5 Tryz.results19 rfl X9 Tryz.underlying40 zaM rfl rfl ?_;exact ⟨_,(.int .i64 sc::rwV s0 s1 s2 s3 s4 s5 s6 s7 s8 sp0 sl0 sq0 sp1 sl1 sq1 sp2 sl2 sq2 s9 s10 sb),rfl,.inr ⟨HX.out,rfl⟩,(o7.chgk C9 (fun b hb=>by simp at hb;omega)).weaken (by omega) C9.size,T7.bel.trans (C9.bel (fun b hb=>by simp at hb;omega) T7.bel.size)⟩
theorem drive_of' {w:World} {lo hi:Nat} {d:DriveD} {ao:Option Addr} {cap:Nat} (h:OwnT (zah.slice 103) w lo hi d.blocks [.slice ao d.blocks.1 cap]):OwnT zab w lo hi d [.bool d.wiped,.slice ao d.blocks.1 cap]:=
 OwnT.conv (OwnT.pre (A:=layB) (a:=d.wiped) (c:=[.bool d.wiped]) ⟨rfl,trivial,rfl⟩ h)
theorem tape_of' {w:World} {lo hi:Nat} {d:TapeD} {ao:Option Addr} {cap:Nat} (h:OwnT (zad.slice 43) w lo hi d.recs [.slice ao d.recs.1 cap]):OwnT zag w lo hi d [.bool d.wiped,.slice ao d.recs.1 cap]:=
 OwnT.conv (OwnT.pre (A:=layB) (a:=d.wiped) (c:=[.bool d.wiped]) ⟨rfl,trivial,rfl⟩ h)
theorem Three.chgl3 {w wc w':World} {c1 c2 c3:Array Value} {t1 t2 t3:TypeId} (h:Three w wc c1 c2 c3 t1 t2 t3) (c3':Array Value) (hb:Box w' (w.heap.size+1+1) c3' t3) (hc:ChgL [w.heap.size+1+1] wc w'):Three w w' c1 c2 c3' t1 t2 t3:=
 ⟨h.b1.chgl hc (by simp only [List.mem_singleton];omega),h.b2.chgl hc (by simp only [List.mem_singleton];omega),hb,h.bel.trans (hc.bel (fun b hb=>by simp only [List.mem_singleton] at hb;omega) h.bel.size)⟩
theorem OwnT.chgl {α:Type} {A:Lay α} {w w':World} {lo hi:Nat} {a:α} {cs:List Value} {K:List Nat} (h:OwnT A w lo hi a cs) (hc:ChgL K w w') (hK:∀ b,b∈K→b<lo):OwnT A w' lo hi a cs:=by
 obtain ⟨M,h1,h2,h3⟩:=h;exact ⟨M,A.own_kept h1 (fun b hb=>hc.block b (A.own_lt h1 b hb) (fun hh=>by have:=hK b hh;have:=(h3 b hb).1;omega)),h2,h3⟩
set_option maxRecDepth 20000 in
theorem ziO:ToV zac zaU 27:=fun cs d hi w r hhi hn=>by
 obtain ⟨ao1,cap1,ao2,cap2,ao3,cap3,rfl,g1,g2,g3,k0,k4,k5⟩:=zaN r;clear r;unfold zaU lenD at hn
 have hnG:szSl (szSl zam) d.groups≤1048576:=by omega
 have hnO:d.on.1≤1048576:=by omega
 have hnT:szSl zaS d.tapes≤1048576:=by omega
 clear hn;have Q0:=hid k0;have Q4:=hid k4;have Q5:=hid k5;have HG2:=hid g2;obtain ⟨_,_,e1,hm1,hc1⟩:=g1
 cases e1
 obtain ⟨_,_,e3,hm3,hc3⟩:=g3
 cases e3
 have HC1:=hid hc1;have HC3:=hid hc3;have hgn:=zb1 hnG;have htn:=zb1 hnT;have HNG:Hid (∀ i,i<d.groups.1→szSl zam (d.groups.2 i)≤1048576):=fun i hi=>zbl hnG hi;have HNT:Hid (∀ i,i<d.tapes.1→zaS (d.tapes.2 i)≤1048576):=fun i hi=>zbl hnT hi;clear k0 k4 k5 g2 hc1 hc3 hnG hnT hm1 hm3;have T0:=zbn w (rwW d ao1 cap1 ao2 cap2 ao3 cap3).toArray (rwV 0 0 0 0 0 0 0 0 0 none 0 0 none 0 0 none 0 0 0 0 false).toArray #[.int .i64 (d.shape 0),.int .i64 (d.shape 1),.int .i64 (d.shape 2),.int .i64 (d.shape 3),.int .i64 (d.shape 4),.int .i64 (d.shape 5),.int .i64 (d.shape 6),.int .i64 (d.shape 7),.int .i64 (d.shape 8),.slice none 0 0,.slice ao2 d.on.1 cap2,.slice ao3 d.tapes.1 cap3,.int .i64 d.writes,.int .i64 d.stop,.bool d.down] 38 38 38
 go_enter Tryz.func27,Tryz.ntmps27
 go_wp2
 go_loopw [4] (fun i wr=>∃ (g:Nat) (ga:Option Addr) (gc:Nat),g≤d.groups.1∧i=.int .i64 g∧Three w wr (rwW d ao1 cap1 ao2 cap2 ao3 cap3).toArray (rwV 0 0 0 0 0 0 0 0 0 none 0 0 none 0 0 none 0 0 0 0 false).toArray #[.int .i64 (d.shape 0),.int .i64 (d.shape 1),.int .i64 (d.shape 2),.int .i64 (d.shape 3),.int .i64 (d.shape 4),.int .i64 (d.shape 5),.int .i64 (d.shape 6),.int .i64 (d.shape 7),.int .i64 (d.shape 8),.slice ga g gc,.slice ao2 d.on.1 cap2,.slice ao3 d.tapes.1 cap3,.int .i64 d.writes,.int .i64 d.stop,.bool d.down] 38 38 38∧Gat (zab.slice 101) 98 wr (w.heap.size+1+1+1) (.slice ga g gc) g d.groups.2) (fun i _=>d.groups.1-(intOf i).toNat)
 case atStart=>exact ⟨0,none,0,Nat.zero_le _,rfl,T0,Gat.nil _ _ _⟩
 case round=>
  clear T0;obtain ⟨g,ga,gc,hg,rfl,T1,G1⟩:=hrel;obtain ⟨wo,rfl⟩:∃ x,x=wr:=⟨_,rfl⟩;have HT1:=hid T1;have HG1:=hid G1;have zo:w.heap.size+1+1+1≤wo.heap.size:=T1.lt;have x9:wo.cell? ⟨w.heap.size,9,none⟩=some (.slice ao1 d.groups.1 cap1):=T1.b1.cell 9
  by_cases hlg:g<d.groups.1
  ·obtain ⟨b1,off1,he1,hb1,hel1⟩:=HC1.out (by omega)
   subst he1;obtain ⟨cg,hrg,hcg⟩:=zar (t:=0) hel1 T1.bel hhi hb1 hlg;obtain ⟨ao9,cap9,rfl⟩:=zbv hrg
   have c0:wo.cell? ⟨b1,off1+g,none⟩=some (.slice ao9 (d.groups.2 g).1 cap9):=by
    have:=hcg 0 (by decide)
    have e:off1+(g*(zab.slice 101).sz+0)=off1+g:=by show off1+(g*1+0)=off1+g;omega
    rw [e] at this;exact this
   have HC0:=hid c0;have hnD:=HNG.out g hlg;have hdn:=zb1 hnD;have HND:Hid (∀ i,i<(d.groups.2 g).1→zam ((d.groups.2 g).2 i)≤1048576):=fun i hi=>zbl hnD hi;obtain ⟨_,_,e9,hm9,hc9⟩:=hrg
   cases e9
   have HC9:=hid hc9;clear hel1 hcg T1 G1 hc9 hnD hm9;go_wp2
   go_loopw [5,6] (fun v i wx=>∃ (k:Nat) (da:Option Addr) (dc:Nat),k≤(d.groups.2 g).1∧i=.int .i64 k∧v=.slice da k dc∧Gat zab 101 wx wo.heap.size (.slice da k dc) k (d.groups.2 g).2∧Below wo.heap.size wo wx) (fun _ i _=>(d.groups.2 g).1-(intOf i).toNat)
   case atStart=>exact ⟨0,_,_,Nat.zero_le _,rfl,rfl,zg7 _ _,(Below.refl _ _).alloc (Nat.le_refl _) _⟩
   case round=>
    clear x9 c0;obtain ⟨k,da,dc,hk,rfl,rfl,G2,B2⟩:=hrel;obtain ⟨wx,rfl⟩:∃ x,x=wr:=⟨_,rfl⟩;have HG2':=hid G2;have HB2:=hid B2;have zx:wo.heap.size≤wx.heap.size:=B2.size;have x9:wx.cell? ⟨w.heap.size,9,none⟩=some (.slice (some ⟨b1,off1,none⟩) d.groups.1 cap1):=(HT1.out.call B2).b1.cell 9;have c0:wx.cell? ⟨b1,off1+g,none⟩=some (.slice ao9 (d.groups.2 g).1 cap9):=(B2.cell (p:=⟨b1,off1+g,none⟩) (by show b1<wo.heap.size;omega)).trans HC0.out
    by_cases hlk:k<(d.groups.2 g).1
    ·obtain ⟨b9,off9,he9,hb9,hel9⟩:=HC9.out (by omega)
     subst he9;obtain ⟨cd,hrd,hcd⟩:=zar (t:=0) hel9 B2 (by omega) hb9 hlk;obtain ⟨ao5,cap5,rfl,g5⟩:=zbi hrd;obtain ⟨D,hD⟩:∃ x,x=(d.groups.2 g).2 k:=⟨_,rfl⟩;rw [← hD] at hcd g5;have HD:=hid hD
     have hnB:szSl zaC D.blocks≤1048576:=by rw [hD];exact HND.out k hlk
     have hbn:=zb1 hnB;have HNB:Hid (∀ i,i<D.blocks.1→zaC (D.blocks.2 i)≤1048576):=fun i hi=>zbl hnB hi;have c2:wx.cell? ⟨b9,off9+k*2,none⟩=some (.bool D.wiped):=hcd 0 (by decide);have c3:wx.cell? ⟨b9,off9+k*2+1,none⟩=some (.slice ao5 D.blocks.1 cap5):=hcd 1 (by decide);have HC3':=hid c3;have HC0':=hid c0;obtain ⟨_,_,e5,hm5,hc5⟩:=g5
     cases e5
     have HC5:=hid hc5;clear hel9 hcd hrd G2 B2 hD hnB hc5 hm5;go_wp2;have bA:=bAl wx (.cells #[.bool D.wiped,.slice none 0 0] 101);have XA:=zaA wx #[.bool D.wiped,.slice none 0 0] 101
     go_loopw [8] (fun i wz=>∃ (q:Nat) (ba:Option Addr) (bc:Nat),q≤D.blocks.1∧i=.int .i64 q∧Box wz wx.heap.size #[.bool D.wiped,.slice ba q bc] 101∧Gat zah 103 wz (wx.heap.size+1) (.slice ba q bc) q D.blocks.2∧Below wx.heap.size wx wz) (fun i _=>D.blocks.1-(intOf i).toNat)
     case atStart=>exact ⟨0,none,0,Nat.zero_le _,rfl,XA,Gat.nil _ _ _,bA⟩
     case round=>
      clear x9 c0 c2 c3 bA XA;obtain ⟨q,ba,bc,hq,rfl,X3,G3,B3⟩:=hrel;obtain ⟨wz,rfl⟩:∃ x,x=wr:=⟨_,rfl⟩;have HX3:=hid X3;have HG3:=hid G3;have HB3:=hid B3;have zz:wx.heap.size<wz.heap.size:=X3.lt;have x9:wz.cell? ⟨w.heap.size,9,none⟩=some (.slice (some ⟨b1,off1,none⟩) d.groups.1 cap1):=((HT1.out.call HB2.out).call B3).b1.cell 9;have c0:wz.cell? ⟨b1,off1+g,none⟩=some (.slice (some ⟨b9,off9,none⟩) (d.groups.2 g).1 cap9):=(B3.cell (p:=⟨b1,off1+g,none⟩) (by show b1<wx.heap.size;omega)).trans HC0'.out;have c3:wz.cell? ⟨b9,off9+k*2+1,none⟩=some (.slice ao5 D.blocks.1 cap5):=(B3.cell (p:=⟨b9,off9+k*2+1,none⟩) (by show b9<wx.heap.size;omega)).trans HC3'.out;have y0:wz.cell? ⟨wx.heap.size,0,none⟩=some (.bool D.wiped):=X3.cell 0;have y1:wz.cell? ⟨wx.heap.size,1,none⟩=some (.slice ba q bc):=X3.cell 1
      by_cases hlq:q<D.blocks.1
      ·obtain ⟨b5,off5,he5,hb5,hel5⟩:=HC5.out (by omega)
       subst he5;obtain ⟨cb,hrb,hcb⟩:=zar (t:=0) hel5 B3 (by omega) hb5 hlq;obtain ⟨ao0,cap0,rfl,-⟩:=zbc hrb;have s0:wz.cell? ⟨b5,off5+q*2,none⟩=some (.int .i64 (D.blocks.2 q).stamp):=hcb 0 (by decide);have s1:wz.cell? ⟨b5,off5+q*2+1,none⟩=some (.slice ao0 (D.blocks.2 q).bytes.1 cap0):=hcb 1 (by decide);have CC:=zeo _ (D.blocks.2 q) hi wz.drew (zah.rd_below (B:=hi) hrb ⟨rfl,rfl,rfl,Nat.le_refl _,fun _ _=>rfl⟩ (Nat.le_refl _)) (show hi≤wz.heap.size by omega) (HNB.out q hlq)
       have CC:=CC.mono (R':=fun e w'=>∃ bo bcc,e=.returned (.agg #[.int .i64 (D.blocks.2 q).stamp,.slice bo (D.blocks.2 q).bytes.1 bcc])∧OwnT zah w' wz.drew.heap.size w'.heap.size (D.blocks.2 q) [.int .i64 (D.blocks.2 q).stamp,.slice bo (D.blocks.2 q).bytes.1 bcc]∧Below wz.drew.heap.size wz.drew w') (fun e w' ⟨c5,he,o5,b5'⟩=>by
        obtain ⟨bo,bcc,rfl⟩:=zcU o5
        exact ⟨bo,bcc,he,o5,b5'⟩)
       clear hel5 hcb hrb X3 G3 B3;have KS:∀ w',Below (wx.heap.size+1) wz w'→(w'.cell? ⟨w.heap.size,9,none⟩=some (.slice (some ⟨b1,off1,none⟩) d.groups.1 cap1)∧w'.cell? ⟨b1,off1+g,none⟩=some (.slice (some ⟨b9,off9,none⟩) (d.groups.2 g).1 cap9)∧w'.cell? ⟨b9,off9+k*2+1,none⟩=some (.slice (some ⟨b5,off5,none⟩) D.blocks.1 cap5)∧w'.cell? ⟨b5,off5+q*2,none⟩=some (.int .i64 (D.blocks.2 q).stamp)∧w'.cell? ⟨b5,off5+q*2+1,none⟩=some (.slice ao0 (D.blocks.2 q).bytes.1 cap0)∧w'.cell? ⟨wx.heap.size,1,none⟩=some (.slice ba q bc)):=fun w' hb=>⟨(hb.cell (p:=⟨w.heap.size,9,none⟩) (by show w.heap.size<wx.heap.size+1;omega)).trans x9,(hb.cell (p:=⟨b1,off1+g,none⟩) (by show b1<wx.heap.size+1;omega)).trans c0,(hb.cell (p:=⟨b9,off9+k*2+1,none⟩) (by show b9<wx.heap.size+1;omega)).trans c3,(hb.cell (p:=⟨b5,off5+q*2,none⟩) (by show b5<wx.heap.size+1;omega)).trans s0,(hb.cell (p:=⟨b5,off5+q*2+1,none⟩) (by show b5<wx.heap.size+1;omega)).trans s1,(hb.cell (p:=⟨wx.heap.size,1,none⟩) (Nat.lt_succ_self _)).trans y1⟩
       have i1:(0:Int)≤(g:Int):=by omega
       have i2:(g:Int)<(d.groups.1:Int):=by omega
       have i3:(0:Int)≤(k:Int):=by omega
       have i4:(k:Int)<((d.groups.2 g).1:Int):=by omega
       have i5:(0:Int)≤(q:Int):=by omega
       have i6:(q:Int)<(D.blocks.1:Int):=by omega
       go_upto_region 14 with fail
       refine zby 18 (fun w'=>w'.cell? ⟨w.heap.size,9,none⟩=some (.slice (some ⟨b1,off1,none⟩) d.groups.1 cap1)∧w'.cell? ⟨b1,off1+g,none⟩=some (.slice (some ⟨b9,off9,none⟩) (d.groups.2 g).1 cap9)∧w'.cell? ⟨b9,off9+k*2+1,none⟩=some (.slice (some ⟨b5,off5,none⟩) D.blocks.1 cap5)∧w'.cell? ⟨b5,off5+q*2,none⟩=some (.int .i64 (D.blocks.2 q).stamp)∧w'.cell? ⟨b5,off5+q*2+1,none⟩=some (.slice ao0 (D.blocks.2 q).bytes.1 cap0)∧w'.cell? ⟨wx.heap.size,1,none⟩=some (.slice ba q bc)) (by kernel_rfl) (KS _ ⟨rfl,rfl,rfl,Nat.le_refl _,fun _ _=>rfl⟩) (fun hHeld=>?_);refine zjR 0 rfl ?_
       try simp only [Act.put,SL]
       refine zjR 1 rfl ?_
       try simp only [Act.put,SL]
       refine zjR 2 rfl ?_
       try simp only [Act.put,SL]
       refine zjR 3 rfl ?_
       try simp only [Act.put,SL]
       refine zjR 4 rfl ?_
       try simp only [Act.put,SL]
       refine zjR 5 rfl ?_
       try simp only [Act.put,SL]
       refine zjR 6 rfl ?_
       try simp only [Act.put,SL]
       refine zjR 7 rfl ?_
       try simp only [Act.put,SL]
       refine zjR 8 rfl ?_
       try simp only [Act.put,SL]
       refine zjR 9 rfl ?_
       try simp only [Act.put,SL]
       refine zjR 10 rfl ?_
       try simp only [Act.put,SL]
       refine zjR 11 rfl ?_
       try simp only [Act.put,SL]
       refine zjR 12 rfl ?_
       try simp only [Act.put,SL]
       refine zjR 13 rfl ?_
       try simp only [Act.put,SL]
       refine zaP (i:=14) (o:=_) rfl (by kernel_rfl) (fun K hK=>?_)
       refine zbD rfl 63 _ _ rfl #[.agg #[.int .i64 (D.blocks.2 q).stamp,.slice ao0 (D.blocks.2 q).bytes.1 cap0]] ?_ Tryz.func63 (by kernel_rfl) (by kernel_rfl) CC ?_;(simp [Act.eval,Act.put]);rintro ee w5 ⟨bo,bcc,rfl,o5,b5'⟩;have b5w:Below wz.heap.size wz w5:=⟨b5'.os,b5'.tape,b5'.output,b5'.size,b5'.block⟩;have q1:w5.cell? ⟨wx.heap.size,1,none⟩=some (.slice ba q bc):=(HX3.out.call b5w).cell 1;have q3:=(zb9 w5 (.cells #[.int .i64 (D.blocks.2 q).stamp,.slice bo (D.blocks.2 q).bytes.1 bcc] 103) wx.heap.size 1 (by have:=b5w.size;omega)).trans q1;refine ⟨_,rfl,?_⟩
       refine hK.out _ _ (KS _ (b5w.mono (Nat.succ_le_of_lt zz))) (fun hHeld=>?_);clear hK K
       try simp only [Act.put,SL]
       refine zaP (i:=15) (o:=_) rfl (by kernel_rfl) (fun K hK=>?_);go_simp;refine hK.out _ _ (KS _ ((b5w.mono (Nat.succ_le_of_lt zz)).alloc (by have:=b5w.size;omega) _)) (fun hHeld=>?_);clear hK K
       try simp only [Act.put,SL]
       refine zaP (i:=16) (o:=_) rfl (by kernel_rfl) (fun K hK=>?_)
       refine zdx zeN rfl (.tmp 55) (.tmp 69) rfl (lo:=wx.heap.size+1) (n:=q) (v:=.slice ba q bc) (x:=D.blocks.2) ?_ HG3.out b5w o5 ?_ w5.heap.size 1 ?_ (fun j _=>zb4 w5 _ _ j) (by omega) (by omega) ?_;(simp [Act.eval,Act.put]);(exact (Below.refl _ _).alloc (Nat.le_refl _) _);(simp [Act.eval,Act.put]);intro v4 w4 g4 b4;obtain ⟨ba4,bc4,rfl⟩:=g4.form;have X4:=HX3.out.below b4 (Nat.lt_succ_self _);have p1:w4.cell? ⟨wx.heap.size,1,none⟩=some (.slice ba q bc):=X4.cell 1;have p2:w4.frozen? ⟨wx.heap.size,1,none⟩=false:=X4.frozen 1
       refine hK.out _ _ (KS _ b4) (fun hHeld=>?_);clear hK K
       try simp only [Act.put,SL]
       refine zaP (i:=17) (o:=_) rfl (by kernel_rfl) (fun K hK=>?_);go_simp;refine hK.out _ _ (KS _ b4) (fun hHeld=>?_);clear hK K
       try simp only [Act.put,SL]
       refine zbw (o:=_) rfl (by kernel_rfl) (fun K hK=>?_);go_simp;refine hK.out _ _ ?_;clear hK K
       try simp only [Act.put,SL]
       refine zbx (by kernel_rfl) ?_ _;go_wp2
       go_roundw
       case rel=>exact ⟨q+1,ba4,bc4,by omega,by go_num,X4.setc 1 (.slice ba4 (q+1) bc4),(g4.set _ _ _ (Nat.lt_succ_self _)).congr (fun i _=>by rw [zb6]),(HB3.out.trans (b4.mono (Nat.le_succ _))).setCell (Nat.le_refl _) _⟩
       case measure=>simp [intOf];omega
      ·obtain rfl:q=D.blocks.1:=by omega
       have OD:OwnT zab wz wx.heap.size wz.heap.size D [.bool D.wiped,.slice ba D.blocks.1 bc]:=drive_of' (HG3.out.own.weaken (Nat.le_succ _) (Nat.le_refl _));clear X3 G3 B3
       go_wp2_with (at_builtin;refine zdq zeO rfl (.tmp 72) (.tmp 74) rfl (lo:=wo.heap.size) (n:=k) (v:=.slice da k dc) (x:=(d.groups.2 g).2) ?_ HG2'.out HB3.out OD ?_ wz.heap.size 1 ?_ (fun j _=>zb4 wz _ _ j) (by omega) (by omega) ?_;(simp [Act.eval]);(exact (Below.refl _ _).alloc (Nat.le_refl _) _);(simp [Act.eval]);intro v4 w4 g4 b4;obtain ⟨da4,dc4,rfl⟩:=g4.form)
       go_roundw
       case rel=>exact ⟨k+1,da4,dc4,by omega,by go_num,rfl,g4.congr (fun i _=>by rw [HD.out,zb6]),HB2.out.trans b4⟩
       case measure=>simp [intOf];omega
    ·obtain rfl:k=(d.groups.2 g).1:=by omega
     have OG:OwnT (zab.slice 101) wx wo.heap.size wx.heap.size (d.groups.2 g) [.slice da (d.groups.2 g).1 dc]:=HG2'.out.own;have T2:=HT1.out.call B2;have e9:wx.cell? ⟨w.heap.size+1+1,9,none⟩=some (.slice ga g gc):=T2.b3.cell 9;have e9':=(zb9 wx (.cells #[.slice da (d.groups.2 g).1 dc] 98) (w.heap.size+1+1) 9 (by omega)).trans e9;clear T2 G2 B2
     go_wp2_with (at_builtin;refine zdq zd1 rfl (.tmp 77) (.tmp 79) rfl (lo:=w.heap.size+1+1+1) (n:=g) (v:=.slice ga g gc) (x:=d.groups.2) ?_ HG1.out HB2.out OG ?_ wx.heap.size 1 ?_ (fun j _=>zb4 wx _ _ j) (by omega) (by omega) ?_;(simp [Act.eval]);(exact (Below.refl _ _).alloc (Nat.le_refl _) _);(simp [Act.eval]);intro v4 w4 g4 b4;obtain ⟨ga4,gc4,rfl⟩:=g4.form;have T4:=HT1.out.low b4;have p1:w4.cell? ⟨w.heap.size+1+1,9,none⟩=some (.slice ga g gc):=T4.b3.cell 9;have p2:w4.frozen? ⟨w.heap.size+1+1,9,none⟩=false:=T4.b3.frozen 9)
     go_roundw
     case rel=>exact ⟨g+1,ga4,gc4,by omega,by go_num,T4.st3 9 [.slice ga4 (g+1) gc4] rfl,(g4.set _ _ _ (by omega)).congr (fun i _=>by rw [zb6])⟩
     case measure=>simp [intOf];omega
  ·obtain rfl:g=d.groups.1:=by omega
   have bA:=bAl wo (.cells #[] 2);have TA:=T1.call bA;obtain ⟨v',w2,hrun,o2,b2⟩:=zdD 25 (wo.alloc (.cells #[] 2)) wo.heap.size (zeb wo 2) (zai.rd_below HG2.out TA.bel hhi) (show d.on.1≤10000000 by omega);obtain ⟨oa,oc,hv⟩:=zbY o2;obtain rfl:=zaK hv;clear hv;have T2:Three w w2 (rwW d ao1 cap1 ao2 cap2 ao3 cap3).toArray (rwV 0 0 0 0 0 0 0 0 0 none 0 0 none 0 0 none 0 0 0 0 false).toArray (rwW d ga gc ao2 cap2 ao3 cap3).toArray 38 38 38:=TA.low (b2.mono zo)
   have G2:Gat (zab.slice 101) 98 w2 (w.heap.size+1+1+1) (.slice ga d.groups.1 gc) d.groups.1 d.groups.2:=by
    have h1:Below wo.heap.size wo w2:=bA.trans b2;exact G1.below h1
   have xa:(wo.alloc (.cells #[] 2)).cell? ⟨w.heap.size,10,none⟩=some (.slice ao2 d.on.1 cap2):=TA.b1.cell 10;have xb:w2.cell? ⟨w.heap.size+1+1,10,none⟩=some (.slice ao2 d.on.1 cap2):=T2.b3.cell 10;have xf:w2.frozen? ⟨w.heap.size+1+1,10,none⟩=false:=T2.b3.frozen 10;have T3:=T2.st3 10 [.slice oa d.on.1 oc] (c3':=(rwW d ga gc oa oc ao3 cap3)) rfl;have T4:Three w (stN (stN w2 (w.heap.size+1+1) 10 [.slice oa d.on.1 oc]) (w.heap.size+1+1) 11 [.slice none 0 0]) (rwW d ao1 cap1 ao2 cap2 ao3 cap3).toArray (rwV 0 0 0 0 0 0 0 0 0 none 0 0 none 0 0 none 0 0 0 0 false).toArray #[.int .i64 (d.shape 0),.int .i64 (d.shape 1),.int .i64 (d.shape 2),.int .i64 (d.shape 3),.int .i64 (d.shape 4),.int .i64 (d.shape 5),.int .i64 (d.shape 6),.int .i64 (d.shape 7),.int .i64 (d.shape 8),.slice ga d.groups.1 gc,.slice oa d.on.1 oc,.slice none 0 0,.int .i64 d.writes,.int .i64 d.stop,.bool d.down] 38 38 38:=T3.st3 11 [.slice none 0 0] (c3':=[.int .i64 (d.shape 0),.int .i64 (d.shape 1),.int .i64 (d.shape 2),.int .i64 (d.shape 3),.int .i64 (d.shape 4),.int .i64 (d.shape 5),.int .i64 (d.shape 6),.int .i64 (d.shape 7),.int .i64 (d.shape 8),.slice ga d.groups.1 gc,.slice oa d.on.1 oc,.slice none 0 0,.int .i64 d.writes,.int .i64 d.stop,.bool d.down]) rfl;have O4:=(o2.stN (w.heap.size+1+1) 10 [.slice oa d.on.1 oc] (by omega)).stN (w.heap.size+1+1) 11 [.slice none 0 0] (by omega);have G4:Gat (zab.slice 101) 98 (stN (stN w2 (w.heap.size+1+1) 10 [.slice oa d.on.1 oc]) (w.heap.size+1+1) 11 [.slice none 0 0]) (w.heap.size+1+1+1) (.slice ga d.groups.1 gc) d.groups.1 d.groups.2:=(G2.set _ 10 _ (by omega)).set _ 11 _ (by omega);have xc:(w2.setCell ⟨w.heap.size+1+1,10,none⟩ (.slice oa d.on.1 oc)).cell? ⟨w.heap.size+1+1,11,none⟩=some (.slice ao3 d.tapes.1 cap3):=T3.b3.cell 11;have xg:(w2.setCell ⟨w.heap.size+1+1,10,none⟩ (.slice oa d.on.1 oc)).frozen? ⟨w.heap.size+1+1,11,none⟩=false:=T3.b3.frozen 11;have z2:wo.heap.size≤w2.heap.size:=Nat.le_trans bA.size b2.size
   have ez:(stN (stN w2 (w.heap.size+1+1) 10 [.slice oa d.on.1 oc]) (w.heap.size+1+1) 11 [.slice none 0 0]).heap.size=w2.heap.size:=by rw [zbE,zbE]
   have GO:OwnT ((zab.slice 101).slice 98) wo (w.heap.size+1+1+1) wo.heap.size d.groups [.slice ga d.groups.1 gc]:=G1.own;have GO4:=((GO.call (bA.trans b2)).stN (w.heap.size+1+1) 10 [.slice oa d.on.1 oc] (by omega)).stN (w.heap.size+1+1) 11 [.slice none 0 0] (by omega);clear T1 TA T2 T3 G1 G2 G4 o2 b2 bA GO
   go_upto_region 19 with (at_builtin;refine zdt rfl (.tmp 82) (.tmp 84) rfl ?_ ?_ hrun ?_;(simp [Act.eval]);(simp [Act.eval]))
   obtain ⟨W4,hW4⟩:∃ x,x=stN (stN w2 (w.heap.size+1+1) 10 [.slice oa d.on.1 oc]) (w.heap.size+1+1) 11 [.slice none 0 0]:=⟨_,rfl⟩
   change Code.wp Tryz.prog _ _ _ (stN (stN w2 (w.heap.size+1+1) 10 [.slice oa d.on.1 oc]) (w.heap.size+1+1) 11 [.slice none 0 0])
   rw [← hW4] at T4 O4 GO4 ez ⊢;have HT4:=hid T4;have HO4:=hid O4;have HGO:=hid GO4;clear T4 O4 GO4 hW4 xa xb xf xc xg hrun x9;go_wp2
   go_loopw [9] (fun i wr=>∃ (t:Nat) (ta:Option Addr) (tc:Nat),t≤d.tapes.1∧i=.int .i64 t∧Box wr (w.heap.size+1+1) #[.int .i64 (d.shape 0),.int .i64 (d.shape 1),.int .i64 (d.shape 2),.int .i64 (d.shape 3),.int .i64 (d.shape 4),.int .i64 (d.shape 5),.int .i64 (d.shape 6),.int .i64 (d.shape 7),.int .i64 (d.shape 8),.slice ga d.groups.1 gc,.slice oa d.on.1 oc,.slice ta t tc,.int .i64 d.writes,.int .i64 d.stop,.bool d.down] 38∧Gat zag 97 wr W4.heap.size (.slice ta t tc) t d.tapes.2∧ChgL [w.heap.size+1+1] W4 wr) (fun i _=>d.tapes.1-(intOf i).toNat)
   case atStart=>exact ⟨0,none,0,Nat.zero_le _,rfl,HT4.out.b3,Gat.nil _ _ _,ChgL.refl _ _⟩
   case round=>
    obtain ⟨t,ta,tc,ht,rfl,X5,G5,C5⟩:=hrel;obtain ⟨wx,rfl⟩:∃ x,x=wr:=⟨_,rfl⟩;have T5:Three w wx (rwW d ao1 cap1 ao2 cap2 ao3 cap3).toArray (rwV 0 0 0 0 0 0 0 0 0 none 0 0 none 0 0 none 0 0 0 0 false).toArray #[.int .i64 (d.shape 0),.int .i64 (d.shape 1),.int .i64 (d.shape 2),.int .i64 (d.shape 3),.int .i64 (d.shape 4),.int .i64 (d.shape 5),.int .i64 (d.shape 6),.int .i64 (d.shape 7),.int .i64 (d.shape 8),.slice ga d.groups.1 gc,.slice oa d.on.1 oc,.slice ta t tc,.int .i64 d.writes,.int .i64 d.stop,.bool d.down] 38 38 38:=HT4.out.chgl3 _ X5 C5;have HT5:=hid T5;have HG5:=hid G5;have HC5:=hid C5;have zx:W4.heap.size≤wx.heap.size:=C5.size;have x11:wx.cell? ⟨w.heap.size,11,none⟩=some (.slice ao3 d.tapes.1 cap3):=T5.b1.cell 11;have e11:wx.cell? ⟨w.heap.size+1+1,11,none⟩=some (.slice ta t tc):=T5.b3.cell 11
    by_cases hlt:t<d.tapes.1
    ·obtain ⟨b3,off3,he3,hb3,hel3⟩:=HC3.out (by omega)
     subst he3;obtain ⟨ct,hrt,hct⟩:=zar (t:=0) hel3 T5.bel hhi hb3 hlt;obtain ⟨ao7,cap7,rfl,g7⟩:=zbd hrt;have c0:wx.cell? ⟨b3,off3+t*2,none⟩=some (.bool (d.tapes.2 t).wiped):=hct 0 (by decide);have c1:wx.cell? ⟨b3,off3+t*2+1,none⟩=some (.slice ao7 (d.tapes.2 t).recs.1 cap7):=hct 1 (by decide);have HCA:=hid c0;have CC:=ze0 _ (d.tapes.2 t).recs hi wx.drew ((zad.slice 43).rd_below (B:=hi) g7 ⟨rfl,rfl,rfl,Nat.le_refl _,fun _ _=>rfl⟩ (Nat.le_refl _)) (show hi≤wx.heap.size by omega) (HNT.out t hlt)
     have CC:=CC.mono (R':=fun e w'=>∃ ra rc,e=.returned (.slice ra (d.tapes.2 t).recs.1 rc)∧OwnT (zad.slice 43) w' wx.drew.heap.size w'.heap.size (d.tapes.2 t).recs [.slice ra (d.tapes.2 t).recs.1 rc]∧Below wx.drew.heap.size wx.drew w') (fun e w' ⟨v5,he,o5,b5'⟩=>by
      obtain ⟨ra,rc,hv5⟩:=zbF o5;obtain rfl:=zaK hv5
      exact ⟨ra,rc,he,o5,b5'⟩)
     clear hel3 hct hrt g7 X5 G5 C5 T5;have KS:∀ w',Below (w.heap.size+1+1+1) wx w'→(w'.cell? ⟨w.heap.size,11,none⟩=some (.slice (some ⟨b3,off3,none⟩) d.tapes.1 cap3)∧w'.cell? ⟨b3,off3+t*2,none⟩=some (.bool (d.tapes.2 t).wiped)∧w'.cell? ⟨b3,off3+t*2+1,none⟩=some (.slice ao7 (d.tapes.2 t).recs.1 cap7)∧w'.cell? ⟨w.heap.size+1+1,11,none⟩=some (.slice ta t tc)):=fun w' hb=>⟨(hb.cell (p:=⟨w.heap.size,11,none⟩) (by show w.heap.size<w.heap.size+1+1+1;omega)).trans x11,(hb.cell (p:=⟨b3,off3+t*2,none⟩) (by show b3<w.heap.size+1+1+1;omega)).trans c0,(hb.cell (p:=⟨b3,off3+t*2+1,none⟩) (by show b3<w.heap.size+1+1+1;omega)).trans c1,(hb.cell (p:=⟨w.heap.size+1+1,11,none⟩) (Nat.lt_succ_self _)).trans e11⟩
     have i1:(0:Int)≤(t:Int):=by omega
     have i2:(t:Int)<(d.tapes.1:Int):=by omega
     go_upto_region 22 with fail
     refine zby 19 (fun w'=>w'.cell? ⟨w.heap.size,11,none⟩=some (.slice (some ⟨b3,off3,none⟩) d.tapes.1 cap3)∧w'.cell? ⟨b3,off3+t*2,none⟩=some (.bool (d.tapes.2 t).wiped)∧w'.cell? ⟨b3,off3+t*2+1,none⟩=some (.slice ao7 (d.tapes.2 t).recs.1 cap7)∧w'.cell? ⟨w.heap.size+1+1,11,none⟩=some (.slice ta t tc)) (by kernel_rfl) (KS _ ⟨rfl,rfl,rfl,Nat.le_refl _,fun _ _=>rfl⟩) (fun hHeld=>?_);refine zjR 0 rfl ?_
     try simp only [Act.put,SL]
     refine zjR 1 rfl ?_
     try simp only [Act.put,SL]
     refine zjR 2 rfl ?_
     try simp only [Act.put,SL]
     refine zjR 3 rfl ?_
     try simp only [Act.put,SL]
     refine zjR 4 rfl ?_
     try simp only [Act.put,SL]
     refine zjR 5 rfl ?_
     try simp only [Act.put,SL]
     refine zjR 6 rfl ?_
     try simp only [Act.put,SL]
     refine zjR 7 rfl ?_
     try simp only [Act.put,SL]
     refine zjR 8 rfl ?_
     try simp only [Act.put,SL]
     refine zjR 9 rfl ?_
     try simp only [Act.put,SL]
     refine zjR 10 rfl ?_
     try simp only [Act.put,SL]
     refine zjR 11 rfl ?_
     try simp only [Act.put,SL]
     refine zjR 12 rfl ?_
     try simp only [Act.put,SL]
     refine zjR 13 rfl ?_
     try simp only [Act.put,SL]
     refine zaP (i:=14) (o:=_) rfl (by kernel_rfl) (fun K hK=>?_)
     refine zbD rfl 64 _ _ rfl #[.slice ao7 (d.tapes.2 t).recs.1 cap7] ?_ Tryz.func64 (by kernel_rfl) (by kernel_rfl) CC ?_;(simp [Act.eval,Act.put]);rintro ee w5 ⟨ra,rc,rfl,o5,b5'⟩;have b5w:Below wx.heap.size wx w5:=⟨b5'.os,b5'.tape,b5'.output,b5'.size,b5'.block⟩;have T6:=HT5.out.call b5w;have q1:w5.cell? ⟨w.heap.size+1+1,11,none⟩=some (.slice ta t tc):=T6.b3.cell 11;have q3:=(zb9 w5 (.cells #[.bool (d.tapes.2 t).wiped,.slice ra (d.tapes.2 t).recs.1 rc] 97) (w.heap.size+1+1) 11 (by have:=b5w.size;omega)).trans q1;clear T6;refine ⟨_,rfl,?_⟩
     refine hK.out _ _ (KS _ (b5w.mono (by omega))) (fun hHeld=>?_);clear hK K
     try simp only [Act.put,SL]
     refine zjR 15 rfl ?_
     try simp only [Act.put,SL]
     refine zaP (i:=16) (o:=_) rfl (by kernel_rfl) (fun K hK=>?_);go_simp;refine hK.out _ _ (KS _ ((b5w.mono (by omega)).alloc (by have:=b5w.size;omega) _)) (fun hHeld=>?_);clear hK K
     try simp only [Act.put,SL]
     refine zaP (i:=17) (o:=_) rfl (by kernel_rfl) (fun K hK=>?_)
     refine zdx zgw rfl (.tmp 96) (.tmp 111) rfl (lo:=W4.heap.size) (n:=t) (v:=.slice ta t tc) (x:=d.tapes.2) ?_ HG5.out b5w (tape_of' o5) ?_ w5.heap.size 1 ?_ (fun j _=>zb4 w5 _ _ j) (by omega) (by omega) ?_;(simp [Act.eval,Act.put]);(exact (Below.refl _ _).alloc (Nat.le_refl _) _);(simp [Act.eval,Act.put]);intro v4 w4 g4 b4;obtain ⟨ta4,tc4,rfl⟩:=g4.form;have X4:=HT5.out.b3.below b4 (by omega);have p1:w4.cell? ⟨w.heap.size+1+1,11,none⟩=some (.slice ta t tc):=X4.cell 11;have p2:w4.frozen? ⟨w.heap.size+1+1,11,none⟩=false:=X4.frozen 11
     refine hK.out _ _ (KS _ (b4.mono (by omega))) (fun hHeld=>?_);clear hK K
     try simp only [Act.put,SL]
     refine zaP (i:=18) (o:=_) rfl (by kernel_rfl) (fun K hK=>?_);go_simp;refine hK.out _ _ (KS _ (b4.mono (by omega))) (fun hHeld=>?_);clear hK K
     try simp only [Act.put,SL]
     refine zbw (o:=_) rfl (by kernel_rfl) (fun K hK=>?_);go_simp;refine hK.out _ _ ?_;clear hK K
     try simp only [Act.put,SL]
     refine zbx (by kernel_rfl) ?_ _;go_wp2
     go_roundw
     case rel=>exact ⟨t+1,ta4,tc4,by omega,by go_num,X4.stL [.slice ta4 (t+1) tc4] 11,(g4.set _ _ _ (by omega)).congr (fun i _=>by rw [zb6]),(HC5.out.after b4).st (w.heap.size+1+1) 11 _ (by simp)⟩
     case measure=>simp [intOf];omega
    ·obtain rfl:t=d.tapes.1:=by omega
     clear X5 e11
     have F0:OwnT zac wx (w.heap.size+1+1+1) wx.heap.size d (rwW d ga gc oa oc ta tc):=by
      have C5':=C5;clear T5 G5 C5;have F:OwnT zac wx (w.heap.size+1+1+1) wx.heap.size d ((rwS d.shape)++([.slice ga d.groups.1 gc]++([.slice oa d.on.1 oc]++([.slice ta d.tapes.1 tc]++([.int .i64 d.writes]++([.int .i64 d.stop]++[.bool d.down])))))):=OwnT.conv (OwnT.pre (A:=(zdm 9)) (a:=d.shape) (c:=(rwS d.shape)) ⟨rfl,Q0.out,rfl⟩ (OwnT.two (HGO.out.chgl HC5.out (fun b hb=>by simp at hb;omega)) (OwnT.two (HO4.out.chgl HC5.out (fun b hb=>by simp at hb;omega)) (OwnT.two (HG5.out.own.weaken (show w2.heap.size≤W4.heap.size by omega) (Nat.le_refl _)) (OwnT.pre (A:=layI) (a:=d.writes) (c:=[.int .i64 d.writes]) ⟨rfl,Q4.out,rfl⟩ (OwnT.pre (A:=layI) (a:=d.stop) (c:=[.int .i64 d.stop]) ⟨rfl,Q5.out,rfl⟩ (OwnT.nil (A:=layB) (a:=d.down) (c:=[.bool d.down]) ⟨rfl,trivial,rfl⟩ wx.heap.size wx.heap.size))) (Nat.le_refl _) (by omega) (Nat.le_refl _)) (by omega) (by omega) (by omega)) (by omega) (by omega) (by omega)));exact F
     have HF:=hid F0;clear G5 C5
     go_wp2_with (first | (refine zap 38 (.tmp 3) rfl rfl (w.heap.size+1+1) rfl T5.b3 Tryz.underlying38 zbq rfl ?_) | (refine za4 38 _ _ rfl rfl (w.heap.size+1) rfl (cs:=(rwW d ga gc oa oc ta tc)) rfl T5.b2 zbq rfl rfl F0.one ?_;intro w9 X9 C9 z9))
     refine zb5 Tryz.results27 rfl X9 Tryz.underlying38 zbq rfl rfl ?_;refine ⟨(rwW d ga gc oa oc ta tc),rfl,?_,?_⟩
     ·exact (HF.out.chgk C9 (fun b hb=>by simp at hb;omega)).weaken (by omega) C9.size
     ·exact T5.bel.trans (C9.bel (fun b hb=>by simp at hb;omega) T5.bel.size)
set_option maxRecDepth 20000 in
theorem zf2 (v0 v1 v2 v3 v4 v5 v6 v7 v8 vp0 vl0 vq0 vp1 vl1 vq1 vp2 vl2 vq2 v9 v10 vb:_) (b:Bool) (w:World) (h1:∀ x,x∈([.int .i64 v0,.int .i64 v1,.int .i64 v2,.int .i64 v3,.int .i64 v4,.int .i64 v5,.int .i64 v6,.int .i64 v7,.int .i64 v8,.slice vp0 vl0 vq0,.slice vp1 vl1 vq1,.slice vp2 vl2 vq2,.int .i64 v9,.int .i64 v10,.bool vb]:List Value)→x.oneCell'=true) :
 Calls Tryz.prog 29 #[.agg #[.int .i64 v0,.int .i64 v1,.int .i64 v2,.int .i64 v3,.int .i64 v4,.int .i64 v5,.int .i64 v6,.int .i64 v7,.int .i64 v8,.slice vp0 vl0 vq0,.slice vp1 vl1 vq1,.slice vp2 vl2 vq2,.int .i64 v9,.int .i64 v10,.bool vb],.bool b] w fun e w'=>e=.returned (.agg #[.int .i64 (if b=true then 0 else 9),.int .i64 v0,.int .i64 v1,.int .i64 v2,.int .i64 v3,.int .i64 v4,.int .i64 v5,.int .i64 v6,.int .i64 v7,.int .i64 v8,.slice vp0 vl0 vq0,.slice vp1 vl1 vq1,.slice vp2 vl2 vq2,.int .i64 v9,.int .i64 v10,.bool vb])∧Below w.heap.size w w':=by
 have T0:=zay w (rwV v0 v1 v2 v3 v4 v5 v6 v7 v8 vp0 vl0 vq0 vp1 vl1 vq1 vp2 vl2 vq2 v9 v10 vb).toArray rwZ.toArray 38 40
 have o0:∀ c:Int,∀ x,x∈((.int .i64 c::rwV v0 v1 v2 v3 v4 v5 v6 v7 v8 vp0 vl0 vq0 vp1 vl1 vq1 vp2 vl2 vq2 v9 v10 vb):List Value)→x.oneCell'=true:=fun c x hx=>by
  rcases List.mem_cons.1 hx with rfl | h
  ·rfl
  ·exact h1 x h
 clear h1
 cases b with
 | true=>
  go_enter Tryz.func29,Tryz.ntmps29
  go_wp2_with (first | (refine zap 38 (.tmp 2) rfl rfl (w.heap.size) rfl (T0.b1) Tryz.underlying38 zbq rfl ?_) | (refine za4 40 _ _ rfl rfl (w.heap.size+1) rfl (cs:=(.int .i64 0::rwV v0 v1 v2 v3 v4 v5 v6 v7 v8 vp0 vl0 vq0 vp1 vl1 vq1 vp2 vl2 vq2 v9 v10 vb)) rfl T0.b2 zaM rfl rfl (o0 0) ?_;intro w9 X9 C9 z9))
  refine zb5 Tryz.results29 rfl X9 Tryz.underlying40 zaM rfl rfl ?_;exact ⟨rfl,T0.bel.trans (C9.bel (fun b hb=>by simp at hb;omega) T0.bel.size)⟩
 | false=>
  go_enter Tryz.func29,Tryz.ntmps29
  go_wp2_with (first | (refine zap 38 (.tmp 2) rfl rfl (w.heap.size) rfl (T0.b1) Tryz.underlying38 zbq rfl ?_) | (refine za4 40 _ _ rfl rfl (w.heap.size+1) rfl (cs:=(.int .i64 9::rwV v0 v1 v2 v3 v4 v5 v6 v7 v8 vp0 vl0 vq0 vp1 vl1 vq1 vp2 vl2 vq2 v9 v10 vb)) rfl T0.b2 zaM rfl rfl (o0 9) ?_;intro w9 X9 C9 z9))
  refine zb5 Tryz.results29 rfl X9 Tryz.underlying40 zaM rfl rfl ?_;exact ⟨rfl,T0.bel.trans (C9.bel (fun b hb=>by simp at hb;omega) T0.bel.size)⟩
set_option maxRecDepth 20000 in
theorem zhZ (d:WorldD) (kd:Int) (sq:Int) (cs:List Value) (hi:Nat) (w:World) (h:zac.rd w hi d cs) (hhi:hi≤w.heap.size) (hsz:zaU d≤1048576) (hkd:-9223372036854775808≤kd∧kd≤9223372036854775807) (hsq:-9223372036854775808≤sq∧sq≤9223372036854775807) :
 Calls Tryz.prog 18 #[.agg cs.toArray,.int .i64 kd,.int .i64 sq] w (zd2 (SbAns d kd sq) w):=by
 have h':=h;obtain ⟨ao1,cap1,ao2,cap2,ao3,cap3,rfl,g1,g2,g3,k0,k4,k5⟩:=zaN h';have HRD:=hid h;have HSZ:=hid hsz;have Hkd:=hid hkd;have Hsq:=hid hsq;clear h h' hsz g1 g2 g3 k0 k4 k5 hkd hsq;have T0:=zay w (rwW d ao1 cap1 ao2 cap2 ao3 cap3).toArray rwZ.toArray 38 40
 go_enter Tryz.func18,Tryz.ntmps18
 go_wp2_with (refine zap 38 (.tmp 3) rfl rfl (w.heap.size) rfl (T0.b1) Tryz.underlying38 zbq rfl ?_)
 refine (zgR d _ hi _ (zac.rd_below HRD.out T0.bel hhi) (Nat.le_trans hhi T0.bel.size) HSZ.out).mono ?_;rintro e w1 ⟨x,rfl,hx,b1⟩;have HT1:=hid (T0.call b1);have HX:=hid hx;have z1:w.heap.size+1<w1.heap.size:=HT1.out.b2.lt;clear b1 T0 hx
 by_cases hx0:x=0
 case neg=>
  have hne:(x != 0)=true:=by simp [hx0]
  go_wp2_with (refine za4 40 _ _ rfl rfl (w.heap.size+1) rfl (cs:=(.int .i64 x::rwY)) rfl (HT1.out.b2) zaM rfl rfl (zdJ _ (zdk HX.out) w) ?_;intro w9 X9 C9 z9)
  refine zb5 Tryz.results18 rfl X9 Tryz.underlying40 zaM rfl rfl ?_;exact zfC (zdk HX.out) HT1.out.bel C9 (.inl ⟨x,hx0,HX.out,rfl⟩)
 subst hx0;have HOK:=hid (ziM HX.out)
 go_wp2_with (refine zap 38 (.tmp 3) rfl rfl (w.heap.size) rfl (HT1.out.b1) Tryz.underlying38 zbq rfl ?_)
 refine (ziO _ d hi _ (zac.rd_below HRD.out HT1.out.bel hhi) (Nat.le_trans hhi HT1.out.bel.size) HSZ.out).mono ?_;rintro e w2 ⟨c2,rfl,o2,b2⟩;obtain ⟨p1,c1,p2,c2,p3,c3,K1,K2,K3,rfl,WO2⟩:=zhI o2;have z2:w1.heap.size≤w2.heap.size:=b2.size
 go_upto_region 5 with (refine zbe 38 8 (.tmp 17) _ _ 15 rfl rfl rfl rfl rfl rfl rfl rfl zjj rfl rfl o2.one ?_)
 have bA:=bAl w2 (.cells (rwW d p1 c1 p2 c2 p3 c3).toArray 38);have X3:=zaA w2 (rwW d p1 c1 p2 c2 p3 c3).toArray 38;obtain ⟨W3,hW3⟩:∃ x,x=w2.alloc (.cells (rwW d p1 c1 p2 c2 p3 c3).toArray 38):=⟨_,rfl⟩;rw [← hW3] at bA X3 ⊢;have T3:=(HT1.out.call b2).call bA;have WO:=WO2.below bA (Nat.le_refl _);have z3:w2.heap.size<W3.heap.size:=X3.lt;clear bA hW3 o2 b2 WO2;have hf0:=zjm HOK.out (zjl HX.out);have hin:∀ b,b∈K1++(K2++(K3++[]))→w1.heap.size≤b∧b<w2.heap.size:=fun b hb=>WO.inn b (by simpa using hb);have S3:SpB W3 w2.heap.size d (K1++(K2++(K3++[]))):=⟨_,X3,WO.encO (fun hm=>by have:=WO.inn _ hm;omega)⟩;have CS:=zfZ w2.heap.size d _ kd sq W3 S3 (hf0.less (by decide));obtain ⟨oc,hoc⟩:∃ x,x=runO (zaw kd sq) 2 0 d:=⟨_,rfl⟩;have HOC:=hid hoc;rw [← hoc] at CS;clear hf0 hoc S3 X3 WO
 cases oc with
 | cut d2=>
  have HQ:Hid (SbAns d kd sq ⟨9,cutW d2⟩):=.inr ⟨HX.out,by rw [← HOC.out];rfl⟩
  go_wp2_with fail
  refine CS.mono ?_;rintro e w5 ⟨rfl,K5,S5,s5,C5⟩;clear CS;obtain ⟨cs5,X5,O5⟩:=S5;obtain ⟨y0,y1,y2,y3,y4,y5,y6,y7,y8,yp0,yl0,yq0,yp1,yl1,yq1,yp2,yl2,yq2,y9,y10,yb,rfl⟩:=zbW O5.own;have z5:=C5.size
  have T5:=T3.chgK C5 (fun b hb=>by
   rcases List.mem_cons.1 hb with h | h
   ·omega
   ·have:=hin b h;omega)
  have OO:OwnT zac w5 w1.heap.size w5.heap.size (cutW d2) (rwV y0 y1 y2 y3 y4 y5 y6 y7 y8 yp0 yl0 yq0 yp1 yl1 yq1 yp2 yl2 yq2 y9 y10 yb):=⟨K5,O5.own,O5.nd,fun b hb=>⟨by
   rcases s5 b hb with h | h
   ·exact (hin b h).1
   ·omega,zac.own_lt O5.own b hb⟩⟩
  have CL:=zf2 y0 y1 y2 y3 y4 y5 y6 y7 y8 yp0 yl0 yq0 yp1 yl1 yq1 yp2 yl2 yq2 y9 y10 yb false w5 OO.one;clear T3 C5 s5 O5
  go_wp2_with (first | (refine zap 38 (.tmp 8) rfl rfl (w2.heap.size) rfl (X5) Tryz.underlying38 zbq rfl ?_) | (go_at_call 29;refine CL.mono ?_;rintro e w6 ⟨rfl,b6⟩;have T6:=T5.call b6;have O6:=OO.below b6 (Nat.le_refl _)) | (refine za4 40 _ _ rfl rfl (w.heap.size+1) rfl (cs:=(.int .i64 9::rwV y0 y1 y2 y3 y4 y5 y6 y7 y8 yp0 yl0 yq0 yp1 yl1 yq1 yp2 yl2 yq2 y9 y10 yb)) rfl T6.b2 zaM rfl rfl (zcd 9 (by decide) O6).one ?_;intro w9 X9 C9 z9))
  refine zb5 Tryz.results18 rfl X9 Tryz.underlying40 zaM rfl rfl ?_;exact zew (by decide) T6.bel C9 O6 (by omega) b6.size (HQ.out)
 | done c d2=>
  have c0:c=0:=zc1 kd sq _ _ _ _ _ HOC.out.symm;subst c0;have HQ:Hid (SbAns d kd sq ⟨0,d2⟩):=.inr ⟨HX.out,by rw [← HOC.out];simp [Outc.final]⟩
  go_wp2_with fail
  refine CS.mono ?_;rintro e w5 ⟨rfl,K5,S5,s5,C5⟩;clear CS;obtain ⟨cs5,X5,O5⟩:=S5;obtain ⟨y0,y1,y2,y3,y4,y5,y6,y7,y8,yp0,yl0,yq0,yp1,yl1,yq1,yp2,yl2,yq2,y9,y10,yb,rfl⟩:=zbW O5.own;have z5:=C5.size
  have T5:=T3.chgK C5 (fun b hb=>by
   rcases List.mem_cons.1 hb with h | h
   ·omega
   ·have:=hin b h;omega)
  have OO:OwnT zac w5 w1.heap.size w5.heap.size d2 (rwV y0 y1 y2 y3 y4 y5 y6 y7 y8 yp0 yl0 yq0 yp1 yl1 yq1 yp2 yl2 yq2 y9 y10 yb):=⟨K5,O5.own,O5.nd,fun b hb=>⟨by
   rcases s5 b hb with h | h
   ·exact (hin b h).1
   ·omega,zac.own_lt O5.own b hb⟩⟩
  have CL:=zf2 y0 y1 y2 y3 y4 y5 y6 y7 y8 yp0 yl0 yq0 yp1 yl1 yq1 yp2 yl2 yq2 y9 y10 yb true w5 OO.one;clear T3 C5 s5 O5
  go_wp2_with (first | (refine zap 38 (.tmp 8) rfl rfl (w2.heap.size) rfl (X5) Tryz.underlying38 zbq rfl ?_) | (go_at_call 29;refine CL.mono ?_;rintro e w6 ⟨rfl,b6⟩;have T6:=T5.call b6;have O6:=OO.below b6 (Nat.le_refl _)) | (refine za4 40 _ _ rfl rfl (w.heap.size+1) rfl (cs:=(.int .i64 0::rwV y0 y1 y2 y3 y4 y5 y6 y7 y8 yp0 yl0 yq0 yp1 yl1 yq1 yp2 yl2 yq2 y9 y10 yb)) rfl T6.b2 zaM rfl rfl (zcd 0 (by decide) O6).one ?_;intro w9 X9 C9 z9))
  refine zb5 Tryz.results18 rfl X9 Tryz.underlying40 zaM rfl rfl ?_;exact zew (by decide) T6.bel C9 O6 (by omega) b6.size (HQ.out)
theorem zjT (d:WorldD):∃ x,AskAns d x:=by
 obtain ⟨x,hx⟩:=ziW d
 by_cases h:x=0
 ·subst h
  cases hd:d.down with
  | true=>exact ⟨9,.inr ⟨hx,.inl ⟨hd,rfl⟩⟩⟩
  | false=>exact ⟨0,.inr ⟨hx,.inr ⟨hd,rfl⟩⟩⟩
 ·exact ⟨x,.inl ⟨h,hx⟩⟩
end Go.Proofs.YtaccmgakckpofaaGreat
