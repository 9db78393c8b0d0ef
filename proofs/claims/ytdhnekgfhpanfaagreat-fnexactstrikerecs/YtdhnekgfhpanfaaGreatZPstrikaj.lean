/- Walk of slices.DeleteFunc over records that are struck. -/
import Derived.Deep.RegionHeld3
import Derived.Test.YtdhnekgfhpanfaaGreatZPstrikai
set_option linter.unusedVariables false
set_option linter.unusedSimpArgs false
set_option maxHeartbeats 16000000
namespace Go.Proofs.YtdhnekgfhpanfaaGreat
open Go.RowKit F256
theorem zhE (g n cap i:Nat) (hi:i<n) (hn:n≤cap) (w:World):(Instr.slice 54 (.slice (some ⟨g,0,none⟩) n cap) (some (.int .i64 (i:Int))) none none).run Tryz.prog w=.ok (.slice (some ⟨g,i*9,none⟩) (n-i) (cap-i)) w:=by
 have e1:(i:Int)≤(n:Int):=by omega
 have e6:i≤n:=by omega
 have e7:¬ cap=i:=by omega
 simp [Instr.slice,run_underlying Tryz.underlying54,Instr.sliceBounds,Instr.sliceBound,asIntOf,go_sem,e1,e6,e7]
theorem ziS (g n cap i:Nat) (hi:i≤cap) (w:World):(Instr.slice 54 (.slice (some ⟨g,0,none⟩) n cap) none (some (.int .i64 (i:Int))) none).run Tryz.prog w=.ok (.slice (some ⟨g,0,none⟩) i cap) w:=by
 have e1:(i:Int)≤(cap:Int):=by omega
 simp [Instr.slice,run_underlying Tryz.underlying54,Instr.sliceBounds,Instr.sliceBound,asIntOf,go_sem,e1,hi]
theorem zip {w:World} {g cap n m s:Nat} {t:TypeId} {xs ys:List Value} (h:w.ownsRow 0 t s (.slice (some ⟨g,0,none⟩) n cap) n xs) (hm:m≤n) (hy:xs.take (m*s)=ys):w.ownsRow 0 t s (.slice (some ⟨g,0,none⟩) m cap) m ys:=by
 have hl:=h.1;have hms:m*s≤n*s:=Nat.mul_le_mul_right s hm;refine ⟨by rw [← hy,List.length_take,hl];omega,?_⟩
 rcases h.2 with ⟨hn,_⟩ | ⟨g',cap',cur,he,hbg,hgg,hnc,hcm,hcs,htk⟩
 ·cases hn
 ·cases he
  refine .inr ⟨g,cap,cur,rfl,hbg,hgg,by omega,hcm,hcs,?_⟩;rw [← hy,← htk,List.take_take,Nat.min_eq_left hms]
theorem ziq {n m s:Nat} {ce:Nat→List Value} (h:∀ i,i<n→(ce i).length=s) (hm:m≤n):(catN n ce).take (m*s)=catN m ce:=by
 induction n with
 | zero=>
  obtain rfl:m=0:=by omega
  simp [catN]
 | succ n ih=>
  by_cases c:m=n+1
  ·subst c
   exact List.take_of_length_le (by rw [zce h];exact Nat.le_refl _)
  ·have hl:(catN n ce).length=n*s:=zce (fun i hi=>h i (by omega))
   have hms:m*s≤n*s:=Nat.mul_le_mul_right s (by omega);rw [zaX,List.take_append_of_le_length (by omega)];exact ih (fun i hi=>h i (by omega)) (by omega)
set_option maxRecDepth 20000 in
theorem zfO (g cap n:Nat) (x:Nat→RecD) (ce:Nat→List Value) (Ls:Nat→List Nat) (a0 a1:Nat) (kd sq:Int) (w:World) (hO:SlO zac 94 w g cap n x ce Ls) (nd:(g::catN n Ls).Nodup) (h0:w.cell? ⟨a0,0,none⟩=some (.int .i64 kd)) (h1:w.cell? ⟨a1,0,none⟩=some (.int .i64 sq)) (hl0:a0<w.heap.size) (hl1:a1<w.heap.size) (hg0:a0≠g) (hg1:a1≠g) (hn:n≤1048576) :
 Calls Tryz.prog 60 #[.slice (some ⟨g,0,none⟩) n cap,.func (.func 61) #[] #[.pointer (some ⟨a0,0,none⟩),.pointer (some ⟨a1,0,none⟩)]] w fun e w'=>e=.returned (.slice (some ⟨g,0,none⟩) (zau (fun i=>zax kd sq (x i)) n).length cap)∧w'.ownsRow 0 94 zac.sz (.slice (some ⟨g,0,none⟩) (zau (fun i=>zax kd sq (x i)) n).length cap) (zau (fun i=>zax kd sq (x i)) n).length (catN (zau (fun i=>zax kd sq (x i)) n).length (fun i=>ce (selF (fun i=>zax kd sq (x i)) n i)))∧ChgL [g] w w':=by
 have h:=hid hO;have HND:=hid nd;have H0:=hid h0;have H1:=hid h1
 have hnc:n≤cap:=by
  rcases hO.row.2 with ⟨hn,_⟩ | ⟨g',cap',cur,he,hbg,hgg,hnc,_⟩
  ·cases hn
  ·cases he;exact hnc
 have HNC:=hid hnc;have hgl:=hO.lt;have CI:=zgH g cap n x ce Ls a0 a1 kd sq w hO h0 h1 hl0 hl1 hn;clear hO nd h0 h1 hnc
 go_enter Tryz.func60,Tryz.ntmps60
 go_wp2_with fail
 refine CI.mono ?_;rintro e w1 ⟨hcase,b1⟩;have HB1:=hid b1;have z1:=b1.size;clear CI b1
 rcases hcase with ⟨rfl,hall⟩ | ⟨i0,hi0,rfl,hp0,hbef⟩
 ·have HALL:=hid hall
  clear hall
  have te:((-1:Int)==-1)=true:=by decide
  go_wp2;go_ret
  have em:(zau (fun i=>zax kd sq (x i)) n).length=n:=by rw [zdG HALL.out];simp
  have er:catN n (fun i=>ce (selF (fun i=>zax kd sq (x i)) n i))=catN n ce:=za7 (fun i hi=>by rw [zil HALL.out hi]);rw [em,er];exact ⟨rfl,(h.out.kept (w':=w1) (fun b hb=>HB1.out.block b (h.out.mem_lt b hb))).row,ChgL.of_below HB1.out⟩
 have HP0:=hid hp0;have HBEF:=hid hbef;clear hp0 hbef;have te:((i0:Int)==-1)=false:=beq_eq_false_iff_ne.2 (by omega)
 have zi:IntKind.i64.wrap ((i0:Int)+1)=(i0:Int)+1:=by rw [IntKind.wrap_i64];omega
 go_wp2
 go_loopw [5,6] (fun v z wr=>∃ j:Nat,j≤n∧i0<j∧z=.int .i64 j∧v=.int .i64 ((zau (fun i=>zax kd sq (x i)) (j)).length:Nat)∧wr.ownsRow 0 94 zac.sz (.slice (some ⟨g,0,none⟩) n cap) n (catN n (mixF (fun i=>zax kd sq (x i)) (j) ce))∧ChgL [g] w wr) (fun _ z _=>n-(intOf z).toNat)
 case atStart=>
  refine ⟨i0+1,by omega,by omega,by simp,?_,?_,ChgL.of_below HB1.out⟩
  ·rw [zcb HP0.out,zdG HBEF.out];simp
  ·rw [za7 (g:=ce) (fun m _=>by rw [zg5 ce HP0.out,zjk ce HBEF.out])]
   exact (h.out.kept (w':=w1) (fun b hb=>HB1.out.block b (h.out.mem_lt b hb))).row
 case round=>
  obtain ⟨j,hj,hij,rfl,rfl,hrow,hch⟩:=hrel;obtain ⟨wx,rfl⟩:∃ y,y=wr:=⟨_,rfl⟩;have HCH:=hid hch;have HRW:=hid hrow;have zx:=hch.size;have hless:(zau (fun i=>zax kd sq (x i)) (j)).length<j:=zim hij HP0.out;clear hrow hch
  by_cases hlt:j<n
  ·obtain ⟨ao6,cap6,ao7,cap7,ao8,cap8,K6,K7,K8,eR,-⟩:=zdP (h.out.each j hlt)
   have HCE:=hid eR;have S5:=zin h.out HND.out (fun i=>zax kd sq (x i)) j hj HCH.out HRW.out
   have em:(mixF (fun i=>zax kd sq (x i)) (j) ce) j=[.int .i64 (x j).kind,.int .i64 (x j).seq,.string (x j).name,.int .i64 (x j).length,.int .i64 (x j).group,.int .i64 (x j).row,.slice ao6 (x j).rows.1 cap6,.slice ao7 (x j).data.1 cap7,.slice ao8 (x j).delta.1 cap8]:=by rw [zjB ce (Nat.le_of_lt hless)];exact eR
   have s_0:wx.cell? ⟨g,j*9,none⟩=some (.int .i64 (x j).kind):=(S5.cell hlt (j:=0) (by decide)).trans (by rw [em];rfl);have s_1:wx.cell? ⟨g,j*9+1,none⟩=some (.int .i64 (x j).seq):=(S5.cell hlt (j:=1) (by decide)).trans (by rw [em];rfl);have s_2:wx.cell? ⟨g,j*9+2,none⟩=some (.string (x j).name):=(S5.cell hlt (j:=2) (by decide)).trans (by rw [em];rfl);have s_3:wx.cell? ⟨g,j*9+3,none⟩=some (.int .i64 (x j).length):=(S5.cell hlt (j:=3) (by decide)).trans (by rw [em];rfl);have s_4:wx.cell? ⟨g,j*9+4,none⟩=some (.int .i64 (x j).group):=(S5.cell hlt (j:=4) (by decide)).trans (by rw [em];rfl);have s_5:wx.cell? ⟨g,j*9+5,none⟩=some (.int .i64 (x j).row):=(S5.cell hlt (j:=5) (by decide)).trans (by rw [em];rfl);have s_6:wx.cell? ⟨g,j*9+6,none⟩=some (.slice ao6 (x j).rows.1 cap6):=(S5.cell hlt (j:=6) (by decide)).trans (by rw [em];rfl);have s_7:wx.cell? ⟨g,j*9+7,none⟩=some (.slice ao7 (x j).data.1 cap7):=(S5.cell hlt (j:=7) (by decide)).trans (by rw [em];rfl);have s_8:wx.cell? ⟨g,j*9+8,none⟩=some (.slice ao8 (x j).delta.1 cap8):=(S5.cell hlt (j:=8) (by decide)).trans (by rw [em];rfl)
   have i1:(0:Int)≤(j:Int):=by omega
   have i2:(j:Int)<(n:Int):=by omega
   have bV:=bAl wx (.cells #[.int .i64 (x j).kind,.int .i64 (x j).seq,.string (x j).name,.int .i64 (x j).length,.int .i64 (x j).group,.int .i64 (x j).row,.slice ao6 (x j).rows.1 cap6,.slice ao7 (x j).data.1 cap7,.slice ao8 (x j).delta.1 cap8] 94);have V1:=zaD wx #[.int .i64 (x j).kind,.int .i64 (x j).seq,.string (x j).name,.int .i64 (x j).length,.int .i64 (x j).group,.int .i64 (x j).row,.slice ao6 (x j).rows.1 cap6,.slice ao7 (x j).data.1 cap7,.slice ao8 (x j).delta.1 cap8] 94;have HS5:=hid S5;clear S5 em eR
   go_upto_region 8 with fail
   obtain ⟨W5,hW5⟩:∃ y,y=wx.alloc (.cells #[.int .i64 (x j).kind,.int .i64 (x j).seq,.string (x j).name,.int .i64 (x j).length,.int .i64 (x j).group,.int .i64 (x j).row,.slice ao6 (x j).rows.1 cap6,.slice ao7 (x j).data.1 cap7,.slice ao8 (x j).delta.1 cap8] 94):=⟨_,rfl⟩;rw [← hW5] at bV V1 ⊢;clear hW5 s_0 s_1 s_2 s_3 s_4 s_5 s_6 s_7 s_8;have z5:=bV.size;have C5:ChgL [g] w W5:=HCH.out.trans (ChgL.of_below bV);have CS:=zex a0 a1 kd sq (x j).kind (x j).seq (x j).name (x j).length (x j).group (x j).row ao6 (x j).rows.1 cap6 ao7 (x j).data.1 cap7 ao8 (x j).delta.1 cap8 W5 ((World.cell?_of_block (C5.block a0 hl0 (by simpa using hg0))).trans H0.out) ((World.cell?_of_block (C5.block a1 hl1 (by simpa using hg1))).trans H1.out) (by omega) (by omega);obtain ⟨t,ht⟩:∃ t,t=((x j).kind==kd&&(x j).seq==sq):=⟨_,rfl⟩;rw [← ht] at CS
   have HT:Hid ((fun i=>zax kd sq (x i)) j=!t):=by rw [ht];rfl
   have HC5:=hid C5;have v_0:W5.cell? ⟨wx.heap.size,0,none⟩=some (.int .i64 (x j).kind):=V1.cell 0;have v_1:W5.cell? ⟨wx.heap.size,1,none⟩=some (.int .i64 (x j).seq):=V1.cell 1;have v_2:W5.cell? ⟨wx.heap.size,2,none⟩=some (.string (x j).name):=V1.cell 2;have v_3:W5.cell? ⟨wx.heap.size,3,none⟩=some (.int .i64 (x j).length):=V1.cell 3;have v_4:W5.cell? ⟨wx.heap.size,4,none⟩=some (.int .i64 (x j).group):=V1.cell 4;have v_5:W5.cell? ⟨wx.heap.size,5,none⟩=some (.int .i64 (x j).row):=V1.cell 5;have v_6:W5.cell? ⟨wx.heap.size,6,none⟩=some (.slice ao6 (x j).rows.1 cap6):=V1.cell 6;have v_7:W5.cell? ⟨wx.heap.size,7,none⟩=some (.slice ao7 (x j).data.1 cap7):=V1.cell 7;have v_8:W5.cell? ⟨wx.heap.size,8,none⟩=some (.slice ao8 (x j).delta.1 cap8):=V1.cell 8;clear ht C5
   go_wp2_with fail
   refine CS.mono ?_;rintro e w6 ⟨rfl,b6⟩;have z6:=b6.size;have V6:=V1.call b6;have C6:=hid (HC5.out.trans (ChgL.of_below b6));have S6:=(HS5.out.kept (w':=w6) (fun b hb=>(b6.block b (by have:=HS5.out.mem_lt b hb;omega)).trans (bV.block b (HS5.out.mem_lt b hb))));have HS6:=hid S6;clear b6 CS bV V1 v_0 v_1 v_2 v_3 v_4 v_5 v_6 v_7 v_8
   cases t with
   | true=>
    have HR6:=hid S6.row;clear S6 V6;go_wp2
    go_roundw
    case rel=>
     refine ⟨j+1,by omega,by omega,by go_num,by rw [zcb HT.out],?_,C6.out⟩;rw [za7 (g:=(mixF (fun i=>zax kd sq (x i)) (j) ce)) (fun m _=>zg5 ce HT.out m)];exact HR6.out
    case measure=>simp [intOf];omega
   | false=>
    obtain ⟨q,hq⟩:∃ q,q=(zau (fun i=>zax kd sq (x i)) (j)).length:=⟨_,rfl⟩;have HQ:=hid hq
    have hqn:q<n:=by omega
    rw [← hq]
    have k1:(0:Int)≤(q:Int):=by omega
    have k2:(q:Int)<(n:Int):=by omega
    have hqc:=S6.lens q hqn
    have hso:∀ t,t<9→∃ u,w6.cell? ⟨g,q*9+t,none⟩=some u:=fun t ht=>by
     refine ⟨((mixF (fun i=>zax kd sq (x i)) (j) ce) q)[t]'(by rw [hqc];exact ht),?_⟩;rw [← List.getElem?_eq_getElem];exact S6.cell hqn ht
    obtain ⟨u_0,t_0⟩:=hso 0 (by decide);obtain ⟨u_1,t_1⟩:=hso 1 (by decide);obtain ⟨u_2,t_2⟩:=hso 2 (by decide);obtain ⟨u_3,t_3⟩:=hso 3 (by decide);obtain ⟨u_4,t_4⟩:=hso 4 (by decide);obtain ⟨u_5,t_5⟩:=hso 5 (by decide);obtain ⟨u_6,t_6⟩:=hso 6 (by decide);obtain ⟨u_7,t_7⟩:=hso 7 (by decide);obtain ⟨u_8,t_8⟩:=hso 8 (by decide)
    simp only [Nat.add_zero] at t_0
    have tf_0:w6.frozen? ⟨g,q*9,none⟩=false:=S6.frozen _;have tf_1:w6.frozen? ⟨g,q*9+1,none⟩=false:=S6.frozen _;have tf_2:w6.frozen? ⟨g,q*9+2,none⟩=false:=S6.frozen _;have tf_3:w6.frozen? ⟨g,q*9+3,none⟩=false:=S6.frozen _;have tf_4:w6.frozen? ⟨g,q*9+4,none⟩=false:=S6.frozen _;have tf_5:w6.frozen? ⟨g,q*9+5,none⟩=false:=S6.frozen _;have tf_6:w6.frozen? ⟨g,q*9+6,none⟩=false:=S6.frozen _;have tf_7:w6.frozen? ⟨g,q*9+7,none⟩=false:=S6.frozen _;have tf_8:w6.frozen? ⟨g,q*9+8,none⟩=false:=S6.frozen _;have v_0:w6.cell? ⟨wx.heap.size,0,none⟩=some (.int .i64 (x j).kind):=V6.cell 0;have v_1:w6.cell? ⟨wx.heap.size,1,none⟩=some (.int .i64 (x j).seq):=V6.cell 1;have v_2:w6.cell? ⟨wx.heap.size,2,none⟩=some (.string (x j).name):=V6.cell 2;have v_3:w6.cell? ⟨wx.heap.size,3,none⟩=some (.int .i64 (x j).length):=V6.cell 3;have v_4:w6.cell? ⟨wx.heap.size,4,none⟩=some (.int .i64 (x j).group):=V6.cell 4;have v_5:w6.cell? ⟨wx.heap.size,5,none⟩=some (.int .i64 (x j).row):=V6.cell 5;have v_6:w6.cell? ⟨wx.heap.size,6,none⟩=some (.slice ao6 (x j).rows.1 cap6):=V6.cell 6;have v_7:w6.cell? ⟨wx.heap.size,7,none⟩=some (.slice ao7 (x j).data.1 cap7):=V6.cell 7;have v_8:w6.cell? ⟨wx.heap.size,8,none⟩=some (.slice ao8 (x j).delta.1 cap8):=V6.cell 8
    have hnx:(zau (fun i=>zax kd sq (x i)) (j+1)).length=q+1:=by
     have hpk:(fun i=>zax kd sq (x i)) j=true:=HT.out
     rw [hq,zbq,if_pos hpk];simp
    have HNX:=hid hnx
    have R7:(stN w6 g (q*zac.sz) [.int .i64 (x j).kind,.int .i64 (x j).seq,.string (x j).name,.int .i64 (x j).length,.int .i64 (x j).group,.int .i64 (x j).row,.slice ao6 (x j).rows.1 cap6,.slice ao7 (x j).data.1 cap7,.slice ao8 (x j).delta.1 cap8]).ownsRow 0 94 zac.sz (.slice (some ⟨g,0,none⟩) n cap) n (catN n (mixF (fun i=>zax kd sq (x i)) (j+1) ce)):=by
     have hr:=zfZ [.int .i64 (x j).kind,.int .i64 (x j).seq,.string (x j).name,.int .i64 (x j).length,.int .i64 (x j).group,.int .i64 (x j).row,.slice ao6 (x j).rows.1 cap6,.slice ao7 (x j).data.1 cap7,.slice ao8 (x j).delta.1 cap8] w6 (q*zac.sz) _ S6.row;rw [ze7 S6.lens hqn rfl] at hr
     rw [za7 (g:=(mixF (fun i=>zax kd sq (x i)) (j+1) ce)) (fun m _=>by
      have hpk:(fun i=>zax kd sq (x i)) j=true:=HT.out;have:=ziQ (p:=(fun i=>zax kd sq (x i))) (j:=j) ce hpk m;rw [HCE.out,← hq] at this
      exact this)] at hr
     exact hr
    have HR7:=hid R7;have C7:Hid (ChgL [g] w (stN w6 g (q*zac.sz) [.int .i64 (x j).kind,.int .i64 (x j).seq,.string (x j).name,.int .i64 (x j).length,.int .i64 (x j).group,.int .i64 (x j).row,.slice ao6 (x j).rows.1 cap6,.slice ao7 (x j).data.1 cap7,.slice ao8 (x j).delta.1 cap8])):=C6.out.trans ⟨(za3 g _ w6 _).1,(za3 g _ w6 _).2.1,(za3 g _ w6 _).2.2,Nat.le_of_eq (zbx g _ w6 _).symm,fun b _ hb=>zbG g b (fun hh=>hb (by simp [hh])) _ w6 _⟩
    have zq:IntKind.i64.wrap ((q:Int)+1)=(q:Int)+1:=by rw [IntKind.wrap_i64];omega
    clear S6 V6 hq hso hqc hnx R7;go_wp2
    go_roundw
    case rel=>
     refine ⟨j+1,by omega,by omega,by go_num,by rw [HNX.out];simp,HR7.out,C7.out⟩
    case measure=>simp [intOf];omega
  ·obtain rfl:j=n:=by omega
   obtain ⟨q,hq⟩:∃ q,q=(zau (fun i=>zax kd sq (x i)) (j)).length:=⟨_,rfl⟩;have HQ:=hid hq;have S5:=zin h.out HND.out (fun i=>zax kd sq (x i)) j hj HCH.out HRW.out;have hlens:=S5.lens
   rcases S5.row.2 with ⟨hnn,_⟩ | ⟨g',cap',cur,he,hbg,hgg,hnc',hcm,hcs,htk⟩
   ·cases hnn
   cases he
   have hqn:q<j:=by omega
   obtain ⟨row,hcl,hrs,hrt⟩:=zhD wx 0 g (q*9) (j-q) (cap-q) cur hgg (by omega) (by
    have h9:cur.size=cap*9:=hcs
    have:q*9+(j-q)*9≤cap*9:=by rw [← Nat.add_mul];exact Nat.mul_le_mul_right 9 (by omega)
    omega)
   have hf:=zhE g j cap q hqn HNC.out;have ht:=fun w'=>ziS g j cap q (by omega) w';obtain ⟨W7,hW7⟩:∃ y,y=wx.setRow g row:=⟨_,rfl⟩;rw [← hW7] at hcl
   have R7:Hid (W7.ownsRow 0 94 zac.sz (.slice (some ⟨g,0,none⟩) q cap) q (catN q (fun i=>ce (selF (fun i=>zax kd sq (x i)) j i)))):=by
    have hrow0:=zip S5.row (Nat.le_of_lt hqn) (ziq hlens (Nat.le_of_lt hqn))
    have e1:catN q (mixF (fun i=>zax kd sq (x i)) (j) ce)=catN q (fun i=>ce (selF (fun i=>zax kd sq (x i)) j i)):=za7 (fun i hi=>by
     show mixF _ j ce i=_
     unfold mixF
     rw [if_pos (by rw [← hq];exact hi)])
    rw [e1] at hrow0;refine ⟨hrow0.1,?_⟩
    rcases hrow0.2 with ⟨hnn,_⟩ | ⟨g2,cap2,cur2,he2,hb2,hg2,hn2,hm2,hs2,ht2⟩
    ·cases hnn
    cases he2
    rw [hgg] at hg2
    cases hg2
    refine .inr ⟨g,cap,row,rfl,hb2,by rw [hW7];exact setRow_heap wx g cur row 94 (0,0) hgg,hn2,hm2,by rw [hrs];exact hs2,?_⟩;rw [← ht2];exact hrt
   have C7:Hid (ChgL [g] w W7):=by
    rw [hW7];exact HCH.out.trans (zdW g row)
   clear S5 hlens hgg htk hcs hcm hnc' hbg hrs hrt hW7 hless;rw [← hq];clear hq
   go_wp2_with (simp only [hcl])
   go_ret;rw [← HQ.out];exact ⟨rfl,R7.out,C7.out⟩
theorem ziT {w:World} {x y:Nat→RecD} {v:Value} {K:List Nat} (h:(zac.slice 94).own w (0,x) [v] K):(zac.slice 94).own w (0,y) [v] K:=by
 obtain ⟨v',ce,Ls,e,eK,hr,_⟩:=h;exact ⟨v',ce,Ls,e,eK,hr,fun i hi=>by cases hi⟩
theorem ziU {w:World} {lo m s:Nat} {t:TypeId} {v:Value} {xs:List Value} (h:w.ownsRow lo t s v m xs):w.ownsRow 0 t s v m xs:=by
 refine ⟨h.1,?_⟩
 rcases h.2 with hn | ⟨g,cap,cur,e,_,rest⟩
 ·exact .inl hn
 ·exact .inr ⟨g,cap,cur,e,Nat.zero_le _,rest⟩
set_option maxRecDepth 20000 in
theorem zhF (ao:Option Addr) (cap:Nat) (fv:Value) (w:World) :
 Calls Tryz.prog 60 #[.slice ao 0 cap,fv] w fun e w'=>e=.returned (.slice ao 0 cap)∧w'=w:=by
 have CI:Calls Tryz.prog 101 #[.slice ao 0 cap,fv] w fun e w'=>e=.returned (.int .i64 (-1))∧w'=w:=by
  go_enter Tryz.func101,Tryz.ntmps101
  go_wp2
  go_loop [8] (fun z=>z=.int .i64 0) (fun _=>0)
  case atStart=>rfl
  case round=>
   subst hrel;go_wp2;go_ret;exact ⟨rfl,rfl⟩
 have te:((-1:Int)==-1)=true:=by decide
 go_enter Tryz.func60,Tryz.ntmps60
 go_wp2_with fail
 refine CI.mono ?_;rintro e w1 ⟨rfl,e1⟩;obtain rfl:=e1.symm;go_wp2;go_ret;exact ⟨rfl,rfl⟩
set_option maxRecDepth 20000 in
theorem zhG (ao:Option Addr) (cap:Nat) (kd sq:Int) (w:World) :
 Calls Tryz.prog 23 #[.slice ao 0 cap,.int .i64 kd,.int .i64 sq] w fun e w'=>e=.returned (.slice (some ⟨w.heap.size,0,none⟩) 0 0)∧w'=w.alloc (.cells #[] 94):=by
 go_enter Tryz.func23,Tryz.ntmps23
 go_wp2
 go_loopw [7,8] (fun v z wr=>z=.int .i64 0∧v=.slice (some ⟨w.heap.size,0,none⟩) 0 0∧wr=w.alloc (.cells #[] 94)) (fun _ _ _=>0)
 case atStart=>exact ⟨rfl,rfl,rfl⟩
 case round=>
  obtain ⟨rfl,rfl,rfl⟩:=hrel;go_wp2;go_ret;exact ⟨rfl,rfl⟩
theorem zhH {w:World} {p:Nat×(Nat→RecD)} {ao:Option Addr} {cap:Nat} {K:List Nat} (h:(zac.slice 94).own w p [.slice ao p.1 cap] K) (nd:K.Nodup) (hn:p.1≤1048576) (a0 a1:Nat) (kd sq:Int) (h0:w.cell? ⟨a0,0,none⟩=some (.int .i64 kd)) (h1:w.cell? ⟨a1,0,none⟩=some (.int .i64 sq)) (hl0:a0<w.heap.size) (hl1:a1<w.heap.size) (hk0:a0∉K) (hk1:a1∉K) :
 Calls Tryz.prog 60 #[.slice ao p.1 cap,.func (.func 61) #[] #[.pointer (some ⟨a0,0,none⟩),.pointer (some ⟨a1,0,none⟩)]] w fun e w'=>∃ ao' cap' K',e=.returned (.slice ao' (za0 p kd sq).1 cap')∧Turn (zac.slice 94) w K w' (za0 p kd sq) [.slice ao' (za0 p kd sq).1 cap'] K':=by
 by_cases h0':p.1=0
 ·obtain ⟨n,x⟩:=p
  simp only at h0'
  subst h0';refine (zhF ao cap _ w).mono ?_;rintro e w' ⟨rfl,rfl⟩;exact ⟨ao,cap,K,rfl,ziT h,nd,fun b hb=>.inl hb,ChgL.refl _ _⟩
 ·obtain ⟨g,cap',ce,Ls,e,eK,S⟩:=zbk h h0'
  simp only [List.cons.injEq,Value.slice.injEq,and_true,true_and] at e
  obtain ⟨rfl,rfl⟩:=e;subst eK;refine (zfO g cap p.1 p.2 ce Ls a0 a1 kd sq w S nd h0 h1 hl0 hl1 (fun hh=>hk0 (by rw [hh];exact List.mem_cons_self ..)) (fun hh=>hk1 (by rw [hh];exact List.mem_cons_self ..)) hn).mono ?_;rintro e w' ⟨rfl,hr,hc⟩
  obtain ⟨s1,s2,s3⟩:=S.select nd (p:=(fun i=>zax kd sq (p.2 i))) hr (fun b hb=>.inl (by simpa [Value.ownBlock] using hb.symm)) (fun b hb=>hc.block b (S.mem_lt b (List.mem_cons_of_mem _ hb)) (fun hm=>by
   simp only [List.mem_singleton] at hm
   subst hm
   exact (List.nodup_cons.1 nd).1 hb))
  exact ⟨_,cap,_,rfl,s1,s2,s3,hc.mono (fun b hb=>by simp only [List.mem_singleton] at hb;rw [hb];exact List.mem_cons_self ..)⟩
theorem zhI {w:World} {p:Nat×(Nat→RecD)} {ao:Option Addr} {cap:Nat} {K:List Nat} (h:(zac.slice 94).own w p [.slice ao p.1 cap] K) (nd:K.Nodup) (hn:p.1≤1048576) (kd sq:Int) :
 Calls Tryz.prog 23 #[.slice ao p.1 cap,.int .i64 kd,.int .i64 sq] w fun e w'=>∃ ao' cap' K',e=.returned (.slice ao' (za0 p kd sq).1 cap')∧Turn (zac.slice 94) w K w' (za0 p kd sq) [.slice ao' (za0 p kd sq).1 cap'] K':=by
 by_cases h0':p.1=0
 ·obtain ⟨n,x⟩:=p
  simp only at h0'
  subst h0';refine (zhG ao cap kd sq w).mono ?_;rintro e w' ⟨rfl,rfl⟩;have hr:=World.ownsRow_lit (base:=0) (e:=94) (size:=zac.sz) w #[] 0 (Nat.zero_le _) (Nat.zero_le _) (by simp);refine ⟨some ⟨w.heap.size,0,none⟩,0,[w.heap.size],rfl,⟨_,fun _=>[],fun _=>[],rfl,by simp [Value.ownBlock,za0,zau,zbn],?_,fun i hi=>by cases hi⟩,by simp,fun b hb=>.inr ?_,ChgL.of_below ((Below.refl _ _).alloc (Nat.le_refl _) _)⟩
  ·simpa [za0,zau,zbn] using hr
  ·simp only [List.mem_singleton] at hb
   subst hb
   simp
 ·obtain ⟨g,cap',ce,Ls,e,eK,S⟩:=zbk h h0'
  simp only [List.cons.injEq,Value.slice.injEq,and_true,true_and] at e
  obtain ⟨rfl,rfl⟩:=e;subst eK;refine (zfN g cap p.1 p.2 ce Ls kd sq w S hn).mono ?_;rintro e w' ⟨ao',c',rfl,hr,hb⟩;obtain ⟨s1,s2,s3⟩:=S.select nd (p:=(fun i=>zax kd sq (p.2 i))) (ziU hr) (fun b hb'=>.inr (hr.lt b hb').1) (fun b hb'=>hb.block b (S.mem_lt b (List.mem_cons_of_mem _ hb')));exact ⟨ao',c',_,rfl,s1,s2,s3,ChgL.of_below hb⟩
theorem zd8 {w w1:World} {d:TapeD} {ao ao':Option Addr} {cap cap':Nat} {K K':List Nat} {kd sq:Int} {cs:List Value} (hc:cs=[.bool d.wiped,.slice ao d.recs.1 cap]) (ht:Turn (zac.slice 94) w K w1 (za0 d.recs kd sq) [.slice ao' (za0 d.recs kd sq).1 cap'] K'):Turn zag w K w1 (zdp d kd sq) (cs.set 1 (.slice ao' (za0 d.recs kd sq).1 cap')) K':=by
 subst hc;exact ⟨zf5 (zdp d kd sq) ht.own,ht.nd,ht.sub,ht.chg⟩
def zb7 (d:WorldD) (T:Nat) (kd sq:Int):WorldD:={ d with tapes:=(d.tapes.1,upd d.tapes.2 T (zdp (d.tapes.2 T) kd sq)) }
set_option maxRecDepth 20000 in
theorem zfP (E:Nat) (d:WorldD) (cs:List Value) (K:List Nat) (q0 q1 q2 T:Nat) (kd sq:Int) (hT:T<d.tapes.1) (hn:(d.tapes.2 T).recs.1≤1048576) (w:World) (hX:Box w E (([.int .i32 1,.int .u32 0,.int .u32 0,.int .i32 0,.int .u32 0]:List Value)++cs).toArray 110) (hO:EncO w E d cs K) (h0:w.cell? ⟨q0,0,none⟩=some (.int .i64 (T:Int))) (h1:w.cell? ⟨q1,0,none⟩=some (.int .i64 kd)) (h2:w.cell? ⟨q2,0,none⟩=some (.int .i64 sq)) (l0:q0<w.heap.size∧q0∉K) (l1:q1<w.heap.size∧q1∉K) (l2:q2<w.heap.size∧q2∉K) :
 Calls Tryz.prog 59 #[.pointer (some ⟨E,5,none⟩),.pointer (some ⟨q0,0,none⟩),.pointer (some ⟨q1,0,none⟩),.pointer (some ⟨q2,0,none⟩)] w fun e w'=>e=.returned (.tuple #[])∧∃ cs' K',Box w' E (([.int .i32 1,.int .u32 0,.int .u32 0,.int .i32 0,.int .u32 0]:List Value)++cs').toArray 110∧EncO w' E (zb7 d T kd sq) cs' K'∧(∀ b,b∈K'→b∈K∨w.heap.size≤b)∧ChgL (E::K) w w':=by
 have hmf:∀ (fn:Fn) (first cap:Array Value) (w:World),(Instr.makeFunc fn first cap).run Tryz.prog w=.ok (.func fn first cap) w:=fun _ _ _ _=>rfl;have O0:EncO w.drew E d cs K:=hO.chg (ChgL.refl [E] _).drew;obtain ⟨p1,c1,p2,c2,p3,c3,K1,K2,K3,rfl,rfl,WO⟩:=O0.open;obtain ⟨gt,cap,ce,Ls,e3,eL,S3⟩:=zbk WO.t (by omega)
 simp only [List.cons.injEq,Value.slice.injEq,and_true,true_and] at e3
 obtain ⟨rfl,rfl⟩:=e3;subst eL;have nd3:(gt::catN d.tapes.1 Ls).Nodup:=(List.nodup_append.1 (List.nodup_append.1 WO.nd).2.1).2.1;obtain ⟨ao9,cap9,K9,e9,eK9,o9⟩:=zdD (S3.each T hT);have in9:∀ b,b∈K9→b∈gt::catN d.tapes.1 Ls:=fun b hb=>SlO.sub T hT b (by rw [eK9];exact hb);have inK:∀ b,b∈gt::catN d.tapes.1 Ls→b∈K1++(K2++(gt::catN d.tapes.1 Ls)):=fun b hb=>List.mem_append_right _ (List.mem_append_right _ hb);have hE9:E∉K9:=fun hb=>hO.ne (inK _ (in9 _ hb));have hgt:gt∉K9:=fun hb=>(List.nodup_cons.1 nd3).1 (zav.2 ⟨T,hT,by rw [eK9];exact hb⟩);have x16:w.cell? ⟨E,16,none⟩=some (.slice (some ⟨gt,0,none⟩) d.tapes.1 c3):=hX.cell 16;have y1:w.drew.cell? ⟨gt,T*2+1,none⟩=some (.slice ao9 (d.tapes.2 T).recs.1 cap9):=(S3.cell hT (j:=1) (by decide)).trans (by rw [e9];rfl);have hEl:=hX.lt;have hgl:gt<w.drew.heap.size:=S3.lt;have KS:∀ w',ChgL K9 w.drew w'→(w'.cell? ⟨E,16,none⟩=some (.slice (some ⟨gt,0,none⟩) d.tapes.1 c3)∧w'.cell? ⟨q0,0,none⟩=some (.int .i64 (T:Int))∧w'.cell? ⟨gt,T*2+1,none⟩=some (.slice ao9 (d.tapes.2 T).recs.1 cap9)):=fun w' hc=>⟨(World.cell?_of_block (hc.block E hEl hE9)).trans x16,(World.cell?_of_block (hc.block q0 l0.1 (fun hb=>l0.2 (inK _ (in9 _ hb))))).trans h0,(World.cell?_of_block (hc.block gt hgl hgt)).trans y1⟩;have CC:=zhH o9 (by rw [← eK9];exact zdb (List.nodup_cons.1 nd3).2 hT) hn q1 q2 kd sq h1 h2 l1.1 l2.1 (fun hb=>l1.2 (inK _ (in9 _ hb))) (fun hb=>l2.2 (inK _ (in9 _ hb)))
 have i1:(0:Int)≤(T:Int):=by omega
 have i2:(T:Int)<(d.tapes.1:Int):=by omega
 have HX:Hid (Box w.drew E #[.int .i32 1,.int .u32 0,.int .u32 0,.int .i32 0,.int .u32 0,.int .i64 (d.shape 0),.int .i64 (d.shape 1),.int .i64 (d.shape 2),.int .i64 (d.shape 3),.int .i64 (d.shape 4),.int .i64 (d.shape 5),.int .i64 (d.shape 6),.int .i64 (d.shape 7),.int .i64 (d.shape 8),.slice p1 d.groups.1 c1,.slice p2 d.on.1 c2,.slice (some ⟨gt,0,none⟩) d.tapes.1 c3,.int .i64 d.writes,.int .i64 d.stop,.bool d.down] 110):=hX;have HNE:Hid (E∉K1++(K2++(gt::catN d.tapes.1 Ls))):=hO.ne;clear hX hO O0
 go_enter Tryz.func59,Tryz.ntmps59
 go_upto_region 0 with fail
 refine zb0 17 (fun w'=>w'.cell? ⟨E,16,none⟩=some (.slice (some ⟨gt,0,none⟩) d.tapes.1 c3)∧w'.cell? ⟨q0,0,none⟩=some (.int .i64 (T:Int))∧w'.cell? ⟨gt,T*2+1,none⟩=some (.slice ao9 (d.tapes.2 T).recs.1 cap9)) (by kernel_rfl) (KS _ (ChgL.refl _ _)) (fun hHeld=>?_);refine zjz 0 rfl ?_
 try simp only [Act.put,SL]
 refine zjz 1 rfl ?_
 try simp only [Act.put,SL]
 refine zjz 2 rfl ?_
 try simp only [Act.put,SL]
 refine zjz 3 rfl ?_
 try simp only [Act.put,SL]
 refine zjz 4 rfl ?_
 try simp only [Act.put,SL]
 refine zjz 5 rfl ?_
 try simp only [Act.put,SL]
 refine zjz 6 rfl ?_
 try simp only [Act.put,SL]
 refine zjz 7 rfl ?_
 try simp only [Act.put,SL]
 refine zjz 8 rfl ?_
 try simp only [Act.put,SL]
 refine zjz 9 rfl ?_
 try simp only [Act.put,SL]
 refine zjz 10 rfl ?_
 try simp only [Act.put,SL]
 refine zjz 11 rfl ?_
 try simp only [Act.put,SL]
 refine zjz 12 rfl ?_
 try simp only [Act.put,SL]
 refine zjz 13 rfl ?_
 try simp only [Act.put,SL]
 refine za8 (i:=14) (o:=_) rfl (by kernel_rfl) (fun KC hKC=>?_)
 refine zcx rfl 60 _ _ rfl #[.slice ao9 (d.tapes.2 T).recs.1 cap9,.func (.func 61) #[] #[.pointer (some ⟨q1,0,none⟩),.pointer (some ⟨q2,0,none⟩)]] ?_ Tryz.func60 (by kernel_rfl) (by kernel_rfl) CC ?_;(simp [Act.eval,Act.put]);rintro ee w5 ⟨ao',cap',K',rfl,TT⟩;have k1:=KS w5 TT.chg;have f1:w5.frozen? ⟨gt,T*2+1,none⟩=false:=(World.frozen?_of_block (a:=⟨gt,T*2+1,none⟩) (TT.chg.block gt S3.lt hgt)).trans (S3.frozen _);have t1:w5.cell? ⟨gt,T*2+1,none⟩=some (.slice ao9 (d.tapes.2 T).recs.1 cap9):=k1.2.2;refine ⟨_,rfl,?_⟩
 refine hKC.out _ _ (k1) (fun hHeld=>?_);clear hKC KC
 try simp only [Act.put,SL]
 refine zjz 15 rfl ?_
 try simp only [Act.put,SL]
 refine zjz 16 rfl ?_
 try simp only [Act.put,SL]
 refine zbY (o:=_) rfl (by kernel_rfl) (fun KC hKC=>?_);go_simp;refine hKC.out _ _ ?_;clear hKC KC
 try simp only [Act.put,SL]
 refine zbZ (by kernel_rfl) ?_ _;have TK:=zd8 e9 TT;rw [← eK9] at TK;obtain ⟨T7,-⟩:=S3.turn_cell nd3 hT (j:=1) (by decide) _ TK (w':=w5.setCell ⟨gt,T*zag.sz+1,none⟩ (.slice ao' (za0 (d.tapes.2 T).recs kd sq).1 cap')) rfl;have WO7:=WO.tapes (Nat.le_refl _) (Nat.zero_le _) T7;have hin:∀ b,b∈gt::catN d.tapes.1 Ls→b≠E:=fun b hb he=>HNE.out (by rw [← he];exact inK b hb);have X7:=HX.out.chgl T7.chg (fun hb=>hin E hb rfl)
 have sub7:∀ b,b∈K1++(K2++(gt::catN d.tapes.1 (upd Ls T K')))→b∈K1++(K2++(gt::catN d.tapes.1 Ls))∨w.heap.size≤b:=fun b hb=>by
  rcases List.mem_append.1 hb with h | h
  ·exact .inl (List.mem_append_left _ h)
  ·rcases List.mem_append.1 h with h | h
   ·exact .inl (List.mem_append_right _ (List.mem_append_left _ h))
   ·rcases T7.sub b h with h | h
    ·exact .inl (inK b h)
    ·exact .inr h.1
 have hE7:E∉K1++(K2++(gt::catN d.tapes.1 (upd Ls T K'))):=fun hm=>by
  rcases sub7 E hm with h | h
  ·exact HNE.out h
  ·omega
 have O7:=WO7.encO hE7;have C7:ChgL (E::(K1++(K2++(gt::catN d.tapes.1 Ls)))) w (w5.setCell ⟨gt,T*zag.sz+1,none⟩ (.slice ao' (za0 (d.tapes.2 T).recs kd sq).1 cap')):=((ChgL.refl _ w).drew).trans (T7.chg.mono (fun b hb=>List.mem_cons_of_mem _ (inK b hb)));have HX7:Hid (Box (w5.setCell ⟨gt,T*zag.sz+1,none⟩ (.slice ao' (za0 (d.tapes.2 T).recs kd sq).1 cap')) E #[.int .i32 1,.int .u32 0,.int .u32 0,.int .i32 0,.int .u32 0,.int .i64 (d.shape 0),.int .i64 (d.shape 1),.int .i64 (d.shape 2),.int .i64 (d.shape 3),.int .i64 (d.shape 4),.int .i64 (d.shape 5),.int .i64 (d.shape 6),.int .i64 (d.shape 7),.int .i64 (d.shape 8),.slice p1 d.groups.1 c1,.slice p2 d.on.1 c2,.slice (some ⟨gt,0,none⟩) d.tapes.1 c3,.int .i64 d.writes,.int .i64 d.stop,.bool d.down] 110):=X7;have HS:Hid (∀ b,b∈K1++(K2++((gt::catN d.tapes.1 (upd Ls T K'))++[]))→b∈K1++(K2++(gt::catN d.tapes.1 Ls))∨w.heap.size≤b):=fun b hb=>sub7 b (by simpa using hb);have HO7:Hid (EncO (w5.setCell ⟨gt,T*zag.sz+1,none⟩ (.slice ao' (za0 (d.tapes.2 T).recs kd sq).1 cap')) E (zb7 d T kd sq) (rwW d p1 c1 p2 c2 (some ⟨gt,0,none⟩) c3) (K1++(K2++((gt::catN d.tapes.1 (upd Ls T K'))++[])))):=O7;have HC7:Hid (ChgL (E::(K1++(K2++(gt::catN d.tapes.1 Ls)))) w (w5.setCell ⟨gt,T*zag.sz+1,none⟩ (.slice ao' (za0 (d.tapes.2 T).recs kd sq).1 cap'))):=C7;clear O7 C7 X7 WO7 T7 TK TT WO S3 CC KS sub7 hE7 hin;go_wp2
 go_end0
 exact ⟨rfl,_,_,HX7.out,HO7.out,HS.out,HC7.out⟩
set_option maxRecDepth 100000 in
theorem zd9 (E:Nat) (v0 v1 v2 v3 v4 v5 v6 v7 v8 vp0 vl0 vq0 vp1 vl1 vq1 vp2 vl2 vq2 v9 v10 vb:_) (d d':WorldD) (K:List Nat) (q0 q1 q2:Nat) (w:World) (hX:Box w E #[.int .i32 0,.int .u32 0,.int .u32 0,.int .i32 0,.int .u32 0,.int .i64 v0,.int .i64 v1,.int .i64 v2,.int .i64 v3,.int .i64 v4,.int .i64 v5,.int .i64 v6,.int .i64 v7,.int .i64 v8,.slice vp0 vl0 vq0,.slice vp1 vl1 vq1,.slice vp2 vl2 vq2,.int .i64 v9,.int .i64 v10,.bool vb] 110) (hO:EncO w E d [.int .i64 v0,.int .i64 v1,.int .i64 v2,.int .i64 v3,.int .i64 v4,.int .i64 v5,.int .i64 v6,.int .i64 v7,.int .i64 v8,.slice vp0 vl0 vq0,.slice vp1 vl1 vq1,.slice vp2 vl2 vq2,.int .i64 v9,.int .i64 v10,.bool vb] K) (hpw:¬ (v10≠-1∧v10≤v9)) (hwr:-9223372036854775808≤d'.writes∧d'.writes+1≤9223372036854775807)
 (hch:∀ W,Box W E #[.int .i32 1,.int .u32 0,.int .u32 0,.int .i32 0,.int .u32 0,.int .i64 v0,.int .i64 v1,.int .i64 v2,.int .i64 v3,.int .i64 v4,.int .i64 v5,.int .i64 v6,.int .i64 v7,.int .i64 v8,.slice vp0 vl0 vq0,.slice vp1 vl1 vq1,.slice vp2 vl2 vq2,.int .i64 v9,.int .i64 v10,.bool vb] 110→EncO W E d [.int .i64 v0,.int .i64 v1,.int .i64 v2,.int .i64 v3,.int .i64 v4,.int .i64 v5,.int .i64 v6,.int .i64 v7,.int .i64 v8,.slice vp0 vl0 vq0,.slice vp1 vl1 vq1,.slice vp2 vl2 vq2,.int .i64 v9,.int .i64 v10,.bool vb] K→ChgL [E] w W→Calls Tryz.prog 59 #[.pointer (some ⟨E,5,none⟩),.pointer (some ⟨q0,0,none⟩),.pointer (some ⟨q1,0,none⟩),.pointer (some ⟨q2,0,none⟩)] W fun e w'=>e=.returned (.tuple #[])∧∃ cs' K',Box w' E ([.int .i32 1,.int .u32 0,.int .u32 0,.int .i32 0,.int .u32 0]++cs').toArray 110∧EncO w' E d' cs' K'∧(∀ b,b∈K'→b∈K∨W.heap.size≤b)∧ChgL (E::K) W w') :
 Calls Tryz.prog 58 #[.pointer (some ⟨E,0,none⟩),.func (.func 59) #[] #[.pointer (some ⟨q0,0,none⟩),.pointer (some ⟨q1,0,none⟩),.pointer (some ⟨q2,0,none⟩)]] w fun e w'=>e=.returned (.tuple #[])∧∃ cs' K',Box w' E ([.int .i32 0,.int .u32 0,.int .u32 0,.int .i32 0,.int .u32 0]++cs').toArray 110∧EncO w' E { d' with writes:=d'.writes+1 } cs' K'∧(∀ b,b∈K'→b∈K∨w.heap.size≤b)∧ChgL (E::K) w w':=by
 have HWR:=hid hwr;have CH:=hid hch;have hO':=hid hO
 by_cases hs:v10=-1
 ·have d1:(v10 != -1)=false:=by simpa using hs
  clear hpw hwr hch hO hs;have hE:E<w.heap.size:=hX.lt;have hmf:∀ (fn:Fn) (first cap:Array Value) (w:World),(Instr.makeFunc fn first cap).run Tryz.prog w=.ok (.func fn first cap) w:=fun _ _ _ _=>rfl;have bA:=bAl w (.cells #[.pointer (some ⟨E,0,none⟩)] 64);have P1:=zaD w #[.pointer (some ⟨E,0,none⟩)] 64;have X1:=hX.below bA hE
  go_enter_defers Tryz.func58,Tryz.ntmps58
  go_upto_region 1 with fail
  obtain ⟨W1,hW1⟩:∃ x,x=w.alloc (.cells #[.pointer (some ⟨E,0,none⟩)] 64):=⟨_,rfl⟩;rw [← hW1] at bA P1 X1 ⊢
  have zW:W1.heap.size=w.heap.size+1:=by rw [hW1];simp
  clear hW1;have hp1:W1.cell? ⟨w.heap.size,0,none⟩=some (.pointer (some ⟨E,0,none⟩)):=P1.cell 0;have c0:W1.cell? ⟨E,0,none⟩=some (.int .i32 0):=X1.cell 0;have f0:W1.frozen? ⟨E,0,none⟩=false:=X1.frozen 0;have X2:Box (W1.setCell ⟨E,0,none⟩ (.int .i32 1)) E #[.int .i32 1,.int .u32 0,.int .u32 0,.int .i32 0,.int .u32 0,.int .i64 v0,.int .i64 v1,.int .i64 v2,.int .i64 v3,.int .i64 v4,.int .i64 v5,.int .i64 v6,.int .i64 v7,.int .i64 v8,.slice vp0 vl0 vq0,.slice vp1 vl1 vq1,.slice vp2 vl2 vq2,.int .i64 v9,.int .i64 v10,.bool vb] 110:=X1.setc 0 _;have P2:Box (W1.setCell ⟨E,0,none⟩ (.int .i32 1)) w.heap.size #[.pointer (some ⟨E,0,none⟩)] 64:=P1.seto 0 _ (by omega);have C2':ChgL [E] w (W1.setCell ⟨E,0,none⟩ (.int .i32 1)):=(ChgL.of_below bA).st _ 0 _ (by simp)
  go_upto_region 2 with (go_at_call 96;refine (zdF ⟨E,0,none⟩ _ c0 f0).mono ?_;rintro e w' ⟨rfl,rfl⟩)
  obtain ⟨W2,hW2⟩:∃ x,x=W1.setCell ⟨E,0,none⟩ (.int .i32 1):=⟨_,rfl⟩;rw [← hW2] at X2 P2 C2' ⊢
  have z2:W2.heap.size=w.heap.size+1:=by rw [hW2];simpa using zW
  clear hW2 hp1 c0 f0 X1 P1 bA hX;have hp2:W2.cell? ⟨w.heap.size,0,none⟩=some (.pointer (some ⟨E,0,none⟩)):=P2.cell 0;have x17:W2.cell? ⟨E,17,none⟩=some (.int .i64 v9):=X2.cell 17;have x18:W2.cell? ⟨E,18,none⟩=some (.int .i64 v10):=X2.cell 18
  go_upto_region 3 with fail
  go_quiet (fail)
  go_upto_region 6 with fail
  obtain ⟨W3,hW3⟩:∃ x,x=W2.drewN nq:=⟨_,rfl⟩;rw [← hW3]
  have X3:Box W3 E #[.int .i32 1,.int .u32 0,.int .u32 0,.int .i32 0,.int .u32 0,.int .i64 v0,.int .i64 v1,.int .i64 v2,.int .i64 v3,.int .i64 v4,.int .i64 v5,.int .i64 v6,.int .i64 v7,.int .i64 v8,.slice vp0 vl0 vq0,.slice vp1 vl1 vq1,.slice vp2 vl2 vq2,.int .i64 v9,.int .i64 v10,.bool vb] 110:=by rw [hW3];exact X2
  have P3:Box W3 w.heap.size #[.pointer (some ⟨E,0,none⟩)] 64:=by rw [hW3];exact P2
  have C3':ChgL [E] w W3:=by rw [hW3];exact ⟨C2'.os,C2'.tape,C2'.output,C2'.size,C2'.block⟩
  have z3:W3.heap.size=w.heap.size+1:=by rw [hW3];exact z2
  have hp3:W3.cell? ⟨w.heap.size,0,none⟩=some (.pointer (some ⟨E,0,none⟩)):=P3.cell 0;clear hW3 X2 P2 C2' z2 hp2 x17 x18;have O3:=hO'.out.chg C3'
  have CC:=(CH.out W3 X3 O3 C3').mono (R':=fun e w'=>e=.returned (.tuple #[])∧∃ y0 y1 y2 y3 y4 y5 y6 y7 y8 yp0 yl0 yq0 yp1 yl1 yq1 yp2 yl2 yq2 y9 y10 yb K',Box w' E #[.int .i32 1,.int .u32 0,.int .u32 0,.int .i32 0,.int .u32 0,.int .i64 y0,.int .i64 y1,.int .i64 y2,.int .i64 y3,.int .i64 y4,.int .i64 y5,.int .i64 y6,.int .i64 y7,.int .i64 y8,.slice yp0 yl0 yq0,.slice yp1 yl1 yq1,.slice yp2 yl2 yq2,.int .i64 y9,.int .i64 y10,.bool yb] 110∧EncO w' E d' (rwV y0 y1 y2 y3 y4 y5 y6 y7 y8 yp0 yl0 yq0 yp1 yl1 yq1 yp2 yl2 yq2 y9 y10 yb) K'∧(∀ b,b∈K'→b∈K∨W3.heap.size≤b)∧ChgL (E::K) W3 w') (fun e w' ⟨he,cs',K',hX',hO',hs',hC'⟩=>by
   obtain ⟨y0,y1,y2,y3,y4,y5,y6,y7,y8,yp0,yl0,yq0,yp1,yl1,yq1,yp2,yl2,yq2,y9,y10,yb,rfl⟩:=zeX hO'.own
   exact ⟨he,y0,y1,y2,y3,y4,y5,y6,y7,y8,yp0,yl0,yq0,yp1,yl1,yq1,yp2,yl2,yq2,y9,y10,yb,K',hX',hO',hs',hC'⟩)
  have hKl:∀ b,b∈K→b<w.heap.size:=fun b hb=>zad.own_lt hO'.out.own b hb
  go_wp2_with (go_at_call 59;refine CC.mono ?_;rintro e w5 ⟨rfl,y0,y1,y2,y3,y4,y5,y6,y7,y8,yp0,yl0,yq0,yp1,yl1,yq1,yp2,yl2,yq2,y9,y10,yb,K5,X5,O5,s5,C5⟩;have P5:=P3.chgl C5 (by intro hm;rcases List.mem_cons.1 hm with h | h;omega;have:=hKl _ h;omega);have hp5:w5.cell? ⟨w.heap.size,0,none⟩=some (.pointer (some ⟨E,0,none⟩)):=P5.cell 0;have x17:w5.cell? ⟨E,17,none⟩=some (.int .i64 y9):=X5.cell 17;have f17:w5.frozen? ⟨E,17,none⟩=false:=X5.frozen 17;have HY9:=hid (zd6 O5.own);have zz:IntKind.i64.wrap (y9+1)=y9+1:=by rw [IntKind.wrap_i64];have:=HWR.out;have:=HY9.out;omega)
  refine leaves_cons (f:=97) (args:=#[.pointer (some ⟨E,0,none⟩)]) (by simp) (by simp [go_sem]) ?_;have X6:Box (w5.setCell ⟨E,17,none⟩ (.int .i64 (y9+1))) E #[.int .i32 1,.int .u32 0,.int .u32 0,.int .i32 0,.int .u32 0,.int .i64 y0,.int .i64 y1,.int .i64 y2,.int .i64 y3,.int .i64 y4,.int .i64 y5,.int .i64 y6,.int .i64 y7,.int .i64 y8,.slice yp0 yl0 yq0,.slice yp1 yl1 yq1,.slice yp2 yl2 yq2,.int .i64 (y9+1),.int .i64 y10,.bool yb] 110:=X5.setc 17 _;refine (zco ⟨E,0,none⟩ _ _ (X6.cell 0) (X6.frozen 0)).mono ?_;rintro e u' w'' ⟨rfl,rfl,rfl⟩;have X7:Box ((w5.setCell ⟨E,17,none⟩ (.int .i64 (y9+1))).setCell ⟨E,0,none⟩ (.int .i32 0)) E #[.int .i32 0,.int .u32 0,.int .u32 0,.int .i32 0,.int .u32 0,.int .i64 y0,.int .i64 y1,.int .i64 y2,.int .i64 y3,.int .i64 y4,.int .i64 y5,.int .i64 y6,.int .i64 y7,.int .i64 y8,.slice yp0 yl0 yq0,.slice yp1 yl1 yq1,.slice yp2 yl2 yq2,.int .i64 (y9+1),.int .i64 y10,.bool yb] 110:=X6.setc 0 _;have C7:ChgL [E] w5 ((w5.setCell ⟨E,17,none⟩ (.int .i64 (y9+1))).setCell ⟨E,0,none⟩ (.int .i32 0)):=((ChgL.refl _ _).st _ 17 _ (by simp)).st _ 0 _ (by simp)
  have O7:EncO w5 E { d' with writes:=d'.writes+1 } [.int .i64 y0,.int .i64 y1,.int .i64 y2,.int .i64 y3,.int .i64 y4,.int .i64 y5,.int .i64 y6,.int .i64 y7,.int .i64 y8,.slice yp0 yl0 yq0,.slice yp1 yl1 yq1,.slice yp2 yl2 yq2,.int .i64 (y9+1),.int .i64 y10,.bool yb] K5:=by
   rw [← HY9.out];exact ⟨zd5 (y9+1) (by have:=HWR.out;have:=HY9.out;omega) O5.own,O5.nd,O5.ne⟩
  simp only [Leaves,settle]
  refine ⟨_,results_none rfl _ _ _,rfl,_,K5,X7,O7.chg C7,fun b hb=>?_,?_⟩
  ·rcases s5 b hb with h | h
   ·exact .inl h
   ·exact .inr (by omega)
  ·exact (C3'.mono (fun b hb=>by simp at hb;simp [hb])).trans (C5.trans (C7.mono (fun b hb=>by simp at hb;simp [hb])))
 ·have d1:(v10 != -1)=true:=by simpa using hs
  have d2:decide (v10≤v9)=false:=by
   simp only [decide_eq_false_iff_not]
   exact fun h=>hpw ⟨hs,h⟩
  clear hpw hwr hch hO hs;have hE:E<w.heap.size:=hX.lt;have hmf:∀ (fn:Fn) (first cap:Array Value) (w:World),(Instr.makeFunc fn first cap).run Tryz.prog w=.ok (.func fn first cap) w:=fun _ _ _ _=>rfl;have bA:=bAl w (.cells #[.pointer (some ⟨E,0,none⟩)] 64);have P1:=zaD w #[.pointer (some ⟨E,0,none⟩)] 64;have X1:=hX.below bA hE
  go_enter_defers Tryz.func58,Tryz.ntmps58
  go_upto_region 1 with fail
  obtain ⟨W1,hW1⟩:∃ x,x=w.alloc (.cells #[.pointer (some ⟨E,0,none⟩)] 64):=⟨_,rfl⟩;rw [← hW1] at bA P1 X1 ⊢
  have zW:W1.heap.size=w.heap.size+1:=by rw [hW1];simp
  clear hW1;have hp1:W1.cell? ⟨w.heap.size,0,none⟩=some (.pointer (some ⟨E,0,none⟩)):=P1.cell 0;have c0:W1.cell? ⟨E,0,none⟩=some (.int .i32 0):=X1.cell 0;have f0:W1.frozen? ⟨E,0,none⟩=false:=X1.frozen 0;have X2:Box (W1.setCell ⟨E,0,none⟩ (.int .i32 1)) E #[.int .i32 1,.int .u32 0,.int .u32 0,.int .i32 0,.int .u32 0,.int .i64 v0,.int .i64 v1,.int .i64 v2,.int .i64 v3,.int .i64 v4,.int .i64 v5,.int .i64 v6,.int .i64 v7,.int .i64 v8,.slice vp0 vl0 vq0,.slice vp1 vl1 vq1,.slice vp2 vl2 vq2,.int .i64 v9,.int .i64 v10,.bool vb] 110:=X1.setc 0 _;have P2:Box (W1.setCell ⟨E,0,none⟩ (.int .i32 1)) w.heap.size #[.pointer (some ⟨E,0,none⟩)] 64:=P1.seto 0 _ (by omega);have C2':ChgL [E] w (W1.setCell ⟨E,0,none⟩ (.int .i32 1)):=(ChgL.of_below bA).st _ 0 _ (by simp)
  go_upto_region 2 with (go_at_call 96;refine (zdF ⟨E,0,none⟩ _ c0 f0).mono ?_;rintro e w' ⟨rfl,rfl⟩)
  obtain ⟨W2,hW2⟩:∃ x,x=W1.setCell ⟨E,0,none⟩ (.int .i32 1):=⟨_,rfl⟩;rw [← hW2] at X2 P2 C2' ⊢
  have z2:W2.heap.size=w.heap.size+1:=by rw [hW2];simpa using zW
  clear hW2 hp1 c0 f0 X1 P1 bA hX;have hp2:W2.cell? ⟨w.heap.size,0,none⟩=some (.pointer (some ⟨E,0,none⟩)):=P2.cell 0;have x17:W2.cell? ⟨E,17,none⟩=some (.int .i64 v9):=X2.cell 17;have x18:W2.cell? ⟨E,18,none⟩=some (.int .i64 v10):=X2.cell 18
  go_upto_region 3 with fail
  go_quiet (fail)
  go_upto_region 6 with fail
  obtain ⟨W3,hW3⟩:∃ x,x=W2.drewN nq:=⟨_,rfl⟩;rw [← hW3]
  have X3:Box W3 E #[.int .i32 1,.int .u32 0,.int .u32 0,.int .i32 0,.int .u32 0,.int .i64 v0,.int .i64 v1,.int .i64 v2,.int .i64 v3,.int .i64 v4,.int .i64 v5,.int .i64 v6,.int .i64 v7,.int .i64 v8,.slice vp0 vl0 vq0,.slice vp1 vl1 vq1,.slice vp2 vl2 vq2,.int .i64 v9,.int .i64 v10,.bool vb] 110:=by rw [hW3];exact X2
  have P3:Box W3 w.heap.size #[.pointer (some ⟨E,0,none⟩)] 64:=by rw [hW3];exact P2
  have C3':ChgL [E] w W3:=by rw [hW3];exact ⟨C2'.os,C2'.tape,C2'.output,C2'.size,C2'.block⟩
  have z3:W3.heap.size=w.heap.size+1:=by rw [hW3];exact z2
  have hp3:W3.cell? ⟨w.heap.size,0,none⟩=some (.pointer (some ⟨E,0,none⟩)):=P3.cell 0;clear hW3 X2 P2 C2' z2 hp2 x17 x18;have O3:=hO'.out.chg C3'
  have CC:=(CH.out W3 X3 O3 C3').mono (R':=fun e w'=>e=.returned (.tuple #[])∧∃ y0 y1 y2 y3 y4 y5 y6 y7 y8 yp0 yl0 yq0 yp1 yl1 yq1 yp2 yl2 yq2 y9 y10 yb K',Box w' E #[.int .i32 1,.int .u32 0,.int .u32 0,.int .i32 0,.int .u32 0,.int .i64 y0,.int .i64 y1,.int .i64 y2,.int .i64 y3,.int .i64 y4,.int .i64 y5,.int .i64 y6,.int .i64 y7,.int .i64 y8,.slice yp0 yl0 yq0,.slice yp1 yl1 yq1,.slice yp2 yl2 yq2,.int .i64 y9,.int .i64 y10,.bool yb] 110∧EncO w' E d' (rwV y0 y1 y2 y3 y4 y5 y6 y7 y8 yp0 yl0 yq0 yp1 yl1 yq1 yp2 yl2 yq2 y9 y10 yb) K'∧(∀ b,b∈K'→b∈K∨W3.heap.size≤b)∧ChgL (E::K) W3 w') (fun e w' ⟨he,cs',K',hX',hO',hs',hC'⟩=>by
   obtain ⟨y0,y1,y2,y3,y4,y5,y6,y7,y8,yp0,yl0,yq0,yp1,yl1,yq1,yp2,yl2,yq2,y9,y10,yb,rfl⟩:=zeX hO'.own
   exact ⟨he,y0,y1,y2,y3,y4,y5,y6,y7,y8,yp0,yl0,yq0,yp1,yl1,yq1,yp2,yl2,yq2,y9,y10,yb,K',hX',hO',hs',hC'⟩)
  have hKl:∀ b,b∈K→b<w.heap.size:=fun b hb=>zad.own_lt hO'.out.own b hb
  go_wp2_with (go_at_call 59;refine CC.mono ?_;rintro e w5 ⟨rfl,y0,y1,y2,y3,y4,y5,y6,y7,y8,yp0,yl0,yq0,yp1,yl1,yq1,yp2,yl2,yq2,y9,y10,yb,K5,X5,O5,s5,C5⟩;have P5:=P3.chgl C5 (by intro hm;rcases List.mem_cons.1 hm with h | h;omega;have:=hKl _ h;omega);have hp5:w5.cell? ⟨w.heap.size,0,none⟩=some (.pointer (some ⟨E,0,none⟩)):=P5.cell 0;have x17:w5.cell? ⟨E,17,none⟩=some (.int .i64 y9):=X5.cell 17;have f17:w5.frozen? ⟨E,17,none⟩=false:=X5.frozen 17;have HY9:=hid (zd6 O5.own);have zz:IntKind.i64.wrap (y9+1)=y9+1:=by rw [IntKind.wrap_i64];have:=HWR.out;have:=HY9.out;omega)
  refine leaves_cons (f:=97) (args:=#[.pointer (some ⟨E,0,none⟩)]) (by simp) (by simp [go_sem]) ?_;have X6:Box (w5.setCell ⟨E,17,none⟩ (.int .i64 (y9+1))) E #[.int .i32 1,.int .u32 0,.int .u32 0,.int .i32 0,.int .u32 0,.int .i64 y0,.int .i64 y1,.int .i64 y2,.int .i64 y3,.int .i64 y4,.int .i64 y5,.int .i64 y6,.int .i64 y7,.int .i64 y8,.slice yp0 yl0 yq0,.slice yp1 yl1 yq1,.slice yp2 yl2 yq2,.int .i64 (y9+1),.int .i64 y10,.bool yb] 110:=X5.setc 17 _;refine (zco ⟨E,0,none⟩ _ _ (X6.cell 0) (X6.frozen 0)).mono ?_;rintro e u' w'' ⟨rfl,rfl,rfl⟩;have X7:Box ((w5.setCell ⟨E,17,none⟩ (.int .i64 (y9+1))).setCell ⟨E,0,none⟩ (.int .i32 0)) E #[.int .i32 0,.int .u32 0,.int .u32 0,.int .i32 0,.int .u32 0,.int .i64 y0,.int .i64 y1,.int .i64 y2,.int .i64 y3,.int .i64 y4,.int .i64 y5,.int .i64 y6,.int .i64 y7,.int .i64 y8,.slice yp0 yl0 yq0,.slice yp1 yl1 yq1,.slice yp2 yl2 yq2,.int .i64 (y9+1),.int .i64 y10,.bool yb] 110:=X6.setc 0 _;have C7:ChgL [E] w5 ((w5.setCell ⟨E,17,none⟩ (.int .i64 (y9+1))).setCell ⟨E,0,none⟩ (.int .i32 0)):=((ChgL.refl _ _).st _ 17 _ (by simp)).st _ 0 _ (by simp)
  have O7:EncO w5 E { d' with writes:=d'.writes+1 } [.int .i64 y0,.int .i64 y1,.int .i64 y2,.int .i64 y3,.int .i64 y4,.int .i64 y5,.int .i64 y6,.int .i64 y7,.int .i64 y8,.slice yp0 yl0 yq0,.slice yp1 yl1 yq1,.slice yp2 yl2 yq2,.int .i64 (y9+1),.int .i64 y10,.bool yb] K5:=by
   rw [← HY9.out];exact ⟨zd5 (y9+1) (by have:=HWR.out;have:=HY9.out;omega) O5.own,O5.nd,O5.ne⟩
  simp only [Leaves,settle]
  refine ⟨_,results_none rfl _ _ _,rfl,_,K5,X7,O7.chg C7,fun b hb=>?_,?_⟩
  ·rcases s5 b hb with h | h
   ·exact .inl h
   ·exact .inr (by omega)
  ·exact (C3'.mono (fun b hb=>by simp at hb;simp [hb])).trans (C5.trans (C7.mono (fun b hb=>by simp at hb;simp [hb])))
def zgI (d:WorldD) (T:Nat) (kd sq:Int):WorldD:={ zb7 d T kd sq with writes:=d.writes+1 }
def StrikeAns (d:WorldD) (t kd sq:Int) (r:WorldResultD):Prop:=(∃ x,x≠0∧AskAns d x∧r=⟨x,zeM⟩)∨(AskAns d 0∧((¬ InP t 0 1∧r=⟨3,zeM⟩)∨(InP t 0 1∧((zg3 d∧r=⟨9,cutW d⟩)∨(¬ zg3 d∧r=⟨0,zgI d t.toNat kd sq⟩)))))
theorem StrikeAns.one {d:WorldD} {t kd sq:Int} {r q:WorldResultD} (h:StrikeAns d t kd sq r) (l:StrikeAns d t kd sq q):r=q:=by
 rcases h with ⟨x,h1,h2,rfl⟩ | ⟨h1,h⟩<;>rcases l with ⟨y,k1,k2,rfl⟩ | ⟨k1,l⟩
 ·rw [h2.one k2]
 ·exact absurd (h2.one k1) h1
 ·exact absurd (k2.one h1) k1
 ·rcases h with ⟨h2,rfl⟩ | ⟨h2,h⟩<;>rcases l with ⟨k2,rfl⟩ | ⟨k2,l⟩
  ·rfl
  ·exact absurd k2 h2
  ·exact absurd h2 k2
  ·rcases h with ⟨h4,rfl⟩ | ⟨h4,rfl⟩<;>rcases l with ⟨k4,rfl⟩ | ⟨k4,rfl⟩
   ·rfl
   ·exact absurd h4 k4
   ·exact absurd k4 h4
   ·rfl
theorem zgJ {d:WorldD} (h:OkWorld d) {t:Int} (hp:InP t 0 1):∃ T:Nat,t=T∧T<d.tapes.1∧(d.tapes.2 T).recs.1≤1048576:=by
 have h2:=h.form.2.2;unfold InP at hp
 have hT:t.toNat<d.tapes.1:=by omega
 exact ⟨t.toNat,by omega,hT,by have:=h.few _ hT;omega⟩
set_option maxRecDepth 20000 in
theorem zhJ (b:Nat) (v0 v1 v2 v3 v4 v5 v6 v7 v8 vp0 vl0 vq0 vp1 vl1 vq1 vp2 vl2 vq2 v9 v10 vb:_) (w:World) (hB:Box w b #[.int .i64 v0,.int .i64 v1,.int .i64 v2,.int .i64 v3,.int .i64 v4,.int .i64 v5,.int .i64 v6,.int .i64 v7,.int .i64 v8,.slice vp0 vl0 vq0,.slice vp1 vl1 vq1,.slice vp2 vl2 vq2,.int .i64 v9,.int .i64 v10,.bool vb] 34) (hd:vb=false) (hs:v10≠-1) (hw:v10≤v9) :
 Calls Tryz.prog 22 #[.pointer (some ⟨b,0,none⟩)] w fun e w'=>e=.returned (.bool false)∧Box w' b #[.int .i64 v0,.int .i64 v1,.int .i64 v2,.int .i64 v3,.int .i64 v4,.int .i64 v5,.int .i64 v6,.int .i64 v7,.int .i64 v8,.slice vp0 vl0 vq0,.slice none 0 0,.slice vp2 vl2 vq2,.int .i64 v9,.int .i64 v10,.bool true] 34∧ChgL [b] w w':=by
 subst hd
 have d1:(v10 != -1)=true:=by simpa using hs
 have d2:decide (v10≤v9)=true:=by simpa using hw
 have x12:w.cell? ⟨b,12,none⟩=some (.int .i64 v9):=hB.cell 12;have x13:w.cell? ⟨b,13,none⟩=some (.int .i64 v10):=hB.cell 13;have x14:w.cell? ⟨b,14,none⟩=some (.bool false):=hB.cell 14;clear hs hw
 go_enter Tryz.func22,Tryz.ntmps22
 go_upto_region 3 with fail
 go_quiet (fail)
 go_upto_region 4 with fail
 obtain ⟨W,hW⟩:∃ x,x=w.drewN nq:=⟨_,rfl⟩;rw [← hW]
 have X1:Box W b (rwV v0 v1 v2 v3 v4 v5 v6 v7 v8 vp0 vl0 vq0 vp1 vl1 vq1 vp2 vl2 vq2 v9 v10 false).toArray 34:=by rw [hW];exact hB
 have C1:ChgL [b] w W:=by rw [hW];exact ⟨rfl,rfl,rfl,Nat.le_refl _,fun _ _ _=>rfl⟩
 clear hW x12 x13 x14 hB;have y0:W.cell? ⟨b,14,none⟩=some (.bool false):=X1.cell 14;have yf0:W.frozen? ⟨b,14,none⟩=false:=X1.frozen 14;have X2:Box (W.setCell ⟨b,14,none⟩ (.bool true)) b (rwV v0 v1 v2 v3 v4 v5 v6 v7 v8 vp0 vl0 vq0 vp1 vl1 vq1 vp2 vl2 vq2 v9 v10 true).toArray 34:=X1.setc 14 _;have y1:(W.setCell ⟨b,14,none⟩ (.bool true)).cell? ⟨b,10,none⟩=some (.slice vp1 vl1 vq1):=X2.cell 10;have yf1:(W.setCell ⟨b,14,none⟩ (.bool true)).frozen? ⟨b,10,none⟩=false:=X2.frozen 10;have X3:Box ((W.setCell ⟨b,14,none⟩ (.bool true)).setCell ⟨b,10,none⟩ (.slice none 0 0)) b (rwV v0 v1 v2 v3 v4 v5 v6 v7 v8 vp0 vl0 vq0 none 0 0 vp2 vl2 vq2 v9 v10 true).toArray 34:=X2.setc 10 _;have C3:ChgL [b] w ((W.setCell ⟨b,14,none⟩ (.bool true)).setCell ⟨b,10,none⟩ (.slice none 0 0)):=(C1.st _ 14 _ (by simp)).st _ 10 _ (by simp);clear X1 X2 C1;go_wp2;go_ret;exact ⟨rfl,X3,C3⟩
set_option maxRecDepth 20000 in
theorem zir (b:Nat) (v0 v1 v2 v3 v4 v5 v6 v7 v8 vp0 vl0 vq0 vp1 vl1 vq1 vp2 vl2 vq2 v9 v10 vb:_) (w:World) (hB:Box w b #[.int .i64 v0,.int .i64 v1,.int .i64 v2,.int .i64 v3,.int .i64 v4,.int .i64 v5,.int .i64 v6,.int .i64 v7,.int .i64 v8,.slice vp0 vl0 vq0,.slice vp1 vl1 vq1,.slice vp2 vl2 vq2,.int .i64 v9,.int .i64 v10,.bool vb] 34) (hd:vb=false) (d1:(v10 != -1)=false) (hwr:-9223372036854775808≤v9∧v9+1≤9223372036854775807) :
 Calls Tryz.prog 22 #[.pointer (some ⟨b,0,none⟩)] w fun e w'=>e=.returned (.bool true)∧Box w' b #[.int .i64 v0,.int .i64 v1,.int .i64 v2,.int .i64 v3,.int .i64 v4,.int .i64 v5,.int .i64 v6,.int .i64 v7,.int .i64 v8,.slice vp0 vl0 vq0,.slice vp1 vl1 vq1,.slice vp2 vl2 vq2,.int .i64 (v9+1),.int .i64 v10,.bool vb] 34∧ChgL [b] w w':=by
 have HD:=hid hd;obtain ⟨vc,hvc⟩:∃ x:Bool,x=vb:=⟨_,rfl⟩
 have zz:IntKind.i64.wrap (v9+1)=v9+1:=by rw [IntKind.wrap_i64];omega
 have x12:w.cell? ⟨b,12,none⟩=some (.int .i64 v9):=hB.cell 12;have x13:w.cell? ⟨b,13,none⟩=some (.int .i64 v10):=hB.cell 13
 have x14:w.cell? ⟨b,14,none⟩=some (.bool false):=by rw [← HD.out];exact hB.cell 14
 clear hwr hd
 go_enter Tryz.func22,Tryz.ntmps22
 go_upto_region 3 with fail
 go_quiet (fail)
 go_upto_region 7 with fail
 obtain ⟨W,hW⟩:∃ x,x=w.drewN nq:=⟨_,rfl⟩;rw [← hW]
 have X1:Box W b (rwV v0 v1 v2 v3 v4 v5 v6 v7 v8 vp0 vl0 vq0 vp1 vl1 vq1 vp2 vl2 vq2 v9 v10 vb).toArray 34:=by rw [hW];exact hB
 have C1:ChgL [b] w W:=by rw [hW];exact ⟨rfl,rfl,rfl,Nat.le_refl _,fun _ _ _=>rfl⟩
 clear hW x12 x13 x14 hB;have y0:W.cell? ⟨b,12,none⟩=some (.int .i64 v9):=X1.cell 12;have yf0:W.frozen? ⟨b,12,none⟩=false:=X1.frozen 12;have X2:Box (W.setCell ⟨b,12,none⟩ (.int .i64 (v9+1))) b #[.int .i64 v0,.int .i64 v1,.int .i64 v2,.int .i64 v3,.int .i64 v4,.int .i64 v5,.int .i64 v6,.int .i64 v7,.int .i64 v8,.slice vp0 vl0 vq0,.slice vp1 vl1 vq1,.slice vp2 vl2 vq2,.int .i64 (v9+1),.int .i64 v10,.bool vb] 34:=X1.setc 12 _;have C2':ChgL [b] w (W.setCell ⟨b,12,none⟩ (.int .i64 (v9+1))):=C1.st _ 12 _ (by simp);clear X1 C1;go_wp2;go_ret;exact ⟨rfl,X2,C2'⟩
set_option maxRecDepth 20000 in
theorem zis (b:Nat) (v0 v1 v2 v3 v4 v5 v6 v7 v8 vp0 vl0 vq0 vp1 vl1 vq1 vp2 vl2 vq2 v9 v10 vb:_) (w:World) (hB:Box w b #[.int .i64 v0,.int .i64 v1,.int .i64 v2,.int .i64 v3,.int .i64 v4,.int .i64 v5,.int .i64 v6,.int .i64 v7,.int .i64 v8,.slice vp0 vl0 vq0,.slice vp1 vl1 vq1,.slice vp2 vl2 vq2,.int .i64 v9,.int .i64 v10,.bool vb] 34) (hd:vb=false) (d1:(v10 != -1)=true) (d2:decide (v10≤v9)=false) (hwr:-9223372036854775808≤v9∧v9+1≤9223372036854775807) :
 Calls Tryz.prog 22 #[.pointer (some ⟨b,0,none⟩)] w fun e w'=>e=.returned (.bool true)∧Box w' b #[.int .i64 v0,.int .i64 v1,.int .i64 v2,.int .i64 v3,.int .i64 v4,.int .i64 v5,.int .i64 v6,.int .i64 v7,.int .i64 v8,.slice vp0 vl0 vq0,.slice vp1 vl1 vq1,.slice vp2 vl2 vq2,.int .i64 (v9+1),.int .i64 v10,.bool vb] 34∧ChgL [b] w w':=by
 have HD:=hid hd;obtain ⟨vc,hvc⟩:∃ x:Bool,x=vb:=⟨_,rfl⟩
 have zz:IntKind.i64.wrap (v9+1)=v9+1:=by rw [IntKind.wrap_i64];omega
 have x12:w.cell? ⟨b,12,none⟩=some (.int .i64 v9):=hB.cell 12;have x13:w.cell? ⟨b,13,none⟩=some (.int .i64 v10):=hB.cell 13
 have x14:w.cell? ⟨b,14,none⟩=some (.bool false):=by rw [← HD.out];exact hB.cell 14
 clear hwr hd
 go_enter Tryz.func22,Tryz.ntmps22
 go_upto_region 3 with fail
 go_quiet (fail)
 go_upto_region 7 with fail
 obtain ⟨W,hW⟩:∃ x,x=w.drewN nq:=⟨_,rfl⟩;rw [← hW]
 have X1:Box W b (rwV v0 v1 v2 v3 v4 v5 v6 v7 v8 vp0 vl0 vq0 vp1 vl1 vq1 vp2 vl2 vq2 v9 v10 vb).toArray 34:=by rw [hW];exact hB
 have C1:ChgL [b] w W:=by rw [hW];exact ⟨rfl,rfl,rfl,Nat.le_refl _,fun _ _ _=>rfl⟩
 clear hW x12 x13 x14 hB;have y0:W.cell? ⟨b,12,none⟩=some (.int .i64 v9):=X1.cell 12;have yf0:W.frozen? ⟨b,12,none⟩=false:=X1.frozen 12;have X2:Box (W.setCell ⟨b,12,none⟩ (.int .i64 (v9+1))) b #[.int .i64 v0,.int .i64 v1,.int .i64 v2,.int .i64 v3,.int .i64 v4,.int .i64 v5,.int .i64 v6,.int .i64 v7,.int .i64 v8,.slice vp0 vl0 vq0,.slice vp1 vl1 vq1,.slice vp2 vl2 vq2,.int .i64 (v9+1),.int .i64 v10,.bool vb] 34:=X1.setc 12 _;have C2':ChgL [b] w (W.setCell ⟨b,12,none⟩ (.int .i64 (v9+1))):=C1.st _ 12 _ (by simp);clear X1 C1;go_wp2;go_ret;exact ⟨rfl,X2,C2'⟩
theorem ziV (b:Nat) (v0 v1 v2 v3 v4 v5 v6 v7 v8 vp0 vl0 vq0 vp1 vl1 vq1 vp2 vl2 vq2 v9 v10 vb:_) (w:World) (hB:Box w b #[.int .i64 v0,.int .i64 v1,.int .i64 v2,.int .i64 v3,.int .i64 v4,.int .i64 v5,.int .i64 v6,.int .i64 v7,.int .i64 v8,.slice vp0 vl0 vq0,.slice vp1 vl1 vq1,.slice vp2 vl2 vq2,.int .i64 v9,.int .i64 v10,.bool vb] 34) (hd:vb=false) (hpw:¬ (v10≠-1∧v10≤v9)) (hwr:-9223372036854775808≤v9∧v9+1≤9223372036854775807) :
 Calls Tryz.prog 22 #[.pointer (some ⟨b,0,none⟩)] w fun e w'=>e=.returned (.bool true)∧Box w' b #[.int .i64 v0,.int .i64 v1,.int .i64 v2,.int .i64 v3,.int .i64 v4,.int .i64 v5,.int .i64 v6,.int .i64 v7,.int .i64 v8,.slice vp0 vl0 vq0,.slice vp1 vl1 vq1,.slice vp2 vl2 vq2,.int .i64 (v9+1),.int .i64 v10,.bool vb] 34∧ChgL [b] w w':=by
 by_cases hs:v10=-1
 ·exact zir b v0 v1 v2 v3 v4 v5 v6 v7 v8 vp0 vl0 vq0 vp1 vl1 vq1 vp2 vl2 vq2 v9 v10 vb w hB hd (by simpa using hs) hwr
 ·exact zis b v0 v1 v2 v3 v4 v5 v6 v7 v8 vp0 vl0 vq0 vp1 vl1 vq1 vp2 vl2 vq2 v9 v10 vb w hB hd (by simpa using hs) (by simp only [decide_eq_false_iff_not];exact fun h=>hpw ⟨hs,h⟩) hwr
theorem drive_of' {w:World} {lo hi:Nat} {d:DriveD} {ao:Option Addr} {cap:Nat} (h:OwnT (zah.slice 90) w lo hi d.blocks [.slice ao d.blocks.1 cap]):OwnT zaa w lo hi d [.bool d.wiped,.slice ao d.blocks.1 cap]:=
 OwnT.conv (OwnT.pre (A:=layB) (a:=d.wiped) (c:=[.bool d.wiped]) ⟨rfl,trivial,rfl⟩ h)
theorem tape_of' {w:World} {lo hi:Nat} {d:TapeD} {ao:Option Addr} {cap:Nat} (h:OwnT (zac.slice 94) w lo hi d.recs [.slice ao d.recs.1 cap]):OwnT zag w lo hi d [.bool d.wiped,.slice ao d.recs.1 cap]:=
 OwnT.conv (OwnT.pre (A:=layB) (a:=d.wiped) (c:=[.bool d.wiped]) ⟨rfl,trivial,rfl⟩ h)
theorem Three.chgl3 {w wc w':World} {c1 c2 c3:Array Value} {t1 t2 t3:TypeId} (h:Three w wc c1 c2 c3 t1 t2 t3) (c3':Array Value) (hb:Box w' (w.heap.size+1+1) c3' t3) (hc:ChgL [w.heap.size+1+1] wc w'):Three w w' c1 c2 c3' t1 t2 t3:=
 ⟨h.b1.chgl hc (by simp only [List.mem_singleton];omega),h.b2.chgl hc (by simp only [List.mem_singleton];omega),hb,h.bel.trans (hc.bel (fun b hb=>by simp only [List.mem_singleton] at hb;omega) h.bel.size)⟩
theorem OwnT.chgl {α:Type} {A:Lay α} {w w':World} {lo hi:Nat} {a:α} {cs:List Value} {K:List Nat} (h:OwnT A w lo hi a cs) (hc:ChgL K w w') (hK:∀ b,b∈K→b<lo):OwnT A w' lo hi a cs:=by
 obtain ⟨M,h1,h2,h3⟩:=h;exact ⟨M,A.own_kept h1 (fun b hb=>hc.block b (A.own_lt h1 b hb) (fun hh=>by have:=hK b hh;have:=(h3 b hb).1;omega)),h2,h3⟩
set_option maxRecDepth 20000 in
theorem zit:ToV zad zaT 21:=fun cs d hi w r hhi hn=>by
 obtain ⟨ao1,cap1,ao2,cap2,ao3,cap3,rfl,g1,g2,g3,k0,k4,k5⟩:=zaN r;clear r;unfold zaT lenD at hn
 have hnG:szSl (szSl zam) d.groups≤1048576:=by omega
 have hnO:d.on.1≤1048576:=by omega
 have hnT:szSl zaL d.tapes≤1048576:=by omega
 clear hn;have Q0:=hid k0;have Q4:=hid k4;have Q5:=hid k5;have HG2:=hid g2;obtain ⟨_,_,e1,hm1,hc1⟩:=g1
 cases e1
 obtain ⟨_,_,e3,hm3,hc3⟩:=g3
 cases e3
 have HC1:=hid hc1;have HC3:=hid hc3;have hgn:=zbU hnG;have htn:=zbU hnT;have HNG:Hid (∀ i,i<d.groups.1→szSl zam (d.groups.2 i)≤1048576):=fun i hi=>zbf hnG hi;have HNT:Hid (∀ i,i<d.tapes.1→zaL (d.tapes.2 i)≤1048576):=fun i hi=>zbf hnT hi;clear k0 k4 k5 g2 hc1 hc3 hnG hnT hm1 hm3;have T0:=zbu w (rwW d ao1 cap1 ao2 cap2 ao3 cap3).toArray (rwV 0 0 0 0 0 0 0 0 0 none 0 0 none 0 0 none 0 0 0 0 false).toArray #[.int .i64 (d.shape 0),.int .i64 (d.shape 1),.int .i64 (d.shape 2),.int .i64 (d.shape 3),.int .i64 (d.shape 4),.int .i64 (d.shape 5),.int .i64 (d.shape 6),.int .i64 (d.shape 7),.int .i64 (d.shape 8),.slice none 0 0,.slice ao2 d.on.1 cap2,.slice ao3 d.tapes.1 cap3,.int .i64 d.writes,.int .i64 d.stop,.bool d.down] 34 34 34
 go_enter Tryz.func21,Tryz.ntmps21
 go_wp2
 go_loopw [4] (fun i wr=>∃ (g:Nat) (ga:Option Addr) (gc:Nat),g≤d.groups.1∧i=.int .i64 g∧Three w wr (rwW d ao1 cap1 ao2 cap2 ao3 cap3).toArray (rwV 0 0 0 0 0 0 0 0 0 none 0 0 none 0 0 none 0 0 0 0 false).toArray #[.int .i64 (d.shape 0),.int .i64 (d.shape 1),.int .i64 (d.shape 2),.int .i64 (d.shape 3),.int .i64 (d.shape 4),.int .i64 (d.shape 5),.int .i64 (d.shape 6),.int .i64 (d.shape 7),.int .i64 (d.shape 8),.slice ga g gc,.slice ao2 d.on.1 cap2,.slice ao3 d.tapes.1 cap3,.int .i64 d.writes,.int .i64 d.stop,.bool d.down] 34 34 34∧Gat (zaa.slice 77) 78 wr (w.heap.size+1+1+1) (.slice ga g gc) g d.groups.2) (fun i _=>d.groups.1-(intOf i).toNat)
 case atStart=>exact ⟨0,none,0,Nat.zero_le _,rfl,T0,Gat.nil _ _ _⟩
 case round=>
  clear T0;obtain ⟨g,ga,gc,hg,rfl,T1,G1⟩:=hrel;obtain ⟨wo,rfl⟩:∃ x,x=wr:=⟨_,rfl⟩;have HT1:=hid T1;have HG1:=hid G1;have zo:w.heap.size+1+1+1≤wo.heap.size:=T1.lt;have x9:wo.cell? ⟨w.heap.size,9,none⟩=some (.slice ao1 d.groups.1 cap1):=T1.b1.cell 9
  by_cases hlg:g<d.groups.1
  ·obtain ⟨b1,off1,he1,hb1,hel1⟩:=HC1.out (by omega)
   subst he1;obtain ⟨cg,hrg,hcg⟩:=zap (t:=0) hel1 T1.bel hhi hb1 hlg;obtain ⟨ao9,cap9,rfl⟩:=zbr hrg
   have c0:wo.cell? ⟨b1,off1+g,none⟩=some (.slice ao9 (d.groups.2 g).1 cap9):=by
    have:=hcg 0 (by decide)
    have e:off1+(g*(zaa.slice 77).sz+0)=off1+g:=by show off1+(g*1+0)=off1+g;omega
    rw [e] at this;exact this
   have HC0:=hid c0;have hnD:=HNG.out g hlg;have hdn:=zbU hnD;have HND:Hid (∀ i,i<(d.groups.2 g).1→zam ((d.groups.2 g).2 i)≤1048576):=fun i hi=>zbf hnD hi;obtain ⟨_,_,e9,hm9,hc9⟩:=hrg
   cases e9
   have HC9:=hid hc9;clear hel1 hcg T1 G1 hc9 hnD hm9;go_wp2
   go_loopw [5,6] (fun v i wx=>∃ (k:Nat) (da:Option Addr) (dc:Nat),k≤(d.groups.2 g).1∧i=.int .i64 k∧v=.slice da k dc∧Gat zaa 77 wx wo.heap.size (.slice da k dc) k (d.groups.2 g).2∧Below wo.heap.size wo wx) (fun _ i _=>(d.groups.2 g).1-(intOf i).toNat)
   case atStart=>exact ⟨0,_,_,Nat.zero_le _,rfl,rfl,zgY _ _,(Below.refl _ _).alloc (Nat.le_refl _) _⟩
   case round=>
    clear x9 c0;obtain ⟨k,da,dc,hk,rfl,rfl,G2,B2⟩:=hrel;obtain ⟨wx,rfl⟩:∃ x,x=wr:=⟨_,rfl⟩;have HG2':=hid G2;have HB2:=hid B2;have zx:wo.heap.size≤wx.heap.size:=B2.size;have x9:wx.cell? ⟨w.heap.size,9,none⟩=some (.slice (some ⟨b1,off1,none⟩) d.groups.1 cap1):=(HT1.out.call B2).b1.cell 9;have c0:wx.cell? ⟨b1,off1+g,none⟩=some (.slice ao9 (d.groups.2 g).1 cap9):=(B2.cell (p:=⟨b1,off1+g,none⟩) (by show b1<wo.heap.size;omega)).trans HC0.out
    by_cases hlk:k<(d.groups.2 g).1
    ·obtain ⟨b9,off9,he9,hb9,hel9⟩:=HC9.out (by omega)
     subst he9;obtain ⟨cd,hrd,hcd⟩:=zap (t:=0) hel9 B2 (by omega) hb9 hlk;obtain ⟨ao5,cap5,rfl,g5⟩:=zbh hrd;obtain ⟨D,hD⟩:∃ x,x=(d.groups.2 g).2 k:=⟨_,rfl⟩;rw [← hD] at hcd g5;have HD:=hid hD
     have hnB:szSl zaz D.blocks≤1048576:=by rw [hD];exact HND.out k hlk
     have hbn:=zbU hnB;have HNB:Hid (∀ i,i<D.blocks.1→zaz (D.blocks.2 i)≤1048576):=fun i hi=>zbf hnB hi;have c2:wx.cell? ⟨b9,off9+k*2,none⟩=some (.bool D.wiped):=hcd 0 (by decide);have c3:wx.cell? ⟨b9,off9+k*2+1,none⟩=some (.slice ao5 D.blocks.1 cap5):=hcd 1 (by decide);have HC3':=hid c3;have HC0':=hid c0;obtain ⟨_,_,e5,hm5,hc5⟩:=g5
     cases e5
     have HC5:=hid hc5;clear hel9 hcd hrd G2 B2 hD hnB hc5 hm5;go_wp2;have bA:=bAl wx (.cells #[.bool D.wiped,.slice none 0 0] 77);have XA:=zaD wx #[.bool D.wiped,.slice none 0 0] 77
     go_loopw [8] (fun i wz=>∃ (q:Nat) (ba:Option Addr) (bc:Nat),q≤D.blocks.1∧i=.int .i64 q∧Box wz wx.heap.size #[.bool D.wiped,.slice ba q bc] 77∧Gat zah 90 wz (wx.heap.size+1) (.slice ba q bc) q D.blocks.2∧Below wx.heap.size wx wz) (fun i _=>D.blocks.1-(intOf i).toNat)
     case atStart=>exact ⟨0,none,0,Nat.zero_le _,rfl,XA,Gat.nil _ _ _,bA⟩
     case round=>
      clear x9 c0 c2 c3 bA XA;obtain ⟨q,ba,bc,hq,rfl,X3,G3,B3⟩:=hrel;obtain ⟨wz,rfl⟩:∃ x,x=wr:=⟨_,rfl⟩;have HX3:=hid X3;have HG3:=hid G3;have HB3:=hid B3;have zz:wx.heap.size<wz.heap.size:=X3.lt;have x9:wz.cell? ⟨w.heap.size,9,none⟩=some (.slice (some ⟨b1,off1,none⟩) d.groups.1 cap1):=((HT1.out.call HB2.out).call B3).b1.cell 9;have c0:wz.cell? ⟨b1,off1+g,none⟩=some (.slice (some ⟨b9,off9,none⟩) (d.groups.2 g).1 cap9):=(B3.cell (p:=⟨b1,off1+g,none⟩) (by show b1<wx.heap.size;omega)).trans HC0'.out;have c3:wz.cell? ⟨b9,off9+k*2+1,none⟩=some (.slice ao5 D.blocks.1 cap5):=(B3.cell (p:=⟨b9,off9+k*2+1,none⟩) (by show b9<wx.heap.size;omega)).trans HC3'.out;have y0:wz.cell? ⟨wx.heap.size,0,none⟩=some (.bool D.wiped):=X3.cell 0;have y1:wz.cell? ⟨wx.heap.size,1,none⟩=some (.slice ba q bc):=X3.cell 1
      by_cases hlq:q<D.blocks.1
      ·obtain ⟨b5,off5,he5,hb5,hel5⟩:=HC5.out (by omega)
       subst he5;obtain ⟨cb,hrb,hcb⟩:=zap (t:=0) hel5 B3 (by omega) hb5 hlq;obtain ⟨ao0,cap0,rfl,-⟩:=zbb hrb;have s0:wz.cell? ⟨b5,off5+q*2,none⟩=some (.int .i64 (D.blocks.2 q).stamp):=hcb 0 (by decide);have s1:wz.cell? ⟨b5,off5+q*2+1,none⟩=some (.slice ao0 (D.blocks.2 q).bytes.1 cap0):=hcb 1 (by decide);have CC:=zei _ (D.blocks.2 q) hi wz.drew (zah.rd_below (B:=hi) hrb ⟨rfl,rfl,rfl,Nat.le_refl _,fun _ _=>rfl⟩ (Nat.le_refl _)) (show hi≤wz.heap.size by omega) (HNB.out q hlq)
       have CC:=CC.mono (R':=fun e w'=>∃ bo bcc,e=.returned (.agg #[.int .i64 (D.blocks.2 q).stamp,.slice bo (D.blocks.2 q).bytes.1 bcc])∧OwnT zah w' wz.drew.heap.size w'.heap.size (D.blocks.2 q) [.int .i64 (D.blocks.2 q).stamp,.slice bo (D.blocks.2 q).bytes.1 bcc]∧Below wz.drew.heap.size wz.drew w') (fun e w' ⟨c5,he,o5,b5'⟩=>by
        obtain ⟨bo,bcc,rfl⟩:=zcU o5
        exact ⟨bo,bcc,he,o5,b5'⟩)
       clear hel5 hcb hrb X3 G3 B3;have KS:∀ w',Below (wx.heap.size+1) wz w'→(w'.cell? ⟨w.heap.size,9,none⟩=some (.slice (some ⟨b1,off1,none⟩) d.groups.1 cap1)∧w'.cell? ⟨b1,off1+g,none⟩=some (.slice (some ⟨b9,off9,none⟩) (d.groups.2 g).1 cap9)∧w'.cell? ⟨b9,off9+k*2+1,none⟩=some (.slice (some ⟨b5,off5,none⟩) D.blocks.1 cap5)∧w'.cell? ⟨b5,off5+q*2,none⟩=some (.int .i64 (D.blocks.2 q).stamp)∧w'.cell? ⟨b5,off5+q*2+1,none⟩=some (.slice ao0 (D.blocks.2 q).bytes.1 cap0)∧w'.cell? ⟨wx.heap.size,1,none⟩=some (.slice ba q bc)):=fun w' hb=>⟨(hb.cell (p:=⟨w.heap.size,9,none⟩) (by show w.heap.size<wx.heap.size+1;omega)).trans x9,(hb.cell (p:=⟨b1,off1+g,none⟩) (by show b1<wx.heap.size+1;omega)).trans c0,(hb.cell (p:=⟨b9,off9+k*2+1,none⟩) (by show b9<wx.heap.size+1;omega)).trans c3,(hb.cell (p:=⟨b5,off5+q*2,none⟩) (by show b5<wx.heap.size+1;omega)).trans s0,(hb.cell (p:=⟨b5,off5+q*2+1,none⟩) (by show b5<wx.heap.size+1;omega)).trans s1,(hb.cell (p:=⟨wx.heap.size,1,none⟩) (Nat.lt_succ_self _)).trans y1⟩
       have i1:(0:Int)≤(g:Int):=by omega
       have i2:(g:Int)<(d.groups.1:Int):=by omega
       have i3:(0:Int)≤(k:Int):=by omega
       have i4:(k:Int)<((d.groups.2 g).1:Int):=by omega
       have i5:(0:Int)≤(q:Int):=by omega
       have i6:(q:Int)<(D.blocks.1:Int):=by omega
       go_upto_region 14 with fail
       refine zb0 18 (fun w'=>w'.cell? ⟨w.heap.size,9,none⟩=some (.slice (some ⟨b1,off1,none⟩) d.groups.1 cap1)∧w'.cell? ⟨b1,off1+g,none⟩=some (.slice (some ⟨b9,off9,none⟩) (d.groups.2 g).1 cap9)∧w'.cell? ⟨b9,off9+k*2+1,none⟩=some (.slice (some ⟨b5,off5,none⟩) D.blocks.1 cap5)∧w'.cell? ⟨b5,off5+q*2,none⟩=some (.int .i64 (D.blocks.2 q).stamp)∧w'.cell? ⟨b5,off5+q*2+1,none⟩=some (.slice ao0 (D.blocks.2 q).bytes.1 cap0)∧w'.cell? ⟨wx.heap.size,1,none⟩=some (.slice ba q bc)) (by kernel_rfl) (KS _ ⟨rfl,rfl,rfl,Nat.le_refl _,fun _ _=>rfl⟩) (fun hHeld=>?_);refine zjz 0 rfl ?_
       try simp only [Act.put,SL]
       refine zjz 1 rfl ?_
       try simp only [Act.put,SL]
       refine zjz 2 rfl ?_
       try simp only [Act.put,SL]
       refine zjz 3 rfl ?_
       try simp only [Act.put,SL]
       refine zjz 4 rfl ?_
       try simp only [Act.put,SL]
       refine zjz 5 rfl ?_
       try simp only [Act.put,SL]
       refine zjz 6 rfl ?_
       try simp only [Act.put,SL]
       refine zjz 7 rfl ?_
       try simp only [Act.put,SL]
       refine zjz 8 rfl ?_
       try simp only [Act.put,SL]
       refine zjz 9 rfl ?_
       try simp only [Act.put,SL]
       refine zjz 10 rfl ?_
       try simp only [Act.put,SL]
       refine zjz 11 rfl ?_
       try simp only [Act.put,SL]
       refine zjz 12 rfl ?_
       try simp only [Act.put,SL]
       refine zjz 13 rfl ?_
       try simp only [Act.put,SL]
       refine za8 (i:=14) (o:=_) rfl (by kernel_rfl) (fun K hK=>?_)
       refine zcx rfl 50 _ _ rfl #[.agg #[.int .i64 (D.blocks.2 q).stamp,.slice ao0 (D.blocks.2 q).bytes.1 cap0]] ?_ Tryz.func50 (by kernel_rfl) (by kernel_rfl) CC ?_;(simp [Act.eval,Act.put]);rintro ee w5 ⟨bo,bcc,rfl,o5,b5'⟩;have b5w:Below wz.heap.size wz w5:=⟨b5'.os,b5'.tape,b5'.output,b5'.size,b5'.block⟩;have q1:w5.cell? ⟨wx.heap.size,1,none⟩=some (.slice ba q bc):=(HX3.out.call b5w).cell 1;have q3:=(zb5 w5 (.cells #[.int .i64 (D.blocks.2 q).stamp,.slice bo (D.blocks.2 q).bytes.1 bcc] 90) wx.heap.size 1 (by have:=b5w.size;omega)).trans q1;refine ⟨_,rfl,?_⟩
       refine hK.out _ _ (KS _ (b5w.mono (Nat.succ_le_of_lt zz))) (fun hHeld=>?_);clear hK K
       try simp only [Act.put,SL]
       refine za8 (i:=15) (o:=_) rfl (by kernel_rfl) (fun K hK=>?_);go_simp;refine hK.out _ _ (KS _ ((b5w.mono (Nat.succ_le_of_lt zz)).alloc (by have:=b5w.size;omega) _)) (fun hHeld=>?_);clear hK K
       try simp only [Act.put,SL]
       refine za8 (i:=16) (o:=_) rfl (by kernel_rfl) (fun K hK=>?_)
       refine zds zeK rfl (.tmp 55) (.tmp 69) rfl (lo:=wx.heap.size+1) (n:=q) (v:=.slice ba q bc) (x:=D.blocks.2) ?_ HG3.out b5w o5 ?_ w5.heap.size 1 ?_ (fun j _=>zbX w5 _ _ j) (by omega) (by omega) ?_;(simp [Act.eval,Act.put]);(exact (Below.refl _ _).alloc (Nat.le_refl _) _);(simp [Act.eval,Act.put]);intro v4 w4 g4 b4;obtain ⟨ba4,bc4,rfl⟩:=g4.form;have X4:=HX3.out.below b4 (Nat.lt_succ_self _);have p1:w4.cell? ⟨wx.heap.size,1,none⟩=some (.slice ba q bc):=X4.cell 1;have p2:w4.frozen? ⟨wx.heap.size,1,none⟩=false:=X4.frozen 1
       refine hK.out _ _ (KS _ b4) (fun hHeld=>?_);clear hK K
       try simp only [Act.put,SL]
       refine za8 (i:=17) (o:=_) rfl (by kernel_rfl) (fun K hK=>?_);go_simp;refine hK.out _ _ (KS _ b4) (fun hHeld=>?_);clear hK K
       try simp only [Act.put,SL]
       refine zbY (o:=_) rfl (by kernel_rfl) (fun K hK=>?_);go_simp;refine hK.out _ _ ?_;clear hK K
       try simp only [Act.put,SL]
       refine zbZ (by kernel_rfl) ?_ _;go_wp2
       go_roundw
       case rel=>exact ⟨q+1,ba4,bc4,by omega,by go_num,X4.setc 1 (.slice ba4 (q+1) bc4),(g4.set _ _ _ (Nat.lt_succ_self _)).congr (fun i _=>by rw [zb1]),(HB3.out.trans (b4.mono (Nat.le_succ _))).setCell (Nat.le_refl _) _⟩
       case measure=>simp [intOf];omega
      ·obtain rfl:q=D.blocks.1:=by omega
       have OD:OwnT zaa wz wx.heap.size wz.heap.size D [.bool D.wiped,.slice ba D.blocks.1 bc]:=drive_of' (HG3.out.own.weaken (Nat.le_succ _) (Nat.le_refl _));clear X3 G3 B3
       go_wp2_with (at_builtin;refine zdk zeL rfl (.tmp 72) (.tmp 74) rfl (lo:=wo.heap.size) (n:=k) (v:=.slice da k dc) (x:=(d.groups.2 g).2) ?_ HG2'.out HB3.out OD ?_ wz.heap.size 1 ?_ (fun j _=>zbX wz _ _ j) (by omega) (by omega) ?_;(simp [Act.eval]);(exact (Below.refl _ _).alloc (Nat.le_refl _) _);(simp [Act.eval]);intro v4 w4 g4 b4;obtain ⟨da4,dc4,rfl⟩:=g4.form)
       go_roundw
       case rel=>exact ⟨k+1,da4,dc4,by omega,by go_num,rfl,g4.congr (fun i _=>by rw [HD.out,zb1]),HB2.out.trans b4⟩
       case measure=>simp [intOf];omega
    ·obtain rfl:k=(d.groups.2 g).1:=by omega
     have OG:OwnT (zaa.slice 77) wx wo.heap.size wx.heap.size (d.groups.2 g) [.slice da (d.groups.2 g).1 dc]:=HG2'.out.own;have T2:=HT1.out.call B2;have e9:wx.cell? ⟨w.heap.size+1+1,9,none⟩=some (.slice ga g gc):=T2.b3.cell 9;have e9':=(zb5 wx (.cells #[.slice da (d.groups.2 g).1 dc] 78) (w.heap.size+1+1) 9 (by omega)).trans e9;clear T2 G2 B2
     go_wp2_with (at_builtin;refine zdk zdV rfl (.tmp 77) (.tmp 79) rfl (lo:=w.heap.size+1+1+1) (n:=g) (v:=.slice ga g gc) (x:=d.groups.2) ?_ HG1.out HB2.out OG ?_ wx.heap.size 1 ?_ (fun j _=>zbX wx _ _ j) (by omega) (by omega) ?_;(simp [Act.eval]);(exact (Below.refl _ _).alloc (Nat.le_refl _) _);(simp [Act.eval]);intro v4 w4 g4 b4;obtain ⟨ga4,gc4,rfl⟩:=g4.form;have T4:=HT1.out.low b4;have p1:w4.cell? ⟨w.heap.size+1+1,9,none⟩=some (.slice ga g gc):=T4.b3.cell 9;have p2:w4.frozen? ⟨w.heap.size+1+1,9,none⟩=false:=T4.b3.frozen 9)
     go_roundw
     case rel=>exact ⟨g+1,ga4,gc4,by omega,by go_num,T4.st3 9 [.slice ga4 (g+1) gc4] rfl,(g4.set _ _ _ (by omega)).congr (fun i _=>by rw [zb1])⟩
     case measure=>simp [intOf];omega
  ·obtain rfl:g=d.groups.1:=by omega
   have bA:=bAl wo (.cells #[] 2);have TA:=T1.call bA;obtain ⟨v',w2,hrun,o2,b2⟩:=zdx 25 (wo.alloc (.cells #[] 2)) wo.heap.size (zd1 wo 2) (zai.rd_below HG2.out TA.bel hhi) (show d.on.1≤10000000 by omega);obtain ⟨oa,oc,hv⟩:=zbR o2;obtain rfl:=zaK hv;clear hv;have T2:Three w w2 (rwW d ao1 cap1 ao2 cap2 ao3 cap3).toArray (rwV 0 0 0 0 0 0 0 0 0 none 0 0 none 0 0 none 0 0 0 0 false).toArray (rwW d ga gc ao2 cap2 ao3 cap3).toArray 34 34 34:=TA.low (b2.mono zo)
   have G2:Gat (zaa.slice 77) 78 w2 (w.heap.size+1+1+1) (.slice ga d.groups.1 gc) d.groups.1 d.groups.2:=by
    have h1:Below wo.heap.size wo w2:=bA.trans b2;exact G1.below h1
   have xa:(wo.alloc (.cells #[] 2)).cell? ⟨w.heap.size,10,none⟩=some (.slice ao2 d.on.1 cap2):=TA.b1.cell 10;have xb:w2.cell? ⟨w.heap.size+1+1,10,none⟩=some (.slice ao2 d.on.1 cap2):=T2.b3.cell 10;have xf:w2.frozen? ⟨w.heap.size+1+1,10,none⟩=false:=T2.b3.frozen 10;have T3:=T2.st3 10 [.slice oa d.on.1 oc] (c3':=(rwW d ga gc oa oc ao3 cap3)) rfl;have T4:Three w (stN (stN w2 (w.heap.size+1+1) 10 [.slice oa d.on.1 oc]) (w.heap.size+1+1) 11 [.slice none 0 0]) (rwW d ao1 cap1 ao2 cap2 ao3 cap3).toArray (rwV 0 0 0 0 0 0 0 0 0 none 0 0 none 0 0 none 0 0 0 0 false).toArray #[.int .i64 (d.shape 0),.int .i64 (d.shape 1),.int .i64 (d.shape 2),.int .i64 (d.shape 3),.int .i64 (d.shape 4),.int .i64 (d.shape 5),.int .i64 (d.shape 6),.int .i64 (d.shape 7),.int .i64 (d.shape 8),.slice ga d.groups.1 gc,.slice oa d.on.1 oc,.slice none 0 0,.int .i64 d.writes,.int .i64 d.stop,.bool d.down] 34 34 34:=T3.st3 11 [.slice none 0 0] (c3':=[.int .i64 (d.shape 0),.int .i64 (d.shape 1),.int .i64 (d.shape 2),.int .i64 (d.shape 3),.int .i64 (d.shape 4),.int .i64 (d.shape 5),.int .i64 (d.shape 6),.int .i64 (d.shape 7),.int .i64 (d.shape 8),.slice ga d.groups.1 gc,.slice oa d.on.1 oc,.slice none 0 0,.int .i64 d.writes,.int .i64 d.stop,.bool d.down]) rfl;have O4:=(o2.stN (w.heap.size+1+1) 10 [.slice oa d.on.1 oc] (by omega)).stN (w.heap.size+1+1) 11 [.slice none 0 0] (by omega);have G4:Gat (zaa.slice 77) 78 (stN (stN w2 (w.heap.size+1+1) 10 [.slice oa d.on.1 oc]) (w.heap.size+1+1) 11 [.slice none 0 0]) (w.heap.size+1+1+1) (.slice ga d.groups.1 gc) d.groups.1 d.groups.2:=(G2.set _ 10 _ (by omega)).set _ 11 _ (by omega);have xc:(w2.setCell ⟨w.heap.size+1+1,10,none⟩ (.slice oa d.on.1 oc)).cell? ⟨w.heap.size+1+1,11,none⟩=some (.slice ao3 d.tapes.1 cap3):=T3.b3.cell 11;have xg:(w2.setCell ⟨w.heap.size+1+1,10,none⟩ (.slice oa d.on.1 oc)).frozen? ⟨w.heap.size+1+1,11,none⟩=false:=T3.b3.frozen 11;have z2:wo.heap.size≤w2.heap.size:=Nat.le_trans bA.size b2.size
   have ez:(stN (stN w2 (w.heap.size+1+1) 10 [.slice oa d.on.1 oc]) (w.heap.size+1+1) 11 [.slice none 0 0]).heap.size=w2.heap.size:=by rw [zbx,zbx]
   have GO:OwnT ((zaa.slice 77).slice 78) wo (w.heap.size+1+1+1) wo.heap.size d.groups [.slice ga d.groups.1 gc]:=G1.own;have GO4:=((GO.call (bA.trans b2)).stN (w.heap.size+1+1) 10 [.slice oa d.on.1 oc] (by omega)).stN (w.heap.size+1+1) 11 [.slice none 0 0] (by omega);clear T1 TA T2 T3 G1 G2 G4 o2 b2 bA GO
   go_upto_region 19 with (at_builtin;refine zdn rfl (.tmp 82) (.tmp 84) rfl ?_ ?_ hrun ?_;(simp [Act.eval]);(simp [Act.eval]))
   obtain ⟨W4,hW4⟩:∃ x,x=stN (stN w2 (w.heap.size+1+1) 10 [.slice oa d.on.1 oc]) (w.heap.size+1+1) 11 [.slice none 0 0]:=⟨_,rfl⟩
   change Code.wp Tryz.prog _ _ _ (stN (stN w2 (w.heap.size+1+1) 10 [.slice oa d.on.1 oc]) (w.heap.size+1+1) 11 [.slice none 0 0])
   rw [← hW4] at T4 O4 GO4 ez ⊢;have HT4:=hid T4;have HO4:=hid O4;have HGO:=hid GO4;clear T4 O4 GO4 hW4 xa xb xf xc xg hrun x9;go_wp2
   go_loopw [9] (fun i wr=>∃ (t:Nat) (ta:Option Addr) (tc:Nat),t≤d.tapes.1∧i=.int .i64 t∧Box wr (w.heap.size+1+1) #[.int .i64 (d.shape 0),.int .i64 (d.shape 1),.int .i64 (d.shape 2),.int .i64 (d.shape 3),.int .i64 (d.shape 4),.int .i64 (d.shape 5),.int .i64 (d.shape 6),.int .i64 (d.shape 7),.int .i64 (d.shape 8),.slice ga d.groups.1 gc,.slice oa d.on.1 oc,.slice ta t tc,.int .i64 d.writes,.int .i64 d.stop,.bool d.down] 34∧Gat zag 57 wr W4.heap.size (.slice ta t tc) t d.tapes.2∧ChgL [w.heap.size+1+1] W4 wr) (fun i _=>d.tapes.1-(intOf i).toNat)
   case atStart=>exact ⟨0,none,0,Nat.zero_le _,rfl,HT4.out.b3,Gat.nil _ _ _,ChgL.refl _ _⟩
   case round=>
    obtain ⟨t,ta,tc,ht,rfl,X5,G5,C5⟩:=hrel;obtain ⟨wx,rfl⟩:∃ x,x=wr:=⟨_,rfl⟩;have T5:Three w wx (rwW d ao1 cap1 ao2 cap2 ao3 cap3).toArray (rwV 0 0 0 0 0 0 0 0 0 none 0 0 none 0 0 none 0 0 0 0 false).toArray #[.int .i64 (d.shape 0),.int .i64 (d.shape 1),.int .i64 (d.shape 2),.int .i64 (d.shape 3),.int .i64 (d.shape 4),.int .i64 (d.shape 5),.int .i64 (d.shape 6),.int .i64 (d.shape 7),.int .i64 (d.shape 8),.slice ga d.groups.1 gc,.slice oa d.on.1 oc,.slice ta t tc,.int .i64 d.writes,.int .i64 d.stop,.bool d.down] 34 34 34:=HT4.out.chgl3 _ X5 C5;have HT5:=hid T5;have HG5:=hid G5;have HC5:=hid C5;have zx:W4.heap.size≤wx.heap.size:=C5.size;have x11:wx.cell? ⟨w.heap.size,11,none⟩=some (.slice ao3 d.tapes.1 cap3):=T5.b1.cell 11;have e11:wx.cell? ⟨w.heap.size+1+1,11,none⟩=some (.slice ta t tc):=T5.b3.cell 11
    by_cases hlt:t<d.tapes.1
    ·obtain ⟨b3,off3,he3,hb3,hel3⟩:=HC3.out (by omega)
     subst he3;obtain ⟨ct,hrt,hct⟩:=zap (t:=0) hel3 T5.bel hhi hb3 hlt;obtain ⟨ao7,cap7,rfl,g7⟩:=zbc hrt;have c0:wx.cell? ⟨b3,off3+t*2,none⟩=some (.bool (d.tapes.2 t).wiped):=hct 0 (by decide);have c1:wx.cell? ⟨b3,off3+t*2+1,none⟩=some (.slice ao7 (d.tapes.2 t).recs.1 cap7):=hct 1 (by decide);have HCA:=hid c0;have CC:=ze0 _ (d.tapes.2 t).recs hi wx.drew ((zac.slice 94).rd_below (B:=hi) g7 ⟨rfl,rfl,rfl,Nat.le_refl _,fun _ _=>rfl⟩ (Nat.le_refl _)) (show hi≤wx.heap.size by omega) (HNT.out t hlt)
     have CC:=CC.mono (R':=fun e w'=>∃ ra rc,e=.returned (.slice ra (d.tapes.2 t).recs.1 rc)∧OwnT (zac.slice 94) w' wx.drew.heap.size w'.heap.size (d.tapes.2 t).recs [.slice ra (d.tapes.2 t).recs.1 rc]∧Below wx.drew.heap.size wx.drew w') (fun e w' ⟨v5,he,o5,b5'⟩=>by
      obtain ⟨ra,rc,hv5⟩:=zby o5;obtain rfl:=zaK hv5
      exact ⟨ra,rc,he,o5,b5'⟩)
     clear hel3 hct hrt g7 X5 G5 C5 T5;have KS:∀ w',Below (w.heap.size+1+1+1) wx w'→(w'.cell? ⟨w.heap.size,11,none⟩=some (.slice (some ⟨b3,off3,none⟩) d.tapes.1 cap3)∧w'.cell? ⟨b3,off3+t*2,none⟩=some (.bool (d.tapes.2 t).wiped)∧w'.cell? ⟨b3,off3+t*2+1,none⟩=some (.slice ao7 (d.tapes.2 t).recs.1 cap7)∧w'.cell? ⟨w.heap.size+1+1,11,none⟩=some (.slice ta t tc)):=fun w' hb=>⟨(hb.cell (p:=⟨w.heap.size,11,none⟩) (by show w.heap.size<w.heap.size+1+1+1;omega)).trans x11,(hb.cell (p:=⟨b3,off3+t*2,none⟩) (by show b3<w.heap.size+1+1+1;omega)).trans c0,(hb.cell (p:=⟨b3,off3+t*2+1,none⟩) (by show b3<w.heap.size+1+1+1;omega)).trans c1,(hb.cell (p:=⟨w.heap.size+1+1,11,none⟩) (Nat.lt_succ_self _)).trans e11⟩
     have i1:(0:Int)≤(t:Int):=by omega
     have i2:(t:Int)<(d.tapes.1:Int):=by omega
     go_upto_region 22 with fail
     refine zb0 19 (fun w'=>w'.cell? ⟨w.heap.size,11,none⟩=some (.slice (some ⟨b3,off3,none⟩) d.tapes.1 cap3)∧w'.cell? ⟨b3,off3+t*2,none⟩=some (.bool (d.tapes.2 t).wiped)∧w'.cell? ⟨b3,off3+t*2+1,none⟩=some (.slice ao7 (d.tapes.2 t).recs.1 cap7)∧w'.cell? ⟨w.heap.size+1+1,11,none⟩=some (.slice ta t tc)) (by kernel_rfl) (KS _ ⟨rfl,rfl,rfl,Nat.le_refl _,fun _ _=>rfl⟩) (fun hHeld=>?_);refine zjz 0 rfl ?_
     try simp only [Act.put,SL]
     refine zjz 1 rfl ?_
     try simp only [Act.put,SL]
     refine zjz 2 rfl ?_
     try simp only [Act.put,SL]
     refine zjz 3 rfl ?_
     try simp only [Act.put,SL]
     refine zjz 4 rfl ?_
     try simp only [Act.put,SL]
     refine zjz 5 rfl ?_
     try simp only [Act.put,SL]
     refine zjz 6 rfl ?_
     try simp only [Act.put,SL]
     refine zjz 7 rfl ?_
     try simp only [Act.put,SL]
     refine zjz 8 rfl ?_
     try simp only [Act.put,SL]
     refine zjz 9 rfl ?_
     try simp only [Act.put,SL]
     refine zjz 10 rfl ?_
     try simp only [Act.put,SL]
     refine zjz 11 rfl ?_
     try simp only [Act.put,SL]
     refine zjz 12 rfl ?_
     try simp only [Act.put,SL]
     refine zjz 13 rfl ?_
     try simp only [Act.put,SL]
     refine za8 (i:=14) (o:=_) rfl (by kernel_rfl) (fun K hK=>?_)
     refine zcx rfl 51 _ _ rfl #[.slice ao7 (d.tapes.2 t).recs.1 cap7] ?_ Tryz.func51 (by kernel_rfl) (by kernel_rfl) CC ?_;(simp [Act.eval,Act.put]);rintro ee w5 ⟨ra,rc,rfl,o5,b5'⟩;have b5w:Below wx.heap.size wx w5:=⟨b5'.os,b5'.tape,b5'.output,b5'.size,b5'.block⟩;have T6:=HT5.out.call b5w;have q1:w5.cell? ⟨w.heap.size+1+1,11,none⟩=some (.slice ta t tc):=T6.b3.cell 11;have q3:=(zb5 w5 (.cells #[.bool (d.tapes.2 t).wiped,.slice ra (d.tapes.2 t).recs.1 rc] 57) (w.heap.size+1+1) 11 (by have:=b5w.size;omega)).trans q1;clear T6;refine ⟨_,rfl,?_⟩
     refine hK.out _ _ (KS _ (b5w.mono (by omega))) (fun hHeld=>?_);clear hK K
     try simp only [Act.put,SL]
     refine zjz 15 rfl ?_
     try simp only [Act.put,SL]
     refine za8 (i:=16) (o:=_) rfl (by kernel_rfl) (fun K hK=>?_);go_simp;refine hK.out _ _ (KS _ ((b5w.mono (by omega)).alloc (by have:=b5w.size;omega) _)) (fun hHeld=>?_);clear hK K
     try simp only [Act.put,SL]
     refine za8 (i:=17) (o:=_) rfl (by kernel_rfl) (fun K hK=>?_)
     refine zds zgn rfl (.tmp 96) (.tmp 111) rfl (lo:=W4.heap.size) (n:=t) (v:=.slice ta t tc) (x:=d.tapes.2) ?_ HG5.out b5w (tape_of' o5) ?_ w5.heap.size 1 ?_ (fun j _=>zbX w5 _ _ j) (by omega) (by omega) ?_;(simp [Act.eval,Act.put]);(exact (Below.refl _ _).alloc (Nat.le_refl _) _);(simp [Act.eval,Act.put]);intro v4 w4 g4 b4;obtain ⟨ta4,tc4,rfl⟩:=g4.form;have X4:=HT5.out.b3.below b4 (by omega);have p1:w4.cell? ⟨w.heap.size+1+1,11,none⟩=some (.slice ta t tc):=X4.cell 11;have p2:w4.frozen? ⟨w.heap.size+1+1,11,none⟩=false:=X4.frozen 11
     refine hK.out _ _ (KS _ (b4.mono (by omega))) (fun hHeld=>?_);clear hK K
     try simp only [Act.put,SL]
     refine za8 (i:=18) (o:=_) rfl (by kernel_rfl) (fun K hK=>?_);go_simp;refine hK.out _ _ (KS _ (b4.mono (by omega))) (fun hHeld=>?_);clear hK K
     try simp only [Act.put,SL]
     refine zbY (o:=_) rfl (by kernel_rfl) (fun K hK=>?_);go_simp;refine hK.out _ _ ?_;clear hK K
     try simp only [Act.put,SL]
     refine zbZ (by kernel_rfl) ?_ _;go_wp2
     go_roundw
     case rel=>exact ⟨t+1,ta4,tc4,by omega,by go_num,X4.stL [.slice ta4 (t+1) tc4] 11,(g4.set _ _ _ (by omega)).congr (fun i _=>by rw [zb1]),(HC5.out.after b4).st (w.heap.size+1+1) 11 _ (by simp)⟩
     case measure=>simp [intOf];omega
    ·obtain rfl:t=d.tapes.1:=by omega
     clear X5 e11
     have F0:OwnT zad wx (w.heap.size+1+1+1) wx.heap.size d (rwW d ga gc oa oc ta tc):=by
      have C5':=C5;clear T5 G5 C5;have F:OwnT zad wx (w.heap.size+1+1+1) wx.heap.size d ((rwS d.shape)++([.slice ga d.groups.1 gc]++([.slice oa d.on.1 oc]++([.slice ta d.tapes.1 tc]++([.int .i64 d.writes]++([.int .i64 d.stop]++[.bool d.down])))))):=OwnT.conv (OwnT.pre (A:=(zdg 9)) (a:=d.shape) (c:=(rwS d.shape)) ⟨rfl,Q0.out,rfl⟩ (OwnT.two (HGO.out.chgl HC5.out (fun b hb=>by simp at hb;omega)) (OwnT.two (HO4.out.chgl HC5.out (fun b hb=>by simp at hb;omega)) (OwnT.two (HG5.out.own.weaken (show w2.heap.size≤W4.heap.size by omega) (Nat.le_refl _)) (OwnT.pre (A:=layI) (a:=d.writes) (c:=[.int .i64 d.writes]) ⟨rfl,Q4.out,rfl⟩ (OwnT.pre (A:=layI) (a:=d.stop) (c:=[.int .i64 d.stop]) ⟨rfl,Q5.out,rfl⟩ (OwnT.nil (A:=layB) (a:=d.down) (c:=[.bool d.down]) ⟨rfl,trivial,rfl⟩ wx.heap.size wx.heap.size))) (Nat.le_refl _) (by omega) (Nat.le_refl _)) (by omega) (by omega) (by omega)) (by omega) (by omega) (by omega)));exact F
     have HF:=hid F0;clear G5 C5
     go_wp2_with (first | (refine zat 34 (.tmp 3) rfl rfl (w.heap.size+1+1) rfl T5.b3 Tryz.underlying34 zbN rfl ?_) | (refine za2 34 _ _ rfl rfl (w.heap.size+1) rfl (cs:=(rwW d ga gc oa oc ta tc)) rfl T5.b2 zbN rfl rfl F0.one ?_;intro w9 X9 C9 z9))
     refine zck Tryz.results21 rfl X9 Tryz.underlying34 zbN rfl rfl ?_;refine ⟨(rwW d ga gc oa oc ta tc),rfl,?_,?_⟩
     ·exact (HF.out.chgk C9 (fun b hb=>by simp at hb;omega)).weaken (by omega) C9.size
     ·exact T5.bel.trans (C9.bel (fun b hb=>by simp at hb;omega) T5.bel.size)
set_option maxRecDepth 20000 in
theorem zej (d:WorldD) (t:Int) (kd:Int) (sq:Int) (cs:List Value) (hi:Nat) (w:World) (h:zad.rd w hi d cs) (hhi:hi≤w.heap.size) (hsz:zaT d≤1048576) (ht:-9223372036854775808≤t∧t≤9223372036854775807) (hkd:-9223372036854775808≤kd∧kd≤9223372036854775807) (hsq:-9223372036854775808≤sq∧sq≤9223372036854775807) :
 Calls Tryz.prog 6 #[.agg cs.toArray,.int .i64 t,.int .i64 kd,.int .i64 sq] w (zcj (StrikeAns d t kd sq) w):=by
 have h':=h;obtain ⟨ao1,cap1,ao2,cap2,ao3,cap3,rfl,g1,g2,g3,k0,k4,k5⟩:=zaN h';have HRD:=hid h;have HSZ:=hid hsz;have Ht:=hid ht;have Hkd:=hid hkd;have Hsq:=hid hsq;clear h h' hsz g1 g2 g3 k0 k4 k5 ht hkd hsq;have T0:=zay w (rwW d ao1 cap1 ao2 cap2 ao3 cap3).toArray rwZ.toArray 34 36
 go_enter Tryz.func6,Tryz.ntmps6
 go_wp2_with (refine zat 34 (.tmp 4) rfl rfl (w.heap.size) rfl (T0.b1) Tryz.underlying34 zbN rfl ?_)
 refine (zgA d _ hi _ (zad.rd_below HRD.out T0.bel hhi) (Nat.le_trans hhi T0.bel.size) HSZ.out).mono ?_;rintro e w1 ⟨x,rfl,hx,b1⟩;have HT1:=hid (T0.call b1);have HX:=hid hx;have z1:w.heap.size+1<w1.heap.size:=HT1.out.b2.lt;clear b1 T0 hx
 by_cases hx0:x=0
 case neg=>
  have hne:(x != 0)=true:=by simp [hx0]
  go_wp2_with (refine za2 36 _ _ rfl rfl (w.heap.size+1) rfl (cs:=(.int .i64 x::rwY)) rfl (HT1.out.b2) zaS rfl rfl (zc8 _ (zdc HX.out) w) ?_;intro w9 X9 C9 z9)
  refine zck Tryz.results6 rfl X9 Tryz.underlying36 zaS rfl rfl ?_;exact zfy (zdc HX.out) HT1.out.bel C9 (.inl ⟨x,hx0,HX.out,rfl⟩)
 subst hx0;have HOK:=hid (zie HX.out);obtain ⟨b,hb⟩:=exB (InP t 0 1);have Hb:=hid hb;have CI:=fun w'=>zb2 hb w';clear hb
 go_wp2_with fail
 refine (CI _).mono ?_;rintro e w1' ⟨rfl,e1⟩;obtain rfl:=e1.symm;clear CI
 cases b with
 | false=>
  go_wp2_with (refine za2 36 _ _ rfl rfl (w.heap.size+1) rfl (cs:=(.int .i64 3::rwY)) rfl (HT1.out.b2) zaS rfl rfl (zc8 _ (by decide) w) ?_;intro w9 X9 C9 z9)
  refine zck Tryz.results6 rfl X9 Tryz.underlying36 zaS rfl rfl ?_;exact zfy (by decide) HT1.out.bel C9 (.inr ⟨HX.out,.inl ⟨fun h=>(by have:=Hb.out.2 h;cases this),rfl⟩⟩)
 | true=>
 have HIN:Hid (InP t 0 1):=Hb.out.1 (by simp)
 go_wp2_with (refine zat 34 (.tmp 4) rfl rfl (w.heap.size) rfl (HT1.out.b1) Tryz.underlying34 zbN rfl ?_)
 refine (zit _ d hi _ (zad.rd_below HRD.out HT1.out.bel hhi) (Nat.le_trans hhi HT1.out.bel.size) HSZ.out).mono ?_;rintro e w2 ⟨c2,rfl,o2,b2⟩;obtain ⟨p1,c1,p2,c2,p3,c3,K1,K2,K3,rfl,WO2⟩:=zhy o2;have z2:w1.heap.size≤w2.heap.size:=b2.size
 go_upto_region 7 with (refine zbB 34 10 (.tmp 22) _ _ 15 rfl rfl rfl rfl rfl rfl rfl rfl zi4 rfl rfl o2.one ?_)
 have bA:=bAl w2 (.cells (rwW d p1 c1 p2 c2 p3 c3).toArray 34);have X3:=zaD w2 (rwW d p1 c1 p2 c2 p3 c3).toArray 34;obtain ⟨W3,hW3⟩:∃ x,x=w2.alloc (.cells (rwW d p1 c1 p2 c2 p3 c3).toArray 34):=⟨_,rfl⟩;rw [← hW3] at bA X3 ⊢;have T3:=(HT1.out.call b2).call bA;have WO:=WO2.below bA (Nat.le_refl _);have z3:w2.heap.size<W3.heap.size:=X3.lt;clear bA hW3 o2 b2 WO2;have hup:=zjA HX.out
 by_cases hf:zg3 d
 ·have HF:=hid hf
  have CR:=zhJ w2.heap.size _ _ _ _ _ _ _ _ _ _ _ _ _ _ _ _ _ _ _ _ _ W3 X3 hup hf.1 hf.2;have O3:=zjg WO.own;clear hf hup
  go_wp2_with fail
  refine CR.mono ?_;rintro e w5 ⟨rfl,X5,C5⟩;have T5:=T3.chgK C5 (fun b hb=>by simp at hb;omega);have O5:=O3.chgk C5 (fun b hb=>by simp at hb;omega);have z5:=C5.size;clear X3 T3 WO O3 C5 CR
  go_wp2_with (first | (refine zat 34 (.tmp 10) rfl rfl (w2.heap.size) rfl (X5) Tryz.underlying34 zbN rfl ?_) | (refine za2 36 _ _ rfl rfl (w.heap.size+1) rfl (cs:=[.int .i64 9,.int .i64 (d.shape 0),.int .i64 (d.shape 1),.int .i64 (d.shape 2),.int .i64 (d.shape 3),.int .i64 (d.shape 4),.int .i64 (d.shape 5),.int .i64 (d.shape 6),.int .i64 (d.shape 7),.int .i64 (d.shape 8),.slice p1 d.groups.1 c1,.slice none 0 0,.slice p3 d.tapes.1 c3,.int .i64 d.writes,.int .i64 d.stop,.bool true]) rfl (T5.b2) zaS rfl rfl ((zb9 9 (by decide) O5).one) ?_;intro w9 X9 C9 z9))
  refine zck Tryz.results6 rfl X9 Tryz.underlying36 zaS rfl rfl ?_;exact zes (by decide) T5.bel C9 O5 (by omega) (by omega) (.inr ⟨HX.out,.inr ⟨HIN.out,.inl ⟨HF.out,rfl⟩⟩⟩)
 have HF:=hid hf;have CR:=ziV w2.heap.size _ _ _ _ _ _ _ _ _ _ _ _ _ _ _ _ _ _ _ _ _ W3 X3 hup hf (zeZ HOK.out);clear hf hup
 go_upto_region 8 with fail
 all_goals skip
 refine CR.mono ?_;rintro e w5 ⟨rfl,X5,C5⟩;have T5:=T3.chgK C5 (fun b hb=>by simp at hb;omega);have WO5:=WO.chgn C5 (fun b hb hm=>by simp at hb;have:=WO.inn b hm;omega);have z5:=C5.size;clear X3 T3 WO C5 CR;obtain ⟨T,rfl,hT,hn⟩:=zgJ HOK.out HIN.out
 go_upto_region 9 with fail
 have WO0:WOpen w5.drew w1.heap.size w2.heap.size d _ _ _ K1 K2 K3:=WO5.chgn (K:=[]) ((ChgL.refl _ _).drew) (fun b hb=>by cases hb);obtain ⟨gt,cap,ce,Ls,e3,eL,S3⟩:=zbk WO0.t (by omega)
 simp only [List.cons.injEq,Value.slice.injEq,and_true,true_and] at e3
 obtain ⟨rfl,rfl⟩:=e3;subst eL;have nd3:(gt::catN d.tapes.1 Ls).Nodup:=(List.nodup_append.1 (List.nodup_append.1 WO0.nd).2.1).2.1;obtain ⟨ao9,cap9,K9,e9,eK9,o9⟩:=zdD (S3.each T hT);have in3:∀ b,b∈gt::catN d.tapes.1 Ls→w1.heap.size≤b∧b<w2.heap.size:=fun b hb=>WO0.inn b (List.mem_append_right _ (List.mem_append_right _ hb));have in9:∀ b,b∈K9→w1.heap.size≤b∧b<w2.heap.size:=fun b hb=>in3 b (SlO.sub T hT b (by rw [eK9];exact hb));have hgt:gt∉K9:=fun hb=>(List.nodup_cons.1 nd3).1 (zav.2 ⟨T,hT,by rw [eK9];exact hb⟩);have x11:w5.cell? ⟨w2.heap.size,11,none⟩=some (.slice (some ⟨gt,0,none⟩) d.tapes.1 c3):=X5.cell 11;have y1:w5.drew.cell? ⟨gt,T*2+1,none⟩=some (.slice ao9 (d.tapes.2 T).recs.1 cap9):=(S3.cell hT (j:=1) (by decide)).trans (by rw [e9];rfl);have hgl:gt<w5.drew.heap.size:=S3.lt;have hbl:w2.heap.size<w5.drew.heap.size:=X5.lt;have KS:∀ w',ChgL K9 w5.drew w'→(w'.cell? ⟨w2.heap.size,11,none⟩=some (.slice (some ⟨gt,0,none⟩) d.tapes.1 c3)∧w'.cell? ⟨gt,T*2+1,none⟩=some (.slice ao9 (d.tapes.2 T).recs.1 cap9)):=fun w' hc=>⟨(World.cell?_of_block (hc.block w2.heap.size hbl (fun hb=>by have:=in9 _ hb;omega))).trans x11,(World.cell?_of_block (hc.block gt hgl hgt)).trans y1⟩;have CC:=zhI o9 (by rw [← eK9];exact zdb (List.nodup_cons.1 nd3).2 hT) hn kd sq
 have i1:(0:Int)≤(T:Int):=by omega
 have i2:(T:Int)<(d.tapes.1:Int):=by omega
 refine zb0 14 (fun w'=>w'.cell? ⟨w2.heap.size,11,none⟩=some (.slice (some ⟨gt,0,none⟩) d.tapes.1 c3)∧w'.cell? ⟨gt,T*2+1,none⟩=some (.slice ao9 (d.tapes.2 T).recs.1 cap9)) (by kernel_rfl) (KS _ (ChgL.refl _ _)) (fun hHeld=>?_);refine zjz 0 rfl ?_
 try simp only [Act.put,SL]
 refine zjz 1 rfl ?_
 try simp only [Act.put,SL]
 refine zjz 2 rfl ?_
 try simp only [Act.put,SL]
 refine zjz 3 rfl ?_
 try simp only [Act.put,SL]
 refine zjz 4 rfl ?_
 try simp only [Act.put,SL]
 refine zjz 5 rfl ?_
 try simp only [Act.put,SL]
 refine zjz 6 rfl ?_
 try simp only [Act.put,SL]
 refine zjz 7 rfl ?_
 try simp only [Act.put,SL]
 refine zjz 8 rfl ?_
 try simp only [Act.put,SL]
 refine zjz 9 rfl ?_
 try simp only [Act.put,SL]
 refine zjz 10 rfl ?_
 try simp only [Act.put,SL]
 refine za8 (i:=11) (o:=_) rfl (by kernel_rfl) (fun KC hKC=>?_)
 refine zcx rfl 23 _ _ rfl #[.slice ao9 (d.tapes.2 T).recs.1 cap9,.int .i64 kd,.int .i64 sq] ?_ Tryz.func23 (by kernel_rfl) (by kernel_rfl) CC ?_;(simp [Act.eval,Act.put]);rintro ee w6 ⟨ao',cap',K',rfl,TT⟩;have k1:=KS w6 TT.chg;have f1:w6.frozen? ⟨gt,T*2+1,none⟩=false:=(World.frozen?_of_block (a:=⟨gt,T*2+1,none⟩) (TT.chg.block gt S3.lt hgt)).trans (S3.frozen _);have t1:w6.cell? ⟨gt,T*2+1,none⟩=some (.slice ao9 (d.tapes.2 T).recs.1 cap9):=k1.2;refine ⟨_,rfl,?_⟩
 refine hKC.out _ _ (k1) (fun hHeld=>?_);clear hKC KC
 try simp only [Act.put,SL]
 refine zjz 12 rfl ?_
 try simp only [Act.put,SL]
 refine zjz 13 rfl ?_
 try simp only [Act.put,SL]
 refine zbY (o:=_) rfl (by kernel_rfl) (fun KC hKC=>?_);go_simp;refine hKC.out _ _ ?_;clear hKC KC
 try simp only [Act.put,SL]
 refine zbZ (by kernel_rfl) ?_ _;have TK:=zd8 e9 TT;rw [← eK9] at TK;obtain ⟨T7,-⟩:=S3.turn_cell nd3 hT (j:=1) (by decide) _ TK (w':=w6.setCell ⟨gt,T*zag.sz+1,none⟩ (.slice ao' (za0 (d.tapes.2 T).recs kd sq).1 cap')) rfl;have WO7:=WO0.tapes (by omega) (by omega) T7;have X7:=X5.drew.chgl T7.chg (fun hb=>by have:=in3 _ hb;omega);have T5d:Two w w5.drew (rwW d ao1 cap1 ao2 cap2 ao3 cap3).toArray rwZ.toArray 34 36:=T5.chgK ((ChgL.refl [] _).drew) (fun b hb=>by cases hb);have TW7:=T5d.chgK T7.chg (fun b hb=>by have:=in3 _ hb;omega);have O7:OwnT zad (w6.setCell ⟨gt,T*zag.sz+1,none⟩ (.slice ao' (za0 (d.tapes.2 T).recs kd sq).1 cap')) w1.heap.size (w6.setCell ⟨gt,T*zag.sz+1,none⟩ (.slice ao' (za0 (d.tapes.2 T).recs kd sq).1 cap')).heap.size (zgI d T kd sq) [.int .i64 (d.shape 0),.int .i64 (d.shape 1),.int .i64 (d.shape 2),.int .i64 (d.shape 3),.int .i64 (d.shape 4),.int .i64 (d.shape 5),.int .i64 (d.shape 6),.int .i64 (d.shape 7),.int .i64 (d.shape 8),.slice p1 d.groups.1 c1,.slice p2 d.on.1 c2,.slice (some ⟨gt,0,none⟩) d.tapes.1 c3,.int .i64 (d.writes+1),.int .i64 d.stop,.bool d.down]:=(WO7.writes (d.writes+1) (by have:=zeZ HOK.out;omega)).own;clear WO7 T7 TK TT WO5 WO0 S3 nd3 e9 eK9 o9 X5 T5 T5d KS CC k1;obtain ⟨W7,hW7⟩:∃ x,x=w6.setCell ⟨gt,T*zag.sz+1,none⟩ (.slice ao' (za0 (d.tapes.2 T).recs kd sq).1 cap'):=⟨_,rfl⟩
 go_upto_region 10 with fail
 change Code.wp Tryz.prog _ _ _ (w6.setCell ⟨gt,T*zag.sz+1,none⟩ (.slice ao' (za0 (d.tapes.2 T).recs kd sq).1 cap'))
 rw [← hW7] at X7 TW7 O7 ⊢;clear hW7
 go_wp2_with (first | (refine zat 34 (.tmp 10) rfl rfl (w2.heap.size) rfl (X7) Tryz.underlying34 zbN rfl ?_) | (refine za2 36 _ _ rfl rfl (w.heap.size+1) rfl (cs:=[.int .i64 0,.int .i64 (d.shape 0),.int .i64 (d.shape 1),.int .i64 (d.shape 2),.int .i64 (d.shape 3),.int .i64 (d.shape 4),.int .i64 (d.shape 5),.int .i64 (d.shape 6),.int .i64 (d.shape 7),.int .i64 (d.shape 8),.slice p1 d.groups.1 c1,.slice p2 d.on.1 c2,.slice (some ⟨gt,0,none⟩) d.tapes.1 c3,.int .i64 (d.writes+1),.int .i64 d.stop,.bool d.down]) rfl (TW7.b2) zaS rfl rfl ((zb9 0 (by decide) O7).one) ?_;intro w9 X9 C9 z9))
 refine zck Tryz.results6 rfl X9 Tryz.underlying36 zaS rfl rfl ?_;exact zes (by decide) TW7.bel C9 O7 (by omega) (by omega) (.inr ⟨HX.out,.inr ⟨HIN.out,.inr ⟨HF.out,rfl⟩⟩⟩)
end Go.Proofs.YtdhnekgfhpanfaaGreat
