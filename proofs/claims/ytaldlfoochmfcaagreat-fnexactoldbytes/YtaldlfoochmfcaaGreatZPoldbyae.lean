/- Walk of the specification's l2Weights. -/
import Derived.Test.YtaldlfoochmfcaaGreatZPoldbyab
import Derived.Test.YtaldlfoochmfcaaGreatZPoldbyad
import Derived.Test.YtaldlfoochmfcaaGreatZPoldbyaa
import Derived.Deep.DeepCutAuto
import Derived.Test.YtaldlfoochmfcaaGreatZPoldbyac
import Derived.Deep.Cut
set_option linter.unusedVariables false
set_option linter.unusedSimpArgs false
namespace Go.Proofs.YtaldlfoochmfcaaGreat
open Go.RowKit F256
set_option maxHeartbeats 4000000 in
theorem l2Weights_any (n base want:Nat) (vh:Value) (m:Nat) (hv:Nat → Nat) (h1:Nat) (w:World) (rh:RdI w h1 vh m (fun i => (hv i:Int))) (hh:h1 ≤ w.heap.size) (hm:n ≤ m) (hn0:1 ≤ n) (hn:n ≤ 16) (hb:∀ k,k < n → base + hv k < n + 16) (hw:base + want < n + 16) :
    Calls Tryz.prog 118 #[.int .i64 n,vh,.int .i64 want,.int .i64 base] w fun e w' => ∃ v' b k x,e = .returned v' ∧ SolvP n (wtM n base hv) (genN n want base) b k x ∧ Own w' w.heap.size w'.heap.size v' k x ∧ Below w.heap.size w w':=by
  obtain ⟨aoh,caph,rfl,hmm,hch⟩:=rh;unfold maxLen at hmm;obtain ⟨bh,oh,rfl,hbh,hcell⟩:=hch (by omega);have HC:Hid (∀ i,i < m → w.cell? ⟨bh,oh + i,none⟩ = some (.int .i64 (hv i:Int))):=hcell;have HBD:Hid (∀ k,k < n → base + hv k < n + 16):=hb;clear hch hcell hb
  go_enter Tryz.func118,Tryz.ntmps118
  go_wp2_with (at_make;refine wp_makeM _ rfl _ _ rfl _ _ n rfl rfl rfl rfl (by omega) ?_;intro w1 hown1 hb1 hz1)
  have E1:OwnE w1 w.heap.size w1.heap.size (.slice (some ⟨w.heap.size,0,none⟩) n n) n (fun _ => 0) (wtM n base hv) w.heap.size n (fun _ => nilS) :=
    ⟨rfl,Nat.le_refl _,hz1,hown1,fun i _ => own_nil _ _ _ _,⟨fun i _ hhh => (by cases hhh),fun i j _ _ _ k hk => (by cases hk)⟩⟩
  clear hown1
  go_loopw [10] (fun i wr => ∃ k:Nat,k ≤ n ∧ i = .int .i64 k ∧ ∃ e,OwnE wr w.heap.size wr.heap.size (.slice (some ⟨w.heap.size,0,none⟩) n n) n (fun _ => k) (wtM n base hv) w.heap.size n e ∧ Below w.heap.size w wr) (fun i _ => n - (intOf i).toNat)
  case atStart => exact ⟨0,Nat.zero_le _,rfl,_,E1,hb1⟩
  case round =>
    clear E1 hb1 hz1;obtain ⟨k,hk,rfl,e,hE,hbel⟩:=hrel;have HBL:Hid (Below w.heap.size w wr):=hbel
    by_cases hlt:k < n
    · have ck:wr.cell? ⟨bh,oh + k,none⟩ = some (.int .i64 (hv k:Int)):=(hbel.cell (p:=⟨bh,oh + k,none⟩) (by show bh < w.heap.size;omega)).trans (HC.out k (by omega))
      have C:=l2Gen_any n (hv k) base hn (HBD.out k hlt) wr;obtain ⟨p,hp⟩:∃ p,p = hv k:=⟨_,rfl⟩;have HP:Hid (p = hv k):=hp;rw [← hp] at ck C;have HE0:Hid (OwnE wr w.heap.size wr.heap.size (.slice (some ⟨w.heap.size,0,none⟩) n n) n (fun _ => k) (wtM n base hv) w.heap.size n e):=hE
      have hkm:(k:Int) < (m:Int):=by omega
      have szw:=hbel.size;obtain ⟨wk,hwk⟩:∃ wk,wk = wr:=⟨_,rfl⟩;rw [← hwk] at ck C HE0 szw HBL ⊢;clear hp hE hbel hwk
      go_wp2_with fail
      refine C.mono ?_;rintro ee w6 ⟨v6,rfl,o6,b6⟩;obtain ⟨gv,capv,hgv,h61,h62,h63,h64⟩:=o6.form (by omega);subst hgv;have E6:=(HE0.out.below b6 (Nat.le_refl _)).weaken b6.size;have s6:=b6.size;have q6:∀ j,j < n → ∀ q,(e j).ownBlock = some q → q < wk.heap.size ∨ w6.heap.size ≤ q:=fun j hj q hq => .inl ((HE0.out.each j hj).2 q hq);have B6:Below w.heap.size w w6:=HBL.out.trans (b6.mono szw);have hgh:=HE0.out.high;clear C ck b6;go_wp2
      go_loopw [12] (fun i wr => ∃ j:Nat,j ≤ n ∧ i = .int .i64 j ∧ ∃ e,OwnE wr w.heap.size wr.heap.size (.slice (some ⟨w.heap.size,0,none⟩) n n) n (fun l => if l < j then k + 1 else k) (wtM n base hv) w.heap.size n e ∧ Own wr wk.heap.size w6.heap.size (.slice (some ⟨gv,0,none⟩) n capv) n (genN n p base) ∧ (∀ j,j < n → ∀ q,(e j).ownBlock = some q → q < wk.heap.size ∨ w6.heap.size ≤ q) ∧ Below w.heap.size w wr ∧ w6.heap.size ≤ wr.heap.size) (fun i _ => n - (intOf i).toNat)
      case atStart => exact ⟨0,Nat.zero_le _,rfl,e,by simpa using E6,o6,q6,B6,Nat.le_refl _⟩
      case round =>
        clear E6 o6 q6 B6;obtain ⟨j,hj,rfl,e3,hE3,ho3,hq3,hb3,s6r⟩:=hrel;have HE3:Hid (OwnE wr w.heap.size wr.heap.size (.slice (some ⟨w.heap.size,0,none⟩) n n) n (fun l => if l < j then k + 1 else k) (wtM n base hv) w.heap.size n e3):=hE3;have HO3:Hid (Own wr wk.heap.size w6.heap.size (.slice (some ⟨gv,0,none⟩) n capv) n (genN n p base)):=ho3;have HQ3:Hid (∀ j,j < n → ∀ q,(e3 j).ownBlock = some q → q < wk.heap.size ∨ w6.heap.size ≤ q):=hq3;have HB3:Hid (Below w.heap.size w wr):=hb3
        by_cases hjn:j < n
        · have c1:wr.cell? ⟨w.heap.size,j,none⟩ = some (e3 j):=hE3.cell j hjn
          have c2:wr.cell? ⟨gv,j,none⟩ = some (.int .u8 (genN n p base j)):=(ho3.1.cellAt j (by omega)).trans (cellsOf_get _ _ _ hjn);have oj:=hE3.each j hjn
          simp only [if_neg (Nat.lt_irrefl j)] at oj
          obtain ⟨x,hx⟩:∃ x,x = e3 j:=⟨_,rfl⟩;obtain ⟨y,hy⟩:∃ y,y = genN n p base j:=⟨_,rfl⟩
          have hyw:y = wtM n base hv j k:=by rw [hy,HP.out];rfl
          have HX:Hid (x = e3 j):=hx;have HYW:Hid (y = wtM n base hv j k):=hyw;rw [← hx] at c1 oj;rw [← hy] at c2;have HOJ:Hid (Own wr w.heap.size wr.heap.size x k (wtM n base hv j)):=oj;obtain ⟨aox,capx,hxs⟩:=oj.slice;subst hxs;have szr:=hb3.size;have c3:=(cell_alloc_old wr (.cells #[.int .u8 y] 5) w.heap.size j hE3.high).trans c1;have hgR:=hE3.high;clear hE3 ho3 hq3 hb3 hx hy hyw oj;go_wp2
          go_region_law (refine step_appendAt rfl (.tmp 39) (.tmp 44) rfl w.heap.size wr.heap.size (.slice aox k capx) k (wtM n base hv j) ?_ ?_ wr.heap.size 1 ?_ ?_ (by omega) ?_ ?_;(simp [Act.eval,Act.put]);exact HOJ.out.alloc _;(simp [Act.eval,Act.put]);(rw [← HYW.out];simp);(simp;omega);intro v7 w7 o7 g7 hl7;obtain ⟨ao7,cap7,rfl⟩:=o7.slice;have R7:w7.ownsRow w.heap.size 29 1 (.slice (some ⟨w.heap.size,0,none⟩) n n) n (valsOf n e3):=row_kept HE3.out.row (fun q hq => by (have e1:w.heap.size = q:=by simpa [Value.ownBlock] using hq);subst e1;exact (g7.block w.heap.size (by simp;omega) (fun hhh => HE3.out.apart.1 j hjn (by rw [← HX.out];exact hhh.symm))).trans (Below.heap_alloc wr _ w.heap.size hgR));have p1:=(R7.cellAt j (by omega)).trans (valsOf_get _ _ _ hjn);have p2:=R7.frozenAt j;rw [← HX.out] at p1)
          all_goals
            have g7':(wr.alloc (.cells #[.int .u8 y] 5)).grownBy w7 (e3 j).ownBlock:=⟨g7.os,g7.tape,g7.output,g7.size,by rw [← HX.out];exact g7.block⟩
            have hl7':(Value.slice ao7 (k + 1) cap7).ownBlock = (e3 j).ownBlock ∨ (Value.slice ao7 (k + 1) cap7).ownBlock = some (wr.heap.size + 1):=by
              rcases hl7 with h | h
              · left;rw [← HX.out];exact h
              · right;rw [h];simp
            have s7:wr.heap.size + 1 ≤ w7.heap.size:=by have:=g7'.size;simpa using this
            have GE:=HE3.out.grow j hjn (n':=fun l => if l < j + 1 then k + 1 else k) g7' (by simpa using o7) hl7' (fun l _ hl => by
              by_cases c:l < j
              · have c2:l < j + 1:=by omega
                simp only [if_pos c,if_pos c2]
              · have c2:¬ l < j + 1:=by omega
                simp only [if_neg c,if_neg c2])
            have zs:(w7.setCell ⟨w.heap.size,j,none⟩ (.slice ao7 (k + 1) cap7)).heap.size = w7.heap.size:=by simp
            rw [← zs] at GE
            have GO:Own (w7.setCell ⟨w.heap.size,j,none⟩ (.slice ao7 (k + 1) cap7)) wk.heap.size w6.heap.size (.slice (some ⟨gv,0,none⟩) n capv) n (genN n p base):=HO3.out.kept fun q hq => by
              have e1:gv = q:=by simpa [Value.ownBlock] using hq
              subst e1;refine (heap_setCell_other w7 ⟨w.heap.size,j,none⟩ gv _ (by show gv ≠ w.heap.size;omega)).trans ((g7'.block gv (by simp;omega) (fun hhh => ?_)).trans (Below.heap_alloc wr _ gv (by omega)));have:=HQ3.out j hjn gv hhh.symm;omega
            have GQ:∀ l,l < n → ∀ q,(if l = j then Value.slice ao7 (k + 1) cap7 else e3 l).ownBlock = some q → q < wk.heap.size ∨ w6.heap.size ≤ q:=fun l hl q hq => by
              by_cases c:l = j
              · rw [if_pos c] at hq
                rcases hl7' with h | h
                · rw [h] at hq
                  exact HQ3.out j hjn q hq
                · rw [h] at hq
                  cases hq
                  right;omega
              · rw [if_neg c] at hq
                exact HQ3.out l hl q hq
            have GB:Below w.heap.size w (w7.setCell ⟨w.heap.size,j,none⟩ (.slice ao7 (k + 1) cap7)):=((HB3.out.alloc szr _).grown g7' (by simp;omega) (fun q hq => ((HE3.out.each j hjn).1.lt q hq).1)).setCell (Nat.le_refl _) _
            have GS:w6.heap.size ≤ (w7.setCell ⟨w.heap.size,j,none⟩ (.slice ao7 (k + 1) cap7)).heap.size:=by rw [zs];omega
            clear g7 g7' hl7 hl7' o7 R7 p1 p2 HE3 HO3 HQ3 HB3 HOJ c1 c2 c3 zs;go_wp2
            go_roundw
            case rel => exact ⟨j + 1,by omega,by go_num,_,GE,GO,GQ,GB,GS⟩
            case measure => simp [intOf];omega
        · obtain rfl:j = n:=by omega
          have E9:=hE3.congrN (n':=fun _ => k + 1) (fun l hl => by simp [hl]);clear hE3 ho3 hq3;go_wp2
          go_roundw
          case rel => exact ⟨k + 1,by omega,by go_num,_,E9,hb3⟩
          case measure => simp [intOf];omega
    · obtain rfl:k = n:=by omega
      have C:=l2Gen_any k want base hn hw wr;have HE:Hid (OwnE wr w.heap.size wr.heap.size (.slice (some ⟨w.heap.size,0,none⟩) k k) k (fun _ => k) (wtM k base hv) w.heap.size k e):=hE;clear hE hbel
      go_wp2_with fail
      refine C.mono ?_;rintro ee w6 ⟨v6,rfl,o6,b6⟩;have B6:Below w.heap.size w w6:=HBL.out.trans (b6.mono HBL.out.size);have CS:=l1Solve_any _ _ k (wtM k base hv) (genN k want base) w.heap.size wr.heap.size w.heap.size k wr.heap.size w6.heap.size e w6 (HE.out.below b6 (Nat.le_refl _)) o6 b6.size (Nat.le_refl _) (by omega) hn (wtM_byt k base hv) (genN_lt k want base);obtain ⟨ao6,cap6,rfl⟩:=o6.slice;clear C o6 b6
      go_wp2_with fail
      refine CS.mono ?_;rintro ee w7 ⟨v7,b7,k7,x7,rfl,hp7,o7,b7'⟩;have HP7:Hid (SolvP k (wtM k base hv) (genN k want base) b7 k7 x7):=hp7;have HO7:Hid (Own w7 w6.heap.size w7.heap.size v7 k7 x7):=o7;have B7:Below w.heap.size w w7:=B6.trans (b7'.mono B6.size);have s67:=B6.size;obtain ⟨ao7,cap7,rfl⟩:=o7.slice;clear CS hp7 o7 b7' B6;go_wp2;go_ret;exact ⟨_,b7,k7,x7,rfl,HP7.out,HO7.out.weaken s67 (Nat.le_refl _),B7⟩
end Go.Proofs.YtaldlfoochmfcaaGreat
namespace Go.Proofs.YtaldlfoochmfcaaGreat
open Go.RowKit F256
theorem l2Weights_row (n want:Nat) (vh:Value) (hv:Nat → Nat) (h1:Nat) (w:World) (rh:RdI w h1 vh n (fun i => (hv i:Int))) (hh:h1 ≤ w.heap.size) (hn0:1 ≤ n) (hn:n ≤ 3) (hb:∀ k,k < n → hv k < n + 2) (hr:∀ k,k + 1 < n → hv k < hv (k + 1)) (hw:want < n + 2) :
    Calls Tryz.prog 118 #[.int .i64 n,vh,.int .i64 want,.int .i64 0] w fun e w' => ∃ v',e = .returned v' ∧ Own w' w.heap.size w'.heap.size v' n (weightsN n 0 hv want) ∧ Below w.heap.size w w':=by
  have C:=l2Weights_any n 0 want vh n hv h1 w rh hh (Nat.le_refl _) hn0 (by omega) (fun k hk => by have:=hb k hk;omega) (by omega);have e0:((0:Nat):Int) = 0:=rfl;rw [e0] at C;refine C.mono fun e w' ⟨v',b,k,x,he,hp,ho,hbel⟩ => ?_;have hfull:=row_full n hn0 hn hv (genN n want 0) hb hr
  have hbt:b = true:=by
    cases b with
    | true => rfl
    | false => have:=(hp.2 rfl).1;omega
  obtain ⟨_,hk,hx⟩:=hp.1 hbt;subst hk;subst hx;exact ⟨v',he,ho,hbel⟩
end Go.Proofs.YtaldlfoochmfcaaGreat
namespace Go.Proofs.YtaldlfoochmfcaaGreat
open Go.RowKit F256
end Go.Proofs.YtaldlfoochmfcaaGreat
namespace Go.Proofs.YtaldlfoochmfcaaGreat
open F256
def blockN (D:Nat) (n:Nat → Nat) (R:Nat) (f:Mat) (want:Nat):Nat → Nat:=mixN (fun k => f (nthN n R k)) (weightsN D 0 (nthN n R) want) D
def decN (D:Nat) (n:Nat → Nat) (R:Nat) (f:Mat):Nat → Nat:=fun t => blockN D n R f (t / 4) (t % 4)
theorem decN_at (D:Nat) (n:Nat → Nat) (R:Nat) (f:Mat) (k i:Nat) (hi:i < 4):decN D n R f (4 * k + i) = blockN D n R f k i:=by
  unfold decN;rw [show (4 * k + i) / 4 = k by omega,show (4 * k + i) % 4 = i by omega]
end Go.Proofs.YtaldlfoochmfcaaGreat
namespace Go.Proofs.YtaldlfoochmfcaaGreat
open Go.RowKit F256
theorem wp_appendIt {ops:Array Oper} {rest:List Oper} {o:Oper} {a:Act} {w:World} {Q:Exit → Act → World → Prop}
    (hg:o.guard = none) (s x:Operand) (hop:o.op = Op.call { callee:=Callee.builtin Builtin.append,args:=#[s,x],argTypes:=#[25,25] })
    (lo hi:Nat) (v:Value) (n:Nat) (f:Nat → Int) (hs:a.eval s = v) (hown:OwnI w lo hi v n f) (b c:Nat) (hx:a.eval x = .slice (some ⟨b,0,none⟩) 1 c) (hcell:w.cell? ⟨b,0,none⟩ = some (.int .i64 (f n)))
    (hn:n + 1 ≤ 1000000) (hlo:lo ≤ w.heap.size)
    (hK:∀ v' w',OwnI w' lo w'.heap.size v' (n + 1) f → w.grownBy w' v.ownBlock → wpList Tryz.prog ops Q rest (a.put o.dst v') w'):wpList Tryz.prog ops Q (o :: rest) a w:=by
  obtain ⟨i0,hi0,hz0,hz1,hz2⟩:=info_parts info_i64;refine wpList_append_own w hg s x 25 hop lo 2 i0 (.int .i64 0) 1 8 Tryz.underlying25 hi0 hz0 hz1 hz2 rfl (by decide) v n (intsOf n f) hs hown.1 ⟨b,0,none⟩ 1 c [.int .i64 (f n)] hx rfl ?_ ?_ (by unfold maxLen;omega) (by omega) hlo ?_
  · intro j u hj
    match j,hj with
    | 0,hj => simp at hj;subst hj;simpa [Addr.add] using hcell
  · intro u hu
    simp at hu
    subst hu;rfl
  · intro v' w' h1 h2 _
    rw [intsOf_snoc] at h1;exact hK v' w' ⟨h1,fun k hk => (h1.lt k hk).2⟩ h2
theorem two_types {w:World} {lo lo' hi:Nat} {v x:Value} {k n:Nat} {xs:List Value} {f:Nat → Int} (h:w.ownsRow lo 29 1 v k xs) (ho:OwnI w lo' hi x n f) (b:Nat) (hb:v.ownBlock = some b):x.ownBlock ≠ some b:=by
  intro hx
  rcases h.2 with ⟨rfl,_⟩ | ⟨g,cap,cur,rfl,_,hg,_⟩
  · cases hb
  · rcases ho.1.2 with ⟨rfl,_⟩ | ⟨g',cap',cur',rfl,_,hg',_⟩
    · cases hx
    · simp [Value.ownBlock] at hb hx
      subst hb;subst hx;rw [hg] at hg'
      simp at hg'
theorem OwnI.kept {w w':World} {lo hi:Nat} {v:Value} {n:Nat} {f:Nat → Int} (h:OwnI w lo hi v n f) (hk:∀ g,v.ownBlock = some g → w'.heap[g]? = w.heap[g]?):OwnI w' lo hi v n f:=by
  refine ⟨⟨h.1.1,?_⟩,h.2⟩
  rcases h.1.2 with hn | ⟨g,cap,cur,rfl,hbg,hgg,rest⟩
  · exact .inl hn
  · exact .inr ⟨g,cap,cur,rfl,hbg,(hk g rfl).trans hgg,rest⟩
end Go.Proofs.YtaldlfoochmfcaaGreat
namespace Go.Proofs.YtaldlfoochmfcaaGreat
open Go.RowKit F256
def BlkP (D:Nat) (n:Nat → Nat) (R:Nat) (f:Mat) (want:Nat) (w:World) (ee:Ending) (w':World):Prop :=
  ∃ v' b,ee = .returned (.tuple #[v',.bool b]) ∧ (b = true ↔ D ≤ cntN n R) ∧ Own w' w.heap.size w'.heap.size v' (if b = true then 4 else 0) (blockN D n R f want) ∧ Below w.heap.size w w'
set_option maxHeartbeats 4000000 in
theorem l2Block_any (D want:Nat) (v:Value) (R:Nat) (n:Nat → Nat) (f:Mat) (h1:Nat) (w:World) (r:RdM w h1 v R n f) (hh:h1 ≤ w.heap.size) (hD1:1 ≤ D) (hD:D ≤ 3) (hR:R ≤ D + 2) (hw:want < D + 2) (h4:∀ i,i < R → n i = 0 ∨ n i = 4) (kf:Byt f) :
    Calls Tryz.prog 101 #[.int .i64 D,v,.int .i64 want] w (BlkP D n R f want w):=by
  obtain ⟨ao,cap,e,rfl,hm,hc,he⟩:=r;have HHE:Hid (∀ i,i < R → Rd w h1 (e i) (n i) (f i)):=he;have HHC:Hid (R ≠ 0 → ∃ b off,ao = some ⟨b,off,none⟩ ∧ b < h1 ∧ ∀ i,i < R → w.cell? ⟨b,off + i,none⟩ = some (e i)):=hc;have HH4:Hid (∀ i,i < R → n i = 0 ∨ n i = 4):=h4;clear hc he h4
  go_enter Tryz.func101,Tryz.ntmps101
  go_wp2
  have S0:((w.alloc (.cells #[] 2)).alloc (.cells #[] 29)).heap.size = w.heap.size + 2:=by simp
  have I0:OwnI ((w.alloc (.cells #[] 2)).alloc (.cells #[] 29)) w.heap.size ((w.alloc (.cells #[] 2)).alloc (.cells #[] 29)).heap.size (.slice (some ⟨w.heap.size,0,none⟩) 0 0) 0 (fun t => (nthN n R t:Int)):=((ownI_lit0 w _).alloc _).weaken (Nat.le_refl _) (by simp)
  have M0:((w.alloc (.cells #[] 2)).alloc (.cells #[] 29)).ownsRow w.heap.size 29 1 (.slice (some ⟨w.heap.size + 1,0,none⟩) 0 0) 0 (valsOf 0 fun t => e (nthN n R t)):=by
    have hl:=World.ownsRow_lit (base:=w.heap.size) (e:=29) (size:=1) (w.alloc (.cells #[] 2)) #[] 0 (by simp) (Nat.zero_le _) rfl
    have hz:(w.alloc (.cells #[] 2)).heap.size = w.heap.size + 1:=by simp
    rw [hz] at hl;exact hl
  go_loopw [8,9,10] (fun vh vm i wr => ∃ c k:Nat,k ≤ R ∧ i = .int .i64 k ∧ c = cntN n k ∧ c ≤ D ∧ OwnI wr w.heap.size wr.heap.size vh c (fun t => (nthN n R t:Int)) ∧ wr.ownsRow w.heap.size 29 1 vm c (valsOf c fun t => e (nthN n R t)) ∧ Below w.heap.size w wr) (fun _ _ i _ => R - (intOf i).toNat)
  case atStart => exact ⟨0,0,Nat.zero_le _,rfl,rfl,Nat.zero_le _,I0,M0,((Below.refl _ _).alloc (Nat.le_refl _) _).alloc (by simp) _⟩
  case round =>
    clear I0 M0 S0;obtain ⟨c,k,hk,rfl,hck,hcD,hI,hM,hb⟩:=hrel;have HCK:Hid (c = cntN n k):=hck;have HI:Hid (OwnI wr w.heap.size wr.heap.size u8 c (fun t => (nthN n R t:Int))):=hI;have HM:Hid (wr.ownsRow w.heap.size 29 1 u9 c (valsOf c fun t => e (nthN n R t))):=hM;have HB:Hid (Below w.heap.size w wr):=hb;obtain ⟨ao8,cap8,hs8⟩:=hI.slice;subst hs8;have szr:=hb.size;clear hck
    by_cases hlt:k < R
    · by_cases hcd:c < D
      · obtain ⟨b,off,hao,hblt,hcell⟩:=HHC.out (by omega)
        subst hao;have c1:wr.cell? ⟨b,off + k,none⟩ = some (e k):=(hb.cell (p:=⟨b,off + k,none⟩) (by show b < w.heap.size;omega)).trans (hcell k hlt);obtain ⟨aok,capk,hsk,hmk,hqk⟩:=HHE.out k hlt;unfold maxLen at hmk;obtain ⟨nk,hnk⟩:∃ x,x = n k:=⟨_,rfl⟩;have HNK:Hid (nk = n k):=hnk
        have HEK:Hid (e k = .slice aok nk capk):=by show e k = _;rw [hsk,hnk]
        rw [hsk,← hnk] at c1;rw [← hnk] at hmk;clear hnk hsk hqk hcell hI hM hb
        by_cases e1:nk = 0
        · have HN0:Hid (nk = 0):=e1
          have t1:decide ((0:Int) < (nk:Int)) = false:=by simp;omega
          have t1n:decide (0 < nk) = false:=by simp;omega
          clear e1;go_wp2
          go_roundw
          case rel => exact ⟨c,k + 1,by omega,by go_num,by rw [cntN,if_pos (by rw [← HNK.out];exact HN0.out)];exact HCK.out,hcD,HI.out,HM.out,HB.out⟩
          case measure => simp [intOf];omega
        · have hnt:nthN n R c = k:=by rw [HCK.out];exact nthN_is hlt (by rw [← HNK.out];exact e1)
          have HNT:Hid (nthN n R c = k):=hnt;have HN0:Hid (nk ≠ 0):=e1
          have t1:(0:Int) < (nk:Int):=by omega
          have hbw:b < w.heap.size:=by omega
          clear e1 hnt
          go_wp2_with (first | (at_builtin;refine wp_appendIt rfl (.tmp 31) (.tmp 33) rfl w.heap.size wr.heap.size (.slice ao8 c cap8) c (fun t => (nthN n R t:Int)) ?_ ?_ wr.heap.size 1 ?_ ?_ (by omega) ?_ ?_;(simp [Act.eval]);exact HI.out.alloc _;(simp [Act.eval]);(rw [HNT.out];simp);(simp;omega);intro v2 w2 o2 g2;have b2:Below w.heap.size wr w2:=((Below.refl w.heap.size wr).alloc szr _).grown g2 (by simp;omega) (fun q hq => (HI.out.1.lt q hq).1);have c2:w2.cell? ⟨b,off + k,none⟩ = some (.slice aok nk capk):=(b2.cell (p:=⟨b,off + k,none⟩) hbw).trans c1;have m2:w2.ownsRow w.heap.size 29 1 u9 c (valsOf c fun t => e (nthN n R t)):=row_kept HM.out (fun q hq => (g2.block q (by have:=(HM.out.lt q hq).2;simp;omega) (fun hhh => two_types HM.out HI.out q hq hhh.symm)).trans (Below.heap_alloc wr _ q (HM.out.lt q hq).2));have s2:wr.heap.size + 1 ≤ w2.heap.size:=(by have:=g2.size;simpa using this);obtain ⟨ao2,cap2,rfl⟩:=o2.slice) | (at_builtin;refine wp_appendM rfl (.tmp 35) (.tmp 40) rfl w.heap.size u9 c (fun t => e (nthN n R t)) ?_ ?_ w2.heap.size 1 (.slice aok nk capk) ?_ ?_ rfl (by omega) ?_ ?_;(simp [Act.eval]);exact m2.alloc _;(simp [Act.eval]);simp;(simp;omega);intro v4 w4 hr4 hg4 hn4))
          have hr5:w4.ownsRow w.heap.size 29 1 v4 (c + 1) (valsOf (c + 1) fun t => e (nthN n R t)):=by
            rw [← valsOf_snoc,HNT.out,HEK.out];exact hr4
          have s4:w2.heap.size + 1 ≤ w4.heap.size:=by have:=hg4.size;simpa using this
          have o5:OwnI w4 w.heap.size w4.heap.size (.slice ao2 (c + 1) cap2) (c + 1) (fun t => (nthN n R t:Int)):=(o2.kept fun q hq => (hg4.block q (by have:=(o2.1.lt q hq).2;simp;omega) (fun hhh => two_types m2 o2 q hhh.symm hq)).trans (Below.heap_alloc w2 _ q (o2.1.lt q hq).2)).mono (by omega);have b5:Below w.heap.size w w4:=(HB.out.trans b2).trans (((Below.refl w.heap.size w2).alloc (by omega) _).grown hg4 (by simp;omega) (fun q hq => (m2.lt q hq).1));clear hr4 hg4 hn4 o2 g2 b2 m2 c1 c2 HI HM;go_wp2
          go_roundw
          case rel => exact ⟨c + 1,k + 1,by omega,by go_num,by rw [cntN,if_neg (by rw [← HNK.out];exact HN0.out),← HCK.out],by omega,o5,hr5,b5⟩
          case measure => simp [intOf];omega
      · obtain rfl:c = D:=by omega
        have hle:c ≤ cntN n R:=by have:=cntN_mono n hk;have:=HCK.out;omega
        have hs:∀ t,t < c → nthN n R t < R ∧ n (nthN n R t) = 4:=fun t ht => by
          have q:=nthN_spec (n:=n) (R:=R) (k:=t) (by omega);refine ⟨q.1,?_⟩
          rcases HH4.out _ q.1 with e0 | e0
          · exact absurd e0 q.2.1
          · exact e0
        have HLE:Hid (c ≤ cntN n R):=hle;have CW:=l2Weights_row c want (.slice ao8 c cap8) (nthN n R) wr.heap.size wr HI.out.rd (Nat.le_refl _) hD1 hD (fun t ht => by have:=(hs t ht).1;omega) (fun t ht => nthN_rise (by omega)) hw
        obtain ⟨g9,cap9,hv9,hg9⟩:∃ g cap,u9 = .slice (some ⟨g,0,none⟩) c cap ∧ g < wr.heap.size:=by
          rcases HM.out.2 with ⟨h,h2⟩ | ⟨g,cap,cur,h,_,h3,_⟩
          · omega
          · exact ⟨g,cap,h,(Array.getElem?_eq_some_iff.1 h3).1⟩
        subst hv9
        have RM:RdM wr wr.heap.size (.slice (some ⟨g9,0,none⟩) c cap9) c (fun t => n (nthN n R t)) (fun t => f (nthN n R t)):=⟨_,_,fun t => e (nthN n R t),rfl,by unfold maxLen;omega,fun _ => ⟨g9,0,rfl,hg9,fun t ht => by
            rw [Nat.zero_add]
            exact (HM.out.cellAt t (by omega)).trans (valsOf_get _ _ _ ht)⟩,fun t ht => ((HHE.out _ (hs t ht).1).below HB.out hh).mono (by omega)⟩
        have HRM:Hid (RdM wr wr.heap.size (.slice (some ⟨g9,0,none⟩) c cap9) c (fun t => n (nthN n R t)) (fun t => f (nthN n R t))):=RM;have HS4:Hid (∀ t,t < c → n (nthN n R t) = 4):=fun t ht => (hs t ht).2;clear hle hs RM hI hM hb
        go_wp2_with fail
        refine CW.mono ?_;rintro ee w5 ⟨v5,rfl,o5,b5⟩;have CX:=l1Mix_any (.slice (some ⟨g9,0,none⟩) c cap9) v5 c 4 (fun t => n (nthN n R t)) (fun t => f (nthN n R t)) (weightsN c 0 (nthN n R) want) wr.heap.size w5.heap.size w5 (HRM.out.below b5 (Nat.le_refl _)) o5.rd b5.size (Nat.le_refl _) (by omega) HS4.out (by omega) (fun i j => kf _ _) (weightsN_lt c 0 (nthN n R) want);have B5:Below w.heap.size w w5:=HB.out.trans (b5.mono szr);obtain ⟨ao5,cap5,rfl⟩:=o5.slice;clear CW o5 b5
        go_wp2_with fail
        refine CX.mono ?_;rintro ee w6 ⟨v6,rfl,o6,b6⟩;have B6:Below w.heap.size w w6:=B5.trans (b6.mono B5.size);have s5:=B5.size;obtain ⟨ao6,cap6,rfl⟩:=o6.slice;have HO6:Hid (Own w6 w5.heap.size w6.heap.size (.slice ao6 4 cap6) 4 (blockN c n R f want)):=o6;clear CX o6 b6 B5;go_wp2
        go_ret2
        exact ⟨_,true,rfl,⟨fun _ => HLE.out,fun _ => rfl⟩,by simp only [if_pos];exact HO6.out.weaken s5 (Nat.le_refl _),B6⟩
    · obtain rfl:k = R:=by omega
      by_cases hcd:c < D
      · have HNC:Hid (¬ D ≤ cntN n k):=by show ¬ D ≤ cntN n k;have:=HCK.out;omega
        clear hI hM;go_wp2
        go_ret2
        exact ⟨_,false,rfl,⟨fun h => (by cases h),fun h => absurd h HNC.out⟩,own_nil _ _ _ _,hb⟩
      · obtain rfl:c = D:=by omega
        have hle:c ≤ cntN n k:=by have:=cntN_mono n hk;have:=HCK.out;omega
        have hs:∀ t,t < c → nthN n k t < k ∧ n (nthN n k t) = 4:=fun t ht => by
          have q:=nthN_spec (n:=n) (R:=k) (k:=t) (by omega);refine ⟨q.1,?_⟩
          rcases HH4.out _ q.1 with e0 | e0
          · exact absurd e0 q.2.1
          · exact e0
        have HLE:Hid (c ≤ cntN n k):=hle;have CW:=l2Weights_row c want (.slice ao8 c cap8) (nthN n k) wr.heap.size wr HI.out.rd (Nat.le_refl _) hD1 hD (fun t ht => by have:=(hs t ht).1;omega) (fun t ht => nthN_rise (by omega)) hw
        obtain ⟨g9,cap9,hv9,hg9⟩:∃ g cap,u9 = .slice (some ⟨g,0,none⟩) c cap ∧ g < wr.heap.size:=by
          rcases HM.out.2 with ⟨h,h2⟩ | ⟨g,cap,cur,h,_,h3,_⟩
          · omega
          · exact ⟨g,cap,h,(Array.getElem?_eq_some_iff.1 h3).1⟩
        subst hv9
        have kM:RdM wr wr.heap.size (.slice (some ⟨g9,0,none⟩) c cap9) c (fun t => n (nthN n k t)) (fun t => f (nthN n k t)):=⟨_,_,fun t => e (nthN n k t),rfl,by unfold maxLen;omega,fun _ => ⟨g9,0,rfl,hg9,fun t ht => by
            rw [Nat.zero_add]
            exact (HM.out.cellAt t (by omega)).trans (valsOf_get _ _ _ ht)⟩,fun t ht => ((HHE.out _ (hs t ht).1).below HB.out hh).mono (by omega)⟩
        have HRM:Hid (RdM wr wr.heap.size (.slice (some ⟨g9,0,none⟩) c cap9) c (fun t => n (nthN n k t)) (fun t => f (nthN n k t))):=kM;have HS4:Hid (∀ t,t < c → n (nthN n k t) = 4):=fun t ht => (hs t ht).2;clear hle hs kM hI hM hb
        go_wp2_with fail
        refine CW.mono ?_;rintro ee w5 ⟨v5,rfl,o5,b5⟩;have CX:=l1Mix_any (.slice (some ⟨g9,0,none⟩) c cap9) v5 c 4 (fun t => n (nthN n k t)) (fun t => f (nthN n k t)) (weightsN c 0 (nthN n k) want) wr.heap.size w5.heap.size w5 (HRM.out.below b5 (Nat.le_refl _)) o5.rd b5.size (Nat.le_refl _) (by omega) HS4.out (by omega) (fun i j => kf _ _) (weightsN_lt c 0 (nthN n k) want);have B5:Below w.heap.size w w5:=HB.out.trans (b5.mono szr);obtain ⟨ao5,cap5,rfl⟩:=o5.slice;clear CW o5 b5
        go_wp2_with fail
        refine CX.mono ?_;rintro ee w6 ⟨v6,rfl,o6,b6⟩;have B6:Below w.heap.size w w6:=B5.trans (b6.mono B5.size);have s5:=B5.size;obtain ⟨ao6,cap6,rfl⟩:=o6.slice;have HO6:Hid (Own w6 w5.heap.size w6.heap.size (.slice ao6 4 cap6) 4 (blockN c n k f want)):=o6;clear CX o6 b6 B5;go_wp2
        go_ret2
        exact ⟨_,true,rfl,⟨fun _ => HLE.out,fun _ => rfl⟩,by simp only [if_pos];exact HO6.out.weaken s5 (Nat.le_refl _),B6⟩
end Go.Proofs.YtaldlfoochmfcaaGreat
namespace Go.Proofs.YtaldlfoochmfcaaGreat
def AskP (d s:Int) (R:Nat) (n:Nat → Nat) (x:Int):Prop:=(x = 3 ∧ ¬ Shp d s) ∨ (x = 1 ∧ Shp d s ∧ ((R:Int) ≠ d + s ∨ ∃ i,i < R ∧ n i ≠ 0 ∧ n i ≠ 4)) ∨ (x = 0 ∧ Shp d s ∧ (R:Int) = d + s ∧ ∀ i,i < R → n i = 0 ∨ n i = 4)
theorem AskP.one {d s:Int} {R:Nat} {n:Nat → Nat} {x y:Int} (h:AskP d s R n x) (k:AskP d s R n y):x = y:=by
  rcases h with ⟨rfl,h⟩ | ⟨rfl,h,h2⟩ | ⟨rfl,h,h2,h3⟩ <;> rcases k with ⟨rfl,k⟩ | ⟨rfl,k,k2⟩ | ⟨rfl,k,k2,k3⟩
  · rfl
  · exact absurd k h
  · exact absurd k h
  · exact absurd h k
  · rfl
  · rcases h2 with h2 | ⟨i,hi,h4,h5⟩
    · exact absurd k2 h2
    · rcases k3 i hi with e | e
      · exact absurd e h4
      · exact absurd e h5
  · exact absurd h k
  · rcases k2 with k2 | ⟨i,hi,h4,h5⟩
    · exact absurd h2 k2
    · rcases h3 i hi with e | e
      · exact absurd e h4
      · exact absurd e h5
  · rfl
def DecAns (d s:Int) (R:Nat) (n:Nat → Nat) (x:Int):Prop:=(AskP d s R n x ∧ x ≠ 0) ∨ (AskP d s R n 0 ∧ ¬ d.toNat ≤ cntN n R ∧ x = 10) ∨ (AskP d s R n 0 ∧ d.toNat ≤ cntN n R ∧ x = 0)
theorem DecAns.one {d s:Int} {R:Nat} {n:Nat → Nat} {x y:Int} (h:DecAns d s R n x) (k:DecAns d s R n y):x = y:=by
  rcases h with ⟨h,h2⟩ | ⟨h,h2,rfl⟩ | ⟨h,h2,rfl⟩ <;> rcases k with ⟨k,k2⟩ | ⟨k,k2,rfl⟩ | ⟨k,k2,rfl⟩
  · exact h.one k
  · exact absurd (h.one k) h2
  · exact absurd (h.one k) h2
  · exact absurd (k.one h) k2
  · rfl
  · exact absurd k2 h2
  · exact absurd (k.one h) k2
  · exact absurd h2 k2
  · rfl
end Go.Proofs.YtaldlfoochmfcaaGreat
namespace Go.Proofs.YtaldlfoochmfcaaGreat
open Go.RowKit F256
end Go.Proofs.YtaldlfoochmfcaaGreat
namespace Go.Proofs.YtaldlfoochmfcaaGreat
open Go.RowKit F256
end Go.Proofs.YtaldlfoochmfcaaGreat
namespace Go.Proofs.YtaldlfoochmfcaaGreat
open Go.RowKit F256
end Go.Proofs.YtaldlfoochmfcaaGreat
namespace Go.Proofs.YtaldlfoochmfcaaGreat
open Go.RowKit F256
def DcdP (D:Nat) (n:Nat → Nat) (R:Nat) (f:Mat) (w:World) (ee:Ending) (w':World):Prop :=
  ∃ v' b,ee = .returned (.tuple #[v',.bool b]) ∧ (b = true ↔ D ≤ cntN n R) ∧ Own w' w.heap.size w'.heap.size v' (if b = true then 4 * D else 0) (decN D n R f) ∧ Below w.heap.size w w'
set_option maxHeartbeats 4000000 in
theorem l2Decode_any (D:Nat) (v:Value) (R:Nat) (n:Nat → Nat) (f:Mat) (h1:Nat) (w:World) (r:RdM w h1 v R n f) (hh:h1 ≤ w.heap.size) (hD1:1 ≤ D) (hD:D ≤ 3) (hR:R ≤ D + 2) (h4:∀ i,i < R → n i = 0 ∨ n i = 4) (kf:Byt f) :
    Calls Tryz.prog 68 #[.int .i64 D,v] w (DcdP D n R f w):=by
  have HR:Hid (RdM w h1 v R n f):=r;obtain ⟨ao,cap,e,rfl,hm,hc,he⟩:=r;have HH4:Hid (∀ i,i < R → n i = 0 ∨ n i = 4):=h4;clear hc he h4 hm
  go_enter Tryz.func68,Tryz.ntmps68
  go_wp2
  go_loopw [6,7] (fun u i wr => ∃ k:Nat,k ≤ D ∧ i = .int .i64 k ∧ (0 < k → D ≤ cntN n R) ∧ Own wr w.heap.size wr.heap.size u (4 * k) (decN D n R f) ∧ Below w.heap.size w wr) (fun _ i _ => D - (intOf i).toNat)
  case atStart => exact ⟨0,Nat.zero_le _,rfl,fun h => by omega,own_lit0 w _,(Below.refl _ _).alloc (Nat.le_refl _) _⟩
  case round =>
    obtain ⟨k,hk,rfl,hcnt,hown,hb⟩:=hrel;have HCN:Hid (0 < k → D ≤ cntN n R):=hcnt;have HO:Hid (Own wr w.heap.size wr.heap.size u6 (4 * k) (decN D n R f)):=hown;have HB:Hid (Below w.heap.size w wr):=hb;have szr:=hb.size
    by_cases hlt:k < D
    · have C:=l2Block_any D k (.slice ao R cap) R n f h1 wr (HR.out.below hb hh) (Nat.le_trans hh szr) hD1 hD hR (by omega) HH4.out kf
      clear hcnt hown hb
      go_wp2_with fail
      refine C.mono ?_;rintro ee w2 ⟨v2,b2,rfl,hb2,o2,b2'⟩;have HB2:Hid (b2 = true ↔ D ≤ cntN n R):=hb2;have B2:Below w.heap.size w w2:=HB.out.trans (b2'.mono szr);have s2:=b2'.size;have HO2:Hid (Own w2 w.heap.size wr.heap.size u6 (4 * k) (decN D n R f)):=HO.out.below b2' (Nat.le_refl _);clear C hb2 b2'
      cases b2 with
      | false =>
        have HNO:Hid (¬ D ≤ cntN n R):=fun h => by have:=HB2.out.mpr h;cases this
        simp only [Bool.false_eq_true,if_false] at o2
        obtain ⟨ao2,cap2,rfl⟩:=o2.slice;clear o2 HB2;go_wp2
        go_ret2
        exact ⟨_,false,rfl,⟨fun h => (by cases h),fun h => absurd h HNO.out⟩,own_nil _ _ _ _,B2⟩
      | true =>
        have HYES:Hid (D ≤ cntN n R):=HB2.out.mp rfl
        simp only [if_pos] at o2
        obtain ⟨ao2,cap2,rfl⟩:=o2.slice;have HO3:Hid (Own w2 wr.heap.size w2.heap.size (.slice ao2 4 cap2) 4 (blockN D n R f k)):=o2
        have hm4:4 * k + 4 ≤ 1000000:=by omega
        have sw2:w.heap.size ≤ w2.heap.size:=by omega
        clear o2 HB2
        go_wp2_with (at_builtin;refine wp_appendX rfl (.tmp 25) (.tmp 26) rfl w.heap.size wr.heap.size u6 (4 * k) (decN D n R f) ?_ HO2.out w2.heap.size (.slice ao2 4 cap2) 4 (blockN D n R f k) ?_ HO3.out.rd (by omega) (fun i hi => decN_at D n R f k i hi) hm4 sw2 ?_;(simp [Act.eval]);(simp [Act.eval]);intro v5 w5 o5 g5)
        have R5:Below w.heap.size w w5:=B2.grown g5 sw2 (fun q hq => (HO2.out.1.lt q hq).1)
        have e4:4 * k + 4 = 4 * (k + 1):=by omega
        rw [e4] at o5;clear g5 HO2 HO3 HO HB;go_wp2
        go_roundw
        case rel => exact ⟨k + 1,by omega,by go_num,fun _ => HYES.out,o5,R5⟩
        case measure => simp [intOf];omega
    · obtain rfl:k = D:=by omega
      have HYES:Hid (k ≤ cntN n R):=hcnt (by omega);clear hcnt;go_wp2
      go_ret2
      exact ⟨_,true,rfl,⟨fun _ => HYES.out,fun _ => rfl⟩,by simp only [if_pos];exact hown,hb⟩
end Go.Proofs.YtaldlfoochmfcaaGreat
namespace Go.Proofs.YtaldlfoochmfcaaGreat
open Go.RowKit F256
theorem rowInBounds_any (d s:Int) (w:World) :
    Calls Tryz.prog 83 #[.int .i64 d,.int .i64 s] w (BoolP (Shp d s) w):=by
  by_cases h1:1 ≤ d
  · by_cases h2:d ≤ 3
    · by_cases h3:0 ≤ s
      · by_cases h4:s ≤ 2
        · go_enter Tryz.func83,Tryz.ntmps83
          go_wp2;go_ret;exact boolYes rfl ⟨by omega,by omega,by omega,by omega⟩ (Below.refl _ _)
        · have e4:decide (s ≤ 2) = false:=by simp;omega
          have H:Hid (¬ Shp d s):=fun h => h4 h.2.2.2;clear h4
          go_enter Tryz.func83,Tryz.ntmps83
          go_wp2;go_ret;exact boolNo rfl H.out (Below.refl _ _)
      · have e3:decide (0 ≤ s) = false:=by simp;omega
        have H:Hid (¬ Shp d s):=fun h => h3 h.2.2.1;clear h3
        go_enter Tryz.func83,Tryz.ntmps83
        go_wp2;go_ret;exact boolNo rfl H.out (Below.refl _ _)
    · have e2:decide (d ≤ 3) = false:=by simp;omega
      have H:Hid (¬ Shp d s):=fun h => h2 h.2.1;clear h2
      go_enter Tryz.func83,Tryz.ntmps83
      go_wp2;go_ret;exact boolNo rfl H.out (Below.refl _ _)
  · have e1:decide (1 ≤ d) = false:=by simp;omega
    have H:Hid (¬ Shp d s):=fun h => h1 h.1;clear h1
    go_enter Tryz.func83,Tryz.ntmps83
    go_wp2;go_ret;exact boolNo rfl H.out (Below.refl _ _)
def ThereP (R:Nat) (n:Nat → Nat) (N:Int):Prop:=(R:Int) = N ∧ ∀ i,i < R → n i = 0 ∨ n i = 4
theorem thereOrNot_any (v:Value) (R:Nat) (n:Nat → Nat) (f:Nat → Nat → Nat) (hi:Nat) (N:Int) (w:World) (r:RdM w hi v R n f) :
    Calls Tryz.prog 84 #[.int .i64 N,v] w (BoolP (ThereP R n N) w):=by
  obtain ⟨ao,cap,e,rfl,hm,hc,he⟩:=r;unfold maxLen at hm
  by_cases hN:(R:Int) = N
  · subst hN
    go_enter Tryz.func84,Tryz.ntmps84
    go_wp2
    go_loop [5,12] (fun _ i => ∃ k:Nat,k ≤ R ∧ i = .int .i64 k ∧ ∀ i,i < k → n i = 0 ∨ n i = 4) (fun _ i => R - (intOf i).toNat)
    case atStart => exact ⟨0,Nat.zero_le _,rfl,fun i hi => by omega⟩
    case round =>
      obtain ⟨k,hk,rfl,hall⟩:=hrel;have HALL:Hid (∀ i,i < k → n i = 0 ∨ n i = 4):=hall;clear hall
      by_cases hlt:k < R
      · obtain ⟨b,off,rfl,hblt,hcell⟩:=hc (by omega)
        have hck:w.cell? ⟨b,off + k,none⟩ = some (e k):=hcell k hlt;obtain ⟨aok,capk,hsk,hmk,hqk⟩:=he k hlt;unfold maxLen at hmk;rw [hsk] at hck;obtain ⟨nk,hnk⟩:∃ x,x = n k:=⟨_,rfl⟩;have HK:Hid (nk = n k):=hnk;rw [← hnk] at hck hmk;clear hc hcell he hsk hqk hnk
        by_cases heq:nk = 4
        · subst heq
          go_wp2
          go_round
          case rel => exact ⟨k + 1,by omega,by go_num,fun i hi => by
                        by_cases c:i = k
                        · right;rw [c,← HK.out]
                        · exact HALL.out i (by omega)⟩
          case measure => simp [intOf];omega
        · by_cases heq0:nk = 0
          · subst heq0
            clear heq;go_wp2
            go_round
            case rel => exact ⟨k + 1,by omega,by go_num,fun i hi => by
                          by_cases c:i = k
                          · left;rw [c,← HK.out]
                          · exact HALL.out i (by omega)⟩
            case measure => simp [intOf];omega
          · have tn:((nk:Int) != 4) = true:=by simp;omega
            have t0:((nk:Int) != 0) = true:=by simp;omega
            have H:Hid (¬ ThereP R n (R:Int)):=fun h => by
              have:=h.2 k hlt;rw [← HK.out] at this;omega
            clear heq heq0;go_wp2;go_ret;exact boolNo rfl H.out (Below.refl _ _)
      · have hkn:k = R:=by omega
        subst hkn;go_wp2;go_ret;exact boolYes rfl ⟨rfl,HALL.out⟩ (Below.refl _ _)
  · have tN:((R:Int) != N) = true:=by simp [hN]
    have H:Hid (¬ ThereP R n N):=fun h => hN h.1;clear hc he hN
    go_enter Tryz.func84,Tryz.ntmps84
    go_wp2;go_ret;exact boolNo rfl H.out (Below.refl _ _)
set_option maxHeartbeats 1000000 in
theorem factorsFrom_any (base n p F:Nat) (hF:F = 128 + base) (hb:base ≤ 64) (hn:n ≤ 16) (hp:p < n + 16) (w:World) :
    Calls Tryz.prog 149 #[.int .i64 F,.int .i64 n,.int .i64 p] w fun e w' => ∃ v',e = .returned v' ∧ Own w' w.heap.size w'.heap.size v' n (genN n p base) ∧ Below w.heap.size w w':=by
  by_cases hpn:p < n
  · have hd1:decide ((p:Int) < (n:Int)) = true:=by simp;omega
    go_enter Tryz.func149,Tryz.ntmps149
    have HG:Hid (∀ i,i < n → genN n p base i = if i = p then 1 else 0):=fun i hi => by simp [genN,show ¬ n ≤ p by omega]
    go_wp2_with (at_make;refine wp_makeB _ rfl _ _ rfl _ _ n rfl rfl rfl rfl (by omega) ?_;intro w1 hown1 hb1 hz1;have hco:w1.cell? ⟨w.heap.size,p,none⟩ = some (.int .u8 (0:Nat)):=(by have:=hown1.1.cellAt p (by omega);rw [this,cellsOf_get _ _ _ hpn]);have hfo:w1.frozen? ⟨w.heap.size,p,none⟩ = false:=hown1.1.frozenAt p)
    have R:=hown1.store p 1 hpn (g':=genN n p base) (fun i hi => HG.out i hi);have RB:Below w.heap.size w (w1.setCell ⟨w.heap.size,p,none⟩ (.int .u8 (1:Nat))):=hb1.setCell (Nat.le_refl _) _;go_ret;exact ⟨_,rfl,R.mono (by simp),RB⟩
  · have hd1:decide ((p:Int) < (n:Int)) = false:=by simp;omega
    have hd2:decide (p < n) = false:=by simp;omega
    obtain ⟨s,hs⟩:∃ s,p = n + s:=⟨p - n,by omega⟩
    have hs16:s < 16:=by omega
    obtain ⟨Q,hQ⟩:∃ Q,Q = F + s:=⟨_,rfl⟩
    have hQ2:Q ≤ 128 + 80:=by omega
    have HG:Hid (∀ i,genN n p base i = powN (Q ^^^ i) 254):=fun i => by
      simp only [genN,if_pos (show n ≤ p by omega)]
      rw [show 128 + (base + p - n) = Q by omega]
    have hadd:IntKind.i64.wrap ((F:Int) + (p:Int)) = (F:Int) + (p:Int):=by rw [IntKind.wrap_i64];omega
    have hsub:(F:Int) + (p:Int) - (n:Int) = (Q:Int):=by omega
    have HPS:Hid (p = n + s):=hs;clear hpn hs hF hQ
    go_enter Tryz.func149,Tryz.ntmps149
    go_wp2_with (at_make;refine wp_makeB _ rfl _ _ rfl _ _ n rfl rfl rfl rfl (by omega) ?_;intro w1 hown1 hb1 hz1)
    go_loopw [8,19] (fun _ i wr => ∃ k:Nat,k ≤ n ∧ i = .int .i64 k ∧ Own wr w.heap.size w1.heap.size (.slice (some ⟨w.heap.size,0,none⟩) n n) n (fun i => if i < k then genN n p base i else 0) ∧ Below w.heap.size w wr ∧ w1.heap.size ≤ wr.heap.size) (fun _ i _ => n - (intOf i).toNat)
    case atStart => exact ⟨0,Nat.zero_le _,rfl,hown1,hb1,Nat.le_refl _⟩
    case round =>
      clear hown1 hb1;obtain ⟨k,hk,rfl,hown,hbel,hz2⟩:=hrel
      by_cases hlt:k < n
      · obtain ⟨y,hy⟩:∃ y,y = Q ^^^ k:=⟨_,rfl⟩
        have hx:bits .xor .i64 (Q:Int) (k:Int) = (y:Int):=by rw [hy];exact i64_xor_nat Q k (by omega) (by omega)
        have hl:y < 256:=by rw [hy];exact xor_lt (by omega) (by omega)
        have HV:Hid (powN y 254 = genN n p base k):=by show powN y 254 = genN n p base k;rw [HG.out,hy]
        have HO:Hid (Own wr w.heap.size w1.heap.size (.slice (some ⟨w.heap.size,0,none⟩) n n) n (fun i => if i < k then genN n p base i else 0)):=hown;have szr:=hbel.size;have HBL:Hid (Below w.heap.size w wr):=hbel;clear hy hown hbel
        go_wp2_with fail
        refine (implInv_any y hl _).mono ?_;rintro e w2 ⟨rfl,hb2⟩;have hz3:=hb2.size;have hown2:=HO.out.below hb2 (by omega)
        have hco:w2.cell? ⟨w.heap.size,k,none⟩ = some (.int .u8 (0:Nat)):=by
          have:=hown2.1.cellAt k (by omega);rw [this,cellsOf_get _ _ _ hlt,if_neg (Nat.lt_irrefl k)]
        have hfo:w2.frozen? ⟨w.heap.size,k,none⟩ = false:=hown2.1.frozenAt k
        have RW:Own (w2.setCell ⟨w.heap.size,k,none⟩ (.int .u8 (powN y 254))) w.heap.size w1.heap.size (.slice (some ⟨w.heap.size,0,none⟩) n n) n (fun i => if i < k + 1 then genN n p base i else 0) :=
          hown2.store k _ hlt (fun i _ => by
            by_cases c1:i = k
            · subst c1;simp [HV.out]
            · by_cases c2:i < k
              · have c3:i < k + 1:=by omega
                simp [c1,c2,c3]
              · have c3:¬ i < k + 1:=by omega
                simp [c1,c2,c3])
        have RB:Below w.heap.size w (w2.setCell ⟨w.heap.size,k,none⟩ (.int .u8 (powN y 254))):=(HBL.out.trans (hb2.mono szr)).setCell (Nat.le_refl _) _
        have RS:w1.heap.size ≤ (w2.setCell ⟨w.heap.size,k,none⟩ (.int .u8 (powN y 254))).heap.size:=by simp;omega
        clear hown2 hb2 HO HBL;go_wp2
        go_roundw
        case rel => exact ⟨k + 1,by omega,by go_num,RW,RB,RS⟩
        case measure => simp [intOf];omega
      · have hkn:k = n:=by omega
        subst hkn;have h6:=hown.congr (g:=genN k p base) (fun i hi => by simp [hi]);clear hown;go_wp2;go_ret;exact ⟨_,rfl,h6.weaken (Nat.le_refl _) hz2,hbel⟩
theorem factorsAt_any (n p:Nat) (hn:n ≤ 16) (hp:p < n + 16) (w:World) :
    Calls Tryz.prog 140 #[.int .i64 n,.int .i64 p] w fun e w' => ∃ v',e = .returned v' ∧ Own w' w.heap.size w'.heap.size v' n (genN n p 0) ∧ Below w.heap.size w w':=by
  go_enter Tryz.func140,Tryz.ntmps140
  go_wp2_with fail
  refine (factorsFrom_any 0 n p 128 rfl (by omega) hn hp _).mono ?_;rintro e w1 ⟨v1,rfl,ho,hb⟩;obtain ⟨ao,cap,rfl⟩:=ho.slice;go_wp2;go_ret;exact ⟨_,rfl,ho,hb⟩
end Go.Proofs.YtaldlfoochmfcaaGreat
namespace Go.Proofs.YtaldlfoochmfcaaGreat
open Go.RowKit F256
theorem wp_makeI0 (w:World) {ops:Array Oper} {rest:List Oper} {o:Oper} {a:Act} {Q:Exit → Act → World → Prop}
    (hg:o.guard = none) (l c:Operand) (hop:o.op = Op.makeSlice 25 l c) (C:Int) (n:Nat) (hl:a.eval l = .int .i64 0) (hc:a.eval c = .int .i64 C) (hC:C = (n:Int)) (hn:n ≤ 1000000000)
    (hK:∀ w',(∀ f,OwnI w' w.heap.size w'.heap.size (.slice (some ⟨w.heap.size,0,none⟩) 0 n) 0 f) → Below w.heap.size w w' → w.heap.size < w'.heap.size → wpList Tryz.prog ops Q rest (a.put o.dst (.slice (some ⟨w.heap.size,0,none⟩) 0 n)) w') :
    wpList Tryz.prog ops Q (o :: rest) a w:=by
  obtain ⟨i0,hi0,hz0,hz1,hz2⟩:=info_parts info_i64;refine wpList_make_own w hg l c 25 hop w.heap.size 2 i0 (.int .i64 0) 1 Tryz.underlying25 hi0 hz0 hz1 .i64 .i64 C n hl hc hC (by rw [hz2];omega) (by unfold maxLen;omega) (Nat.le_refl _) ?_;intro w' hown hgrow;have hlt:=(hown.lt _ rfl).2;exact hK w' (fun f => ⟨hown,fun k hk => (hown.lt k hk).2⟩) (below_of_grown hgrow) hlt
def pickN (D:Nat) (n:Nat → Nat) (k:Nat):Nat:=if cntN n k < D then cntN n k else D
theorem pickN_zero (D:Nat) (n:Nat → Nat):pickN D n 0 = 0:=by
  have h0:cntN n 0 = 0:=rfl;unfold pickN;rw [h0]
  by_cases c:0 < D
  · rw [if_pos c]
  · rw [if_neg c];omega
theorem pickN_none {D:Nat} {n:Nat → Nat} {k:Nat} (h:n k = 0):pickN D n (k + 1) = pickN D n k:=by
  unfold pickN;rw [cntN,if_pos h]
theorem pickN_more {D:Nat} {n:Nat → Nat} {k:Nat} (h:n k ≠ 0) (hl:pickN D n k < D):pickN D n (k + 1) = pickN D n k + 1 ∧ pickN D n k = cntN n k:=by
  unfold pickN at hl ⊢;rw [cntN,if_neg h]
  by_cases c:cntN n k < D
  · rw [if_pos c]
    refine ⟨?_,rfl⟩
    split <;> omega
  · rw [if_neg c] at hl
    omega
theorem pickN_full {D:Nat} {n:Nat → Nat} {k:Nat} (hl:¬ pickN D n k < D):pickN D n (k + 1) = pickN D n k:=by
  unfold pickN at hl ⊢
  by_cases c:cntN n k < D
  · rw [if_pos c] at hl
    omega
  · have:=cntN_mono n (show k ≤ k + 1 by omega)
    rw [if_neg c,if_neg (by omega)]
theorem pickN_all {D:Nat} {n:Nat → Nat} {k:Nat} (h:D ≤ cntN n k):pickN D n k = D:=by
  unfold pickN;rw [if_neg (by omega)]
theorem pickN_few {D:Nat} {n:Nat → Nat} {k:Nat} (h:¬ D ≤ cntN n k):pickN D n k < D:=by
  unfold pickN;rw [if_pos (by omega)];omega
set_option maxHeartbeats 2000000 in
theorem firstThere_any (D:Nat) (v:Value) (R:Nat) (n:Nat → Nat) (f:Nat → Nat → Nat) (h1:Nat) (w:World) (r:RdM w h1 v R n f) (hh:h1 ≤ w.heap.size) (hD:D ≤ 1000) :
    Calls Tryz.prog 85 #[.int .i64 D,v] w fun e w' => ∃ v',e = .returned v' ∧ OwnI w' w.heap.size w'.heap.size v' (pickN D n R) (fun t => (nthN n R t:Int)) ∧ Below w.heap.size w w':=by
  obtain ⟨ao,cap,e,rfl,hm,hc,he⟩:=r;unfold maxLen at hm;have HHE:Hid (∀ i,i < R → Rd w h1 (e i) (n i) (f i)):=he;have HHC:Hid (R ≠ 0 → ∃ b off,ao = some ⟨b,off,none⟩ ∧ b < h1 ∧ ∀ i,i < R → w.cell? ⟨b,off + i,none⟩ = some (e i)):=hc;clear hc he
  go_enter Tryz.func85,Tryz.ntmps85
  go_wp2_with (at_make;refine wp_makeI0 _ rfl _ _ rfl _ D rfl rfl rfl (by omega) ?_;intro w1 hown1 hb1 hz1)
  have I0:=hown1 (fun t => (nthN n R t:Int));clear hown1
  go_loopw [5,11] (fun vh i wr => ∃ c k:Nat,k ≤ R ∧ i = .int .i64 k ∧ c = pickN D n k ∧ OwnI wr w.heap.size wr.heap.size vh c (fun t => (nthN n R t:Int)) ∧ Below w.heap.size w wr) (fun _ i _ => R - (intOf i).toNat)
  case atStart => exact ⟨0,0,Nat.zero_le _,rfl,(pickN_zero D n).symm,I0,hb1⟩
  case round =>
    clear I0 hb1 hz1;obtain ⟨c,k,hk,rfl,hck,hI,hb⟩:=hrel;have HCK:Hid (c = pickN D n k):=hck;have HI:Hid (OwnI wr w.heap.size wr.heap.size u5 c (fun t => (nthN n R t:Int))):=hI;have HB:Hid (Below w.heap.size w wr):=hb;obtain ⟨ao8,cap8,hs8⟩:=hI.slice;subst hs8;have szr:=hb.size
    have hcD:c ≤ D:=by
      rw [hck];unfold pickN
      split <;> omega
    clear hck
    by_cases hlt:k < R
    · obtain ⟨b,off,hao,hblt,hcell⟩:=HHC.out (by omega)
      subst hao;have c1:wr.cell? ⟨b,off + k,none⟩ = some (e k):=(hb.cell (p:=⟨b,off + k,none⟩) (by show b < w.heap.size;omega)).trans (hcell k hlt);obtain ⟨aok,capk,hsk,hmk,hqk⟩:=HHE.out k hlt;unfold maxLen at hmk;obtain ⟨nk,hnk⟩:∃ x,x = n k:=⟨_,rfl⟩;have HNK:Hid (nk = n k):=hnk;rw [hsk,← hnk] at c1;rw [← hnk] at hmk;clear hnk hsk hqk hcell hI hb
      by_cases e1:nk = 0
      · have HN0:Hid (nk = 0):=e1
        have t1:decide ((0:Int) < (nk:Int)) = false:=by simp;omega
        have t1n:decide (0 < nk) = false:=by simp;omega
        clear e1;go_wp2
        go_roundw
        case rel => exact ⟨c,k + 1,by omega,by go_num,by rw [pickN_none (by rw [← HNK.out];exact HN0.out)];exact HCK.out,HI.out,HB.out⟩
        case measure => simp [intOf];omega
      · have HN0:Hid (nk ≠ 0):=e1
        have t1:(0:Int) < (nk:Int):=by omega
        have t1n:decide (0 < nk) = true:=by simp;omega
        have hbw:b < w.heap.size:=by omega
        clear e1
        by_cases hcd:c < D
        · have t2:(c:Int) < (D:Int):=by omega
          have HPM:=pickN_more (D:=D) (n:=n) (k:=k) (by rw [← HNK.out];exact HN0.out) (by rw [← HCK.out];exact hcd)
          have HNT:Hid (nthN n R c = k):=by
            show nthN n R c = k
            rw [HCK.out,HPM.2];exact nthN_is hlt (by rw [← HNK.out];exact HN0.out)
          have HP1:Hid (pickN D n (k + 1) = c + 1):=by show pickN D n (k + 1) = c + 1;rw [HPM.1,← HCK.out]
          clear HPM
          go_wp2_with (at_builtin;refine wp_appendIt rfl (.tmp 26) (.tmp 28) rfl w.heap.size wr.heap.size (.slice ao8 c cap8) c (fun t => (nthN n R t:Int)) ?_ ?_ wr.heap.size 1 ?_ ?_ (by omega) ?_ ?_;(simp [Act.eval]);exact HI.out.alloc _;(simp [Act.eval]);(rw [HNT.out];simp);(simp;omega);intro v2 w2 o2 g2)
          have b2:Below w.heap.size wr w2:=((Below.refl w.heap.size wr).alloc szr _).grown g2 (by simp;omega) (fun q hq => (HI.out.1.lt q hq).1);have b5:Below w.heap.size w w2:=HB.out.trans b2;clear g2 b2 c1 HI HB;go_wp2
          go_roundw
          case rel => exact ⟨c + 1,k + 1,by omega,by go_num,HP1.out.symm,o2,b5⟩
          case measure => simp [intOf];omega
        · have t2:decide ((c:Int) < (D:Int)) = false:=by simp;omega
          have t2n:decide (c < D) = false:=by simp;omega
          have HP1:Hid (c = pickN D n (k + 1)):=by
            show c = pickN D n (k + 1)
            rw [pickN_full (by rw [← HCK.out];exact hcd)];exact HCK.out
          clear hcd;go_wp2
          go_roundw
          case rel => exact ⟨c,k + 1,by omega,by go_num,HP1.out,HI.out,HB.out⟩
          case measure => simp [intOf];omega
    · obtain rfl:k = R:=by omega
      have HI2:Hid (OwnI wr w.heap.size wr.heap.size (.slice ao8 c cap8) (pickN D n k) (fun t => (nthN n k t:Int))):=by
        show OwnI wr w.heap.size wr.heap.size (.slice ao8 c cap8) (pickN D n k) (fun t => (nthN n k t:Int))
        rw [← HCK.out];exact hI
      clear hI;go_wp2;go_ret;exact ⟨_,rfl,HI2.out,hb⟩
end Go.Proofs.YtaldlfoochmfcaaGreat
namespace Go.Proofs.YtaldlfoochmfcaaGreat
open F256
theorem Sol.to_swap {R r a:Nat} {M:Mat} {x:Nat → Nat} (hr:r < R) (ha:a < R) (h:Sol R M x):Sol R (swapM M r a) x:=fun i hi => by
  unfold swapM
  split
  · exact h a ha
  · split
    · exact h r hr
    · exact h i hi
theorem Sol.to_scale {R r c:Nat} {M:Mat} {x:Nat → Nat} (kM:Byt M) (kx:∀ j,x j < 256) (h:Sol R M x):Sol R (scaleM M r c) x:=fun i hi => by
  by_cases e:i = r
  · subst e
    simp only [scaleM,if_pos]
    rw [dotN_scale (powN_lt _) (kM i) kx,h i hi]
  · simp only [scaleM,if_neg e]
    exact h i hi
theorem Sol.to_clear {R r c:Nat} {M:Mat} {x:Nat → Nat} (kM:Byt M) (kx:∀ j,x j < 256) (hr:r < R) (h:Sol R M x):Sol R (clearM M r c R) x:=fun i hi => by
  by_cases e:i < R ∧ i ≠ r
  · simp only [clearM,if_pos e]
    rw [dotN_add (kM i) (fun j => mulN_lt (kM i c)),dotN_scale (kM i c) (kM r) kx,h i hi,h r hr]
  · simp only [clearM,if_neg e]
    exact h i hi
theorem Sol.to_step {R c:Nat} {s:Mat × Nat} {x:Nat → Nat} (kM:Byt s.1) (kx:∀ j,x j < 256) (hr:s.2 ≤ R) (h:Sol R s.1 x):Sol R (stepM R s c).1 x:=by
  have hl:=lead_is s.1 c R s.2 hr;unfold stepM
  by_cases e:lead s.1 c R s.2 = R
  · rw [if_pos e];exact h
  · rw [if_neg e]
    have h1:=hl.1;have h2:=hl.2.1
    have hrR:s.2 < R:=by omega
    have k1:=swapM_byt kM s.2 (lead s.1 c R s.2);exact Sol.to_clear (scaleM_byt k1 s.2 c) kx hrR (Sol.to_scale k1 kx (Sol.to_swap hrR (by omega) h))
theorem Sol.to_gauss {R:Nat} {M:Mat} {x:Nat → Nat} (kM:Byt M) (kx:∀ j,x j < 256) (h:Sol R M x):∀ k,Sol R (gaussM R M k).1 x
  | 0 => h
  | k + 1 => Sol.to_step (gaussM_byt kM k) kx (gaussM_le k).1 (Sol.to_gauss kM kx h k)
theorem gaussM_only {R:Nat} {M:Mat} {x:Nat → Nat} (kM:Byt M) (kx:∀ j,x j < 256) (hf:(gaussM R M R).2 = R) (h:Sol R M x) (i:Nat) (hi:i < R):(gaussM R M R).1 i R = x i:=by
  have h1:=Sol.to_gauss kM kx h R i hi;have u:=gaussM_unit kM R (Nat.le_refl _) hf;rw [dotN_unit (i:=i) kx R (fun j hj => u i j hi hj),if_pos hi] at h1;exact h1.symm
theorem weights_unit {n base k0:Nat} {hv:Nat → Nat} (hk:k0 < n) (hfull:(gaussM n (aug n (wtM n base hv) (genN n (hv k0) base)) n).2 = n) (i:Nat) (hi:i < n) :
    weightsN n base hv (hv k0) i = if i = k0 then 1 else 0:=by
  refine gaussM_only (x:=fun i => if i = k0 then 1 else 0) (aug_byt (wtM_byt n base hv) (genN_lt n (hv k0) base)) (fun j => by show (if j = k0 then 1 else 0) < 256;split <;> omega) hfull (fun i hi => ?_) i hi
  have h1:aug n (wtM n base hv) (genN n (hv k0) base) i n = genN n (hv k0) base i:=by simp [aug]
  have kA:∀ j,aug n (wtM n base hv) (genN n (hv k0) base) i j < 256:=fun j => aug_byt (wtM_byt n base hv) (genN_lt n (hv k0) base) i j
  have ku:∀ j,(fun i => if i = k0 then 1 else 0:Nat → Nat) j < 256:=fun j => by show (if j = k0 then 1 else 0) < 256;split <;> omega
  rw [h1,dotN_swap kA ku,dotN_unit (i:=k0) kA n (fun j _ => by
    show (if j = k0 then 1 else 0) = if k0 = j then 1 else 0
    by_cases e:j = k0
    · rw [if_pos e,if_pos e.symm]
    · rw [if_neg e,if_neg (fun h => e h.symm)]),if_pos hk]
  simp [aug,hk,wtM]
end Go.Proofs.YtaldlfoochmfcaaGreat
namespace Go.Proofs.YtaldlfoochmfcaaGreat
open Go.RowKit F256
theorem OwnE.congr {w:World} {lo hi:Nat} {v:Value} {R:Nat} {n:Nat → Nat} {M M':Mat} {g cap:Nat} {e:Nat → Value} (h:OwnE w lo hi v R n M g cap e) (hM:∀ i j,i < R → j < n i → M i j = M' i j):OwnE w lo hi v R n M' g cap e :=
  ⟨h.val,h.low,h.high,h.row,fun i hi => (h.each i hi).congr (fun j hj => hM i j hi hj),h.apart⟩
def wayW (D:Nat) (hv:Nat → Nat) (k m:Nat):Mat:=fun i j => if j < k ∨ (j = k ∧ i < m) then wtM D 0 hv i j else 0
theorem OwnE.byte {w:World} {lo hi:Nat} {v:Value} {R C:Nat} {M M':Mat} {g cap:Nat} {e:Nat → Value} (h:OwnE w lo hi v R (fun _ => C) M g cap e) (i k x gi ci:Nat) (hi':i < R) (hk:k < C) (he:e i = .slice (some ⟨gi,0,none⟩) C ci)
    (hM:∀ a b,a < R → b < C → M' a b = if a = i ∧ b = k then x else M a b) (hlh:lo ≤ hi):OwnE (w.setCell ⟨gi,k,none⟩ (.int .u8 x)) lo hi v R (fun _ => C) M' g cap e:=by
  have ho:=h.each i hi';have ho2:=ho;rw [he] at ho
  have hM2:∀ a b,a < R → b < C → (fun a b => if a = i then M' a b else M a b) a b = M' a b:=fun a b ha hb => by
    show (if a = i then M' a b else M a b) = M' a b
    by_cases c:a = i
    · rw [if_pos c]
    · rw [if_neg c,hM a b ha hb,if_neg (fun hh => c hh.1)]
  refine OwnE.congr (M:=fun a b => if a = i then M' a b else M a b) (OwnE.upd h i hi' ?_ ?_ (fun j _ hj => by funext b;show (if j = i then M' j b else M j b) = M j b;rw [if_neg hj])) (fun a b ha hb => hM2 a b ha hb)
  · have t1:tlo (e i) lo = gi:=by rw [he];rfl
    have t2:thi (e i) lo = gi + 1:=by rw [he];rfl
    rw [t1,t2];exact (out_store w gi (gi + 1) gi k _ (Nat.le_refl _) (Nat.lt_succ_self _)).chg
  · rw [he]
    exact ho.store k x hk (fun b hb => by
      show (if i = i then M' i b else M i b) = _
      rw [if_pos rfl,hM i b hi' hb]
      by_cases c:b = k
      · rw [if_pos ⟨rfl,c⟩,if_pos c]
      · rw [if_neg (fun hh => c hh.2),if_neg c])
theorem fieldB1 (x:Int) (v:Value) (w:World):(Instr.field 32 (.agg #[.int .i64 x,v]) 1).run Tryz.prog w = .ok v w:=by kernel_rfl
set_option maxHeartbeats 4000000 in
theorem weightsOf_any (D want:Nat) (vh:Value) (hv:Nat → Nat) (h1:Nat) (w:World) (rh:RdI w h1 vh D (fun i => (hv i:Int))) (hh:h1 ≤ w.heap.size) (hD1:1 ≤ D) (hD:D ≤ 3) (hb:∀ k,k < D → hv k < D + 2) (hr:∀ k,k + 1 < D → hv k < hv (k + 1)) (hw:want < D + 2) :
    Calls Tryz.prog 128 #[.int .i64 D,vh,.int .i64 want] w fun e w' => ∃ v',e = .returned v' ∧ Own w' w.heap.size w'.heap.size v' D (weightsN D 0 hv want) ∧ Below w.heap.size w w':=by
  obtain ⟨aoh,caph,rfl,hmm,hch⟩:=rh;obtain ⟨bh,oh,rfl,hbh,hcell⟩:=hch (by omega);have HC:Hid (∀ i,i < D → w.cell? ⟨bh,oh + i,none⟩ = some (.int .i64 (hv i:Int))):=hcell;have HBD:Hid (∀ k,k < D → hv k < D + 2):=hb;have HFULL:Hid ((gaussM D (aug D (wtM D 0 hv) (genN D want 0)) D).2 = D):=row_full D hD1 hD hv (genN D want 0) hb hr
  have hbw:bh < w.heap.size:=by omega
  clear hch hcell hb hr hmm
  go_enter Tryz.func128,Tryz.ntmps128
  go_wp2_with (at_make;refine wp_makeM _ rfl _ _ rfl _ _ D rfl rfl rfl rfl (by omega) ?_;intro w1 hown1 hb1 hz1)
  go_loopw [15] (fun i wr => ∃ k:Nat,k ≤ D ∧ i = .int .i64 k ∧ ∃ e',Cpy w wr D k (fun _ => D) (wayW D hv 0 0) e' ∧ ∀ i,i < k → ∃ gi ci,e' i = .slice (some ⟨gi,0,none⟩) D ci) (fun i _ => D - (intOf i).toNat)
  case atStart => exact ⟨0,Nat.zero_le _,rfl,fun _ => nilS,⟨by rw [valsOf_eq (g:=fun _ => nilS) (fun i hi => by simp)];exact hown1,fun i hi => by omega,⟨fun i hi => by omega,fun i j hi => by omega⟩,hb1,hz1⟩,fun i hi => by omega⟩
  case round =>
    clear hown1 hb1 hz1;obtain ⟨k,hk,rfl,e',hcp,hsl⟩:=hrel
    by_cases hlt:k < D
    · have HSL:Hid (∀ i,i < k → ∃ gi ci,e' i = .slice (some ⟨gi,0,none⟩) D ci):=hsl
      have HCP:Hid (Cpy w wr D k (fun _ => D) (wayW D hv 0 0) e'):=hcp;have hl:=hcp.lt;clear hsl hcp
      go_wp2_with (at_make;refine wp_makeB _ rfl _ _ rfl _ _ D rfl rfl rfl rfl (by omega) ?_;intro w2 ho2 hb2 hz2;have q1:w2.cell? ⟨w.heap.size,k,none⟩ = some nilS:=(by rw [hb2.cell (p:=⟨w.heap.size,k,none⟩) hl,HCP.out.row.cellAt k (by omega),valsOf_get _ _ _ hlt,if_neg (Nat.lt_irrefl k)]);have q2:w2.frozen? ⟨w.heap.size,k,none⟩ = false:=(hb2.frozen (p:=⟨w.heap.size,k,none⟩) hl).trans (HCP.out.row.frozenAt k))
      have N:=HCP.out.next hlt hb2 (ho2.congr (g:=wayW D hv 0 0 k) (fun i hi => by simp [wayW]))
      have NS:∀ i,i < k + 1 → ∃ gi ci,(fun i => if i = k then Value.slice (some ⟨wr.heap.size,0,none⟩) D D else e' i) i = .slice (some ⟨gi,0,none⟩) D ci:=fun i hi => by
        show ∃ gi ci,(if i = k then Value.slice (some ⟨wr.heap.size,0,none⟩) D D else e' i) = .slice (some ⟨gi,0,none⟩) D ci
        by_cases c:i = k
        · exact ⟨_,_,by rw [if_pos c]⟩
        · rw [if_neg c]
          exact HSL.out i (by omega)
      clear HCP HSL hb2 ho2 q1 q2
      go_roundw
      case rel => exact ⟨k + 1,by omega,by go_num,_,N,NS⟩
      case measure => simp [intOf];omega
    · obtain rfl:k = D:=by omega
      have E0:OwnE wr w.heap.size wr.heap.size (.slice (some ⟨w.heap.size,0,none⟩) k k) k (fun _ => k) (wayW k hv 0 0) w.heap.size k e':=by
        have hrr:=hcp.row;rw [valsOf_eq (g:=e') (fun i hi => by simp [hi])] at hrr;exact ⟨rfl,Nat.le_refl _,hcp.lt,hrr,fun i hi => (hcp.each i hi).weaken (by omega) (Nat.le_refl _),hcp.apart⟩
      have HSL:Hid (∀ i,i < k → ∃ gi ci,e' i = .slice (some ⟨gi,0,none⟩) k ci):=hsl;have B0:Below w.heap.size w wr:=hcp.bel;obtain ⟨wA,hwA⟩:∃ wA,wA = wr:=⟨_,rfl⟩;rw [← hwA] at E0 B0 ⊢;have hzA:w.heap.size < wA.heap.size:=E0.high;clear hcp hsl hwA;go_wp2
      go_loopw [25] (fun i wr => ∃ c:Nat,c ≤ k ∧ i = .int .i64 c ∧ OwnE wr w.heap.size wA.heap.size (.slice (some ⟨w.heap.size,0,none⟩) k k) k (fun _ => k) (wayW k hv c 0) w.heap.size k e' ∧ Below w.heap.size w wr ∧ wA.heap.size ≤ wr.heap.size) (fun i _ => k - (intOf i).toNat)
      case atStart => exact ⟨0,Nat.zero_le _,rfl,E0,B0,Nat.le_refl _⟩
      case round =>
        clear E0 B0;obtain ⟨c,hc,rfl,hE,hbel,hsz⟩:=hrel
        by_cases hck:c < k
        · have ck:wr.cell? ⟨bh,oh + c,none⟩ = some (.int .i64 (hv c:Int)):=(hbel.cell (p:=⟨bh,oh + c,none⟩) hbw).trans (HC.out c hck)
          have C:=factorsAt_any k (hv c) (by omega) (by have:=HBD.out c hck;omega) wr;obtain ⟨p,hp⟩:∃ p,p = hv c:=⟨_,rfl⟩;have HP:Hid (p = hv c):=hp;rw [← hp] at ck C;have HE:Hid (OwnE wr w.heap.size wA.heap.size (.slice (some ⟨w.heap.size,0,none⟩) k k) k (fun _ => k) (wayW k hv c 0) w.heap.size k e'):=hE;have HBL:Hid (Below w.heap.size w wr):=hbel;obtain ⟨wk,hwk⟩:∃ wk,wk = wr:=⟨_,rfl⟩;rw [← hwk] at ck C HE HBL hsz ⊢;clear hp hE hbel hwk
          go_wp2_with fail
          refine C.mono ?_;rintro ee w6 ⟨v6,rfl,o6,b6⟩;obtain ⟨gv,capv,hgv,h61,h62,h63,h64⟩:=o6.form (by omega);subst hgv;have E6:=HE.out.below b6 hsz;have s6:=b6.size;have B6:Below w.heap.size w w6:=HBL.out.trans (b6.mono HBL.out.size);clear C ck b6 HE HBL;go_wp2
          go_loopw [35] (fun i wr => ∃ m:Nat,m ≤ k ∧ i = .int .i64 m ∧ OwnE wr w.heap.size wA.heap.size (.slice (some ⟨w.heap.size,0,none⟩) k k) k (fun _ => k) (wayW k hv c m) w.heap.size k e' ∧ Own wr wk.heap.size w6.heap.size (.slice (some ⟨gv,0,none⟩) k capv) k (genN k p 0) ∧ Below w.heap.size w wr ∧ w6.heap.size ≤ wr.heap.size) (fun i _ => k - (intOf i).toNat)
          case atStart => exact ⟨0,Nat.zero_le _,rfl,E6,o6,B6,Nat.le_refl _⟩
          case round =>
            clear E6 o6 B6;obtain ⟨m,hm,rfl,hE,ho,hbel,hsz6⟩:=hrel
            by_cases hmk:m < k
            · obtain ⟨gi,ci,hei⟩:=HSL.out m hmk
              have om:=hE.each m hmk
              have c1:wr.cell? ⟨w.heap.size,m,none⟩ = some (.slice (some ⟨gi,0,none⟩) k ci):=by rw [← hei];exact hE.cell m hmk
              have c2:wr.cell? ⟨gv,m,none⟩ = some (.int .u8 (genN k p 0 m)):=(ho.1.cellAt m (by omega)).trans (cellsOf_get _ _ _ hmk);rw [hei] at om;have hgi:=om.1.lt gi rfl;have hgi2:=om.2 gi rfl;have c3:wr.cell? ⟨gi,c,none⟩ = some (.int .u8 (wayW k hv c m m c)):=(om.1.cellAt c (by omega)).trans (cellsOf_get _ _ _ hck);have c4:wr.frozen? ⟨gi,c,none⟩ = false:=om.1.frozenAt c;obtain ⟨y,hy⟩:∃ y,y = genN k p 0 m:=⟨_,rfl⟩;obtain ⟨y3,hy3⟩:∃ y,y = wayW k hv c m m c:=⟨_,rfl⟩;rw [← hy] at c2;rw [← hy3] at c3
              have EN:OwnE (wr.setCell ⟨gi,c,none⟩ (.int .u8 y)) w.heap.size wA.heap.size (.slice (some ⟨w.heap.size,0,none⟩) k k) k (fun _ => k) (wayW k hv c (m + 1)) w.heap.size k e':=hE.byte m c y gi ci hmk hck hei (fun a b ha hb => by
                unfold wayW
                by_cases cc:a = m ∧ b = c
                · obtain ⟨rfl,rfl⟩:=cc
                  rw [if_pos (show b < b ∨ (b = b ∧ a < a + 1) from .inr ⟨rfl,by omega⟩),if_pos (show a = a ∧ b = b from ⟨rfl,rfl⟩),hy,HP.out];rfl
                · rw [if_neg cc]
                  by_cases c5:b < c ∨ (b = c ∧ a < m)
                  · rw [if_pos c5,if_pos (by omega)]
                  · rw [if_neg c5,if_neg (by omega)]) (Nat.le_of_lt hzA)
              have ON:Own (wr.setCell ⟨gi,c,none⟩ (.int .u8 y)) wk.heap.size w6.heap.size (.slice (some ⟨gv,0,none⟩) k capv) k (genN k p 0):=ho.out (out_store wr w.heap.size wA.heap.size gi c _ hgi.1 hgi2) (.inr hsz);have BN:Below w.heap.size w (wr.setCell ⟨gi,c,none⟩ (.int .u8 y)):=hbel.setCell hgi.1 _
              have SN:w6.heap.size ≤ (wr.setCell ⟨gi,c,none⟩ (.int .u8 y)).heap.size:=by simpa using hsz6
              clear hE ho hbel om hei hy hy3;go_wp2
              go_region
              all_goals
                go_wp2
                go_roundw
                case rel => exact ⟨m + 1,by omega,by go_num,by first | exact EN | exact EN.drewN 1,ON,by first | exact BN | exact below_drewN BN 1,SN⟩
                case measure => simp [intOf];omega
            · obtain rfl:m = k:=by omega
              have E9:=hE.congr (M':=wayW m hv (c + 1) 0) (fun a b ha hb => by
                unfold wayW
                by_cases c5:b < c ∨ (b = c ∧ a < m)
                · rw [if_pos c5,if_pos (by omega)]
                · rw [if_neg c5,if_neg (by omega)])
              clear hE ho;go_wp2
              go_roundw
              case rel => exact ⟨c + 1,by omega,by go_num,E9,hbel,by omega⟩
              case measure => simp [intOf];omega
        · obtain rfl:c = k:=by omega
          have C:=factorsAt_any c want (by omega) (by omega) wr;have EF:=hE.congr (M':=wtM c 0 hv) (fun a b ha hb => by unfold wayW;rw [if_pos (.inl hb)]);have HE:Hid (OwnE wr w.heap.size wA.heap.size (.slice (some ⟨w.heap.size,0,none⟩) c c) c (fun _ => c) (wtM c 0 hv) w.heap.size c e'):=EF;have HBL:Hid (Below w.heap.size w wr):=hbel;clear hE hbel EF
          go_wp2_with fail
          refine C.mono ?_;rintro ee w6 ⟨v6,rfl,o6,b6⟩;have B6:Below w.heap.size w w6:=HBL.out.trans (b6.mono HBL.out.size);have E6:=HE.out.below b6 hsz;have CS:=implSolve_any _ _ c c (fun _ => c) (wtM c 0 hv) (genN c want 0) w.heap.size wA.heap.size wr.heap.size w6.heap.size w6 ⟨_,_,_,E6⟩ o6 (Nat.le_trans hsz b6.size) (Nat.le_refl _) (wtM_byt c 0 hv) (genN_lt c want 0);obtain ⟨ao6,cap6,rfl⟩:=o6.slice;have s6:=B6.size;clear C o6 b6 E6 HE HBL
          go_wp2_with fail
          refine CS.mono ?_;rintro ee w7 ⟨x7,v7,rfl,ha7,o7,b7⟩
          have hx7:x7 = 0:=by
            rcases ha7 with ⟨_,h⟩ | ⟨_,_,h⟩ | ⟨_,_,_,_,⟨_,h⟩ | ⟨h,_⟩⟩
            · omega
            · rcases h with h | h | ⟨i,_,h⟩
              · omega
              · exact absurd rfl h
              · exact absurd rfl h
            · have:=HFULL.out;omega
            · exact h
          subst hx7
          simp only [if_pos] at o7
          obtain ⟨ao7,cap7,rfl⟩:=o7.slice;have HO7:Hid (Own w7 w6.heap.size w7.heap.size (.slice ao7 c cap7) c (weightsN c 0 hv want)):=o7;have B7:Below w.heap.size w w7:=B6.trans (b7.mono s6);unfold bytesR;have hfd:=fieldB1 0 (.slice ao7 c cap7);clear ha7 o7 b7 CS B6;go_wp2;go_ret;exact ⟨_,rfl,HO7.out.weaken s6 (Nat.le_refl _),B7⟩
end Go.Proofs.YtaldlfoochmfcaaGreat
namespace Go.Proofs.YtaldlfoochmfcaaGreat
open Go.RowKit F256
theorem mixN_unit {f:Mat} {c:Nat → Nat} {t0 j:Nat} (kf:Byt f):∀ k,(∀ i,i < k → c i = if i = t0 then 1 else 0) → mixN f c k j = if t0 < k then f t0 j else 0
  | 0,_ => rfl
  | k + 1,h => by
    rw [mixN,mixN_unit kf k (fun i hi => h i (by omega)),h k (by omega)]
    by_cases e:k = t0
    · subst e
      rw [if_pos rfl,if_neg (Nat.lt_irrefl k),if_pos (Nat.lt_succ_self k),one_mulN (kf k j),Nat.zero_xor]
    · rw [if_neg e,zero_mulN (kf k j),Nat.xor_zero]
      by_cases c2:t0 < k
      · rw [if_pos c2,if_pos (by omega)]
      · rw [if_neg c2,if_neg (by omega)]
theorem picked {D R:Nat} {n:Nat → Nat} (hc:D ≤ cntN n R) (h4:∀ i,i < R → n i = 0 ∨ n i = 4):(∀ t,t < D → nthN n R t < R ∧ n (nthN n R t) = 4) ∧ ∀ t,t + 1 < D → nthN n R t < nthN n R (t + 1):=by
  refine ⟨fun t ht => ?_,fun t ht => nthN_rise (by omega)⟩;have q:=nthN_spec (n:=n) (R:=R) (k:=t) (by omega);refine ⟨q.1,?_⟩
  rcases h4 _ q.1 with e0 | e0
  · exact absurd e0 q.2.1
  · exact e0
theorem blockN_is {D R:Nat} {n:Nat → Nat} {f:Mat} {t0:Nat} (hD1:1 ≤ D) (hD:D ≤ 3) (hR:R ≤ D + 2) (hc:D ≤ cntN n R) (h4:∀ i,i < R → n i = 0 ∨ n i = 4) (kf:Byt f) (ht:t0 < D) (j:Nat):blockN D n R f (nthN n R t0) j = f (nthN n R t0) j:=by
  obtain ⟨p1,p2⟩:=picked hc h4;unfold blockN;rw [mixN_unit (t0:=t0) (fun i j => kf _ _) D (fun i hi => weights_unit ht (row_full D hD1 hD (nthN n R) _ (fun t ht => by have:=(p1 t ht).1;omega) p2) i hi),if_pos ht]
set_option maxHeartbeats 4000000 in
theorem blockFrom_any (D want:Nat) (v vh:Value) (R:Nat) (n:Nat → Nat) (f:Mat) (h1 h2:Nat) (w:World) (r:RdM w h1 v R n f) (rh:RdI w h2 vh D (fun t => (nthN n R t:Int))) (hh:h1 ≤ w.heap.size) (hh2:h2 ≤ w.heap.size) (hD1:1 ≤ D) (hD:D ≤ 3) (hR:R ≤ D + 2) (hw:want < D + 2) (hcnt:D ≤ cntN n R) (h4:∀ i,i < R → n i = 0 ∨ n i = 4) (kf:Byt f) :
    Calls Tryz.prog 110 #[.int .i64 D,v,vh,.int .i64 want] w fun e w' => ∃ v',e = .returned v' ∧ Own w' w.heap.size w'.heap.size v' 4 (blockN D n R f want) ∧ Below w.heap.size w w':=by
  have CC:=contains_any vh D (fun t => (nthN n R t:Int)) h2 (want:Int) w rh;have HRH:Hid (RdI w h2 vh D (fun t => (nthN n R t:Int))):=rh;obtain ⟨aoh,caph,rfl,hmh,hch⟩:=rh;have HCH:Hid (D ≠ 0 → ∃ b off,aoh = some ⟨b,off,none⟩ ∧ b < h2 ∧ ∀ i,i < D → w.cell? ⟨b,off + i,none⟩ = some (.int .i64 (nthN n R i:Int))):=hch;obtain ⟨p1,p2⟩:=picked hcnt h4;have HP1:Hid (∀ t,t < D → nthN n R t < R ∧ n (nthN n R t) = 4):=p1;have HP2:Hid (∀ t,t + 1 < D → nthN n R t < nthN n R (t + 1)):=p2;have HIS:Hid (∀ t0,t0 < D → ∀ j,blockN D n R f (nthN n R t0) j = f (nthN n R t0) j):=fun t0 ht j => blockN_is hD1 hD hR hcnt h4 kf ht j;obtain ⟨ao,cap,e,rfl,hm,hc,he⟩:=r;obtain ⟨b,off,rfl,hblt,hcell⟩:=hc (by have:=(p1 0 (by omega)).1;omega);have HHE:Hid (∀ i,i < R → Rd w h1 (e i) (n i) (f i)):=he;have HHC:Hid (∀ i,i < R → w.cell? ⟨b,off + i,none⟩ = some (e i)):=hcell
  have hbw:b < w.heap.size:=by omega
  unfold maxLen at hm;clear hc he hcell p1 p2 hch hmh hcnt h4
  by_cases hin:∃ t,t < D ∧ (nthN n R t:Int) = (want:Int)
  · have HIN:Hid (∃ t,t < D ∧ (nthN n R t:Int) = (want:Int)):=hin
    obtain ⟨t0,ht0,het⟩:=hin
    have hwt:nthN n R t0 = want:=by omega
    have q1:=HP1.out t0 ht0;rw [hwt] at q1;have q2:=HIS.out t0 ht0;rw [hwt] at q2;have HQ2:Hid (∀ j,blockN D n R f want j = f want j):=q2;have hwR:want < R:=q1.1;have c1:w.cell? ⟨b,off + want,none⟩ = some (e want):=HHC.out want hwR;have r1:=HHE.out want hwR;rw [q1.2] at r1;obtain ⟨x,hx⟩:∃ x,x = e want:=⟨_,rfl⟩;rw [← hx] at c1 r1;have HRX:Hid (Rd w h1 x 4 (f want)):=r1;obtain ⟨aox,capx,hxs,_,_⟩:=r1;subst hxs;clear hx q1 q2 hwt het
    go_enter Tryz.func110,Tryz.ntmps110
    go_wp2_with fail
    refine CC.mono ?_;rintro e0 w1 ⟨b1,rfl,hb1,B1⟩;obtain rfl:b1 = true:=hb1.mpr HIN.out;have c2:w1.cell? ⟨b,off + want,none⟩ = some (.slice aox 4 capx):=(B1.cell (p:=⟨b,off + want,none⟩) hbw).trans c1;have CJ:=joined_nil (.slice aox 4 capx) (.slice none 0 0) 4 (f want) (fun _ => 0) h1 h1 w1 (HRX.out.below B1 hh) ⟨_,_,rfl,Nat.zero_le _,fun h => absurd rfl h⟩ (Nat.le_trans hh B1.size) (by omega);have HB1:Hid (Below w.heap.size w w1):=B1;clear hb1 CC B1 c1
    go_wp2_with fail
    refine CJ.mono ?_;rintro e0 w2 ⟨v2,rfl,o2,b2⟩;have HO2:Hid (Own w2 w1.heap.size w2.heap.size v2 4 (f want)):=o2;obtain ⟨ao2,cap2,rfl⟩:=o2.slice;have B2:Below w.heap.size w w2:=HB1.out.trans (b2.mono HB1.out.size);clear CJ o2 b2;go_wp2;go_ret;exact ⟨_,rfl,(HO2.out.congr (fun j _ => (HQ2.out j).symm)).weaken HB1.out.size (Nat.le_refl _),B2⟩
  · have HIN:Hid (¬ ∃ t,t < D ∧ (nthN n R t:Int) = (want:Int)):=hin
    clear hin HIS;obtain ⟨bh,oh,hao,hbh,hch⟩:=HCH.out (by omega);subst hao;have HCI:Hid (∀ i,i < D → w.cell? ⟨bh,oh + i,none⟩ = some (.int .i64 (nthN n R i:Int))):=hch
    have hbhw:bh < w.heap.size:=by omega
    have CWf:=fun (w1:World) (b1:Below w.heap.size w w1) => weightsOf_any D want _ (nthN n R) h2 w1 (HRH.out.below b1 hh2) (Nat.le_trans hh2 b1.size) hD1 hD (fun t ht => by have:=(HP1.out t ht).1;omega) HP2.out hw;have HCW:Hid (∀ (w1:World),Below w.heap.size w w1 → Calls Tryz.prog 128 #[.int .i64 D,.slice (some ⟨bh,oh,none⟩) D caph,.int .i64 want] w1 fun e w' => ∃ v',e = .returned v' ∧ Own w' w1.heap.size w'.heap.size v' D (weightsN D 0 (nthN n R) want) ∧ Below w1.heap.size w1 w'):=CWf;clear hch HCH CWf
    go_enter Tryz.func110,Tryz.ntmps110
    go_wp2_with fail
    refine CC.mono ?_;rintro e0 w1 ⟨b1,rfl,hb1,B1⟩
    obtain rfl:b1 = false:=by
      cases b1 with
      | false => rfl
      | true => exact absurd (hb1.mp rfl) HIN.out
    have CW:=HCW.out w1 B1;have HB1:Hid (Below w.heap.size w w1):=B1;clear hb1 CC B1 HCW
    go_wp2_with fail
    refine CW.mono ?_;rintro e0 w5 ⟨v5,rfl,o5,b5⟩;obtain ⟨gv,capv,hgv,h51,h52,h53,h54⟩:=o5.form (by omega);subst hgv;have B5:Below w.heap.size w w5:=HB1.out.trans (b5.mono HB1.out.size);have O5:Own w5 w.heap.size w5.heap.size (.slice (some ⟨gv,0,none⟩) D capv) D (weightsN D 0 (nthN n R) want):=o5.weaken HB1.out.size (Nat.le_refl _);clear CW o5 b5 HB1
    go_wp2_with (at_make;refine wp_makeB _ rfl _ _ rfl _ _ 4 rfl rfl rfl rfl (by omega) ?_;intro w6 o6 b6 hz6)
    have B6:Below w.heap.size w w6:=B5.trans (b6.mono B5.size);have O56:=O5.below b6 (Nat.le_refl _);have s5:=B5.size;clear O5 b6 B5
    go_loopw [26] (fun i wr => ∃ k:Nat,k ≤ D ∧ i = .int .i64 k ∧ Own wr w5.heap.size w6.heap.size (.slice (some ⟨w5.heap.size,0,none⟩) 4 4) 4 (mixN (fun t => f (nthN n R t)) (weightsN D 0 (nthN n R) want) k) ∧ Own wr w.heap.size w5.heap.size (.slice (some ⟨gv,0,none⟩) D capv) D (weightsN D 0 (nthN n R) want) ∧ Below w.heap.size w wr ∧ w6.heap.size ≤ wr.heap.size) (fun i _ => D - (intOf i).toNat)
    case atStart => exact ⟨0,Nat.zero_le _,rfl,o6,O56,B6,Nat.le_refl _⟩
    case round =>
      clear o6 O56 B6;obtain ⟨k,hk,rfl,hO,hW,hbel,hsz⟩:=hrel
      by_cases hlt:k < D
      · have c1:wr.cell? ⟨bh,oh + k,none⟩ = some (.int .i64 (nthN n R k:Int)):=(hbel.cell (p:=⟨bh,oh + k,none⟩) hbhw).trans (HCI.out k hlt)
        have q:=HP1.out k hlt;have c2:wr.cell? ⟨b,off + nthN n R k,none⟩ = some (e (nthN n R k)):=(hbel.cell (p:=⟨b,off + nthN n R k,none⟩) hbw).trans (HHC.out _ q.1);have c3:wr.cell? ⟨gv,k,none⟩ = some (.int .u8 (weightsN D 0 (nthN n R) want k)):=(hW.1.cellAt k (by omega)).trans (cellsOf_get _ _ _ hlt);have rk:=(HHE.out _ q.1).below hbel hh;rw [q.2] at rk;obtain ⟨P,hP⟩:∃ P,P = nthN n R k:=⟨_,rfl⟩;have HPP:Hid (P = nthN n R k):=hP;rw [← hP] at c1 c2 q rk;have hPR:P < R:=q.1;obtain ⟨x,hx⟩:∃ x,x = e P:=⟨_,rfl⟩;rw [← hx] at c2 rk;obtain ⟨y,hy⟩:∃ y,y = weightsN D 0 (nthN n R) want k:=⟨_,rfl⟩;rw [← hy] at c3
        have CA:∀ q,Calls Tryz.prog 129 #[.slice (some ⟨w5.heap.size,0,none⟩) 4 4,x,.int .u8 y] (wr.drewN q) fun e w' => e = .returned (.tuple #[]) ∧ Own w' w5.heap.size w6.heap.size (.slice (some ⟨w5.heap.size,0,none⟩) 4 4) 4 (mixN (fun t => f (nthN n R t)) (weightsN D 0 (nthN n R) want) (k + 1)) ∧ Chg w5.heap.size w6.heap.size (wr.drewN q) w':=fun q =>
          addScaled_any _ _ 4 (mixN (fun t => f (nthN n R t)) (weightsN D 0 (nthN n R) want) k) (f P) (mixN (fun t => f (nthN n R t)) (weightsN D 0 (nthN n R) want) (k + 1)) y w5.heap.size w6.heap.size h1 (wr.drewN q) hO hsz rk (Nat.le_trans hh s5) (Nat.le_trans hh hbel.size) (fun i => mixN_lt _ _ (weightsN_lt D 0 (nthN n R) want) k i) (fun i => kf P i) (by rw [hy];exact weightsN_lt D 0 (nthN n R) want k) (fun i _ => by rw [mixN,hy,HPP.out]) (by omega)
        have CA1:=CA 1;obtain ⟨aox,capx,hxs,_,_⟩:=rk;rw [hxs] at c2 CA1;have HO:Hid (Own wr w.heap.size w5.heap.size (.slice (some ⟨gv,0,none⟩) D capv) D (weightsN D 0 (nthN n R) want)):=hW;have HBL:Hid (Below w.heap.size w wr):=hbel
        have hPRi:(P:Int) < (R:Int):=by omega
        clear hO hW hbel hP hx hxs hy CA q;go_wp2
        go_region_with (go_at_call 129;refine CA1.mono ?_;rintro e w7 ⟨rfl,o7,ch7⟩)
        all_goals
          have O7:Own w7 w.heap.size w5.heap.size (.slice (some ⟨gv,0,none⟩) D capv) D (weightsN D 0 (nthN n R) want):=(show Own (wr.drewN 1) w.heap.size w5.heap.size (.slice (some ⟨gv,0,none⟩) D capv) D (weightsN D 0 (nthN n R) want) from HO.out).chg ch7 (.inl (Nat.le_refl _));have B7:Below w.heap.size w w7:=(below_drewN HBL.out 1).trans (ch7.below s5 HBL.out.size);have S7:w6.heap.size ≤ w7.heap.size:=Nat.le_trans hsz ch7.size;clear ch7 HO HBL CA1 c1 c2 c3;go_wp2
          go_roundw
          case rel => exact ⟨k + 1,by omega,by go_num,o7,O7,B7,S7⟩
          case measure => simp [intOf];omega
      · obtain rfl:k = D:=by omega
        have HO9:Hid (Own wr w5.heap.size w6.heap.size (.slice (some ⟨w5.heap.size,0,none⟩) 4 4) 4 (blockN k n R f want)):=hO;clear hO hW;go_wp2;go_ret;exact ⟨_,rfl,HO9.out.weaken s5 hsz,hbel⟩
set_option maxHeartbeats 4000000 in
theorem bytesFrom_any (D:Nat) (v vh:Value) (R:Nat) (n:Nat → Nat) (f:Mat) (h1 h2:Nat) (w:World) (r:RdM w h1 v R n f) (rh:RdI w h2 vh D (fun t => (nthN n R t:Int))) (hh:h1 ≤ w.heap.size) (hh2:h2 ≤ w.heap.size) (hD1:1 ≤ D) (hD:D ≤ 3) (hR:R ≤ D + 2) (hcnt:D ≤ cntN n R) (h4:∀ i,i < R → n i = 0 ∨ n i = 4) (kf:Byt f) :
    Calls Tryz.prog 86 #[.int .i64 D,v,vh] w fun e w' => ∃ v',e = .returned v' ∧ Own w' w.heap.size w'.heap.size v' (4 * D) (decN D n R f) ∧ Below w.heap.size w w':=by
  have CBf:=fun (w1:World) (k:Nat) (hk:k < D) (b1:Below w.heap.size w w1) => blockFrom_any D k v vh R n f h1 h2 w1 (r.below b1 hh) (rh.below b1 hh2) (Nat.le_trans hh b1.size) (Nat.le_trans hh2 b1.size) hD1 hD hR (by omega) hcnt h4 kf;obtain ⟨aoh,caph,rfl,hmh,hch⟩:=rh;obtain ⟨ao,cap,e,rfl,hm,hc,he⟩:=r;have HCB:Hid (∀ (w1:World) (k:Nat),k < D → Below w.heap.size w w1 → Calls Tryz.prog 110 #[.int .i64 D,.slice ao R cap,.slice aoh D caph,.int .i64 k] w1 fun e w' => ∃ v',e = .returned v' ∧ Own w' w1.heap.size w'.heap.size v' 4 (blockN D n R f k) ∧ Below w1.heap.size w1 w'):=CBf;clear CBf hc he hch hm hmh hcnt h4
  have hs4:(D:Int) * 4 = ((4 * D:Nat):Int):=by omega
  obtain ⟨Q,hQ⟩:∃ Q,Q = 4 * D:=⟨_,rfl⟩;rw [← hQ] at hs4
  have hQ12:Q ≤ 12:=by omega
  clear hQ
  go_enter Tryz.func86,Tryz.ntmps86
  go_wp2_with (at_make;refine wp_makeB0 _ rfl _ _ rfl _ Q rfl rfl (by first | omega | simp [hs4]) (by omega) ?_;intro w1 hown1 hb1 hz1)
  have I0:=hown1 (decN D n R f);clear hown1
  go_loopw [7,13] (fun u i wr => ∃ k:Nat,k ≤ D ∧ i = .int .i64 k ∧ Own wr w.heap.size wr.heap.size u (4 * k) (decN D n R f) ∧ Below w.heap.size w wr) (fun _ i _ => D - (intOf i).toNat)
  case atStart => exact ⟨0,Nat.zero_le _,rfl,I0,hb1⟩
  case round =>
    clear I0 hb1 hz1;obtain ⟨k,hk,rfl,hown,hb⟩:=hrel;have HO:Hid (Own wr w.heap.size wr.heap.size u7 (4 * k) (decN D n R f)):=hown;have HB:Hid (Below w.heap.size w wr):=hb;have szr:=hb.size
    by_cases hlt:k < D
    · have C:=HCB.out wr k hlt hb
      clear hown hb
      go_wp2_with fail
      refine C.mono ?_;rintro ee w2 ⟨v2,rfl,o2,b2'⟩;have B2:Below w.heap.size w w2:=HB.out.trans (b2'.mono szr);have s2:=b2'.size;have HO2:Hid (Own w2 w.heap.size wr.heap.size u7 (4 * k) (decN D n R f)):=HO.out.below b2' (Nat.le_refl _);obtain ⟨ao2,cap2,rfl⟩:=o2.slice;have HO3:Hid (Own w2 wr.heap.size w2.heap.size (.slice ao2 4 cap2) 4 (blockN D n R f k)):=o2
      have hm4:4 * k + 4 ≤ 1000000:=by omega
      have sw2:w.heap.size ≤ w2.heap.size:=by omega
      clear C b2' o2
      go_wp2_with (at_builtin;refine wp_appendX rfl (.tmp 16) (.tmp 21) rfl w.heap.size wr.heap.size u7 (4 * k) (decN D n R f) ?_ HO2.out w2.heap.size (.slice ao2 4 cap2) 4 (blockN D n R f k) ?_ HO3.out.rd (by omega) (fun i hi => decN_at D n R f k i hi) hm4 sw2 ?_;(simp [Act.eval]);(simp [Act.eval]);intro v5 w5 o5 g5)
      have R5:Below w.heap.size w w5:=B2.grown g5 sw2 (fun q hq => (HO2.out.1.lt q hq).1)
      have e4:4 * k + 4 = 4 * (k + 1):=by omega
      rw [e4] at o5;clear g5 HO2 HO3 HO HB;go_wp2
      go_roundw
      case rel => exact ⟨k + 1,by omega,by go_num,o5,R5⟩
      case measure => simp [intOf];omega
    · obtain rfl:k = D:=by omega
      go_wp2;go_ret;exact ⟨_,rfl,hown,hb⟩
end Go.Proofs.YtaldlfoochmfcaaGreat
namespace Go.Proofs.YtaldlfoochmfcaaGreat
open Go.RowKit F256
theorem not_there {R:Nat} {n:Nat → Nat} {N:Int} (h:¬ ThereP R n N):(R:Int) ≠ N ∨ ∃ i,i < R ∧ n i ≠ 0 ∧ n i ≠ 4:=by
  by_cases c:(R:Int) = N
  · right
    refine Classical.byContradiction fun hh => h ⟨c,fun i hi => ?_⟩
    by_cases c0:n i = 0
    · exact .inl c0
    · by_cases c4:n i = 4
      · exact .inr c4
      · exact absurd ⟨i,hi,c0,c4⟩ hh
  · exact .inl c
set_option maxHeartbeats 4000000 in
theorem implDecode_rd (d s:Int) (v:Value) (R:Nat) (n:Nat → Nat) (f:Mat) (h1:Nat) (w:World) (r:RdM w h1 v R n f) (hh:h1 ≤ w.heap.size) (kf:Byt f) :
    Calls Tryz.prog 57 #[.int .i64 d,.int .i64 s,v] w fun ee w' => ∃ x v',ee = .returned (bytesR x v') ∧ DecAns d s R n x ∧ Own w' w.heap.size w'.heap.size v' (if x = 0 then 4 * d.toNat else 0) (decN d.toNat n R f) ∧ Below w.heap.size w w':=by
  have HR:Hid (RdM w h1 v R n f):=r;obtain ⟨ao,cap,e,rfl,hm,hc,he⟩:=r;clear hm hc he
  go_enter Tryz.func57,Tryz.ntmps57
  go_wp2_with fail
  refine (rowInBounds_any d s _).mono ?_;rintro e0 w1 ⟨b1,rfl,hb1,b1'⟩;have HS:Hid (b1 = true ↔ Shp d s):=hb1;have B1:Below w.heap.size w w1:=bnew b1';have X1:Box w1 w.heap.size #[.int .i64 0,.slice none 0 0] 32:=(box_new w _ _).below b1' (by simp);have z1:w.heap.size < w1.heap.size:=X1.lt;obtain ⟨x0,x1,y0,y1⟩:=res_cells X1;clear hb1 b1'
  cases b1 with
  | false =>
    have HNO:Hid (¬ Shp d s):=fun h => by have:=HS.out.mpr h;cases this
    clear HS;go_wp2;exact bodyPost_ret (v:=bytesR 3 (.slice none 0 0)) (by simp [results,Tryz.results57,go_sem,bytesR,x0,x1]) rfl ⟨3,_,rfl,.inl ⟨.inl ⟨rfl,HNO.out⟩,by omega⟩,own_nil _ _ _ _,(B1.setCell (Nat.le_refl _) _).setCell (Nat.le_refl _) _⟩
  | true =>
    have hsh:=HS.out.mp rfl;have HSH:Hid (Shp d s):=hsh;obtain ⟨q1,q2,q3,q4⟩:=hsh;obtain ⟨D,rfl⟩:∃ D:Nat,d = D:=⟨d.toNat,by omega⟩;obtain ⟨S,rfl⟩:∃ S:Nat,s = S:=⟨s.toNat,by omega⟩;have CT:=thereOrNot_any (.slice ao R cap) R n f h1 ((D:Int) + (S:Int)) w1 (HR.out.below B1 hh);clear HS
    go_wp2_with fail
    refine CT.mono ?_;rintro e0 w2 ⟨b2,rfl,hb2,b2'⟩;have HT:Hid (b2 = true ↔ ThereP R n ((D:Int) + (S:Int))):=hb2;have B2:Below w.heap.size w w2:=B1.trans (b2'.mono B1.size);have X2:Box w2 w.heap.size #[.int .i64 0,.slice none 0 0] 32:=X1.below b2' z1;have z2:w.heap.size < w2.heap.size:=X2.lt;clear x0 x1 y0 y1;obtain ⟨x0,x1,y0,y1⟩:=res_cells X2;clear hb2 b2' X1 B1 z1 CT
    cases b2 with
    | false =>
      have HNO:Hid ((R:Int) ≠ (D:Int) + (S:Int) ∨ ∃ i,i < R ∧ n i ≠ 0 ∧ n i ≠ 4):=not_there fun h => by have:=HT.out.mpr h;cases this
      clear HT;go_wp2;exact bodyPost_ret (v:=bytesR 1 (.slice none 0 0)) (by simp [results,Tryz.results57,go_sem,bytesR,x0,x1]) rfl ⟨1,_,rfl,.inl ⟨.inr (.inl ⟨rfl,HSH.out,HNO.out⟩),by omega⟩,own_nil _ _ _ _,(B2.setCell (Nat.le_refl _) _).setCell (Nat.le_refl _) _⟩
    | true =>
      have HTH:Hid (ThereP R n ((D:Int) + (S:Int))):=HT.out.mp rfl;have HASK:Hid (AskP (D:Int) (S:Int) R n 0):=.inr (.inr ⟨rfl,HSH.out,HTH.out.1,HTH.out.2⟩);have CF:=firstThere_any D (.slice ao R cap) R n f h1 w2 (HR.out.below B2 hh) (Nat.le_trans hh B2.size) (by omega);clear HT x0 x1 y0 y1
      go_wp2_with fail
      refine CF.mono ?_;rintro e0 w3 ⟨v3,rfl,o3,b3'⟩;have B3:Below w.heap.size w w3:=B2.trans (b3'.mono B2.size);have X3:Box w3 w.heap.size #[.int .i64 0,.slice none 0 0] 32:=X2.below b3' z2;have z3:w.heap.size < w3.heap.size:=X3.lt;obtain ⟨x0,x1,y0,y1⟩:=res_cells X3;clear b3' X2 B2 z2 CF
      by_cases hcnt:D ≤ cntN n R
      · have HCN:Hid (D ≤ cntN n R):=hcnt
        rw [pickN_all hcnt] at o3;obtain ⟨ao3,cap3,rfl⟩:=o3.slice;have CB:=bytesFrom_any D (.slice ao R cap) (.slice ao3 D cap3) R n f h1 w3.heap.size w3 (HR.out.below B3 hh) o3.rd (Nat.le_trans hh B3.size) (Nat.le_refl _) (by omega) (by omega) (by have:=HTH.out.1;omega) hcnt HTH.out.2 kf;clear o3 hcnt x0 x1 y0 y1
        go_wp2_with fail
        refine CB.mono ?_;rintro e0 w4 ⟨v4,rfl,o4,b4⟩;obtain ⟨ao4,cap4,rfl⟩:=o4.slice;have HO:Hid (Own w4 w3.heap.size w4.heap.size (.slice ao4 (4 * D) cap4) (4 * D) (decN D n R f)):=o4;have B4:Below w.heap.size w w4:=B3.trans (b4.mono (by omega));have X4:Box w4 w.heap.size #[.int .i64 0,.slice none 0 0] 32:=X3.below b4 z3;have z4:=X4.lt;obtain ⟨x0,x1,y0,y1⟩:=res_cells X4;clear o4 b4 CB X4 X3;go_wp2;refine bodyPost_ret (v:=bytesR 0 (.slice ao4 (4 * D) cap4)) (by simp [results,Tryz.results57,go_sem,bytesR,x0,x1]) rfl ⟨0,_,rfl,.inr (.inr ⟨HASK.out,by rw [Int.toNat_natCast];exact HCN.out,rfl⟩),?_,(B4.setCell (Nat.le_refl _) _).setCell (Nat.le_refl _) _⟩;have o1:=out_store w4 w.heap.size (w.heap.size + 1) w.heap.size 0 (.int .i64 0) (Nat.le_refl _) (by omega);have o2:=out_store (w4.setCell ⟨w.heap.size,0,none⟩ (.int .i64 0)) w.heap.size (w.heap.size + 1) w.heap.size 1 (.slice ao4 (4 * D) cap4) (Nat.le_refl _) (by omega)
        simp only [if_pos]
        rw [Int.toNat_natCast];exact (HO.out.out (o1.trans o2) (.inr (by omega))).weaken (by omega) (by rw [(o1.trans o2).size];exact Nat.le_refl _)
      · have HNC:Hid (¬ D ≤ cntN n R):=hcnt
        have hpf:=pickN_few hcnt;obtain ⟨c,hc⟩:∃ c,c = pickN D n R:=⟨_,rfl⟩;rw [← hc] at o3 hpf;obtain ⟨ao3,cap3,rfl⟩:=o3.slice
        have hci:(c:Int) < (D:Int):=by omega
        clear o3 hcnt hc;go_wp2;exact bodyPost_ret (v:=bytesR 10 (.slice none 0 0)) (by simp [results,Tryz.results57,go_sem,bytesR,x0,x1]) rfl ⟨10,_,rfl,.inr (.inl ⟨HASK.out,by rw [Int.toNat_natCast];exact HNC.out,rfl⟩),own_nil _ _ _ _,(B3.setCell (Nat.le_refl _) _).setCell (Nat.le_refl _) _⟩
end Go.Proofs.YtaldlfoochmfcaaGreat
namespace Go.Proofs.YtaldlfoochmfcaaGreat
open Go.RowKit F256
theorem el_Bytes:ElInfo layBytes 91 29 24 [.slice none 0 0]:=⟨by decide,rfl,Tryz.underlying91,by kernel_rfl,by decide⟩
theorem rd_nilB (w:World) (hi:Nat):layBytes.rd w hi (0,fun _ => 0) [.slice none 0 0]:=⟨_,rfl,⟨none,0,rfl,Nat.zero_le _,fun h => absurd rfl h⟩,fun _ => Nat.zero_lt_succ _⟩
theorem View.rdM {w:World} {lo hi n:Nat} {v:Value} {x:Nat → Nat × (Nat → Nat)} {ce:Nat → List Value} (h:View layBytes 29 w lo hi v n x ce) (hh:hi ≤ w.heap.size):RdM w w.heap.size v n (fun i => (x i).1) (fun i => (x i).2):=by
  obtain ⟨ao,cap,rfl⟩:=h.form
  have hce:∀ i,i < n → ∃ u,ce i = [u] ∧ Rd w hi u (x i).1 (x i).2:=fun i hi => by
    obtain ⟨u,h1,h2,_⟩:=h.each i hi;exact ⟨u,h1,h2⟩
  refine ⟨ao,cap,fun i => (ce i).headD (.int .i64 0),rfl,h.len,fun h0 => ?_,fun i hi => ?_⟩
  · obtain ⟨g,cap',e⟩:=h.form0 h0
    cases e
    refine ⟨g,0,rfl,(h.row.lt g (by simp [Value.ownBlock])).2,fun i hi => ?_⟩;obtain ⟨u,h1,_⟩:=hce i hi;have:=h.cell hi (j:=0) (by decide)
    show w.cell? ⟨g,0 + i,none⟩ = some ((ce i).headD (.int .i64 0))
    rw [h1] at this ⊢;rw [show 0 + i = i * layBytes.sz + 0 by show 0 + i = i * 1 + 0;omega];exact this
  · obtain ⟨u,h1,h2⟩:=hce i hi
    show Rd w w.heap.size ((ce i).headD (.int .i64 0)) _ _
    rw [h1];exact h2.mono hh
def rowX (x:Nat → DriveD) (n R:Nat):Nat → Nat × (Nat → Nat):=fun i => if i < n ∧ (x i).wiped = false then ((x i).blocks.2 R).bytes else (0,fun _ => 0)
def rowK (x:Nat → DriveD) (n R k:Nat):Nat → Nat × (Nat → Nat):=fun i => if i < k then rowX x n R i else (0,fun _ => 0)
def rowN (x:Nat → DriveD) (n R:Nat):Nat → Nat:=fun i => (rowX x n R i).1
def rowM (x:Nat → DriveD) (n R:Nat):Mat:=fun i => (rowX x n R i).2
theorem rowX_wiped {x:Nat → DriveD} {n R i:Nat} (h:(x i).wiped = true):rowX x n R i = (0,fun _ => 0):=if_neg (fun hh => by rw [h] at hh;cases hh.2)
theorem rowX_there {x:Nat → DriveD} {n R i:Nat} (hi:i < n) (h:(x i).wiped = false):rowX x n R i = ((x i).blocks.2 R).bytes:=if_pos ⟨hi,h⟩
theorem rowK_skip {x:Nat → DriveD} {n R k:Nat} (h:(x k).wiped = true) (i:Nat):rowK x n R k i = rowK x n R (k + 1) i:=by
  unfold rowK
  by_cases c:i < k
  · rw [if_pos c,if_pos (by omega)]
  · rw [if_neg c]
    by_cases c2:i = k
    · subst c2;rw [if_pos (by omega),rowX_wiped h]
    · rw [if_neg (by omega)]
theorem rowK_next {x:Nat → DriveD} {n R k:Nat} (i:Nat):upd (rowK x n R k) k (rowX x n R k) i = rowK x n R (k + 1) i:=by
  unfold rowK
  by_cases c2:i = k
  · subst c2;rw [upd_at,if_pos (by omega)]
  · rw [upd_ne _ _ c2]
    by_cases c:i < k
    · rw [if_pos c,if_pos (by omega)]
    · rw [if_neg c,if_neg (by omega)]
theorem rowK_cat {x:Nat → DriveD} {n R k:Nat} {y:Nat → Nat × (Nat → Nat)} (hy:y 0 = rowX x n R k) (i:Nat) (hi:i < k + 1):cat2 (rowX x n R) k y i = rowX x n R i:=by
  by_cases c:i < k
  · exact cat2_lt _ _ c
  · obtain rfl:i = k:=by omega
    rw [show cat2 (rowX x n R) i y i = y 0 from cat2_ge (rowX x n R) i y 0,hy]
theorem rowK_all {x:Nat → DriveD} {n R:Nat} (i:Nat) (hi:i < n):rowK x n R n i = rowX x n R i:=if_pos hi
theorem rowN_cnt {x:Nat → DriveD} {n R:Nat} (h4:∀ i,i < n → ((x i).blocks.2 R).bytes.1 = 4):∀ k,k ≤ n → cntN (rowN x n R) k + wipedN x k = k
  | 0,_ => rfl
  | k + 1,hk => by
    have ih:=rowN_cnt (x:=x) (n:=n) (R:=R) h4 k (by omega)
    show (if rowN x n R k = 0 then cntN (rowN x n R) k else cntN (rowN x n R) k + 1) + (wipedN x k + (if (x k).wiped = true then 1 else 0)) = k + 1
    cases hw:(x k).wiped with
    | true =>
      rw [if_pos (show rowN x n R k = 0 by unfold rowN;rw [rowX_wiped hw])]
      simp
      omega
    | false =>
      rw [if_neg (show rowN x n R k ≠ 0 by unfold rowN;rw [rowX_there (by omega) hw,h4 k (by omega)];decide)]
      simp
      omega
theorem rowN_four {x:Nat → DriveD} {n R:Nat} (h4:∀ i,i < n → ((x i).blocks.2 R).bytes.1 = 4) (i:Nat) (hi:i < n):rowN x n R i = 0 ∨ rowN x n R i = 4:=by
  unfold rowN
  cases hw:(x i).wiped with
  | true => rw [rowX_wiped hw];exact .inl rfl
  | false => rw [rowX_there hi hw];exact .inr (h4 i hi)
theorem rowM_byt {w:World} {hi:Nat} {d:WorldD} {cs:List Value} (h:layWorld.rd w hi d cs) {G R:Nat} (hG:G < d.groups.1) (hR:∀ k,k < (d.groups.2 G).1 → R < ((d.groups.2 G).2 k).blocks.1):Byt (rowM (d.groups.2 G).2 (d.groups.2 G).1 R):=fun i j => by
  unfold rowM
  by_cases c:i < (d.groups.2 G).1 ∧ ((d.groups.2 G).2 i).wiped = false
  · rw [rowX_there c.1 c.2]
    obtain ⟨ao1,cap1,ao2,cap2,ao3,cap3,rfl,g1,_⟩:=World_rd h;obtain ⟨_,_,e1,hm1,hc1⟩:=g1;obtain ⟨b1,off1,he1,hb1,hel1⟩:=hc1 (by omega);obtain ⟨cg,hrg,hcg⟩:=hel1 G hG;obtain ⟨_,_,e9,hm9,hc9⟩:=hrg;obtain ⟨b,off,_,hblt,hcell⟩:=hc9 (by omega);obtain ⟨cd,hrd,hcd⟩:=hcell i c.1;obtain ⟨ao5,cap5,rfl,g5⟩:=Drive_rd hrd;obtain ⟨_,_,e5,hm5,hc5⟩:=g5;have hRi:=hR i c.1;obtain ⟨b5,off5,he5,hb5,hel5⟩:=hc5 (by omega);obtain ⟨cb,hrb,hcb⟩:=hel5 R hRi;obtain ⟨ao0,cap0,rfl,hrr,-⟩:=Block_rd hrb;obtain ⟨v,_,_,hk⟩:=hrr;exact hk j
  · unfold rowX
    rw [if_neg c];exact Nat.zero_lt_succ _
theorem not_dead {d:WorldD} {G R:Nat} {D S:Nat} (hD:d.shape 2 = (D:Int)) (hS:d.shape 3 = (S:Int)) (hn:(d.groups.2 G).1 = D + S) (h4:∀ i,i < (d.groups.2 G).1 → (((d.groups.2 G).2 i).blocks.2 R).bytes.1 = 4):¬ DeadP d G ↔ D ≤ cntN (rowN (d.groups.2 G).2 (d.groups.2 G).1 R) (d.groups.2 G).1:=by
  have:=rowN_cnt (R:=R) h4 _ (Nat.le_refl _);unfold DeadP;rw [hS];omega
def rowB (d:WorldD) (G R:Nat):Nat → Nat:=decN (d.shape 2).toNat (rowN (d.groups.2 G).2 (d.groups.2 G).1 R) (d.groups.2 G).1 (rowM (d.groups.2 G).2 (d.groups.2 G).1 R)
theorem row_facts {d:WorldD} (h:OkWorld d) {G:Nat} (hG:G < d.groups.1):∃ D S:Nat,d.shape 2 = (D:Int) ∧ d.shape 3 = (S:Int) ∧ (d.groups.2 G).1 = D + S ∧ 1 ≤ D ∧ D ≤ 3 ∧ S ≤ 2 ∧ ∀ R,(∀ k,k < (d.groups.2 G).1 → R < ((d.groups.2 G).2 k).blocks.1) → ∀ i,i < (d.groups.2 G).1 → (((d.groups.2 G).2 i).blocks.2 R).bytes.1 = 4:=by
  obtain ⟨_,q,_⟩:=h.shape;unfold Shp at q;have h2:=h.form.1.2 G hG;refine ⟨(d.shape 2).toNat,(d.shape 3).toNat,by omega,by omega,by have:=h2.1;omega,by omega,by omega,by omega,fun R hR i hi => ((h2.2 i hi).2 R (hR i hi)).2⟩
set_option maxHeartbeats 8000000 in
set_option maxRecDepth 20000 in
theorem bytesInRow_any (d:WorldD) (cs:List Value) (hi:Nat) (G R:Nat) (w:World) (h:layWorld.rd w hi d cs) (hhi:hi ≤ w.heap.size) (hG:G < d.groups.1) (hR:∀ k,k < (d.groups.2 G).1 → R < ((d.groups.2 G).2 k).blocks.1) (hok:OkWorld d) (hnd:¬ DeadP d G) :
    Calls Tryz.prog 31 #[.agg cs.toArray,.int .i64 (G:Int),.int .i64 (R:Int)] w fun e w' => ∃ v,e = .returned v ∧ Own w' w.heap.size w'.heap.size v (4 * (d.shape 2).toNat) (rowB d G R) ∧ Below w.heap.size w w':=by
  have kf:=rowM_byt h hG hR;obtain ⟨D,S,hD,hS,hn,d1,d2,s2,h4'⟩:=row_facts hok hG;have h4:=h4' R hR;have hcnt:=(not_dead (R:=R) hD hS hn h4).1 hnd;have HFour:Hid (∀ i,i < (d.groups.2 G).1 → rowN (d.groups.2 G).2 (d.groups.2 G).1 R i = 0 ∨ rowN (d.groups.2 G).2 (d.groups.2 G).1 R i = 4):=rowN_four h4;have HCNT:Hid (D ≤ cntN (rowN (d.groups.2 G).2 (d.groups.2 G).1 R) (d.groups.2 G).1):=hcnt;have HKF:Hid (Byt (rowM (d.groups.2 G).2 (d.groups.2 G).1 R)):=kf;have HD:Hid (d.shape 2 = (D:Int)):=hD;have HS:Hid (d.shape 3 = (S:Int)):=hS;have HN:Hid ((d.groups.2 G).1 = D + S):=hn
  have hn6:(d.groups.2 G).1 ≤ 6:=by omega
  have HOK:Hid (OkWorld d):=hok;clear h4 h4' hcnt hnd kf hD hS hn hok;obtain ⟨ao1,cap1,ao2,cap2,ao3,cap3,rfl,g1,g2,g3,k0,k4,k5⟩:=World_rd h;obtain ⟨_,_,e1,hm1,hc1⟩:=g1
  cases e1
  obtain ⟨b1,off1,he1,hb1,hel1⟩:=hc1 (by omega);subst he1;obtain ⟨cg,hrg,hcg⟩:=hel1 G hG;obtain ⟨ao9,cap9,rfl⟩:=sl_form hrg
  have c0:w.cell? ⟨b1,off1 + G,none⟩ = some (.slice ao9 (d.groups.2 G).1 cap9):=by
    have:=hcg 0 (by decide)
    have e:off1 + (G * (layDrive.slice 94).sz + 0) = off1 + G:=by show off1 + (G * 1 + 0) = off1 + G;omega
    rw [e] at this;exact this
  obtain ⟨_,_,e9,hm9,hc9⟩:=hrg
  cases e9
  unfold maxLen at hm9
  have i1:(0:Int) ≤ (G:Int):=by omega
  have i2:(G:Int) < (d.groups.1:Int):=by omega
  clear g2 g3 k0 k4 k5 hcg hel1 hc1 hm1;have T0:=one_new w #[.int .i64 (d.shape 0),.int .i64 (d.shape 1),.int .i64 (d.shape 2),.int .i64 (d.shape 3),.int .i64 (d.shape 4),.int .i64 (d.shape 5),.int .i64 (d.shape 6),.int .i64 (d.shape 7),.int .i64 (d.shape 8),.slice (some ⟨b1,off1,none⟩) d.groups.1 cap1,.slice ao2 d.on.1 cap2,.slice ao3 d.tapes.1 cap3,.int .i64 d.writes,.int .i64 d.stop,.bool d.down] 38;have c0':=(T0.bel.cell (p:=⟨b1,off1 + G,none⟩) (by show b1 < w.heap.size;omega)).trans c0;have x_0:(w.alloc (.cells #[.int .i64 (d.shape 0),.int .i64 (d.shape 1),.int .i64 (d.shape 2),.int .i64 (d.shape 3),.int .i64 (d.shape 4),.int .i64 (d.shape 5),.int .i64 (d.shape 6),.int .i64 (d.shape 7),.int .i64 (d.shape 8),.slice (some ⟨b1,off1,none⟩) d.groups.1 cap1,.slice ao2 d.on.1 cap2,.slice ao3 d.tapes.1 cap3,.int .i64 d.writes,.int .i64 d.stop,.bool d.down] 38)).cell? ⟨w.heap.size,0,none⟩ = some (.int .i64 (d.shape 0)):=T0.b1.cell 0;have x_1:(w.alloc (.cells #[.int .i64 (d.shape 0),.int .i64 (d.shape 1),.int .i64 (d.shape 2),.int .i64 (d.shape 3),.int .i64 (d.shape 4),.int .i64 (d.shape 5),.int .i64 (d.shape 6),.int .i64 (d.shape 7),.int .i64 (d.shape 8),.slice (some ⟨b1,off1,none⟩) d.groups.1 cap1,.slice ao2 d.on.1 cap2,.slice ao3 d.tapes.1 cap3,.int .i64 d.writes,.int .i64 d.stop,.bool d.down] 38)).cell? ⟨w.heap.size,1,none⟩ = some (.int .i64 (d.shape 1)):=T0.b1.cell 1;have x_2:(w.alloc (.cells #[.int .i64 (d.shape 0),.int .i64 (d.shape 1),.int .i64 (d.shape 2),.int .i64 (d.shape 3),.int .i64 (d.shape 4),.int .i64 (d.shape 5),.int .i64 (d.shape 6),.int .i64 (d.shape 7),.int .i64 (d.shape 8),.slice (some ⟨b1,off1,none⟩) d.groups.1 cap1,.slice ao2 d.on.1 cap2,.slice ao3 d.tapes.1 cap3,.int .i64 d.writes,.int .i64 d.stop,.bool d.down] 38)).cell? ⟨w.heap.size,2,none⟩ = some (.int .i64 (d.shape 2)):=T0.b1.cell 2;have x_3:(w.alloc (.cells #[.int .i64 (d.shape 0),.int .i64 (d.shape 1),.int .i64 (d.shape 2),.int .i64 (d.shape 3),.int .i64 (d.shape 4),.int .i64 (d.shape 5),.int .i64 (d.shape 6),.int .i64 (d.shape 7),.int .i64 (d.shape 8),.slice (some ⟨b1,off1,none⟩) d.groups.1 cap1,.slice ao2 d.on.1 cap2,.slice ao3 d.tapes.1 cap3,.int .i64 d.writes,.int .i64 d.stop,.bool d.down] 38)).cell? ⟨w.heap.size,3,none⟩ = some (.int .i64 (d.shape 3)):=T0.b1.cell 3;have x_4:(w.alloc (.cells #[.int .i64 (d.shape 0),.int .i64 (d.shape 1),.int .i64 (d.shape 2),.int .i64 (d.shape 3),.int .i64 (d.shape 4),.int .i64 (d.shape 5),.int .i64 (d.shape 6),.int .i64 (d.shape 7),.int .i64 (d.shape 8),.slice (some ⟨b1,off1,none⟩) d.groups.1 cap1,.slice ao2 d.on.1 cap2,.slice ao3 d.tapes.1 cap3,.int .i64 d.writes,.int .i64 d.stop,.bool d.down] 38)).cell? ⟨w.heap.size,4,none⟩ = some (.int .i64 (d.shape 4)):=T0.b1.cell 4;have x_5:(w.alloc (.cells #[.int .i64 (d.shape 0),.int .i64 (d.shape 1),.int .i64 (d.shape 2),.int .i64 (d.shape 3),.int .i64 (d.shape 4),.int .i64 (d.shape 5),.int .i64 (d.shape 6),.int .i64 (d.shape 7),.int .i64 (d.shape 8),.slice (some ⟨b1,off1,none⟩) d.groups.1 cap1,.slice ao2 d.on.1 cap2,.slice ao3 d.tapes.1 cap3,.int .i64 d.writes,.int .i64 d.stop,.bool d.down] 38)).cell? ⟨w.heap.size,5,none⟩ = some (.int .i64 (d.shape 5)):=T0.b1.cell 5
  have x_6:(w.alloc (.cells #[.int .i64 (d.shape 0),.int .i64 (d.shape 1),.int .i64 (d.shape 2),.int .i64 (d.shape 3),.int .i64 (d.shape 4),.int .i64 (d.shape 5),.int .i64 (d.shape 6),.int .i64 (d.shape 7),.int .i64 (d.shape 8),.slice (some ⟨b1,off1,none⟩) d.groups.1 cap1,.slice ao2 d.on.1 cap2,.slice ao3 d.tapes.1 cap3,.int .i64 d.writes,.int .i64 d.stop,.bool d.down] 38)).cell? ⟨w.heap.size,6,none⟩ = some (.int .i64 (d.shape 6)):=T0.b1.cell 6;have x_7:(w.alloc (.cells #[.int .i64 (d.shape 0),.int .i64 (d.shape 1),.int .i64 (d.shape 2),.int .i64 (d.shape 3),.int .i64 (d.shape 4),.int .i64 (d.shape 5),.int .i64 (d.shape 6),.int .i64 (d.shape 7),.int .i64 (d.shape 8),.slice (some ⟨b1,off1,none⟩) d.groups.1 cap1,.slice ao2 d.on.1 cap2,.slice ao3 d.tapes.1 cap3,.int .i64 d.writes,.int .i64 d.stop,.bool d.down] 38)).cell? ⟨w.heap.size,7,none⟩ = some (.int .i64 (d.shape 7)):=T0.b1.cell 7;have x_8:(w.alloc (.cells #[.int .i64 (d.shape 0),.int .i64 (d.shape 1),.int .i64 (d.shape 2),.int .i64 (d.shape 3),.int .i64 (d.shape 4),.int .i64 (d.shape 5),.int .i64 (d.shape 6),.int .i64 (d.shape 7),.int .i64 (d.shape 8),.slice (some ⟨b1,off1,none⟩) d.groups.1 cap1,.slice ao2 d.on.1 cap2,.slice ao3 d.tapes.1 cap3,.int .i64 d.writes,.int .i64 d.stop,.bool d.down] 38)).cell? ⟨w.heap.size,8,none⟩ = some (.int .i64 (d.shape 8)):=T0.b1.cell 8;have CG:=driveCount_any d.shape HOK.out.shape (w.alloc (.cells #[.int .i64 (d.shape 0),.int .i64 (d.shape 1),.int .i64 (d.shape 2),.int .i64 (d.shape 3),.int .i64 (d.shape 4),.int .i64 (d.shape 5),.int .i64 (d.shape 6),.int .i64 (d.shape 7),.int .i64 (d.shape 8),.slice (some ⟨b1,off1,none⟩) d.groups.1 cap1,.slice ao2 d.on.1 cap2,.slice ao3 d.tapes.1 cap3,.int .i64 d.writes,.int .i64 d.stop,.bool d.down] 38));rw [show d.shape 2 + d.shape 3 = ((d.groups.2 G).1:Int) by rw [HD.out,HS.out,HN.out];omega] at CG;unfold shapeV at CG
  go_enter Tryz.func31,Tryz.ntmps31
  go_wp2_with fail
  refine CG.mono ?_;rintro e w1 ⟨rfl,q1⟩;have T1:=T0.call q1;have zw1:w.heap.size < w1.heap.size:=T1.b1.lt;clear CG T0 q1 c0' x_0 x_1 x_2 x_3 x_4 x_5 x_6 x_7 x_8;obtain ⟨w2,hrun,hP,bm⟩:=run_makeT el_Bytes (fun _ => (0,fun _ => 0)) (fun _ => []) w1 (d.groups.2 G).1 (by omega);have T2:=T1.call bm;have V2:View layBytes 29 w2 w1.heap.size hi (.slice (some ⟨w1.heap.size,0,none⟩) (d.groups.2 G).1 (d.groups.2 G).1) (d.groups.2 G).1 (rowK (d.groups.2 G).2 (d.groups.2 G).1 R 0) (fun _ => [.slice none 0 0]):=⟨hP.row,fun i hi => by unfold rowK;rw [if_neg (by omega)];exact rd_nilB _ _⟩;have x9:=T2.b1.cell 9;have c0':=(T2.bel.cell (p:=⟨b1,off1 + G,none⟩) (by show b1 < w.heap.size;omega)).trans c0;have zw2:w1.heap.size < w2.heap.size:=hP.lt;clear hP bm T1;go_wp2
  go_loopw [20] (fun i wr => ∃ (k:Nat) (ce:Nat → List Value),k ≤ (d.groups.2 G).1 ∧ i = .int .i64 k ∧ View layBytes 29 wr w1.heap.size hi (.slice (some ⟨w1.heap.size,0,none⟩) (d.groups.2 G).1 (d.groups.2 G).1) (d.groups.2 G).1 (rowK (d.groups.2 G).2 (d.groups.2 G).1 R k) ce ∧ One w wr #[.int .i64 (d.shape 0),.int .i64 (d.shape 1),.int .i64 (d.shape 2),.int .i64 (d.shape 3),.int .i64 (d.shape 4),.int .i64 (d.shape 5),.int .i64 (d.shape 6),.int .i64 (d.shape 7),.int .i64 (d.shape 8),.slice (some ⟨b1,off1,none⟩) d.groups.1 cap1,.slice ao2 d.on.1 cap2,.slice ao3 d.tapes.1 cap3,.int .i64 d.writes,.int .i64 d.stop,.bool d.down] 38) (fun i _ => (d.groups.2 G).1 - (intOf i).toNat)
  case atStart => exact ⟨0,_,Nat.zero_le _,rfl,V2,T2⟩
  case round =>
    clear T2 V2 x9 c0' hrun;obtain ⟨k,ce,hk,rfl,V,T⟩:=hrel;have HT:Hid (One w wr #[.int .i64 (d.shape 0),.int .i64 (d.shape 1),.int .i64 (d.shape 2),.int .i64 (d.shape 3),.int .i64 (d.shape 4),.int .i64 (d.shape 5),.int .i64 (d.shape 6),.int .i64 (d.shape 7),.int .i64 (d.shape 8),.slice (some ⟨b1,off1,none⟩) d.groups.1 cap1,.slice ao2 d.on.1 cap2,.slice ao3 d.tapes.1 cap3,.int .i64 d.writes,.int .i64 d.stop,.bool d.down] 38):=T;have HV:Hid (View layBytes 29 wr w1.heap.size hi (.slice (some ⟨w1.heap.size,0,none⟩) (d.groups.2 G).1 (d.groups.2 G).1) (d.groups.2 G).1 (rowK (d.groups.2 G).2 (d.groups.2 G).1 R k) ce):=V;have zr:w1.heap.size < wr.heap.size:=(V.row.lt w1.heap.size rfl).2
    by_cases hlt:k < (d.groups.2 G).1
    · have t1:(k:Int) < ((d.groups.2 G).1:Int):=by omega
      have HLT:Hid (k < (d.groups.2 G).1):=hlt;obtain ⟨b,off,rfl,hblt,hcell⟩:=hc9 (by omega);obtain ⟨cd,hrd,hcd⟩:=hcell k hlt;obtain ⟨ao5,cap5,rfl,g5⟩:=Drive_rd hrd;have hRk:R < ((d.groups.2 G).2 k).blocks.1:=hR k hlt;obtain ⟨_,_,e5,hm5,hc5⟩:=g5
      cases e5
      obtain ⟨b5,off5,he5,hb5,hel5⟩:=hc5 (by omega);subst he5;obtain ⟨cb,hrb,hcb⟩:=hel5 R hRk;obtain ⟨ao0,cap0,rfl,hrB,-⟩:=Block_rd hrb;have c2:wr.cell? ⟨b,off + k * 2,none⟩ = some (.bool ((d.groups.2 G).2 k).wiped):=(T.bel.cell (p:=⟨b,off + k * 2,none⟩) (by show b < w.heap.size;omega)).trans (hcd 0 (by decide));have c3:wr.cell? ⟨b,off + k * 2 + 1,none⟩ = some (.slice (some ⟨b5,off5,none⟩) ((d.groups.2 G).2 k).blocks.1 cap5):=(T.bel.cell (p:=⟨b,off + k * 2 + 1,none⟩) (by show b < w.heap.size;omega)).trans (hcd 1 (by decide));have c4:wr.cell? ⟨b5,off5 + R * 2 + 1,none⟩ = some (.slice ao0 (((d.groups.2 G).2 k).blocks.2 R).bytes.1 cap0):=(T.bel.cell (p:=⟨b5,off5 + R * 2 + 1,none⟩) (by show b5 < w.heap.size;omega)).trans (hcb 1 (by decide));obtain ⟨D9,hD9⟩:∃ D,D = (d.groups.2 G).2 k:=⟨_,rfl⟩;have HD9:Hid (D9 = (d.groups.2 G).2 k):=hD9;rw [← hD9] at c2 c3 c4 hRk hrB;obtain ⟨y,hy⟩:∃ y,y = (D9.blocks.2 R).bytes.1:=⟨_,rfl⟩;have HY:Hid (y = (D9.blocks.2 R).bytes.1):=hy
      have HRB:Hid (layBytes.rd w hi (D9.blocks.2 R).bytes [.slice ao0 y cap0]):=by rw [hy];exact hrB
      rw [← hy] at c4;have bA:Below wr.heap.size wr (wr.alloc (.cells #[.bool D9.wiped,.slice (some ⟨b5,off5,none⟩) D9.blocks.1 cap5] 94)):=(Below.refl _ _).alloc (Nat.le_refl _) _;have HT9:Hid (One w (wr.alloc (.cells #[.bool D9.wiped,.slice (some ⟨b5,off5,none⟩) D9.blocks.1 cap5] 94)) #[.int .i64 (d.shape 0),.int .i64 (d.shape 1),.int .i64 (d.shape 2),.int .i64 (d.shape 3),.int .i64 (d.shape 4),.int .i64 (d.shape 5),.int .i64 (d.shape 6),.int .i64 (d.shape 7),.int .i64 (d.shape 8),.slice (some ⟨b1,off1,none⟩) d.groups.1 cap1,.slice ao2 d.on.1 cap2,.slice ao3 d.tapes.1 cap3,.int .i64 d.writes,.int .i64 d.stop,.bool d.down] 38):=HT.out.call bA;have HV9:Hid (View layBytes 29 (wr.alloc (.cells #[.bool D9.wiped,.slice (some ⟨b5,off5,none⟩) D9.blocks.1 cap5] 94)) w1.heap.size hi (.slice (some ⟨w1.heap.size,0,none⟩) (d.groups.2 G).1 (d.groups.2 G).1) (d.groups.2 G).1 (rowK (d.groups.2 G).2 (d.groups.2 G).1 R k) ce):=V.below bA (by omega);have c4':(wr.alloc (.cells #[.bool D9.wiped,.slice (some ⟨b5,off5,none⟩) D9.blocks.1 cap5] 94)).cell? ⟨b5,off5 + R * 2 + 1,none⟩ = some (.slice ao0 y cap0):=(bA.cell (p:=⟨b5,off5 + R * 2 + 1,none⟩) (by have:=T.b1.lt;show b5 < wr.heap.size;omega)).trans c4;have fz:=HV9.out.row.frozenAt k;obtain ⟨uk,huk,_⟩:=V.each k hlt;have ck0:=HV9.out.cell hlt (j:=0) (by decide);rw [huk,show k * layBytes.sz + 0 = k by show k * 1 + 0 = k;omega,show ([uk]:List Value)[0]? = some uk from rfl] at ck0
      have j1:(0:Int) ≤ (R:Int):=by omega
      have j2:(R:Int) < (D9.blocks.1:Int):=by omega
      clear hc9 hcell hcd hrd hcb hrb hel5 hc5 hm5 T V hD9 hy bA hrB huk
      cases hw:D9.wiped with
      | true =>
        rw [hw] at c2 HT9 c4' HV9 fz ck0;have HW:Hid (D9.wiped = true):=hw;clear hw;go_wp2
        go_roundw
        case rel => exact ⟨k + 1,ce,by omega,by go_num,HV9.out.congr (fun i hi => rowK_skip (by rw [← HD9.out];exact HW.out) i),HT9.out⟩
        case measure => simp [intOf];omega
      | false =>
        rw [hw] at c2 HT9 c4' HV9 fz ck0;have HW:Hid (D9.wiped = false):=hw;clear hw
        have HE:Hid (rowX (d.groups.2 G).2 (d.groups.2 G).1 R k = (D9.blocks.2 R).bytes):=by
          show rowX (d.groups.2 G).2 (d.groups.2 G).1 R k = (D9.blocks.2 R).bytes
          rw [rowX_there HLT.out (by rw [← HD9.out];exact HW.out),HD9.out]
        have VS:=HV.out.store1 rfl (by omega) HLT.out (u:=.slice ao0 y cap0) (a:=rowX (d.groups.2 G).2 (d.groups.2 G).1 R k) (by
          rw [HE.out]
          exact layBytes.rd_below HRB.out HT.out.bel (by omega))
        have TS:One w (wr.setCell ⟨w1.heap.size,k,none⟩ (.slice ao0 y cap0)) #[.int .i64 (d.shape 0),.int .i64 (d.shape 1),.int .i64 (d.shape 2),.int .i64 (d.shape 3),.int .i64 (d.shape 4),.int .i64 (d.shape 5),.int .i64 (d.shape 6),.int .i64 (d.shape 7),.int .i64 (d.shape 8),.slice (some ⟨b1,off1,none⟩) d.groups.1 cap1,.slice ao2 d.on.1 cap2,.slice ao3 d.tapes.1 cap3,.int .i64 d.writes,.int .i64 d.stop,.bool d.down] 38:=⟨HT.out.b1.below VS.2 zw1,HT.out.bel.trans (VS.2.mono (by omega))⟩;have bS:Below (wr.setCell ⟨w1.heap.size,k,none⟩ (.slice ao0 y cap0)).heap.size (wr.setCell ⟨w1.heap.size,k,none⟩ (.slice ao0 y cap0)) ((wr.setCell ⟨w1.heap.size,k,none⟩ (.slice ao0 y cap0)).alloc (.cells #[.bool false,.slice (some ⟨b5,off5,none⟩) D9.blocks.1 cap5] 94)):=(Below.refl _ _).alloc (Nat.le_refl _) _;have HVS:Hid (View layBytes 29 ((wr.setCell ⟨w1.heap.size,k,none⟩ (.slice ao0 y cap0)).alloc (.cells #[.bool false,.slice (some ⟨b5,off5,none⟩) D9.blocks.1 cap5] 94)) w1.heap.size hi (.slice (some ⟨w1.heap.size,0,none⟩) (d.groups.2 G).1 (d.groups.2 G).1) (d.groups.2 G).1 (rowK (d.groups.2 G).2 (d.groups.2 G).1 R (k + 1)) (upd ce k [.slice ao0 y cap0])):=(VS.1.congr (fun i _ => rowK_next i)).below bS (by have:=(VS.1.row.lt w1.heap.size rfl).2;omega);have HTS:Hid (One w ((wr.setCell ⟨w1.heap.size,k,none⟩ (.slice ao0 y cap0)).alloc (.cells #[.bool false,.slice (some ⟨b5,off5,none⟩) D9.blocks.1 cap5] 94)) #[.int .i64 (d.shape 0),.int .i64 (d.shape 1),.int .i64 (d.shape 2),.int .i64 (d.shape 3),.int .i64 (d.shape 4),.int .i64 (d.shape 5),.int .i64 (d.shape 6),.int .i64 (d.shape 7),.int .i64 (d.shape 8),.slice (some ⟨b1,off1,none⟩) d.groups.1 cap1,.slice ao2 d.on.1 cap2,.slice ao3 d.tapes.1 cap3,.int .i64 d.writes,.int .i64 d.stop,.bool d.down] 38):=TS.call bS;clear VS TS bS HV9 HT9;go_wp2
        go_roundw
        case rel => exact ⟨k + 1,_,by omega,by go_num,HVS.out,HTS.out⟩
        case measure => simp [intOf];omega
    · obtain rfl:k = (d.groups.2 G).1:=by omega
      have x2:wr.cell? ⟨w.heap.size,2,none⟩ = some (.int .i64 (d.shape 2)):=T.b1.cell 2;have x3:wr.cell? ⟨w.heap.size,3,none⟩ = some (.int .i64 (d.shape 3)):=T.b1.cell 3;have RM:RdM wr wr.heap.size (.slice (some ⟨w1.heap.size,0,none⟩) (d.groups.2 G).1 (d.groups.2 G).1) (d.groups.2 G).1 (rowN (d.groups.2 G).2 (d.groups.2 G).1 R) (rowM (d.groups.2 G).2 (d.groups.2 G).1 R):=(V.congr (fun i hi => rowK_all i hi)).rdM (by omega);have CD:=implDecode_rd (d.shape 2) (d.shape 3) _ _ _ _ wr.heap.size wr RM (Nat.le_refl _) HKF.out
      have fB:∀ (x:Int) (v:Value) (w':World),(Instr.field 32 (.agg #[.int .i64 x,v]) 1).run Tryz.prog w' = .ok v w':=fun x v w' => by kernel_rfl
      clear hlt T V RM hc9
      go_wp2_with fail
      refine CD.mono ?_;rintro e w3 ⟨x,v3,rfl,hans,o3,b3⟩;have hx0:x = 0:=hans.one (.inr (.inr ⟨.inr (.inr ⟨rfl,by rw [HD.out,HS.out];exact ⟨by omega,by omega,by omega,by omega⟩,by rw [HD.out,HS.out,HN.out];omega,HFour.out⟩),by rw [HD.out];exact HCNT.out,rfl⟩));subst hx0;have HO:Hid (Own w3 wr.heap.size w3.heap.size v3 (4 * (d.shape 2).toNat) (rowB d G R)):=o3;have HB:Hid (Below w.heap.size w w3):=HT.out.bel.trans (b3.mono HT.out.bel.size);have zz:=HT.out.bel.size;obtain ⟨ao3,cap3,rfl⟩:=o3.slice;clear o3 hans b3 CD x2 x3;have f3:=fun w' => fB 0 (.slice ao3 (4 * (d.shape 2).toNat) cap3) w';clear fB;unfold bytesR;go_wp2;go_ret;exact ⟨_,rfl,HO.out.weaken (by omega) (Nat.le_refl _),HB.out⟩
def L7BPost (d:WorldD) (G R:Nat) (w:World) (e:Ending) (w':World):Prop:=∃ v b,e = .returned (.tuple #[v,.bool b]) ∧ (b = true ↔ ¬ DeadP d G) ∧ Own w' w.heap.size w'.heap.size v (if b = true then 4 * (d.shape 2).toNat else 0) (rowB d G R) ∧ Below w.heap.size w w'
set_option maxHeartbeats 8000000 in
set_option maxRecDepth 20000 in
theorem l7Bytes_any (d:WorldD) (cs:List Value) (hi B:Nat) (G R:Nat) (w:World) (h:layWorld.rd w hi d cs) (hhi:hi ≤ w.heap.size) (hB:Box w B cs.toArray 38) (hG:G < d.groups.1) (hR:∀ k,k < (d.groups.2 G).1 → R < ((d.groups.2 G).2 k).blocks.1) (hok:OkWorld d) :
    Calls Tryz.prog 47 #[.pointer (some ⟨B,0,none⟩),.int .i64 (G:Int),.int .i64 (R:Int)] w (L7BPost d G R w):=by
  have kf:=rowM_byt h hG hR;obtain ⟨D,S,hD,hS,hn,d1,d2,s2,h4'⟩:=row_facts hok hG;have h4:=h4' R hR;have HND:Hid (¬ DeadP d G ↔ D ≤ cntN (rowN (d.groups.2 G).2 (d.groups.2 G).1 R) (d.groups.2 G).1):=not_dead (R:=R) hD hS hn h4;have HFour:Hid (∀ i,i < (d.groups.2 G).1 → rowN (d.groups.2 G).2 (d.groups.2 G).1 R i = 0 ∨ rowN (d.groups.2 G).2 (d.groups.2 G).1 R i = 4):=rowN_four h4;have HKF:Hid (Byt (rowM (d.groups.2 G).2 (d.groups.2 G).1 R)):=kf;have HD:Hid (d.shape 2 = (D:Int)):=hD
  have hn6:(d.groups.2 G).1 ≤ 6:=by omega
  have hn5:(d.groups.2 G).1 ≤ D + 2:=by omega
  clear h4 h4' kf hD hS hn hok;obtain ⟨ao1,cap1,ao2,cap2,ao3,cap3,rfl,g1,g2,g3,k0,k4,k5⟩:=World_rd h;obtain ⟨_,_,e1,hm1,hc1⟩:=g1
  cases e1
  obtain ⟨b1,off1,he1,hb1,hel1⟩:=hc1 (by omega);subst he1;obtain ⟨cg,hrg,hcg⟩:=hel1 G hG;obtain ⟨ao9,cap9,rfl⟩:=sl_form hrg
  have c0:w.cell? ⟨b1,off1 + G,none⟩ = some (.slice ao9 (d.groups.2 G).1 cap9):=by
    have:=hcg 0 (by decide)
    have e:off1 + (G * (layDrive.slice 94).sz + 0) = off1 + G:=by show off1 + (G * 1 + 0) = off1 + G;omega
    rw [e] at this;exact this
  obtain ⟨_,_,e9,hm9,hc9⟩:=hrg
  cases e9
  unfold maxLen at hm9
  have i1:(0:Int) ≤ (G:Int):=by omega
  have i2:(G:Int) < (d.groups.1:Int):=by omega
  clear g2 g3 k0 k4 k5 hcg hel1 hc1 hm1;have hBlt:=hB.lt;have HBX:Hid (Box w B #[.int .i64 (d.shape 0),.int .i64 (d.shape 1),.int .i64 (d.shape 2),.int .i64 (d.shape 3),.int .i64 (d.shape 4),.int .i64 (d.shape 5),.int .i64 (d.shape 6),.int .i64 (d.shape 7),.int .i64 (d.shape 8),.slice (some ⟨b1,off1,none⟩) d.groups.1 cap1,.slice ao2 d.on.1 cap2,.slice ao3 d.tapes.1 cap3,.int .i64 d.writes,.int .i64 d.stop,.bool d.down] 38):=hB;clear hB
  go_enter Tryz.func47,Tryz.ntmps47
  go_wp2
  go_loopw [8,9] (fun v i wr => ∃ (k:Nat) (ce:Nat → List Value),k ≤ (d.groups.2 G).1 ∧ i = .int .i64 k ∧ View layBytes 29 wr w.heap.size hi v k (rowX (d.groups.2 G).2 (d.groups.2 G).1 R) ce ∧ Below w.heap.size w wr) (fun _ i _ => (d.groups.2 G).1 - (intOf i).toNat)
  case atStart => exact ⟨0,fun _ => [],Nat.zero_le _,rfl,View.lit0 _ _ w hi,(Below.refl _ _).alloc (Nat.le_refl _) _⟩
  case round =>
    obtain ⟨k,ce,hk,rfl,V,bw⟩:=hrel;have x9:wr.cell? ⟨B,9,none⟩ = some (.slice (some ⟨b1,off1,none⟩) d.groups.1 cap1):=(bw.cell (p:=⟨B,9,none⟩) hBlt).trans (HBX.out.cell 9);have c0':=(bw.cell (p:=⟨b1,off1 + G,none⟩) (by show b1 < w.heap.size;omega)).trans c0;have zr:=bw.size;have HV:Hid (View layBytes 29 wr w.heap.size hi u8 k (rowX (d.groups.2 G).2 (d.groups.2 G).1 R) ce):=V;have HBW:Hid (Below w.heap.size w wr):=bw;obtain ⟨aoV,capV,hvf⟩:=V.form;subst hvf
    by_cases hlt:k < (d.groups.2 G).1
    · have t1:(k:Int) < ((d.groups.2 G).1:Int):=by omega
      have HLT:Hid (k < (d.groups.2 G).1):=hlt;obtain ⟨b,off,rfl,hblt,hcell⟩:=hc9 (by omega);obtain ⟨cd,hrd,hcd⟩:=hcell k hlt;obtain ⟨ao5,cap5,rfl,g5⟩:=Drive_rd hrd;have hRk:R < ((d.groups.2 G).2 k).blocks.1:=hR k hlt;obtain ⟨_,_,e5,hm5,hc5⟩:=g5
      cases e5
      obtain ⟨b5,off5,he5,hb5,hel5⟩:=hc5 (by omega);subst he5;obtain ⟨cb,hrb,hcb⟩:=hel5 R hRk;obtain ⟨ao0,cap0,rfl,hrB,-⟩:=Block_rd hrb;have c2:wr.cell? ⟨b,off + k * 2,none⟩ = some (.bool ((d.groups.2 G).2 k).wiped):=(bw.cell (p:=⟨b,off + k * 2,none⟩) (by show b < w.heap.size;omega)).trans (hcd 0 (by decide));have c3:wr.cell? ⟨b,off + k * 2 + 1,none⟩ = some (.slice (some ⟨b5,off5,none⟩) ((d.groups.2 G).2 k).blocks.1 cap5):=(bw.cell (p:=⟨b,off + k * 2 + 1,none⟩) (by show b < w.heap.size;omega)).trans (hcd 1 (by decide));have c4:wr.cell? ⟨b5,off5 + R * 2 + 1,none⟩ = some (.slice ao0 (((d.groups.2 G).2 k).blocks.2 R).bytes.1 cap0):=(bw.cell (p:=⟨b5,off5 + R * 2 + 1,none⟩) (by show b5 < w.heap.size;omega)).trans (hcb 1 (by decide));obtain ⟨D9,hD9⟩:∃ D,D = (d.groups.2 G).2 k:=⟨_,rfl⟩;have HD9:Hid (D9 = (d.groups.2 G).2 k):=hD9;rw [← hD9] at c2 c3 c4 hRk hrB;obtain ⟨y,hy⟩:∃ y,y = (D9.blocks.2 R).bytes.1:=⟨_,rfl⟩;have HY:Hid (y = (D9.blocks.2 R).bytes.1):=hy
      have HRB:Hid (layBytes.rd w hi (D9.blocks.2 R).bytes [.slice ao0 y cap0]):=by rw [hy];exact hrB
      rw [← hy] at c4
      have j1:(0:Int) ≤ (R:Int):=by omega
      have j2:(R:Int) < (D9.blocks.1:Int):=by omega
      clear hc9 hcell hcd hrd hcb hrb hel5 hc5 hm5 V hD9 hy hrB bw
      cases hw:D9.wiped with
      | true =>
        rw [hw] at c2;have HW:Hid (D9.wiped = true):=hw;clear hw;have bA:Below wr.heap.size wr (wr.alloc (.cells #[.slice none 0 0] 29)):=(Below.refl _ _).alloc (Nat.le_refl _) _;obtain ⟨v3,w3,hrun,V3,_,b3⟩:=run_appendV el_Bytes rdOne_bytes 91 (HV.out.below bA (by omega)) 1 (src_one (b:=wr.heap.size) (hi:=hi) (y:=(0,fun _ => 0)) (cs:=[.slice none 0 0]) (fun j hj => by simp) (rd_nilB _ _)) (by simp;omega) (by omega) (by omega) (fun h => by cases h);have HV3:Hid (View layBytes 29 w3 w.heap.size hi v3 (k + 1) (rowX (d.groups.2 G).2 (d.groups.2 G).1 R) _):=V3.congr (rowK_cat (rowX_wiped (by rw [← HD9.out];exact HW.out)).symm);have HB3:Hid (Below w.heap.size w w3):=(HBW.out.trans (bA.mono zr)).trans b3;clear V3 b3 bA
        go_wp2_with (at_builtin;refine wp_run2 rfl (.tmp 34) (.tmp 35) rfl ?_ ?_ hrun ?_;(simp [Act.eval]);(simp [Act.eval]))
        clear hrun;go_wp2
        go_roundw
        case rel => exact ⟨k + 1,_,by omega,by go_num,HV3.out,HB3.out⟩
        case measure => simp [intOf];omega
      | false =>
        rw [hw] at c2;have HW:Hid (D9.wiped = false):=hw;clear hw;have bA:Below wr.heap.size wr (wr.alloc (.cells #[.slice ao0 y cap0] 29)):=(Below.refl _ _).alloc (Nat.le_refl _) _
        obtain ⟨v3,w3,hrun,V3,_,b3⟩:=run_appendV el_Bytes rdOne_bytes 91 (HV.out.below bA (by omega)) 1 (src_one (b:=wr.heap.size) (hi:=hi) (y:=(D9.blocks.2 R).bytes) (cs:=[.slice ao0 y cap0]) (fun j hj => by simp) (by
          exact layBytes.rd_below HRB.out (HBW.out.trans (bA.mono zr)) (by omega))) (by simp;omega) (by omega) (by omega) (fun h => by cases h)
        have HV3:Hid (View layBytes 29 w3 w.heap.size hi v3 (k + 1) (rowX (d.groups.2 G).2 (d.groups.2 G).1 R) _):=V3.congr (rowK_cat (by
          rw [rowX_there HLT.out (by rw [← HD9.out];exact HW.out),HD9.out]))
        have HB3:Hid (Below w.heap.size w w3):=(HBW.out.trans (bA.mono zr)).trans b3;clear V3 b3 bA
        go_wp2_with (at_builtin;refine wp_run2 rfl (.tmp 37) (.tmp 53) rfl ?_ ?_ hrun ?_;(simp [Act.eval]);(simp [Act.eval]))
        clear hrun;go_wp2
        go_roundw
        case rel => exact ⟨k + 1,_,by omega,by go_num,HV3.out,HB3.out⟩
        case measure => simp [intOf];omega
    · obtain rfl:k = (d.groups.2 G).1:=by omega
      have x2:wr.cell? ⟨B,2,none⟩ = some (.int .i64 (d.shape 2)):=(bw.cell (p:=⟨B,2,none⟩) hBlt).trans (HBX.out.cell 2);have RM:RdM wr wr.heap.size (.slice aoV (d.groups.2 G).1 capV) (d.groups.2 G).1 (rowN (d.groups.2 G).2 (d.groups.2 G).1 R) (rowM (d.groups.2 G).2 (d.groups.2 G).1 R):=V.rdM (by omega);have CD:=l2Decode_any D _ _ _ _ wr.heap.size wr RM (Nat.le_refl _) d1 d2 hn5 HFour.out HKF.out;rw [HD.out] at x2;clear hlt V RM hc9 bw
      go_wp2_with fail
      refine CD.mono ?_;rintro e w3 ⟨v3,t3,rfl,ht3,o3,b3⟩
      have HO:Hid (Own w3 wr.heap.size w3.heap.size v3 (if t3 = true then 4 * (d.shape 2).toNat else 0) (rowB d G R)):=by
        show Own w3 wr.heap.size w3.heap.size v3 _ (rowB d G R)
        unfold rowB;rw [show (d.shape 2).toNat = D by rw [HD.out];rfl];exact o3
      have HT3:Hid (t3 = true ↔ ¬ DeadP d G):=ht3.trans HND.out.symm;have HB:Hid (Below w.heap.size w w3):=HBW.out.trans (b3.mono zr)
      cases t3 with
      | false =>
        simp only [Bool.false_eq_true,if_false] at o3
        obtain ⟨ao3,cap3,rfl⟩:=o3.slice;clear o3 ht3 b3 CD x2 x9 c0';go_wp2
        go_ret2
        exact ⟨_,false,rfl,HT3.out,HO.out.weaken (by omega) (Nat.le_refl _),HB.out⟩
      | true =>
        simp only [if_pos] at o3
        obtain ⟨ao3,cap3,rfl⟩:=o3.slice;clear o3 ht3 b3 CD x2 x9 c0';go_wp2
        go_ret2
        exact ⟨_,true,rfl,by simpa using HT3.out,HO.out.weaken (by omega) (Nat.le_refl _),HB.out⟩
end Go.Proofs.YtaldlfoochmfcaaGreat
namespace Go.Proofs.YtaldlfoochmfcaaGreat
open Go.RowKit F256
set_option maxHeartbeats 16000000 in
set_option maxRecDepth 20000 in
theorem l5Built_any (d:WorldD) (hs:OkShape d.shape) (cs:List Value) (hi:Nat) (w:World) (h:layWorld.rd w hi d cs) (hhi:hi ≤ w.heap.size) :
    Calls Tryz.prog 65 #[.agg cs.toArray] w (BoolP (BuiltP d) w):=by
  obtain ⟨ao1,cap1,ao2,cap2,ao3,cap3,rfl,g1,-⟩:=World_rd h;clear h;obtain ⟨_,_,e1,hm1,hc1⟩:=g1
  cases e1
  unfold maxLen at hm1;have HC1:Hid (d.groups.1 ≠ 0 → ∃ b off,ao1 = some ⟨b,off,none⟩ ∧ b < hi ∧ ∀ i,i < d.groups.1 → ∃ ce,(layDrive.slice 94).rd w hi (d.groups.2 i) ce ∧ ∀ j,j < (layDrive.slice 94).sz → w.cell? ⟨b,off + (i * (layDrive.slice 94).sz + j),none⟩ = ce[j]?):=hc1;have HS:Hid (OkShape d.shape):=hs;clear hc1 hs
  go_enter Tryz.func65,Tryz.ntmps65
  go_upto_region 2 with fail
  have T0:=two_newb w #[.int .i64 (d.shape 0),.int .i64 (d.shape 1),.int .i64 (d.shape 2),.int .i64 (d.shape 3),.int .i64 (d.shape 4),.int .i64 (d.shape 5),.int .i64 (d.shape 6),.int .i64 (d.shape 7),.int .i64 (d.shape 8),.slice ao1 d.groups.1 cap1,.slice ao2 d.on.1 cap2,.slice ao3 d.tapes.1 cap3,.int .i64 d.writes,.int .i64 d.stop,.bool d.down] #[.int .i64 (d.shape 0),.int .i64 (d.shape 1),.int .i64 (d.shape 2),.int .i64 (d.shape 3),.int .i64 (d.shape 4),.int .i64 (d.shape 5),.int .i64 (d.shape 6),.int .i64 (d.shape 7),.int .i64 (d.shape 8)] 38 34;obtain ⟨W,hW⟩:∃ W,W = (w.alloc (.cells #[.int .i64 (d.shape 0),.int .i64 (d.shape 1),.int .i64 (d.shape 2),.int .i64 (d.shape 3),.int .i64 (d.shape 4),.int .i64 (d.shape 5),.int .i64 (d.shape 6),.int .i64 (d.shape 7),.int .i64 (d.shape 8),.slice ao1 d.groups.1 cap1,.slice ao2 d.on.1 cap2,.slice ao3 d.tapes.1 cap3,.int .i64 d.writes,.int .i64 d.stop,.bool d.down] 38)).alloc (.cells #[.int .i64 (d.shape 0),.int .i64 (d.shape 1),.int .i64 (d.shape 2),.int .i64 (d.shape 3),.int .i64 (d.shape 4),.int .i64 (d.shape 5),.int .i64 (d.shape 6),.int .i64 (d.shape 7),.int .i64 (d.shape 8)] 34):=⟨_,rfl⟩;rw [← hW] at T0 ⊢;have HT:Hid (Two w W #[.int .i64 (d.shape 0),.int .i64 (d.shape 1),.int .i64 (d.shape 2),.int .i64 (d.shape 3),.int .i64 (d.shape 4),.int .i64 (d.shape 5),.int .i64 (d.shape 6),.int .i64 (d.shape 7),.int .i64 (d.shape 8),.slice ao1 d.groups.1 cap1,.slice ao2 d.on.1 cap2,.slice ao3 d.tapes.1 cap3,.int .i64 d.writes,.int .i64 d.stop,.bool d.down] #[.int .i64 (d.shape 0),.int .i64 (d.shape 1),.int .i64 (d.shape 2),.int .i64 (d.shape 3),.int .i64 (d.shape 4),.int .i64 (d.shape 5),.int .i64 (d.shape 6),.int .i64 (d.shape 7),.int .i64 (d.shape 8)] 38 34):=T0;clear hW;have x0_9:W.cell? ⟨w.heap.size,9,none⟩ = some (.slice ao1 d.groups.1 cap1):=T0.b1.cell 9;have kx0_9:=cell_regrown x0_9;have y0_0:W.cell? ⟨w.heap.size + 1,0,none⟩ = some (.int .i64 (d.shape 0)):=T0.b2.cell 0;have ky0_0:=cell_regrown y0_0;have y0_1:W.cell? ⟨w.heap.size + 1,1,none⟩ = some (.int .i64 (d.shape 1)):=T0.b2.cell 1;have ky0_1:=cell_regrown y0_1;have y0_2:W.cell? ⟨w.heap.size + 1,2,none⟩ = some (.int .i64 (d.shape 2)):=T0.b2.cell 2;have ky0_2:=cell_regrown y0_2;have y0_3:W.cell? ⟨w.heap.size + 1,3,none⟩ = some (.int .i64 (d.shape 3)):=T0.b2.cell 3;have ky0_3:=cell_regrown y0_3;have y0_4:W.cell? ⟨w.heap.size + 1,4,none⟩ = some (.int .i64 (d.shape 4)):=T0.b2.cell 4;have ky0_4:=cell_regrown y0_4;have y0_5:W.cell? ⟨w.heap.size + 1,5,none⟩ = some (.int .i64 (d.shape 5)):=T0.b2.cell 5;have ky0_5:=cell_regrown y0_5;have y0_6:W.cell? ⟨w.heap.size + 1,6,none⟩ = some (.int .i64 (d.shape 6)):=T0.b2.cell 6;have ky0_6:=cell_regrown y0_6;have y0_7:W.cell? ⟨w.heap.size + 1,7,none⟩ = some (.int .i64 (d.shape 7)):=T0.b2.cell 7;have ky0_7:=cell_regrown y0_7;have y0_8:W.cell? ⟨w.heap.size + 1,8,none⟩ = some (.int .i64 (d.shape 8)):=T0.b2.cell 8
  have ky0_8:=cell_regrown y0_8;clear T0;have cA:=q_below (W:=W) (fun w' _ => l5All_any d.shape HS.out w');unfold shapeV at cA
  by_cases hlen:(d.groups.1:Int) = d.shape 0 + d.shape 1
  · have hne:((d.groups.1:Int) != d.shape 0 + d.shape 1) = false:=by simpa using hlen
    have HLEN:Hid ((d.groups.1:Int) = d.shape 0 + d.shape 1):=hlen;clear hlen;refine WQ.region (by kernel_rfl) (by kernel_rfl) ?_
    repeat (first | (apply WQ.skip;(case hw => rfl);intro K hK;go_simp;apply hK;clear hK K) | (apply WQ.want;(case hw => rfl);intro K hK;go_simp;first | (apply hK;clear hK K) | (apply Exists.intro;apply And.intro;(case left => intro p;(first | (go_at_call 21;exact cA _ _)));apply hK;clear hK K)))
    refine WQ.nil ?_;intro w1 hw1;have HT1:Hid (Two w w1 #[.int .i64 (d.shape 0),.int .i64 (d.shape 1),.int .i64 (d.shape 2),.int .i64 (d.shape 3),.int .i64 (d.shape 4),.int .i64 (d.shape 5),.int .i64 (d.shape 6),.int .i64 (d.shape 7),.int .i64 (d.shape 8),.slice ao1 d.groups.1 cap1,.slice ao2 d.on.1 cap2,.slice ao3 d.tapes.1 cap3,.int .i64 d.writes,.int .i64 d.stop,.bool d.down] #[.int .i64 (d.shape 0),.int .i64 (d.shape 1),.int .i64 (d.shape 2),.int .i64 (d.shape 3),.int .i64 (d.shape 4),.int .i64 (d.shape 5),.int .i64 (d.shape 6),.int .i64 (d.shape 7),.int .i64 (d.shape 8)] 38 34):=HT.out.call (below_rg hw1);clear hw1 cA x0_9 kx0_9 y0_0 ky0_0 y0_1 ky0_1 y0_2 ky0_2 y0_3 ky0_3 y0_4 ky0_4 y0_5 ky0_5 y0_6 ky0_6 y0_7 ky0_7 y0_8 ky0_8;go_wp2
    go_loopw [4] (fun i wr => ∃ k:Nat,k ≤ d.groups.1 ∧ i = .int .i64 k ∧ (∀ i,i < k → DrivesP d.shape (d.groups.2 i)) ∧ Two w wr #[.int .i64 (d.shape 0),.int .i64 (d.shape 1),.int .i64 (d.shape 2),.int .i64 (d.shape 3),.int .i64 (d.shape 4),.int .i64 (d.shape 5),.int .i64 (d.shape 6),.int .i64 (d.shape 7),.int .i64 (d.shape 8),.slice ao1 d.groups.1 cap1,.slice ao2 d.on.1 cap2,.slice ao3 d.tapes.1 cap3,.int .i64 d.writes,.int .i64 d.stop,.bool d.down] #[.int .i64 (d.shape 0),.int .i64 (d.shape 1),.int .i64 (d.shape 2),.int .i64 (d.shape 3),.int .i64 (d.shape 4),.int .i64 (d.shape 5),.int .i64 (d.shape 6),.int .i64 (d.shape 7),.int .i64 (d.shape 8)] 38 34) (fun i _ => d.groups.1 - (intOf i).toNat)
    case atStart => exact ⟨0,Nat.zero_le _,rfl,fun i hi => by omega,HT1.out⟩
    case round =>
      clear HT1;obtain ⟨k,hk,rfl,hal,T2⟩:=hrel;obtain ⟨wo,rfl⟩:∃ x,x = wr:=⟨_,rfl⟩;have HAL:Hid (∀ i,i < k → DrivesP d.shape (d.groups.2 i)):=hal;have HT2:Hid (Two w wo #[.int .i64 (d.shape 0),.int .i64 (d.shape 1),.int .i64 (d.shape 2),.int .i64 (d.shape 3),.int .i64 (d.shape 4),.int .i64 (d.shape 5),.int .i64 (d.shape 6),.int .i64 (d.shape 7),.int .i64 (d.shape 8),.slice ao1 d.groups.1 cap1,.slice ao2 d.on.1 cap2,.slice ao3 d.tapes.1 cap3,.int .i64 d.writes,.int .i64 d.stop,.bool d.down] #[.int .i64 (d.shape 0),.int .i64 (d.shape 1),.int .i64 (d.shape 2),.int .i64 (d.shape 3),.int .i64 (d.shape 4),.int .i64 (d.shape 5),.int .i64 (d.shape 6),.int .i64 (d.shape 7),.int .i64 (d.shape 8)] 38 34):=T2;clear hal;have x2_9:wo.cell? ⟨w.heap.size,9,none⟩ = some (.slice ao1 d.groups.1 cap1):=T2.b1.cell 9;have kx2_9:=cell_regrown x2_9;have y2_0:wo.cell? ⟨w.heap.size + 1,0,none⟩ = some (.int .i64 (d.shape 0)):=T2.b2.cell 0;have ky2_0:=cell_regrown y2_0;have y2_1:wo.cell? ⟨w.heap.size + 1,1,none⟩ = some (.int .i64 (d.shape 1)):=T2.b2.cell 1;have ky2_1:=cell_regrown y2_1;have y2_2:wo.cell? ⟨w.heap.size + 1,2,none⟩ = some (.int .i64 (d.shape 2)):=T2.b2.cell 2;have ky2_2:=cell_regrown y2_2;have y2_3:wo.cell? ⟨w.heap.size + 1,3,none⟩ = some (.int .i64 (d.shape 3)):=T2.b2.cell 3;have ky2_3:=cell_regrown y2_3;have y2_4:wo.cell? ⟨w.heap.size + 1,4,none⟩ = some (.int .i64 (d.shape 4)):=T2.b2.cell 4;have ky2_4:=cell_regrown y2_4;have y2_5:wo.cell? ⟨w.heap.size + 1,5,none⟩ = some (.int .i64 (d.shape 5)):=T2.b2.cell 5;have ky2_5:=cell_regrown y2_5;have y2_6:wo.cell? ⟨w.heap.size + 1,6,none⟩ = some (.int .i64 (d.shape 6)):=T2.b2.cell 6;have ky2_6:=cell_regrown y2_6;have y2_7:wo.cell? ⟨w.heap.size + 1,7,none⟩ = some (.int .i64 (d.shape 7)):=T2.b2.cell 7;have ky2_7:=cell_regrown y2_7;have y2_8:wo.cell? ⟨w.heap.size + 1,8,none⟩ = some (.int .i64 (d.shape 8)):=T2.b2.cell 8;have ky2_8:=cell_regrown y2_8
      by_cases hlt:k < d.groups.1
      · obtain ⟨b1,off1,he1,hb1,hel1⟩:=HC1.out (by omega)
        subst he1;have HEL:Hid (∀ i,i < d.groups.1 → ∃ ce,(layDrive.slice 94).rd w hi (d.groups.2 i) ce ∧ ∀ j,j < (layDrive.slice 94).sz → w.cell? ⟨b1,off1 + (i * (layDrive.slice 94).sz + j),none⟩ = ce[j]?):=hel1;obtain ⟨ck,hrk,hcell⟩:=elem_rd (t:=0) hel1 T2.bel hhi hb1 hlt;obtain ⟨ao9,cap9,rfl⟩:=sl_form hrk
        have c0:wo.cell? ⟨b1,off1 + k,none⟩ = some (.slice ao9 (d.groups.2 k).1 cap9):=by
          have h:=hcell 0 (show 0 < 1 by decide);rw [show (layDrive.slice 94).sz = 1 from rfl,Nat.mul_one,Nat.add_zero] at h;exact h
        have kc0:=cell_regrown c0;obtain ⟨_,_,e9,hm9,hc9⟩:=hrk
        cases e9
        have HC9:Hid ((d.groups.2 k).1 ≠ 0 → ∃ b off,ao9 = some ⟨b,off,none⟩ ∧ b < hi ∧ ∀ i,i < (d.groups.2 k).1 → ∃ ce,layDrive.rd wo hi ((d.groups.2 k).2 i) ce ∧ ∀ j,j < layDrive.sz → wo.cell? ⟨b,off + (i * layDrive.sz + j),none⟩ = ce[j]?):=hc9;unfold maxLen at hm9;have cD:=q_below (W:=wo) (fun w' _ => l5Drives_any d.shape HS.out w');unfold shapeV at cD;have zw:w.heap.size + 1 < wo.heap.size:=T2.b2.lt;clear hcell hc9 hel1 T2
        by_cases hlen2:((d.groups.2 k).1:Int) = d.shape 2 + d.shape 3
        · have hne2:(((d.groups.2 k).1:Int) != d.shape 2 + d.shape 3) = false:=by simpa using hlen2
          have HL2:Hid (((d.groups.2 k).1:Int) = d.shape 2 + d.shape 3):=hlen2;clear hlen2;go_wp2;refine WQ.region (by kernel_rfl) (by kernel_rfl) ?_
          repeat (first | (apply WQ.skip;(case hw => rfl);intro K hK;go_simp;apply hK;clear hK K) | (apply WQ.want;(case hw => rfl);intro K hK;go_simp;first | (apply hK;clear hK K) | (apply Exists.intro;apply And.intro;(case left => intro p;(first | (go_at_call 95;exact cD _ _)));apply hK;clear hK K)))
          refine WQ.nil ?_;intro w3 hw3;have HT3:Hid (Two w w3 #[.int .i64 (d.shape 0),.int .i64 (d.shape 1),.int .i64 (d.shape 2),.int .i64 (d.shape 3),.int .i64 (d.shape 4),.int .i64 (d.shape 5),.int .i64 (d.shape 6),.int .i64 (d.shape 7),.int .i64 (d.shape 8),.slice (some ⟨b1,off1,none⟩) d.groups.1 cap1,.slice ao2 d.on.1 cap2,.slice ao3 d.tapes.1 cap3,.int .i64 d.writes,.int .i64 d.stop,.bool d.down] #[.int .i64 (d.shape 0),.int .i64 (d.shape 1),.int .i64 (d.shape 2),.int .i64 (d.shape 3),.int .i64 (d.shape 4),.int .i64 (d.shape 5),.int .i64 (d.shape 6),.int .i64 (d.shape 7),.int .i64 (d.shape 8)] 38 34):=HT2.out.call (below_rg hw3);have HB3:Hid (Below wo.heap.size wo w3):=below_rg hw3;have HC0:Hid (wo.cell? ⟨b1,off1 + k,none⟩ = some (.slice ao9 (d.groups.2 k).1 cap9)):=c0;clear hw3 cD c0 kc0 x2_9 kx2_9 y2_0 ky2_0 y2_1 ky2_1 y2_2 ky2_2 y2_3 ky2_3 y2_4 ky2_4 y2_5 ky2_5 y2_6 ky2_6 y2_7 ky2_7 y2_8 ky2_8;go_wp2
          go_loopw [5] (fun i wx => ∃ q:Nat,q ≤ (d.groups.2 k).1 ∧ i = .int .i64 q ∧ (∀ i,i < q → BlocksP d.shape ((d.groups.2 k).2 i).blocks) ∧ Two w wx #[.int .i64 (d.shape 0),.int .i64 (d.shape 1),.int .i64 (d.shape 2),.int .i64 (d.shape 3),.int .i64 (d.shape 4),.int .i64 (d.shape 5),.int .i64 (d.shape 6),.int .i64 (d.shape 7),.int .i64 (d.shape 8),.slice (some ⟨b1,off1,none⟩) d.groups.1 cap1,.slice ao2 d.on.1 cap2,.slice ao3 d.tapes.1 cap3,.int .i64 d.writes,.int .i64 d.stop,.bool d.down] #[.int .i64 (d.shape 0),.int .i64 (d.shape 1),.int .i64 (d.shape 2),.int .i64 (d.shape 3),.int .i64 (d.shape 4),.int .i64 (d.shape 5),.int .i64 (d.shape 6),.int .i64 (d.shape 7),.int .i64 (d.shape 8)] 38 34 ∧ Below wo.heap.size wo wx) (fun i _ => (d.groups.2 k).1 - (intOf i).toNat)
          case atStart => exact ⟨0,Nat.zero_le _,rfl,fun i hi => by omega,HT3.out,HB3.out⟩
          case round =>
            clear HT3 HB3;obtain ⟨q,hq,rfl,hal2,T4,hb4⟩:=hrel;obtain ⟨wx,rfl⟩:∃ x,x = wr:=⟨_,rfl⟩;have HAL2:Hid (∀ i,i < q → BlocksP d.shape ((d.groups.2 k).2 i).blocks):=hal2;have HT4:Hid (Two w wx #[.int .i64 (d.shape 0),.int .i64 (d.shape 1),.int .i64 (d.shape 2),.int .i64 (d.shape 3),.int .i64 (d.shape 4),.int .i64 (d.shape 5),.int .i64 (d.shape 6),.int .i64 (d.shape 7),.int .i64 (d.shape 8),.slice (some ⟨b1,off1,none⟩) d.groups.1 cap1,.slice ao2 d.on.1 cap2,.slice ao3 d.tapes.1 cap3,.int .i64 d.writes,.int .i64 d.stop,.bool d.down] #[.int .i64 (d.shape 0),.int .i64 (d.shape 1),.int .i64 (d.shape 2),.int .i64 (d.shape 3),.int .i64 (d.shape 4),.int .i64 (d.shape 5),.int .i64 (d.shape 6),.int .i64 (d.shape 7),.int .i64 (d.shape 8)] 38 34):=T4;have HB4:Hid (Below wo.heap.size wo wx):=hb4;clear hal2;have x4_9:wx.cell? ⟨w.heap.size,9,none⟩ = some (.slice (some ⟨b1,off1,none⟩) d.groups.1 cap1):=T4.b1.cell 9;have y4_4:wx.cell? ⟨w.heap.size + 1,4,none⟩ = some (.int .i64 (d.shape 4)):=T4.b2.cell 4;have c4:wx.cell? ⟨b1,off1 + k,none⟩ = some (.slice ao9 (d.groups.2 k).1 cap9):=(hb4.cell (p:=⟨b1,off1 + k,none⟩) (by show b1 < wo.heap.size;omega)).trans HC0.out
            by_cases hlq:q < (d.groups.2 k).1
            · obtain ⟨b9,off9,he9,hb9,hel9⟩:=HC9.out (by omega)
              subst he9;obtain ⟨cq,hrq,hcq⟩:=elem_rd (t:=0) hel9 hb4 (by omega) hb9 hlq;obtain ⟨ao5,cap5,rfl,g5⟩:=Drive_rd hrq;have c5:wx.cell? ⟨b9,off9 + q * 2 + 1,none⟩ = some (.slice ao5 ((d.groups.2 k).2 q).blocks.1 cap5):=hcq 1 (by decide);obtain ⟨_,_,e5,hm5,hc5⟩:=g5
              cases e5
              have HC5:Hid (((d.groups.2 k).2 q).blocks.1 ≠ 0 → ∃ b off,ao5 = some ⟨b,off,none⟩ ∧ b < hi ∧ ∀ i,i < ((d.groups.2 k).2 q).blocks.1 → ∃ ce,layBlock.rd wx hi (((d.groups.2 k).2 q).blocks.2 i) ce ∧ ∀ j,j < layBlock.sz → wx.cell? ⟨b,off + (i * layBlock.sz + j),none⟩ = ce[j]?):=hc5;unfold maxLen at hm5;obtain ⟨p,hp⟩:∃ p,p = ((d.groups.2 k).2 q).blocks:=⟨_,rfl⟩;rw [← hp] at c5 hm5 HC5;have HP:Hid (p = ((d.groups.2 k).2 q).blocks):=hp;clear hel9 hcq hc5 hrq T4 hb4 hp
              by_cases hl3:(p.1:Int) = d.shape 4
              · have hne3:((p.1:Int) != d.shape 4) = false:=by simpa using hl3
                have HL3:Hid ((p.1:Int) = d.shape 4):=hl3;clear hl3;go_wp2
                go_loop [7] (fun i => ∃ z:Nat,z ≤ p.1 ∧ i = .int .i64 z ∧ ∀ i,i < z → BlockP (p.2 i)) (fun i => p.1 - (intOf i).toNat)
                case atStart => exact ⟨0,Nat.zero_le _,rfl,fun i hi => by omega⟩
                case round =>
                  obtain ⟨z,hz,rfl,hal3⟩:=hrel;have HAL3:Hid (∀ i,i < z → BlockP (p.2 i)):=hal3;clear hal3
                  by_cases hlz:z < p.1
                  · obtain ⟨b5,off5,he5,hb5,hel5⟩:=HC5.out (by omega)
                    subst he5;obtain ⟨cz,hrz,hcz⟩:=hel5 z hlz;obtain ⟨ao0,cap0,rfl,-⟩:=Block_rd hrz;have s0:wx.cell? ⟨b5,off5 + z * 2,none⟩ = some (.int .i64 (p.2 z).stamp):=hcz 0 (by decide);have s1:wx.cell? ⟨b5,off5 + z * 2 + 1,none⟩ = some (.slice ao0 (p.2 z).bytes.1 cap0):=hcz 1 (by decide);obtain ⟨t1,h1⟩:=exB (InP (p.2 z).stamp 0 1000000000);have C1:=fun w' => l1In_b (w:=w') h1;obtain ⟨b2',h2⟩:∃ b,(((p.2 z).bytes.1:Int) != 4) = b:=⟨_,rfl⟩
                    have HE:Hid (BlockP (p.2 z) ↔ (t1 = true ∧ b2' = false)):=by
                      show BlockP (p.2 z) ↔ _
                      rw [h1,← h2];unfold BlockP
                      simp
                      intro _;omega
                    clear hel5 hcz hrz h1
                    go_wp2_with fail
                    refine (C1 _).mono ?_;rintro e w' ⟨rfl,hw'⟩;obtain rfl:=hw'.symm;clear C1
                    cases t1 with
                    | false =>
                      go_wp2;go_ret
                      exact boolNo rfl (fun h => by
                        have hb:=((h.2 k hlt).2 q hlq).2 z (by rw [← HP.out];exact hlz);rw [← HP.out] at hb;have:=HE.out.1 hb
                        simp at this) HT4.out.bel
                    | true =>
                      cases b2' with
                      | true =>
                        go_wp2;go_ret
                        exact boolNo rfl (fun h => by
                          have hb:=((h.2 k hlt).2 q hlq).2 z (by rw [← HP.out];exact hlz);rw [← HP.out] at hb;have:=HE.out.1 hb
                          simp at this) HT4.out.bel
                      | false =>
                        go_wp2
                        go_round
                        case rel => exact ⟨z + 1,by omega,by go_num,fun i hi => by
                                      by_cases c:i = z
                                      · subst c;exact HE.out.2 (by simp)
                                      · exact HAL3.out i (by omega)⟩
                        case measure => simp [intOf];omega
                  · obtain rfl:z = p.1:=by omega
                    go_wp2
                    go_roundw
                    case rel => exact ⟨q + 1,by omega,by go_num,fun i hi => by
                                  by_cases c:i = q
                                  · subst c
                                    rw [← HP.out];exact ⟨HL3.out,HAL3.out⟩
                                  · exact HAL2.out i (by omega),HT4.out,HB4.out⟩
                    case measure => simp [intOf];omega
              · have hne3:((p.1:Int) != d.shape 4) = true:=by simpa using hl3
                have HN3:Hid (¬ (p.1:Int) = d.shape 4):=hl3;clear hl3;go_wp2;go_ret;exact boolNo rfl (fun h => HN3.out (by rw [HP.out];exact ((h.2 k hlt).2 q hlq).1)) HT4.out.bel
            · obtain rfl:q = (d.groups.2 k).1:=by omega
              clear T4 hb4;go_wp2
              go_roundw
              case rel => exact ⟨k + 1,by omega,by go_num,fun i hi => by
                            by_cases c:i = k
                            · subst c
                              exact ⟨HL2.out,HAL2.out⟩
                            · exact HAL.out i (by omega),HT4.out⟩
              case measure => simp [intOf];omega
        · have hne2:(((d.groups.2 k).1:Int) != d.shape 2 + d.shape 3) = true:=by simpa using hlen2
          have HN2:Hid (¬ ((d.groups.2 k).1:Int) = d.shape 2 + d.shape 3):=hlen2;clear hlen2;go_wp2;refine WQ.region (by kernel_rfl) (by kernel_rfl) ?_
          repeat (first | (apply WQ.skip;(case hw => rfl);intro K hK;go_simp;apply hK;clear hK K) | (apply WQ.want;(case hw => rfl);intro K hK;go_simp;first | (apply hK;clear hK K) | (apply Exists.intro;apply And.intro;(case left => intro p;(first | (go_at_call 95;exact cD _ _)));apply hK;clear hK K)))
          refine WQ.nil ?_;intro w3 hw3;have HB3:Hid (Below w.heap.size w w3):=(HT2.out.call (below_rg hw3)).bel;clear hw3 cD c0 kc0;go_wp2;go_ret;exact boolNo rfl (fun h => HN2.out (h.2 k hlt).1) HB3.out
      · obtain rfl:k = d.groups.1:=by omega
        go_wp2;go_ret;exact boolYes rfl ⟨HLEN.out,HAL.out⟩ HT2.out.bel
  · have hne:((d.groups.1:Int) != d.shape 0 + d.shape 1) = true:=by simpa using hlen
    have HN:Hid (¬ (d.groups.1:Int) = d.shape 0 + d.shape 1):=hlen;clear hlen;refine WQ.region (by kernel_rfl) (by kernel_rfl) ?_
    repeat (first | (apply WQ.skip;(case hw => rfl);intro K hK;go_simp;apply hK;clear hK K) | (apply WQ.want;(case hw => rfl);intro K hK;go_simp;first | (apply hK;clear hK K) | (apply Exists.intro;apply And.intro;(case left => intro p;(first | (go_at_call 21;exact cA _ _)));apply hK;clear hK K)))
    refine WQ.nil ?_;intro w1 hw1;have HB1:Hid (Below w.heap.size w w1):=(HT.out.call (below_rg hw1)).bel;clear hw1;go_wp2;go_ret;exact boolNo rfl (fun h => HN.out h.1) HB1.out
end Go.Proofs.YtaldlfoochmfcaaGreat
namespace Go.Proofs.YtaldlfoochmfcaaGreat
open Go.RowKit F256
set_option maxHeartbeats 16000000 in
set_option maxRecDepth 20000 in
theorem specWorld_A (d:WorldD) (cs:List Value) (hi:Nat) (w:World) (h:layWorld.rd w hi d cs) (hhi:hi ≤ w.heap.size) (hnm:∀ t,t < d.tapes.1 → ∀ i,i < (d.tapes.2 t).recs.1 → ((d.tapes.2 t).recs.2 i).name.size ≤ 1048576) (hok':OkShape d.shape) (hsel:¬ (BuiltP d ∧ ApartP d.on.1 d.on.2 (d.shape 0 + d.shape 1 - 1))) :
    Calls Tryz.prog 42 #[.agg cs.toArray] w (WldPost d w):=by
  obtain ⟨ao1,cap1,ao2,cap2,ao3,cap3,rfl,g1,g2,g3,-⟩:=World_rd h;have HRD:Hid (layWorld.rd w hi d [.int .i64 (d.shape 0),.int .i64 (d.shape 1),.int .i64 (d.shape 2),.int .i64 (d.shape 3),.int .i64 (d.shape 4),.int .i64 (d.shape 5),.int .i64 (d.shape 6),.int .i64 (d.shape 7),.int .i64 (d.shape 8),.slice ao1 d.groups.1 cap1,.slice ao2 d.on.1 cap2,.slice ao3 d.tapes.1 cap3,.int .i64 d.writes,.int .i64 d.stop,.bool d.down]):=h;obtain ⟨v2,e2,⟨h2,hcp2⟩,_⟩:=g2
  cases e2
  have H2:Hid (RdI w hi (.slice ao2 d.on.1 cap2) d.on.1 d.on.2):=h2;have HCP:Hid (CapP (.slice ao2 d.on.1 cap2) d.on.1):=hcp2;have hm2:=h2.mx;obtain ⟨_,_,e3,hm3,hc3⟩:=g3
  cases e3
  unfold maxLen at hm2 hm3;have HC3:Hid (d.tapes.1 ≠ 0 → ∃ b off,ao3 = some ⟨b,off,none⟩ ∧ b < hi ∧ ∀ i,i < d.tapes.1 → ∃ ce,layTape.rd w hi (d.tapes.2 i) ce ∧ ∀ j,j < layTape.sz → w.cell? ⟨b,off + (i * layTape.sz + j),none⟩ = ce[j]?):=hc3;have HNM:Hid (∀ t,t < d.tapes.1 → ∀ i,i < (d.tapes.2 t).recs.1 → ((d.tapes.2 t).recs.2 i).name.size ≤ 1048576):=hnm;clear h h2 hcp2 hc3 g1 hnm;have T0:=one_new w #[.int .i64 (d.shape 0),.int .i64 (d.shape 1),.int .i64 (d.shape 2),.int .i64 (d.shape 3),.int .i64 (d.shape 4),.int .i64 (d.shape 5),.int .i64 (d.shape 6),.int .i64 (d.shape 7),.int .i64 (d.shape 8),.slice ao1 d.groups.1 cap1,.slice ao2 d.on.1 cap2,.slice ao3 d.tapes.1 cap3,.int .i64 d.writes,.int .i64 d.stop,.bool d.down] 38;have CSh:=fun w' => specShape_any d.shape w';unfold shapeV at CSh
  go_enter Tryz.func42,Tryz.ntmps42
  go_wp2_with fail
  refine (CSh _).mono ?_;rintro e w1 ⟨x,rfl,hx,b1⟩;have T1:One w w1 #[.int .i64 (d.shape 0),.int .i64 (d.shape 1),.int .i64 (d.shape 2),.int .i64 (d.shape 3),.int .i64 (d.shape 4),.int .i64 (d.shape 5),.int .i64 (d.shape 6),.int .i64 (d.shape 7),.int .i64 (d.shape 8),.slice ao1 d.groups.1 cap1,.slice ao2 d.on.1 cap2,.slice ao3 d.tapes.1 cap3,.int .i64 d.writes,.int .i64 d.stop,.bool d.down] 38:=T0.call b1;have HT1:Hid (One w w1 #[.int .i64 (d.shape 0),.int .i64 (d.shape 1),.int .i64 (d.shape 2),.int .i64 (d.shape 3),.int .i64 (d.shape 4),.int .i64 (d.shape 5),.int .i64 (d.shape 6),.int .i64 (d.shape 7),.int .i64 (d.shape 8),.slice ao1 d.groups.1 cap1,.slice ao2 d.on.1 cap2,.slice ao3 d.tapes.1 cap3,.int .i64 d.writes,.int .i64 d.stop,.bool d.down] 38):=T1;clear b1 T0 CSh;have x1_0:w1.cell? ⟨w.heap.size,0,none⟩ = some (.int .i64 (d.shape 0)):=T1.b1.cell 0;have kx1_0:=cell_regrown x1_0;have x1_1:w1.cell? ⟨w.heap.size,1,none⟩ = some (.int .i64 (d.shape 1)):=T1.b1.cell 1;have kx1_1:=cell_regrown x1_1;have x1_2:w1.cell? ⟨w.heap.size,2,none⟩ = some (.int .i64 (d.shape 2)):=T1.b1.cell 2;have kx1_2:=cell_regrown x1_2;have x1_3:w1.cell? ⟨w.heap.size,3,none⟩ = some (.int .i64 (d.shape 3)):=T1.b1.cell 3;have kx1_3:=cell_regrown x1_3;have x1_4:w1.cell? ⟨w.heap.size,4,none⟩ = some (.int .i64 (d.shape 4)):=T1.b1.cell 4;have kx1_4:=cell_regrown x1_4;have x1_5:w1.cell? ⟨w.heap.size,5,none⟩ = some (.int .i64 (d.shape 5)):=T1.b1.cell 5;have kx1_5:=cell_regrown x1_5;have x1_6:w1.cell? ⟨w.heap.size,6,none⟩ = some (.int .i64 (d.shape 6)):=T1.b1.cell 6;have kx1_6:=cell_regrown x1_6;have x1_7:w1.cell? ⟨w.heap.size,7,none⟩ = some (.int .i64 (d.shape 7)):=T1.b1.cell 7;have kx1_7:=cell_regrown x1_7;have x1_8:w1.cell? ⟨w.heap.size,8,none⟩ = some (.int .i64 (d.shape 8)):=T1.b1.cell 8;have kx1_8:=cell_regrown x1_8;have x1_9:w1.cell? ⟨w.heap.size,9,none⟩ = some (.slice ao1 d.groups.1 cap1):=T1.b1.cell 9;have kx1_9:=cell_regrown x1_9;have x1_10:w1.cell? ⟨w.heap.size,10,none⟩ = some (.slice ao2 d.on.1 cap2):=T1.b1.cell 10;have kx1_10:=cell_regrown x1_10;have x1_11:w1.cell? ⟨w.heap.size,11,none⟩ = some (.slice ao3 d.tapes.1 cap3):=T1.b1.cell 11;have kx1_11:=cell_regrown x1_11;have x1_12:w1.cell? ⟨w.heap.size,12,none⟩ = some (.int .i64 d.writes):=T1.b1.cell 12;have kx1_12:=cell_regrown x1_12;have x1_13:w1.cell? ⟨w.heap.size,13,none⟩ = some (.int .i64 d.stop):=T1.b1.cell 13;have kx1_13:=cell_regrown x1_13;have x1_14:w1.cell? ⟨w.heap.size,14,none⟩ = some (.bool d.down):=T1.b1.cell 14;have kx1_14:=cell_regrown x1_14;clear T1
  rcases hx with ⟨rfl,hno⟩ | ⟨rfl,hok⟩
  · go_wp2
    go_ret;exact wldP rfl (Stair.fall hno) HT1.out.bel
  have HOK:Hid (OkShape d.shape):=hok
  have hsb:1 ≤ d.shape 0 ∧ d.shape 0 ≤ 4 ∧ 0 ≤ d.shape 1 ∧ d.shape 1 ≤ 2:=by
    obtain ⟨h1,_⟩:=hok;unfold Shp3 at h1;omega
  clear hok;obtain ⟨t1,h1⟩:=exB (BuiltP d);obtain ⟨t2,h2⟩:=exB (ApartP d.on.1 d.on.2 (d.shape 0 + d.shape 1 - 1));obtain ⟨b3',h3⟩:∃ b,decide (d.shape 5 < (d.on.1:Int)) = b:=⟨_,rfl⟩;obtain ⟨g',h4⟩:∃ b,decide (0 < d.on.1) = b:=⟨_,rfl⟩;obtain ⟨b5',h5⟩:∃ b,((d.tapes.1:Int) != 2) = b:=⟨_,rfl⟩;have c1:=q_below (W:=w1) (fun w' hw' => det_b (l5Built_any d HOK.out _ hi w' (layWorld.rd_below (layWorld.rd_below HRD.out HT1.out.bel hhi) hw' (Nat.le_trans hhi HT1.out.bel.size)) (Nat.le_trans hhi (Nat.le_trans HT1.out.bel.size hw'.size))) h1);have c2:=q_below (W:=w1) (fun w' hw' => det_b (l5Apart_any _ d.on.1 d.on.2 hi (d.shape 0 + d.shape 1 - 1) w' ((H2.out.below HT1.out.bel hhi).below hw' (Nat.le_trans hhi HT1.out.bel.size)) HCP.out (Nat.le_trans hhi (Nat.le_trans HT1.out.bel.size hw'.size))) h2);have cA:=q_below (W:=w1) (fun w' _ => l5All_any d.shape HOK.out w');unfold shapeV at cA
  have wsA:IntKind.i64.wrap (d.shape 0 + d.shape 1 - 1) = d.shape 0 + d.shape 1 - 1:=by rw [IntKind.wrap_i64];omega
  have h4':decide (0 < (d.on.1:Int)) = g':=by rw [← h4];simp
  obtain ⟨dn,hdn⟩:∃ x,x = d.down:=⟨_,rfl⟩
  have HE:Hid (FormP d ↔ (t1 = true ∧ t2 = true ∧ b3' = false ∧ (dn = true → g' = false) ∧ b5' = false)):=by
    show FormP d ↔ _
    have e3:(decide (d.shape 5 < (d.on.1:Int)) = false) ↔ (d.on.1:Int) ≤ d.shape 5:=by simp
    have e4:(decide (0 < d.on.1) = false) ↔ d.on.1 = 0:=by simp
    have e5:(((d.tapes.1:Int) != 2) = false) ↔ d.tapes.1 = 2:=by simp;omega
    rw [h1,h2,← h3,← h4,← h5,hdn,e3,e4,e5];unfold FormP OnP
    constructor
    · rintro ⟨a,⟨b,c,e⟩,f⟩
      exact ⟨a,b,c,e,f⟩
    · rintro ⟨a,b,c,e,f⟩
      exact ⟨a,⟨b,c,e⟩,f⟩
  have hst:t1 = false ∨ (t1 = true ∧ t2 = false):=by
    clear HE c1 c2
    cases t1 with
    | false => exact .inl rfl
    | true =>
      cases t2 with
      | false => exact .inr ⟨rfl,rfl⟩
      | true => exact absurd ⟨h1.1 rfl,h2.1 rfl⟩ hsel
  have HNF:Hid (¬ FormP d):=fun h => by
    obtain ⟨a,⟨b,c,e⟩,f⟩:=h;exact hsel ⟨a,b⟩
  rw [← hdn] at x1_14 kx1_14 c1;clear h1 h2 hsel hok'
  go_upto_region 4 with fail
  clear hdn
  rcases hst with rfl | ⟨rfl,rfl⟩
  all_goals
    refine WQ.region (by kernel_rfl) (by kernel_rfl) ?_
    repeat (first | (apply WQ.free;(case hw => rfl);intro K hK;go_simp;first | (apply hK;clear hK K) | (apply Exists.intro;apply And.intro;(case left => intro p;(first | (go_at_call 65;exact c1 _ _) | (go_at_call 66;exact c2 _ _) | (go_at_call 21;exact cA _ _)));apply hK;clear hK K)) | (apply WQ.skip;(case hw => rfl);intro K hK;go_simp;apply hK;clear hK K) | (apply WQ.want;(case hw => rfl);intro K hK;go_simp;first | (apply hK;clear hK K) | (apply Exists.intro;apply And.intro;(case left => intro p;(first | (go_at_call 65;exact c1 _ _) | (go_at_call 66;exact c2 _ _) | (go_at_call 21;exact cA _ _)));apply hK;clear hK K)))
    refine WQ.nil ?_;intro w2 hw2;have HB2:Hid (Below w.heap.size w w2):=(HT1.out.call (below_rg hw2)).bel;clear hw2;go_wp2;go_ret;exact wldP rfl (Stair.pass HOK.out (Stair.fall HNF.out)) HB2.out
set_option maxHeartbeats 16000000 in
set_option maxRecDepth 20000 in
theorem specWorld_B (d:WorldD) (cs:List Value) (hi:Nat) (w:World) (h:layWorld.rd w hi d cs) (hhi:hi ≤ w.heap.size) (hnm:∀ t,t < d.tapes.1 → ∀ i,i < (d.tapes.2 t).recs.1 → ((d.tapes.2 t).recs.2 i).name.size ≤ 1048576) (hok':OkShape d.shape) (hsel:BuiltP d ∧ ApartP d.on.1 d.on.2 (d.shape 0 + d.shape 1 - 1) ∧ ¬ ((d.on.1:Int) ≤ d.shape 5 ∧ (d.down = true → d.on.1 = 0))) :
    Calls Tryz.prog 42 #[.agg cs.toArray] w (WldPost d w):=by
  obtain ⟨ao1,cap1,ao2,cap2,ao3,cap3,rfl,g1,g2,g3,-⟩:=World_rd h;have HRD:Hid (layWorld.rd w hi d [.int .i64 (d.shape 0),.int .i64 (d.shape 1),.int .i64 (d.shape 2),.int .i64 (d.shape 3),.int .i64 (d.shape 4),.int .i64 (d.shape 5),.int .i64 (d.shape 6),.int .i64 (d.shape 7),.int .i64 (d.shape 8),.slice ao1 d.groups.1 cap1,.slice ao2 d.on.1 cap2,.slice ao3 d.tapes.1 cap3,.int .i64 d.writes,.int .i64 d.stop,.bool d.down]):=h;obtain ⟨v2,e2,⟨h2,hcp2⟩,_⟩:=g2
  cases e2
  have H2:Hid (RdI w hi (.slice ao2 d.on.1 cap2) d.on.1 d.on.2):=h2;have HCP:Hid (CapP (.slice ao2 d.on.1 cap2) d.on.1):=hcp2;have hm2:=h2.mx;obtain ⟨_,_,e3,hm3,hc3⟩:=g3
  cases e3
  unfold maxLen at hm2 hm3;have HC3:Hid (d.tapes.1 ≠ 0 → ∃ b off,ao3 = some ⟨b,off,none⟩ ∧ b < hi ∧ ∀ i,i < d.tapes.1 → ∃ ce,layTape.rd w hi (d.tapes.2 i) ce ∧ ∀ j,j < layTape.sz → w.cell? ⟨b,off + (i * layTape.sz + j),none⟩ = ce[j]?):=hc3;have HNM:Hid (∀ t,t < d.tapes.1 → ∀ i,i < (d.tapes.2 t).recs.1 → ((d.tapes.2 t).recs.2 i).name.size ≤ 1048576):=hnm;clear h h2 hcp2 hc3 g1 hnm;have T0:=one_new w #[.int .i64 (d.shape 0),.int .i64 (d.shape 1),.int .i64 (d.shape 2),.int .i64 (d.shape 3),.int .i64 (d.shape 4),.int .i64 (d.shape 5),.int .i64 (d.shape 6),.int .i64 (d.shape 7),.int .i64 (d.shape 8),.slice ao1 d.groups.1 cap1,.slice ao2 d.on.1 cap2,.slice ao3 d.tapes.1 cap3,.int .i64 d.writes,.int .i64 d.stop,.bool d.down] 38;have CSh:=fun w' => specShape_any d.shape w';unfold shapeV at CSh
  go_enter Tryz.func42,Tryz.ntmps42
  go_wp2_with fail
  refine (CSh _).mono ?_;rintro e w1 ⟨x,rfl,hx,b1⟩;have T1:One w w1 #[.int .i64 (d.shape 0),.int .i64 (d.shape 1),.int .i64 (d.shape 2),.int .i64 (d.shape 3),.int .i64 (d.shape 4),.int .i64 (d.shape 5),.int .i64 (d.shape 6),.int .i64 (d.shape 7),.int .i64 (d.shape 8),.slice ao1 d.groups.1 cap1,.slice ao2 d.on.1 cap2,.slice ao3 d.tapes.1 cap3,.int .i64 d.writes,.int .i64 d.stop,.bool d.down] 38:=T0.call b1;have HT1:Hid (One w w1 #[.int .i64 (d.shape 0),.int .i64 (d.shape 1),.int .i64 (d.shape 2),.int .i64 (d.shape 3),.int .i64 (d.shape 4),.int .i64 (d.shape 5),.int .i64 (d.shape 6),.int .i64 (d.shape 7),.int .i64 (d.shape 8),.slice ao1 d.groups.1 cap1,.slice ao2 d.on.1 cap2,.slice ao3 d.tapes.1 cap3,.int .i64 d.writes,.int .i64 d.stop,.bool d.down] 38):=T1;clear b1 T0 CSh;have x1_0:w1.cell? ⟨w.heap.size,0,none⟩ = some (.int .i64 (d.shape 0)):=T1.b1.cell 0;have kx1_0:=cell_regrown x1_0;have x1_1:w1.cell? ⟨w.heap.size,1,none⟩ = some (.int .i64 (d.shape 1)):=T1.b1.cell 1;have kx1_1:=cell_regrown x1_1;have x1_2:w1.cell? ⟨w.heap.size,2,none⟩ = some (.int .i64 (d.shape 2)):=T1.b1.cell 2;have kx1_2:=cell_regrown x1_2;have x1_3:w1.cell? ⟨w.heap.size,3,none⟩ = some (.int .i64 (d.shape 3)):=T1.b1.cell 3;have kx1_3:=cell_regrown x1_3;have x1_4:w1.cell? ⟨w.heap.size,4,none⟩ = some (.int .i64 (d.shape 4)):=T1.b1.cell 4;have kx1_4:=cell_regrown x1_4;have x1_5:w1.cell? ⟨w.heap.size,5,none⟩ = some (.int .i64 (d.shape 5)):=T1.b1.cell 5;have kx1_5:=cell_regrown x1_5;have x1_6:w1.cell? ⟨w.heap.size,6,none⟩ = some (.int .i64 (d.shape 6)):=T1.b1.cell 6;have kx1_6:=cell_regrown x1_6;have x1_7:w1.cell? ⟨w.heap.size,7,none⟩ = some (.int .i64 (d.shape 7)):=T1.b1.cell 7;have kx1_7:=cell_regrown x1_7;have x1_8:w1.cell? ⟨w.heap.size,8,none⟩ = some (.int .i64 (d.shape 8)):=T1.b1.cell 8;have kx1_8:=cell_regrown x1_8;have x1_9:w1.cell? ⟨w.heap.size,9,none⟩ = some (.slice ao1 d.groups.1 cap1):=T1.b1.cell 9;have kx1_9:=cell_regrown x1_9;have x1_10:w1.cell? ⟨w.heap.size,10,none⟩ = some (.slice ao2 d.on.1 cap2):=T1.b1.cell 10;have kx1_10:=cell_regrown x1_10;have x1_11:w1.cell? ⟨w.heap.size,11,none⟩ = some (.slice ao3 d.tapes.1 cap3):=T1.b1.cell 11;have kx1_11:=cell_regrown x1_11;have x1_12:w1.cell? ⟨w.heap.size,12,none⟩ = some (.int .i64 d.writes):=T1.b1.cell 12;have kx1_12:=cell_regrown x1_12;have x1_13:w1.cell? ⟨w.heap.size,13,none⟩ = some (.int .i64 d.stop):=T1.b1.cell 13;have kx1_13:=cell_regrown x1_13;have x1_14:w1.cell? ⟨w.heap.size,14,none⟩ = some (.bool d.down):=T1.b1.cell 14;have kx1_14:=cell_regrown x1_14;clear T1
  rcases hx with ⟨rfl,hno⟩ | ⟨rfl,hok⟩
  · go_wp2
    go_ret;exact wldP rfl (Stair.fall hno) HT1.out.bel
  have HOK:Hid (OkShape d.shape):=hok
  have hsb:1 ≤ d.shape 0 ∧ d.shape 0 ≤ 4 ∧ 0 ≤ d.shape 1 ∧ d.shape 1 ≤ 2:=by
    obtain ⟨h1,_⟩:=hok;unfold Shp3 at h1;omega
  clear hok;obtain ⟨t1,h1⟩:=exB (BuiltP d);obtain ⟨t2,h2⟩:=exB (ApartP d.on.1 d.on.2 (d.shape 0 + d.shape 1 - 1));obtain ⟨b3',h3⟩:∃ b,decide (d.shape 5 < (d.on.1:Int)) = b:=⟨_,rfl⟩;obtain ⟨g',h4⟩:∃ b,decide (0 < d.on.1) = b:=⟨_,rfl⟩;obtain ⟨b5',h5⟩:∃ b,((d.tapes.1:Int) != 2) = b:=⟨_,rfl⟩;have c1:=q_below (W:=w1) (fun w' hw' => det_b (l5Built_any d HOK.out _ hi w' (layWorld.rd_below (layWorld.rd_below HRD.out HT1.out.bel hhi) hw' (Nat.le_trans hhi HT1.out.bel.size)) (Nat.le_trans hhi (Nat.le_trans HT1.out.bel.size hw'.size))) h1);have c2:=q_below (W:=w1) (fun w' hw' => det_b (l5Apart_any _ d.on.1 d.on.2 hi (d.shape 0 + d.shape 1 - 1) w' ((H2.out.below HT1.out.bel hhi).below hw' (Nat.le_trans hhi HT1.out.bel.size)) HCP.out (Nat.le_trans hhi (Nat.le_trans HT1.out.bel.size hw'.size))) h2);have cA:=q_below (W:=w1) (fun w' _ => l5All_any d.shape HOK.out w');unfold shapeV at cA
  have wsA:IntKind.i64.wrap (d.shape 0 + d.shape 1 - 1) = d.shape 0 + d.shape 1 - 1:=by rw [IntKind.wrap_i64];omega
  have h4':decide (0 < (d.on.1:Int)) = g':=by rw [← h4];simp
  obtain ⟨dn,hdn⟩:∃ x,x = d.down:=⟨_,rfl⟩
  have HE:Hid (FormP d ↔ (t1 = true ∧ t2 = true ∧ b3' = false ∧ (dn = true → g' = false) ∧ b5' = false)):=by
    show FormP d ↔ _
    have e3:(decide (d.shape 5 < (d.on.1:Int)) = false) ↔ (d.on.1:Int) ≤ d.shape 5:=by simp
    have e4:(decide (0 < d.on.1) = false) ↔ d.on.1 = 0:=by simp
    have e5:(((d.tapes.1:Int) != 2) = false) ↔ d.tapes.1 = 2:=by simp;omega
    rw [h1,h2,← h3,← h4,← h5,hdn,e3,e4,e5];unfold FormP OnP
    constructor
    · rintro ⟨a,⟨b,c,e⟩,f⟩
      exact ⟨a,b,c,e,f⟩
    · rintro ⟨a,b,c,e,f⟩
      exact ⟨a,⟨b,c,e⟩,f⟩
  have hst:(t1 = true ∧ t2 = true ∧ b3' = true) ∨ (t1 = true ∧ t2 = true ∧ b3' = false ∧ dn = true ∧ g' = true):=by
    clear HE c1 c2;have e1:=h1.2 hsel.1;have e2:=h2.2 hsel.2.1
    cases b3' with
    | true => exact .inl ⟨e1,e2,rfl⟩
    | false =>
      have hc:(d.on.1:Int) ≤ d.shape 5:=by simpa using h3
      have hd:dn = true:=by
        cases dn with
        | true => rfl
        | false => exact absurd ⟨hc,fun h => by rw [← hdn] at h;cases h⟩ hsel.2.2
      have hg:g' = true:=by
        cases g' with
        | true => rfl
        | false => exact absurd ⟨hc,fun _ => by simpa using h4⟩ hsel.2.2
      exact .inr ⟨e1,e2,rfl,hd,hg⟩
  have HNF:Hid (¬ FormP d):=fun h => by
    obtain ⟨a,⟨b,c,e⟩,f⟩:=h;exact hsel.2.2 ⟨c,e⟩
  rw [← hdn] at x1_14 kx1_14 c1;clear h1 h2 hsel hok'
  go_upto_region 4 with fail
  clear hdn
  rcases hst with ⟨rfl,rfl,rfl⟩ | ⟨rfl,rfl,rfl,rfl,rfl⟩
  all_goals
    refine WQ.region (by kernel_rfl) (by kernel_rfl) ?_
    repeat (first | (apply WQ.free;(case hw => rfl);intro K hK;go_simp;first | (apply hK;clear hK K) | (apply Exists.intro;apply And.intro;(case left => intro p;(first | (go_at_call 65;exact c1 _ _) | (go_at_call 66;exact c2 _ _) | (go_at_call 21;exact cA _ _)));apply hK;clear hK K)) | (apply WQ.skip;(case hw => rfl);intro K hK;go_simp;apply hK;clear hK K) | (apply WQ.want;(case hw => rfl);intro K hK;go_simp;first | (apply hK;clear hK K) | (apply Exists.intro;apply And.intro;(case left => intro p;(first | (go_at_call 65;exact c1 _ _) | (go_at_call 66;exact c2 _ _) | (go_at_call 21;exact cA _ _)));apply hK;clear hK K)))
    refine WQ.nil ?_;intro w2 hw2;have HB2:Hid (Below w.heap.size w w2):=(HT1.out.call (below_rg hw2)).bel;clear hw2;go_wp2;go_ret;exact wldP rfl (Stair.pass HOK.out (Stair.fall HNF.out)) HB2.out
set_option maxHeartbeats 16000000 in
set_option maxRecDepth 20000 in
theorem specWorld_C (d:WorldD) (cs:List Value) (hi:Nat) (w:World) (h:layWorld.rd w hi d cs) (hhi:hi ≤ w.heap.size) (hnm:∀ t,t < d.tapes.1 → ∀ i,i < (d.tapes.2 t).recs.1 → ((d.tapes.2 t).recs.2 i).name.size ≤ 1048576) (hok':OkShape d.shape) (hsel:BuiltP d ∧ ApartP d.on.1 d.on.2 (d.shape 0 + d.shape 1 - 1) ∧ ((d.on.1:Int) ≤ d.shape 5 ∧ (d.down = true → d.on.1 = 0)) ∧ d.tapes.1 ≠ 2) :
    Calls Tryz.prog 42 #[.agg cs.toArray] w (WldPost d w):=by
  obtain ⟨ao1,cap1,ao2,cap2,ao3,cap3,rfl,g1,g2,g3,-⟩:=World_rd h;have HRD:Hid (layWorld.rd w hi d [.int .i64 (d.shape 0),.int .i64 (d.shape 1),.int .i64 (d.shape 2),.int .i64 (d.shape 3),.int .i64 (d.shape 4),.int .i64 (d.shape 5),.int .i64 (d.shape 6),.int .i64 (d.shape 7),.int .i64 (d.shape 8),.slice ao1 d.groups.1 cap1,.slice ao2 d.on.1 cap2,.slice ao3 d.tapes.1 cap3,.int .i64 d.writes,.int .i64 d.stop,.bool d.down]):=h;obtain ⟨v2,e2,⟨h2,hcp2⟩,_⟩:=g2
  cases e2
  have H2:Hid (RdI w hi (.slice ao2 d.on.1 cap2) d.on.1 d.on.2):=h2;have HCP:Hid (CapP (.slice ao2 d.on.1 cap2) d.on.1):=hcp2;have hm2:=h2.mx;obtain ⟨_,_,e3,hm3,hc3⟩:=g3
  cases e3
  unfold maxLen at hm2 hm3;have HC3:Hid (d.tapes.1 ≠ 0 → ∃ b off,ao3 = some ⟨b,off,none⟩ ∧ b < hi ∧ ∀ i,i < d.tapes.1 → ∃ ce,layTape.rd w hi (d.tapes.2 i) ce ∧ ∀ j,j < layTape.sz → w.cell? ⟨b,off + (i * layTape.sz + j),none⟩ = ce[j]?):=hc3;have HNM:Hid (∀ t,t < d.tapes.1 → ∀ i,i < (d.tapes.2 t).recs.1 → ((d.tapes.2 t).recs.2 i).name.size ≤ 1048576):=hnm;clear h h2 hcp2 hc3 g1 hnm;have T0:=one_new w #[.int .i64 (d.shape 0),.int .i64 (d.shape 1),.int .i64 (d.shape 2),.int .i64 (d.shape 3),.int .i64 (d.shape 4),.int .i64 (d.shape 5),.int .i64 (d.shape 6),.int .i64 (d.shape 7),.int .i64 (d.shape 8),.slice ao1 d.groups.1 cap1,.slice ao2 d.on.1 cap2,.slice ao3 d.tapes.1 cap3,.int .i64 d.writes,.int .i64 d.stop,.bool d.down] 38;have CSh:=fun w' => specShape_any d.shape w';unfold shapeV at CSh
  go_enter Tryz.func42,Tryz.ntmps42
  go_wp2_with fail
  refine (CSh _).mono ?_;rintro e w1 ⟨x,rfl,hx,b1⟩;have T1:One w w1 #[.int .i64 (d.shape 0),.int .i64 (d.shape 1),.int .i64 (d.shape 2),.int .i64 (d.shape 3),.int .i64 (d.shape 4),.int .i64 (d.shape 5),.int .i64 (d.shape 6),.int .i64 (d.shape 7),.int .i64 (d.shape 8),.slice ao1 d.groups.1 cap1,.slice ao2 d.on.1 cap2,.slice ao3 d.tapes.1 cap3,.int .i64 d.writes,.int .i64 d.stop,.bool d.down] 38:=T0.call b1;have HT1:Hid (One w w1 #[.int .i64 (d.shape 0),.int .i64 (d.shape 1),.int .i64 (d.shape 2),.int .i64 (d.shape 3),.int .i64 (d.shape 4),.int .i64 (d.shape 5),.int .i64 (d.shape 6),.int .i64 (d.shape 7),.int .i64 (d.shape 8),.slice ao1 d.groups.1 cap1,.slice ao2 d.on.1 cap2,.slice ao3 d.tapes.1 cap3,.int .i64 d.writes,.int .i64 d.stop,.bool d.down] 38):=T1;clear b1 T0 CSh;have x1_0:w1.cell? ⟨w.heap.size,0,none⟩ = some (.int .i64 (d.shape 0)):=T1.b1.cell 0;have kx1_0:=cell_regrown x1_0;have x1_1:w1.cell? ⟨w.heap.size,1,none⟩ = some (.int .i64 (d.shape 1)):=T1.b1.cell 1;have kx1_1:=cell_regrown x1_1;have x1_2:w1.cell? ⟨w.heap.size,2,none⟩ = some (.int .i64 (d.shape 2)):=T1.b1.cell 2;have kx1_2:=cell_regrown x1_2;have x1_3:w1.cell? ⟨w.heap.size,3,none⟩ = some (.int .i64 (d.shape 3)):=T1.b1.cell 3;have kx1_3:=cell_regrown x1_3;have x1_4:w1.cell? ⟨w.heap.size,4,none⟩ = some (.int .i64 (d.shape 4)):=T1.b1.cell 4;have kx1_4:=cell_regrown x1_4;have x1_5:w1.cell? ⟨w.heap.size,5,none⟩ = some (.int .i64 (d.shape 5)):=T1.b1.cell 5;have kx1_5:=cell_regrown x1_5;have x1_6:w1.cell? ⟨w.heap.size,6,none⟩ = some (.int .i64 (d.shape 6)):=T1.b1.cell 6;have kx1_6:=cell_regrown x1_6;have x1_7:w1.cell? ⟨w.heap.size,7,none⟩ = some (.int .i64 (d.shape 7)):=T1.b1.cell 7;have kx1_7:=cell_regrown x1_7;have x1_8:w1.cell? ⟨w.heap.size,8,none⟩ = some (.int .i64 (d.shape 8)):=T1.b1.cell 8;have kx1_8:=cell_regrown x1_8;have x1_9:w1.cell? ⟨w.heap.size,9,none⟩ = some (.slice ao1 d.groups.1 cap1):=T1.b1.cell 9;have kx1_9:=cell_regrown x1_9;have x1_10:w1.cell? ⟨w.heap.size,10,none⟩ = some (.slice ao2 d.on.1 cap2):=T1.b1.cell 10;have kx1_10:=cell_regrown x1_10;have x1_11:w1.cell? ⟨w.heap.size,11,none⟩ = some (.slice ao3 d.tapes.1 cap3):=T1.b1.cell 11;have kx1_11:=cell_regrown x1_11;have x1_12:w1.cell? ⟨w.heap.size,12,none⟩ = some (.int .i64 d.writes):=T1.b1.cell 12;have kx1_12:=cell_regrown x1_12;have x1_13:w1.cell? ⟨w.heap.size,13,none⟩ = some (.int .i64 d.stop):=T1.b1.cell 13;have kx1_13:=cell_regrown x1_13;have x1_14:w1.cell? ⟨w.heap.size,14,none⟩ = some (.bool d.down):=T1.b1.cell 14;have kx1_14:=cell_regrown x1_14;clear T1
  rcases hx with ⟨rfl,hno⟩ | ⟨rfl,hok⟩
  · go_wp2
    go_ret;exact wldP rfl (Stair.fall hno) HT1.out.bel
  have HOK:Hid (OkShape d.shape):=hok
  have hsb:1 ≤ d.shape 0 ∧ d.shape 0 ≤ 4 ∧ 0 ≤ d.shape 1 ∧ d.shape 1 ≤ 2:=by
    obtain ⟨h1,_⟩:=hok;unfold Shp3 at h1;omega
  clear hok;obtain ⟨t1,h1⟩:=exB (BuiltP d);obtain ⟨t2,h2⟩:=exB (ApartP d.on.1 d.on.2 (d.shape 0 + d.shape 1 - 1));obtain ⟨b3',h3⟩:∃ b,decide (d.shape 5 < (d.on.1:Int)) = b:=⟨_,rfl⟩;obtain ⟨g',h4⟩:∃ b,decide (0 < d.on.1) = b:=⟨_,rfl⟩;obtain ⟨b5',h5⟩:∃ b,((d.tapes.1:Int) != 2) = b:=⟨_,rfl⟩;have c1:=q_below (W:=w1) (fun w' hw' => det_b (l5Built_any d HOK.out _ hi w' (layWorld.rd_below (layWorld.rd_below HRD.out HT1.out.bel hhi) hw' (Nat.le_trans hhi HT1.out.bel.size)) (Nat.le_trans hhi (Nat.le_trans HT1.out.bel.size hw'.size))) h1);have c2:=q_below (W:=w1) (fun w' hw' => det_b (l5Apart_any _ d.on.1 d.on.2 hi (d.shape 0 + d.shape 1 - 1) w' ((H2.out.below HT1.out.bel hhi).below hw' (Nat.le_trans hhi HT1.out.bel.size)) HCP.out (Nat.le_trans hhi (Nat.le_trans HT1.out.bel.size hw'.size))) h2);have cA:=q_below (W:=w1) (fun w' _ => l5All_any d.shape HOK.out w');unfold shapeV at cA
  have wsA:IntKind.i64.wrap (d.shape 0 + d.shape 1 - 1) = d.shape 0 + d.shape 1 - 1:=by rw [IntKind.wrap_i64];omega
  have h4':decide (0 < (d.on.1:Int)) = g':=by rw [← h4];simp
  obtain ⟨dn,hdn⟩:∃ x,x = d.down:=⟨_,rfl⟩
  have HE:Hid (FormP d ↔ (t1 = true ∧ t2 = true ∧ b3' = false ∧ (dn = true → g' = false) ∧ b5' = false)):=by
    show FormP d ↔ _
    have e3:(decide (d.shape 5 < (d.on.1:Int)) = false) ↔ (d.on.1:Int) ≤ d.shape 5:=by simp
    have e4:(decide (0 < d.on.1) = false) ↔ d.on.1 = 0:=by simp
    have e5:(((d.tapes.1:Int) != 2) = false) ↔ d.tapes.1 = 2:=by simp;omega
    rw [h1,h2,← h3,← h4,← h5,hdn,e3,e4,e5];unfold FormP OnP
    constructor
    · rintro ⟨a,⟨b,c,e⟩,f⟩
      exact ⟨a,b,c,e,f⟩
    · rintro ⟨a,b,c,e,f⟩
      exact ⟨a,⟨b,c,e⟩,f⟩
  have hst:(t1 = true ∧ t2 = true ∧ b3' = false ∧ dn = true ∧ g' = false ∧ b5' = true) ∨ (t1 = true ∧ t2 = true ∧ b3' = false ∧ dn = false ∧ b5' = true):=by
    clear HE c1 c2;have e1:=h1.2 hsel.1;have e2:=h2.2 hsel.2.1
    have e3:b3' = false:=by rw [← h3];simpa using hsel.2.2.1.1
    have e5:b5' = true:=by rw [← h5];have:=hsel.2.2.2;simp;omega
    cases dn with
    | false => exact .inr ⟨e1,e2,e3,rfl,e5⟩
    | true => exact .inl ⟨e1,e2,e3,rfl,by rw [← h4];have:=hsel.2.2.1.2 hdn.symm;simp;omega,e5⟩
  have HNF:Hid (¬ FormP d):=fun h => by
    obtain ⟨a,⟨b,c,e⟩,f⟩:=h;exact hsel.2.2.2 f
  rw [← hdn] at x1_14 kx1_14 c1;clear h1 h2 hsel hok'
  go_upto_region 4 with fail
  clear hdn
  rcases hst with ⟨rfl,rfl,rfl,rfl,rfl,rfl⟩ | ⟨rfl,rfl,rfl,rfl,rfl⟩
  all_goals
    refine WQ.region (by kernel_rfl) (by kernel_rfl) ?_
    repeat (first | (apply WQ.free;(case hw => rfl);intro K hK;go_simp;first | (apply hK;clear hK K) | (apply Exists.intro;apply And.intro;(case left => intro p;(first | (go_at_call 65;exact c1 _ _) | (go_at_call 66;exact c2 _ _) | (go_at_call 21;exact cA _ _)));apply hK;clear hK K)) | (apply WQ.skip;(case hw => rfl);intro K hK;go_simp;apply hK;clear hK K) | (apply WQ.want;(case hw => rfl);intro K hK;go_simp;first | (apply hK;clear hK K) | (apply Exists.intro;apply And.intro;(case left => intro p;(first | (go_at_call 65;exact c1 _ _) | (go_at_call 66;exact c2 _ _) | (go_at_call 21;exact cA _ _)));apply hK;clear hK K)))
    refine WQ.nil ?_;intro w2 hw2;have HB2:Hid (Below w.heap.size w w2):=(HT1.out.call (below_rg hw2)).bel;clear hw2;go_wp2;go_ret;exact wldP rfl (Stair.pass HOK.out (Stair.fall HNF.out)) HB2.out
end Go.Proofs.YtaldlfoochmfcaaGreat