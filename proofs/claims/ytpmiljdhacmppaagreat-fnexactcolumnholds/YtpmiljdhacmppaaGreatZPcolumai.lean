/- Walks of the program's AddShare, of slices.Equal over bytes and of ColumnFits. -/
import Derived.Test.YtpmiljdhacmppaaGreatZPcolumah
import Derived.Test.YtpmiljdhacmppaaGreatZPcolumab
import Derived.BigQuiet
import Derived.Deep.QuietTactic
import Derived.Test.YtpmiljdhacmppaaGreatZPcolumag
import Derived.Test.YtpmiljdhacmppaaGreatZPcolumaf
import Derived.Deep.DeepCutAuto
import Derived.Test.YtpmiljdhacmppaaGreatZPcolumac
import Derived.Test.YtpmiljdhacmppaaGreatZPcolumae
import Derived.Test.YtpmiljdhacmppaaGreatZPcolumad
import Derived.Test.YtpmiljdhacmppaaGreatZPcolumaa
import Derived.Test.YtpmiljdhacmppaaGreatRows
import Derived.Deep.RegionLaw
set_option linter.unusedVariables false
set_option linter.unusedSimpArgs false
namespace Go.Proofs.YtpmiljdhacmppaaGreat
open Go.RowKit F256
set_option maxHeartbeats 1000000 in
theorem equalBU_any (v1 v2:Value) (n m:Nat) (f g:Nat → Nat) (h1 h2:Nat) (w:World) (r1:Rd w h1 v1 n f) (r2:Rd w h2 v2 m g) :
    Calls Tryz.prog 53 #[v1,v2] w (BoolP (SameP n m f g) w):=by
  obtain ⟨ao,cap,rfl,hm,hc⟩:=r1;obtain ⟨ao2,cap2,rfl,hm2,hc2⟩:=r2;unfold maxLen at hm hm2
  by_cases hnm:n = m
  · subst hnm
    go_enter Tryz.func53,Tryz.ntmps53
    go_wp2
    go_loopw [13] (fun i wr => ∃ k:Nat,k ≤ n ∧ i = .int .i64 k ∧ (∀ i,i < k → f i = g i) ∧ ∃ m,wr = w.drewN m) (fun i _ => n - (intOf i).toNat)
    case atStart => exact ⟨0,Nat.zero_le _,rfl,fun i hi => by omega,0,rfl⟩
    case round =>
      obtain ⟨k,hk,rfl,hall,q,rfl⟩:=hrel;have HALL:Hid (∀ i,i < k → f i = g i):=hall;clear hall
      by_cases hlt:k < n
      · obtain ⟨b,off,rfl,hblt,hcell⟩:=hc (by omega)
        obtain ⟨b2,off2,rfl,hblt2,hcell2⟩:=hc2 (by omega);have hck:w.cell? ⟨b,off + k,none⟩ = some (.int .u8 (f k)):=hcell k hlt;have hck2:w.cell? ⟨b2,off2 + k,none⟩ = some (.int .u8 (g k)):=hcell2 k hlt;obtain ⟨x,hx⟩:∃ x,x = f k:=⟨_,rfl⟩;obtain ⟨y,hy⟩:∃ y,y = g k:=⟨_,rfl⟩;have HX:Hid (x = f k):=hx;have HY:Hid (y = g k):=hy;rw [← hx] at hck;rw [← hy] at hck2;clear hc hc2 hcell hcell2 hx hy
        by_cases heq:x = y
        · subst heq
          go_wp2
          go_quiet (fail)
          go_wp2
          go_roundw
          case rel => exact ⟨k + 1,by omega,by go_num,fun i hi => by
                        by_cases c:i = k
                        · rw [c,← HX.out,← HY.out]
                        · exact HALL.out i (by omega),_,rfl⟩
          case measure => simp [intOf];omega
        · have tn:((x:Int) != (y:Int)) = true:=by simp;omega
          go_wp2
          go_quiet (fail)
          go_wp2;go_ret;exact boolNo rfl (fun h => absurd (h.2 k hlt) (by rw [← HX.out,← HY.out];exact heq)) (below_drewN (below_drewN (Below.refl _ _) _) _)
      · have hkn:k = n:=by omega
        subst hkn;go_wp2;go_ret;exact boolYes rfl ⟨rfl,HALL.out⟩ (below_drewN (Below.refl _ _) _)
  · have tn:((n:Int) != (m:Int)) = true:=by simp;omega
    clear hc hc2
    go_enter Tryz.func53,Tryz.ntmps53
    go_wp2;go_ret;exact boolNo rfl (fun h => hnm h.1) (Below.refl _ _)
set_option maxHeartbeats 4000000 in
theorem implFitsC_any (v:Value) (R:Nat) (n:Nat → Nat) (f:Mat) (c:Int) (h1:Nat) (w:World) (r:RdM w h1 v R n f) (hcap:∃ ao cap,v = .slice ao R cap ∧ R ≤ cap) (hh:h1 ≤ w.heap.size) (kf:Byt f) (hcb:-9223372036854775808 ≤ c ∧ c ≤ 9223372036854775807) (hN9:n 0 ≤ 1000000000) (hR9:R ≤ 1000000000) :
    Calls Tryz.prog 24 #[v,.int .i64 c] w (BoolP (CfP R n f c) w):=by
  have HR:Hid (RdM w h1 v R n f):=r;obtain ⟨ao,cap,e,rfl,hm,hc,he⟩:=r;obtain ⟨ao',cap',heq,hcap⟩:=hcap
  simp only [Value.slice.injEq,true_and] at heq
  obtain ⟨rfl,rfl⟩:=heq;unfold maxLen at hm;have HE:Hid (∀ i,i < R → Rd w h1 (e i) (n i) (f i)):=he;have HC:Hid (R ≠ 0 → ∃ b off,ao = some ⟨b,off,none⟩ ∧ b < h1 ∧ ∀ i,i < R → w.cell? ⟨b,off + i,none⟩ = some (e i)):=hc;clear hc he
  by_cases hc2:0 ≤ c ∧ c ≤ 2
  · have HC2:Hid (0 ≤ c ∧ c ≤ 2):=hc2
    obtain ⟨C,rfl⟩:∃ C:Nat,c = C:=⟨c.toNat,by omega⟩
    have hC:C ≤ 2:=by omega
    have CS:=columnInBounds_any ((R:Int) - (C:Int)) (C:Int)
    have wsub:IntKind.i64.wrap ((R:Int) - (C:Int)) = (R:Int) - (C:Int):=by rw [IntKind.wrap_i64];omega
    clear hc2 hcb
    by_cases hsh:Shp3 ((R:Int) - (C:Int)) (C:Int)
    · have HSH:Hid (Shp3 ((R:Int) - (C:Int)) (C:Int)):=hsh
      obtain ⟨q1,q2,q3,q4⟩:=hsh;obtain ⟨D,hD⟩:∃ D:Nat,D + C = R:=⟨R - C,by omega⟩;have HD:Hid (D + C = R):=hD
      have hsubi:(R:Int) - (C:Int) = (D:Int):=by omega
      have HDR:Hid (R - C = D):=by show R - C = D;omega
      have hD1:1 ≤ D:=by omega
      have hD4:D ≤ 4:=by omega
      have hDR:D ≤ R:=by omega
      have hDc:(D:Int) ≤ (cap:Int):=by omega
      have hD0:D ≠ 0:=by omega
      obtain ⟨b,off,hao,hblt,hcell⟩:=HC.out (by omega);subst hao;have HCL:Hid (∀ i,i < R → w.cell? ⟨b,off + i,none⟩ = some (e i)):=hcell
      have hbw:b < w.heap.size:=by omega
      rw [hsubi] at CS wsub;clear hD hcell HC;have CE:=fun (w1:World) (b':Below w.heap.size w w1) => equallyLong_any (.slice (some ⟨b,off,none⟩) R cap) R n f h1 w1 (HR.out.below b' hh)
      by_cases hev:EvenP R n
      · have HEV:Hid (EvenP R n):=hev
        clear hev
        go_enter Tryz.func24,Tryz.ntmps24
        go_wp2_with fail
        refine (CS _).mono ?_;rintro e0 w1 ⟨b1,rfl,hb1,B1⟩;obtain rfl:b1 = true:=hb1.mpr (by rw [← hsubi];exact HSH.out);clear hb1 CS
        go_wp2_with fail
        refine (CE _ B1).mono ?_;rintro e0 w2 ⟨b2,rfl,hb2,b2'⟩;obtain rfl:b2 = true:=hb2.mpr HEV.out;have B2:Below w.heap.size w w2:=B1.trans (b2'.mono B1.size);have s2:=B2.size;clear hb2 b2' B1 CE;have rP:RdM w2 w.heap.size (.slice (some ⟨b,off,none⟩) D cap) D n f:=⟨_,_,e,rfl,by unfold maxLen;omega,fun _ => ⟨b,off,rfl,hbw,fun i hi => (B2.cell (p:=⟨b,off + i,none⟩) hbw).trans (HCL.out i (by omega))⟩,fun i hi => ((HE.out i (by omega)).below B2 hh).mono hh⟩;have CX:=parityOf_any _ D C (n 0) n f w.heap.size w2 rP s2 hD1 hD4 hC (fun i hi => HEV.out i (by omega)) hN9 kf;obtain ⟨N,hN⟩:∃ N,N = n 0:=⟨_,rfl⟩;have HN:Hid (N = n 0):=hN;rw [← hN] at CX;clear rP hN
        go_wp2_with fail
        refine CX.mono ?_;rintro ee w4 ⟨v4,rfl,om,b4⟩;obtain ⟨gW,cW,eW,hW⟩:=om;have hv:=hW.val;subst hv;have HW:Hid (OwnE w4 w2.heap.size w4.heap.size (.slice (some ⟨gW,0,none⟩) C cW) C (fun _ => N) (parN D f) gW cW eW):=hW;have hgW:=hW.high;have HB4:Hid (Below w.heap.size w w4):=B2.trans (b4.mono s2);have s4:w.heap.size ≤ w4.heap.size:=HB4.out.size;clear b4 B2 CX hW;go_wp2
        go_loopw [33] (fun i wr => ∃ k:Nat,k ≤ C ∧ i = .int .i64 k ∧ (∀ j,j < k → ∀ t,t < N → f (D + j) t = parN D f j t) ∧ Below w4.heap.size w4 wr) (fun i _ => C - (intOf i).toNat)
        case atStart => exact ⟨0,Nat.zero_le _,rfl,fun i hi => by omega,Below.refl _ _⟩
        case round =>
          obtain ⟨k,hk,rfl,hall,hb⟩:=hrel;have HALL:Hid (∀ j,j < k → ∀ t,t < N → f (D + j) t = parN D f j t):=hall;have HB:Hid (Below w4.heap.size w4 wr):=hb;have hB:Below w.heap.size w wr:=HB4.out.trans (hb.mono s4)
          by_cases hlt:k < C
          · obtain ⟨q,hq⟩:∃ q,q = D + k:=⟨_,rfl⟩
            have HQ:Hid (q = D + k):=hq
            have hqR:q < R:=by have:=HD.out;omega
            have wq:IntKind.i64.wrap ((D:Int) + (k:Int)) = (q:Int):=by rw [IntKind.wrap_i64];omega
            have c1:wr.cell? ⟨b,off + q,none⟩ = some (e q):=(hB.cell (p:=⟨b,off + q,none⟩) hbw).trans (HCL.out q hqR);have c2:wr.cell? ⟨gW,k,none⟩ = some (eW k):=(hb.cell (p:=⟨gW,k,none⟩) hgW).trans (HW.out.cell k hlt);have r1:=(HE.out q hqR).below hB hh;have r2:=((HW.out.each k hlt).below hb (Nat.le_refl _)).rd;rw [HEV.out q hqR,← HN.out] at r1;obtain ⟨x1,hx1⟩:∃ x,x = e q:=⟨_,rfl⟩;obtain ⟨x2,hx2⟩:∃ x,x = eW k:=⟨_,rfl⟩;rw [← hx1] at c1 r1;rw [← hx2] at c2 r2;have HR1:Hid (Rd wr h1 x1 N (f q)):=r1;have HR2:Hid (Rd wr w4.heap.size x2 N (parN D f k)):=r2;obtain ⟨ao1,cap1,hq1,_,_⟩:=r1;obtain ⟨ao2,cap2,hq2,_,_⟩:=r2;subst hq1;subst hq2;clear hx1 hx2 hall hb hB hq
            by_cases hsm:SameP N N (parN D f k) (f q)
            · have HSM:Hid (SameP N N (parN D f k) (f q)):=hsm
              clear hsm;go_wp2
              go_region_with (go_at_call 53;refine (equalBU_any _ _ N N (parN D f k) (f q) w4.heap.size h1 _ ?_ ?_).mono ?_;exact HR2.out;exact HR1.out;rintro ee w5 ⟨bb,rfl,hbb,b5⟩)
              all_goals
                obtain rfl:bb = true:=hbb.mpr HSM.out;have R5:Below w4.heap.size w4 w5:=HB.out.trans ((undrewN' b5).mono HB.out.size);clear b5 hbb c1 c2;go_wp2
                go_roundw
                case rel => exact ⟨k + 1,by omega,by go_num,fun j hj t ht => by
                              by_cases cc:j = k
                              · rw [cc,← HQ.out];exact (HSM.out.2 t ht).symm
                              · exact HALL.out j (by omega) t ht,R5⟩
                case measure => simp [intOf];omega
            · have HSM:Hid (¬ SameP N N (parN D f k) (f q)):=hsm
              clear hsm;go_wp2
              go_region_with (go_at_call 53;refine (equalBU_any _ _ N N (parN D f k) (f q) w4.heap.size h1 _ ?_ ?_).mono ?_;exact HR2.out;exact HR1.out;rintro ee w5 ⟨bb,rfl,hbb,b5⟩;obtain rfl:bb = false:=by (cases bb with | false => rfl | true => exact absurd (hbb.mp rfl) HSM.out))
              all_goals
                have R5:Below w4.heap.size w4 w5:=HB.out.trans ((undrewN' b5).mono HB.out.size);clear b5 hbb c1 c2;go_wp2;go_ret
                exact boolNo rfl (fun h => HSM.out ⟨rfl,fun t ht => by
                  have:=h.2.2.2 k (by rw [Int.toNat_natCast];exact hlt) t (by rw [← HN.out];exact ht);rw [Int.toNat_natCast,HDR.out,← HQ.out] at this
                  exact this.symm⟩) (HB4.out.trans (R5.mono s4))
          · obtain rfl:k = C:=by omega
            go_wp2;go_ret
            exact boolYes rfl ⟨HC2.out,HSH.out,HEV.out,fun j hj t ht => by
              rw [Int.toNat_natCast] at hj ⊢;rw [HDR.out]
              exact HALL.out j hj t (by rw [HN.out];exact ht)⟩ hB
      · have HEV:Hid (¬ EvenP R n):=hev
        clear hev
        go_enter Tryz.func24,Tryz.ntmps24
        go_wp2_with fail
        refine (CS _).mono ?_;rintro e0 w1 ⟨b1,rfl,hb1,B1⟩;obtain rfl:b1 = true:=hb1.mpr (by rw [← hsubi];exact HSH.out);clear hb1 CS
        go_wp2_with fail
        refine (CE _ B1).mono ?_;rintro e0 w2 ⟨b2,rfl,hb2,b2'⟩
        obtain rfl:b2 = false:=by
          cases b2 with
          | false => rfl
          | true => exact absurd (hb2.mp rfl) HEV.out
        have B2:Below w.heap.size w w2:=B1.trans (b2'.mono B1.size);clear hb2 b2' B1 CE;go_wp2;go_ret;exact boolNo rfl (fun h => HEV.out h.2.2.1) B2
    · have HSH:Hid (¬ Shp3 ((R:Int) - (C:Int)) (C:Int)):=hsh
      clear hsh HC
      go_enter Tryz.func24,Tryz.ntmps24
      go_wp2_with fail
      refine (CS _).mono ?_;rintro e0 w1 ⟨b1,rfl,hb1,B1⟩
      obtain rfl:b1 = false:=by
        cases b1 with
        | false => rfl
        | true => exact absurd (hb1.mp rfl) HSH.out
      clear hb1 CS;go_wp2;go_ret;exact boolNo rfl (fun h => HSH.out h.2.1) B1
  · have HC2:Hid (¬ (0 ≤ c ∧ c ≤ 2)):=hc2
    by_cases hneg:c < 0
    · clear hc2 HC
      go_enter Tryz.func24,Tryz.ntmps24
      go_wp2;go_ret;exact boolNo rfl (fun h => HC2.out h.1) (Below.refl _ _)
    · have hbig:2 < c:=by omega
      have tneg:decide (c < 0) = false:=by simp;omega
      clear hc2 HC hneg
      go_enter Tryz.func24,Tryz.ntmps24
      go_wp2;go_ret;exact boolNo rfl (fun h => HC2.out h.1) (Below.refl _ _)
end Go.Proofs.YtpmiljdhacmppaaGreat
namespace Go.Proofs.YtpmiljdhacmppaaGreat
open Go.RowKit F256
structure BldQ (wr:World) (lo hi:Nat) (v:Value) (k:Nat) (n:Nat → Nat) (f:Mat) (e:Nat → Value):Prop where
  row:wr.ownsRow lo 56 1 v k (valsOf k e)
  low:∀ b,v.ownBlock = some b → b < hi
  each:∀ i,i < k → Own wr lo hi (e i) (n i) (f i)
  apart:∀ i j,i < k → j < k → i ≠ j → ∀ b,(e i).ownBlock = some b → (e j).ownBlock ≠ some b
  le:lo ≤ hi
  le2:hi ≤ wr.heap.size
theorem BldQ.nil (w:World) (lo:Nat) (hlo:lo ≤ w.heap.size) (n:Nat → Nat) (f:Mat) (e:Nat → Value):BldQ w lo w.heap.size (.slice none 0 0) 0 n f e :=
  ⟨World.ownsRow_nil w lo _ 1,fun b hb => by simp [Value.ownBlock] at hb,fun i hi => by omega,fun i j hi => by omega,hlo,Nat.le_refl _⟩
theorem BldQ.kept {w w2:World} {lo hi:Nat} {v:Value} {k:Nat} {n:Nat → Nat} {f:Mat} {e:Nat → Value} (h:BldQ w lo hi v k n f e) (hk:∀ b,lo ≤ b → b < hi → w2.heap[b]? = w.heap[b]?) (hs:hi ≤ w2.heap.size):BldQ w2 lo hi v k n f e :=
  ⟨row_kept h.row fun b hb => hk b (h.row.lt b hb).1 (h.low b hb),h.low,fun i hi => (h.each i hi).kept fun b hb => hk b ((h.each i hi).1.lt b hb).1 ((h.each i hi).2 b hb),h.apart,h.le,hs⟩
theorem BldQ.next {w2 w4:World} {lo hi lo2 hi2:Nat} {v v' x:Value} {k:Nat} {n n':Nat → Nat} {f f':Mat} {e:Nat → Value} (h:BldQ w2 lo hi v k n f e) (ho:Own w2 lo2 hi2 x (n' k) (f' k)) (hlo:hi ≤ lo2)
    (hn:∀ i,i < k → n' i = n i) (hf:∀ i,i < k → f' i = f i)
    (hr:w4.ownsRow lo 56 1 v' (k + 1) (valsOf k e ++ [x])) (hg:(w2.alloc (.cells #[x] 56)).grownBy w4 v.ownBlock) (hnn:v' ≠ nilS):BldQ w4 lo w4.heap.size v' (k + 1) n' f' (fun i => if i = k then x else e i):=by
  have hs4:w2.heap.size + 1 ≤ w4.heap.size:=by have:=hg.size;simpa using this
  have hle:=h.le;have hle2:=h.le2
  have hv:valsOf k e ++ [x] = valsOf (k + 1) (fun i => if i = k then x else e i):=by
    rw [← valsOf_snoc]
    simp only [if_pos]
    rw [valsOf_eq (e:=e) (g:=fun i => if i = k then x else e i) (fun i hi => by simp [show ¬ i = k by omega])]
  rw [hv] at hr
  have kp:∀ {y:Value} {m:Nat} {q:Nat → Nat} {l u:Nat},Own w2 l u y m q → Own w4 l w4.heap.size y m q:=fun {y m q l u} hy =>
    ⟨(hy.kept fun b hb' => by
      have hlt:=(hy.1.lt b hb').2;rw [hg.block b (by simp;omega) (fun hh => two_blocks h.row hy b hh.symm hb')]
      exact Below.heap_alloc w2 _ b hlt).1,fun b hb' => by have:=(hy.1.lt b hb').2;omega⟩
  refine ⟨hr,fun b hb => (hr.lt b hb).2,fun i hik => ?_,fun i j hik hj hne b hbi => ?_,by omega,Nat.le_refl _⟩
  · by_cases c:i = k
    · subst c
      simp only [if_pos]
      exact (kp ho).weaken (by omega) (Nat.le_refl _)
    · simp only [if_neg c]
      rw [hn i (by omega),hf i (by omega)];exact kp (h.each i (by omega))
  · have new:∀ b,x.ownBlock = some b → hi ≤ b:=fun b hb' => by have:=(ho.1.lt b hb').1;omega
    have old:∀ i,i < k → ∀ b,(e i).ownBlock = some b → b < hi:=fun i hi b hb' => (h.each i hi).2 b hb';have hbi2:(if i = k then x else e i).ownBlock = some b:=hbi
    show (if j = k then x else e j).ownBlock ≠ some b
    by_cases c:i = k
    · have c2:¬ j = k:=fun z => hne (by rw [c,z])
      rw [if_pos c] at hbi2;rw [if_neg c2];intro hh;have h5:=new b hbi2;have h6:=old j (by omega) b hh;omega
    · rw [if_neg c] at hbi2
      by_cases c2:j = k
      · rw [if_pos c2]
        intro hh;have h5:=new b hh;have h6:=old i (by omega) b hbi2;omega
      · rw [if_neg c2]
        exact h.apart i j (by omega) (by omega) hne b hbi2
theorem BldQ.rd {wr:World} {lo hi:Nat} {v:Value} {k:Nat} {n:Nat → Nat} {f:Mat} {e:Nat → Value} (h:BldQ wr lo hi v k n f e) (h0:k ≠ 0):RdM wr wr.heap.size v k n f ∧ ∃ ao cap,v = .slice ao k cap ∧ k ≤ cap:=by
  have hnn:v ≠ nilS:=fun hh => by
    rcases h.row.2 with ⟨_,h1⟩ | ⟨g,cap,cur,hv,_⟩
    · exact h0 h1
    · rw [hh] at hv;cases hv
  have R:BldR wr lo wr.heap.size v k n f e:=⟨h.row,hnn,fun b hb => (h.row.lt b hb).2,fun i hi => (h.each i hi).weaken (Nat.le_refl _) h.le2,h.apart,Nat.le_trans h.le h.le2,Nat.le_refl _⟩;obtain ⟨g,cap,hE⟩:=R.done;refine ⟨hE.rd,?_⟩
  rcases h.row.2 with ⟨h1,_⟩ | ⟨g,cap,cur,hv,_,_,hnc,_⟩
  · exact absurd h1 hnn
  · exact ⟨_,_,hv,hnc⟩
def ColP (d:WorldD) (r:Int):Prop:=WldAns d 0 ∧ (∀ G,G < d.groups.1 → ¬ DeadP d G) ∧ InP r 0 (d.shape 4 - 1) ∧ (∀ l,Cnt (recT d.tapes.2 2) (lenT d.tapes.2 2) l → ¬ ∃ i,i < l.length ∧ movB r (recT d.tapes.2 2 (l.getD i 0)) = true) ∧ CfP d.groups.1 (fun _ => 4 * (d.shape 2).toNat) (fun g => rowB d g r.toNat) (d.shape 1)
theorem rowB_lt3 (d:WorldD) (G R:Nat) (i:Nat):rowB d G R i < 256:=by
  unfold rowB decN blockN;exact mixN_lt _ _ (weightsN_lt _ _ _ _) _ _
theorem no_dead {d:WorldD}:(pickI (deadB d) d.groups.1).length = 0 ↔ ∀ G,G < d.groups.1 → ¬ DeadP d G:=by
  constructor
  · intro h G hG hd
    have:=(pickF_at (p:=deadB d) ((deadB_is d G).2 hd) d.groups.1 hG).2;omega
  · intro h
    by_cases c:(pickI (deadB d) d.groups.1).length = 0
    · exact c
    · exfalso
      have hl:pickF (deadB d) d.groups.1 0 < d.groups.1:=pickF_lt (by omega)
      have hm:pickF (deadB d) d.groups.1 0 ∈ pickI (deadB d) d.groups.1:=by
        unfold pickF;rw [List.getD_eq_getElem?_getD,List.getElem?_eq_getElem (by omega)];exact List.getElem_mem _
      unfold pickI at hm;have:=(List.mem_filter.1 hm).2;exact h _ hl ((deadB_is d _).1 this)
end Go.Proofs.YtpmiljdhacmppaaGreat
namespace Go.Proofs.YtpmiljdhacmppaaGreat
open Go.RowKit F256
theorem info_GR:(Tryz.prog.info? 51).map (fun i => (i.zero.map (·.cells),i.size)) = some (some #[.int .i64 0,.slice none 0 0],2):=by kernel_rfl
end Go.Proofs.YtpmiljdhacmppaaGreat
namespace Go.Proofs.YtpmiljdhacmppaaGreat
open Go.RowKit F256
set_option maxHeartbeats 16000000 in
set_option maxRecDepth 20000 in
theorem implCh_any (d:WorldD) (r:Int) (cs:List Value) (hi:Nat) (w:World) (h:layWorld.rd w hi d cs) (hhi:hi ≤ w.heap.size) (hsz:szWorldD d ≤ 1048576) :
    Calls Tryz.prog 7 #[.agg cs.toArray,.int .i64 r] w (BoolP (ColP d r) w):=by
  have h':=h;obtain ⟨ao1,cap1,ao2,cap2,ao3,cap3,rfl,g1,g2,g3,k0,k4,k5⟩:=World_rd h';have HRD:Hid (layWorld.rd w hi d [.int .i64 (d.shape 0),.int .i64 (d.shape 1),.int .i64 (d.shape 2),.int .i64 (d.shape 3),.int .i64 (d.shape 4),.int .i64 (d.shape 5),.int .i64 (d.shape 6),.int .i64 (d.shape 7),.int .i64 (d.shape 8),.slice ao1 d.groups.1 cap1,.slice ao2 d.on.1 cap2,.slice ao3 d.tapes.1 cap3,.int .i64 d.writes,.int .i64 d.stop,.bool d.down]):=h;clear h h' g1 g2 g3 k0 k4 k5;have T0:=one_new w #[.int .i64 (d.shape 0),.int .i64 (d.shape 1),.int .i64 (d.shape 2),.int .i64 (d.shape 3),.int .i64 (d.shape 4),.int .i64 (d.shape 5),.int .i64 (d.shape 6),.int .i64 (d.shape 7),.int .i64 (d.shape 8),.slice ao1 d.groups.1 cap1,.slice ao2 d.on.1 cap2,.slice ao3 d.tapes.1 cap3,.int .i64 d.writes,.int .i64 d.stop,.bool d.down] 35
  go_enter Tryz.func7,Tryz.ntmps7
  go_wp2_with (refine wp_loadBox 35 (.tmp 2) rfl rfl (w.heap.size) rfl (cs:=[.int .i64 (d.shape 0),.int .i64 (d.shape 1),.int .i64 (d.shape 2),.int .i64 (d.shape 3),.int .i64 (d.shape 4),.int .i64 (d.shape 5),.int .i64 (d.shape 6),.int .i64 (d.shape 7),.int .i64 (d.shape 8),.slice ao1 d.groups.1 cap1,.slice ao2 d.on.1 cap2,.slice ao3 d.tapes.1 cap3,.int .i64 d.writes,.int .i64 d.stop,.bool d.down]) (T0.b1) Tryz.underlying35 size_W rfl ?_)
  refine (implDead_any d _ hi _ (layWorld.rd_below HRD.out T0.bel hhi) (Nat.le_trans hhi T0.bel.size) hsz).mono ?_;rintro e w1 ⟨q,cq,rfl,hq,oq,b1⟩;have HT1:Hid (One w w1 #[.int .i64 (d.shape 0),.int .i64 (d.shape 1),.int .i64 (d.shape 2),.int .i64 (d.shape 3),.int .i64 (d.shape 4),.int .i64 (d.shape 5),.int .i64 (d.shape 6),.int .i64 (d.shape 7),.int .i64 (d.shape 8),.slice ao1 d.groups.1 cap1,.slice ao2 d.on.1 cap2,.slice ao3 d.tapes.1 cap3,.int .i64 d.writes,.int .i64 d.stop,.bool d.down] 35):=T0.call b1;obtain ⟨aq,kq,rfl⟩:=GroupsResult_cells oq;have HQ:Hid (DeadAns d q):=hq;have oneq:=oq.one;have bA:Below w1.heap.size w1 (w1.alloc (.cells #[.int .i64 q.code,.slice aq q.groups.1 kq] 51)):=(Below.refl _ _).alloc (Nat.le_refl _) _;have XA:Box (w1.alloc (.cells #[.int .i64 q.code,.slice aq q.groups.1 kq] 51)) w1.heap.size #[.int .i64 q.code,.slice aq q.groups.1 kq] 51:=box_new _ _ _;clear b1 T0 hq oq
  go_upto_region 2 with (refine wp_allocStore 51 5 (.tmp 9) [.int .i64 q.code,.slice aq q.groups.1 kq] _ 2 rfl rfl rfl rfl rfl rfl rfl rfl info_GR rfl rfl oneq ?_)
  obtain ⟨W,hW⟩:∃ x,x = w1.alloc (.cells #[.int .i64 q.code,.slice aq q.groups.1 kq] 51):=⟨_,rfl⟩;rw [← hW] at bA XA ⊢;have HT:Hid (One w W #[.int .i64 (d.shape 0),.int .i64 (d.shape 1),.int .i64 (d.shape 2),.int .i64 (d.shape 3),.int .i64 (d.shape 4),.int .i64 (d.shape 5),.int .i64 (d.shape 6),.int .i64 (d.shape 7),.int .i64 (d.shape 8),.slice ao1 d.groups.1 cap1,.slice ao2 d.on.1 cap2,.slice ao3 d.tapes.1 cap3,.int .i64 d.writes,.int .i64 d.stop,.bool d.down] 35):=HT1.out.call bA;have y0:W.cell? ⟨w1.heap.size,0,none⟩ = some (.int .i64 q.code):=XA.cell 0;have y1:W.cell? ⟨w1.heap.size,1,none⟩ = some (.slice aq q.groups.1 kq):=XA.cell 1;clear hW bA XA HT1 oneq
  rcases HQ.out with ⟨x,hx0,hx,rfl⟩ | ⟨hx,rfl⟩
  · have hne:(x != 0) = true:=by simp [hx0]
    have HN:Hid (x ≠ 0 ∧ WldAns d x):=⟨hx0,hx⟩;clear hx0 hx HQ;go_wp2;go_ret;exact boolNo rfl (fun h => HN.out.1 (HN.out.2.one h.1)) HT.out.bel
  have HX:Hid (WldAns d 0):=hx;have HOK:Hid (OkWorld d):=WldAns.ok hx;obtain ⟨nD,hnD⟩:∃ n,n = (pickI (deadB d) d.groups.1).length:=⟨_,rfl⟩;have HND:Hid (nD = (pickI (deadB d) d.groups.1).length):=hnD
  simp only [← hnD] at y1
  clear hx hnD HQ
  by_cases hd0:nD = 0
  case neg =>
    have d1:decide (0 < nD) = true:=decide_eq_true (by omega);have d2:decide ((0:Int) < (nD:Int)) = true:=decide_eq_true (by omega);have HD0:Hid (nD ≠ 0):=hd0;clear hd0;go_wp2;go_ret;exact boolNo rfl (fun h => HD0.out (HND.out.trans (no_dead.2 h.2.1))) HT.out.bel
  have HNo:Hid (∀ G,G < d.groups.1 → ¬ DeadP d G):=no_dead.1 (HND.out.symm.trans hd0);have d1:decide (0 < nD) = false:=decide_eq_false (by omega);have d2:decide ((0:Int) < (nD:Int)) = false:=decide_eq_false (by omega);obtain ⟨t,ht⟩:∃ t:Bool,(t = true ↔ InP r 0 (d.shape 4 - 1)):=⟨@decide _ (Classical.propDecidable _),@decide_eq_true_iff _ (Classical.propDecidable _)⟩;have HTT:Hid (t = true ↔ InP r 0 (d.shape 4 - 1)):=ht;have CR:=isRow_b HOK.out.shape ht W;unfold shapeV at CR;have xw_0:W.cell? ⟨w.heap.size,0,none⟩ = some (.int .i64 (d.shape 0)):=HT.out.b1.cell 0;have xw_1:W.cell? ⟨w.heap.size,1,none⟩ = some (.int .i64 (d.shape 1)):=HT.out.b1.cell 1;have xw_2:W.cell? ⟨w.heap.size,2,none⟩ = some (.int .i64 (d.shape 2)):=HT.out.b1.cell 2;have xw_3:W.cell? ⟨w.heap.size,3,none⟩ = some (.int .i64 (d.shape 3)):=HT.out.b1.cell 3;have xw_4:W.cell? ⟨w.heap.size,4,none⟩ = some (.int .i64 (d.shape 4)):=HT.out.b1.cell 4;have xw_5:W.cell? ⟨w.heap.size,5,none⟩ = some (.int .i64 (d.shape 5)):=HT.out.b1.cell 5;have xw_6:W.cell? ⟨w.heap.size,6,none⟩ = some (.int .i64 (d.shape 6)):=HT.out.b1.cell 6;have xw_7:W.cell? ⟨w.heap.size,7,none⟩ = some (.int .i64 (d.shape 7)):=HT.out.b1.cell 7;have xw_8:W.cell? ⟨w.heap.size,8,none⟩ = some (.int .i64 (d.shape 8)):=HT.out.b1.cell 8;clear ht hd0
  go_wp2_with fail
  refine CR.mono ?_;rintro e w2 ⟨rfl,b2⟩;have HT2:Hid (One w w2 #[.int .i64 (d.shape 0),.int .i64 (d.shape 1),.int .i64 (d.shape 2),.int .i64 (d.shape 3),.int .i64 (d.shape 4),.int .i64 (d.shape 5),.int .i64 (d.shape 6),.int .i64 (d.shape 7),.int .i64 (d.shape 8),.slice ao1 d.groups.1 cap1,.slice ao2 d.on.1 cap2,.slice ao3 d.tapes.1 cap3,.int .i64 d.writes,.int .i64 d.stop,.bool d.down] 35):=HT.out.call b2;clear CR b2 HT y0 y1 d1 d2;clear xw_0 xw_1 xw_2 xw_3 xw_4 xw_5 xw_6 xw_7 xw_8
  cases t with
  | false =>
    go_wp2;go_ret;exact boolNo rfl (fun h => absurd (HTT.out.2 h.2.2.1) (by simp)) HT2.out.bel
  | true =>
  have hIn:=HTT.out.1 (by simp);have h2:d.tapes.1 = 2:=HOK.out.form.2.2;have hn0:(d.tapes.2 0).recs.1 ≤ 400000:=Nat.le_trans (HOK.out.few 0 (by omega)) (by decide);have hn1:(d.tapes.2 1).recs.1 ≤ 400000:=Nat.le_trans (HOK.out.few 1 (by omega)) (by decide);have CM:=isMoved_any d r _ hi w2 (layWorld.rd_below HRD.out HT2.out.bel hhi) (Nat.le_trans hhi HT2.out.bel.size) h2 hn0 hn1;have HIn:Hid (InP r 0 (d.shape 4 - 1)):=hIn;have xw_0:w2.cell? ⟨w.heap.size,0,none⟩ = some (.int .i64 (d.shape 0)):=HT2.out.b1.cell 0;have xw_1:w2.cell? ⟨w.heap.size,1,none⟩ = some (.int .i64 (d.shape 1)):=HT2.out.b1.cell 1;have xw_2:w2.cell? ⟨w.heap.size,2,none⟩ = some (.int .i64 (d.shape 2)):=HT2.out.b1.cell 2;have xw_3:w2.cell? ⟨w.heap.size,3,none⟩ = some (.int .i64 (d.shape 3)):=HT2.out.b1.cell 3;have xw_4:w2.cell? ⟨w.heap.size,4,none⟩ = some (.int .i64 (d.shape 4)):=HT2.out.b1.cell 4;have xw_5:w2.cell? ⟨w.heap.size,5,none⟩ = some (.int .i64 (d.shape 5)):=HT2.out.b1.cell 5;have xw_6:w2.cell? ⟨w.heap.size,6,none⟩ = some (.int .i64 (d.shape 6)):=HT2.out.b1.cell 6;have xw_7:w2.cell? ⟨w.heap.size,7,none⟩ = some (.int .i64 (d.shape 7)):=HT2.out.b1.cell 7;have xw_8:w2.cell? ⟨w.heap.size,8,none⟩ = some (.int .i64 (d.shape 8)):=HT2.out.b1.cell 8;have xw_9:w2.cell? ⟨w.heap.size,9,none⟩ = some (.slice ao1 d.groups.1 cap1):=HT2.out.b1.cell 9;have xw_10:w2.cell? ⟨w.heap.size,10,none⟩ = some (.slice ao2 d.on.1 cap2):=HT2.out.b1.cell 10;have xw_11:w2.cell? ⟨w.heap.size,11,none⟩ = some (.slice ao3 d.tapes.1 cap3):=HT2.out.b1.cell 11;have xw_12:w2.cell? ⟨w.heap.size,12,none⟩ = some (.int .i64 d.writes):=HT2.out.b1.cell 12;have xw_13:w2.cell? ⟨w.heap.size,13,none⟩ = some (.int .i64 d.stop):=HT2.out.b1.cell 13;have xw_14:w2.cell? ⟨w.heap.size,14,none⟩ = some (.bool d.down):=HT2.out.b1.cell 14;clear h2 hIn
  go_wp2_with fail
  refine CM.mono ?_;rintro e w3 ⟨l,hl,t,rfl,ht,b3⟩;have HT3:Hid (One w w3 #[.int .i64 (d.shape 0),.int .i64 (d.shape 1),.int .i64 (d.shape 2),.int .i64 (d.shape 3),.int .i64 (d.shape 4),.int .i64 (d.shape 5),.int .i64 (d.shape 6),.int .i64 (d.shape 7),.int .i64 (d.shape 8),.slice ao1 d.groups.1 cap1,.slice ao2 d.on.1 cap2,.slice ao3 d.tapes.1 cap3,.int .i64 d.writes,.int .i64 d.stop,.bool d.down] 35):=HT2.out.call b3;have HL:Hid (Cnt (recT d.tapes.2 2) (lenT d.tapes.2 2) l):=hl;have HM:Hid (t = true ↔ ∃ i,i < l.length ∧ movB r (recT d.tapes.2 2 (l.getD i 0)) = true):=ht;clear CM b3 ht hl HT2;clear xw_0 xw_1 xw_2 xw_3 xw_4 xw_5 xw_6 xw_7 xw_8 xw_9 xw_10 xw_11 xw_12 xw_13 xw_14
  cases t with
  | true =>
    go_wp2;go_ret;exact boolNo rfl (fun h => h.2.2.2.1 l HL.out (HM.out.1 (by simp))) HT3.out.bel
  | false =>
  have HNM:Hid (∀ l,Cnt (recT d.tapes.2 2) (lenT d.tapes.2 2) l → ¬ ∃ i,i < l.length ∧ movB r (recT d.tapes.2 2 (l.getD i 0)) = true):=fun l' hl' h => by
    rw [hl'.uniq HL.out] at h;exact absurd (HM.out.2 h) (by simp)
  obtain ⟨R,hRe⟩:∃ R:Nat,r = (R:Int):=⟨r.toNat,by have:=HIn.out.1;omega⟩;subst hRe
  have hR4:(R:Int) < d.shape 4:=by have:=HIn.out.2;omega
  have hNG:d.shape 0 + d.shape 1 = (d.groups.1:Int):=by have:=HOK.out.form.1.1;omega
  have CG:=groupCount_any d.shape HOK.out.shape w3;rw [hNG] at CG;unfold shapeV at CG;obtain ⟨nG,hnG⟩:∃ n,n = d.groups.1:=⟨_,rfl⟩;have HNG:Hid (nG = d.groups.1):=hnG;rw [← hnG] at CG
  have hnG0:1 ≤ nG ∧ nG ≤ 100:=by
    obtain ⟨s1,s2,_⟩:=HOK.out.shape;unfold Shp3 at s1;omega
  have xw_0:w3.cell? ⟨w.heap.size,0,none⟩ = some (.int .i64 (d.shape 0)):=HT3.out.b1.cell 0;have xw_1:w3.cell? ⟨w.heap.size,1,none⟩ = some (.int .i64 (d.shape 1)):=HT3.out.b1.cell 1;have xw_2:w3.cell? ⟨w.heap.size,2,none⟩ = some (.int .i64 (d.shape 2)):=HT3.out.b1.cell 2;have xw_3:w3.cell? ⟨w.heap.size,3,none⟩ = some (.int .i64 (d.shape 3)):=HT3.out.b1.cell 3;have xw_4:w3.cell? ⟨w.heap.size,4,none⟩ = some (.int .i64 (d.shape 4)):=HT3.out.b1.cell 4;have xw_5:w3.cell? ⟨w.heap.size,5,none⟩ = some (.int .i64 (d.shape 5)):=HT3.out.b1.cell 5;have xw_6:w3.cell? ⟨w.heap.size,6,none⟩ = some (.int .i64 (d.shape 6)):=HT3.out.b1.cell 6;have xw_7:w3.cell? ⟨w.heap.size,7,none⟩ = some (.int .i64 (d.shape 7)):=HT3.out.b1.cell 7;have xw_8:w3.cell? ⟨w.heap.size,8,none⟩ = some (.int .i64 (d.shape 8)):=HT3.out.b1.cell 8;clear HM hNG hnG
  go_wp2_with fail
  refine CG.mono ?_;rintro e w4 ⟨rfl,b4⟩;have HT4:Hid (One w w4 #[.int .i64 (d.shape 0),.int .i64 (d.shape 1),.int .i64 (d.shape 2),.int .i64 (d.shape 3),.int .i64 (d.shape 4),.int .i64 (d.shape 5),.int .i64 (d.shape 6),.int .i64 (d.shape 7),.int .i64 (d.shape 8),.slice ao1 d.groups.1 cap1,.slice ao2 d.on.1 cap2,.slice ao3 d.tapes.1 cap3,.int .i64 d.writes,.int .i64 d.stop,.bool d.down] 35):=HT3.out.call b4;have z4:w.heap.size < w4.heap.size:=HT4.out.b1.lt;clear CG b4 HT3;clear xw_0 xw_1 xw_2 xw_3 xw_4 xw_5 xw_6 xw_7 xw_8;obtain ⟨D,hD⟩:∃ D,D = 4 * (d.shape 2).toNat:=⟨_,rfl⟩;have HD:Hid (D = 4 * (d.shape 2).toNat):=hD;clear hD;go_wp2
  go_loopw [6,32] (fun v i wr => ∃ (k:Nat) (e:Nat → Value),k ≤ nG ∧ i = .int .i64 k ∧ BldQ wr (w.heap.size + 1) wr.heap.size v k (fun _ => D) (fun g => rowB d g R) e ∧ One w wr #[.int .i64 (d.shape 0),.int .i64 (d.shape 1),.int .i64 (d.shape 2),.int .i64 (d.shape 3),.int .i64 (d.shape 4),.int .i64 (d.shape 5),.int .i64 (d.shape 6),.int .i64 (d.shape 7),.int .i64 (d.shape 8),.slice ao1 d.groups.1 cap1,.slice ao2 d.on.1 cap2,.slice ao3 d.tapes.1 cap3,.int .i64 d.writes,.int .i64 d.stop,.bool d.down] 35) (fun _ i _ => nG - (intOf i).toNat)
  case atStart => exact ⟨0,fun _ => nilS,Nat.zero_le _,rfl,BldQ.nil w4 _ (by omega) _ _ _,HT4.out⟩
  case round =>
    clear HT4;obtain ⟨k,ee,hk,rfl,hB,T⟩:=hrel;obtain ⟨wx,rfl⟩:∃ y,y = wr:=⟨_,rfl⟩;have HT:Hid (One w wx #[.int .i64 (d.shape 0),.int .i64 (d.shape 1),.int .i64 (d.shape 2),.int .i64 (d.shape 3),.int .i64 (d.shape 4),.int .i64 (d.shape 5),.int .i64 (d.shape 6),.int .i64 (d.shape 7),.int .i64 (d.shape 8),.slice ao1 d.groups.1 cap1,.slice ao2 d.on.1 cap2,.slice ao3 d.tapes.1 cap3,.int .i64 d.writes,.int .i64 d.stop,.bool d.down] 35):=T;have zx:w.heap.size < wx.heap.size:=T.b1.lt
    by_cases hlt:k < nG
    · have t1:(k:Int) < (nG:Int):=by omega
      have hkG:k < d.groups.1:=by rw [← HNG.out];exact hlt
      have CB:=bytesInRow_any d _ hi k R wx (layWorld.rd_below HRD.out T.bel hhi) (Nat.le_trans hhi T.bel.size) hkG (fun j hj => by have h1:=((HOK.out.form.1.2 k hkG).2 j hj).1;omega) HOK.out (HNo.out k hkG);have HB:Hid (BldQ wx (w.heap.size + 1) wx.heap.size u6 k (fun _ => D) (fun g => rowB d g R) ee):=hB;clear T hB
      go_wp2_with (refine wp_loadBox 35 (.tmp 2) rfl rfl (w.heap.size) rfl (cs:=[.int .i64 (d.shape 0),.int .i64 (d.shape 1),.int .i64 (d.shape 2),.int .i64 (d.shape 3),.int .i64 (d.shape 4),.int .i64 (d.shape 5),.int .i64 (d.shape 6),.int .i64 (d.shape 7),.int .i64 (d.shape 8),.slice ao1 d.groups.1 cap1,.slice ao2 d.on.1 cap2,.slice ao3 d.tapes.1 cap3,.int .i64 d.writes,.int .i64 d.stop,.bool d.down]) (HT.out.b1) Tryz.underlying35 size_W rfl ?_)
      refine CB.mono ?_;rintro e w5 ⟨vb,rfl,ob,b5⟩;have z5:wx.heap.size ≤ w5.heap.size:=b5.size;have HT5:Hid (One w w5 #[.int .i64 (d.shape 0),.int .i64 (d.shape 1),.int .i64 (d.shape 2),.int .i64 (d.shape 3),.int .i64 (d.shape 4),.int .i64 (d.shape 5),.int .i64 (d.shape 6),.int .i64 (d.shape 7),.int .i64 (d.shape 8),.slice ao1 d.groups.1 cap1,.slice ao2 d.on.1 cap2,.slice ao3 d.tapes.1 cap3,.int .i64 d.writes,.int .i64 d.stop,.bool d.down] 35):=HT.out.call b5;have HB5:Hid (BldQ w5 (w.heap.size + 1) wx.heap.size u6 k (fun _ => D) (fun g => rowB d g R) ee):=HB.out.kept (fun b h1 h2 => b5.block b h2) z5
      have HO:Hid (Own w5 wx.heap.size w5.heap.size vb D (rowB d k R)):=by rw [HD.out];exact ob
      obtain ⟨aob,capb,hvb⟩:=HO.out.slice;subst hvb;clear CB ob b5 HT HB
      go_wp2_with (at_builtin;refine wp_appendM rfl (.tmp 35) (.tmp 40) rfl (w.heap.size + 1) u6 k ee ?_ ?_ w5.heap.size 1 (.slice aob D capb) ?_ ?_ rfl (by omega) ?_ ?_;(simp [Act.eval]);exact HB5.out.row.alloc _;(simp [Act.eval]);simp;(simp;omega);intro v6 w6 hr6 hg6 hn6)
      have HB6:Hid (BldQ w6 (w.heap.size + 1) w6.heap.size v6 (k + 1) (fun _ => D) (fun g => rowB d g R) _):=HB5.out.next HO.out (Nat.le_refl _) (fun _ _ => rfl) (fun _ _ => rfl) hr6 hg6 hn6;have b6:Below (w.heap.size + 1) w5 w6:=((Below.refl (w.heap.size + 1) w5).alloc (by omega) _).trans ((Below.refl _ _).grown hg6 (by simp;omega) (fun b hb => (HB5.out.row.lt b hb).1));have HT6:Hid (One w w6 #[.int .i64 (d.shape 0),.int .i64 (d.shape 1),.int .i64 (d.shape 2),.int .i64 (d.shape 3),.int .i64 (d.shape 4),.int .i64 (d.shape 5),.int .i64 (d.shape 6),.int .i64 (d.shape 7),.int .i64 (d.shape 8),.slice ao1 d.groups.1 cap1,.slice ao2 d.on.1 cap2,.slice ao3 d.tapes.1 cap3,.int .i64 d.writes,.int .i64 d.stop,.bool d.down] 35):=⟨HT5.out.b1.below b6 (by omega),HT5.out.bel.trans (b6.mono (by omega))⟩;clear hr6 hg6 hn6 b6 HB5 HT5 HO;go_wp2
      go_roundw
      case rel => exact ⟨k + 1,_,by omega,by go_num,HB6.out,HT6.out⟩
      case measure => simp [intOf];omega
    · obtain rfl:k = nG:=by omega
      obtain ⟨hrd,hcap⟩:=hB.rd (by omega);have x1:wx.cell? ⟨w.heap.size,1,none⟩ = some (.int .i64 (d.shape 1)):=T.b1.cell 1
      have CF:=implFitsC_any u6 k (fun _ => D) (fun g => rowB d g R) (d.shape 1) wx.heap.size wx hrd hcap (Nat.le_refl _) (fun i j => rowB_lt3 d i R j) (by
        obtain ⟨s1,s2,_⟩:=HOK.out.shape;unfold Shp3 at s1
        omega) (by
        show D ≤ 1000000000
        rw [HD.out];obtain ⟨_,q,_⟩:=HOK.out.shape;unfold Shp at q
        omega) (by omega)
      obtain ⟨aF,cF,hvF,-⟩:=hcap;subst hvF;clear T hB hrd hlt
      go_wp2_with fail
      refine CF.mono ?_;rintro e w7 ⟨t,rfl,ht,b7⟩;have HB7:Hid (Below w.heap.size w w7):=(HT.out.call b7).bel
      have HC:Hid (t = true ↔ ColP d (R:Int)):=by
        show t = true ↔ ColP d (R:Int)
        rw [ht,HNG.out,HD.out];exact ⟨fun h => ⟨HX.out,HNo.out,HIn.out,HNM.out,h⟩,fun h => h.2.2.2.2⟩
      clear CF ht b7;go_wp2;go_ret;exact ⟨t,rfl,HC.out,HB7.out⟩
end Go.Proofs.YtpmiljdhacmppaaGreat
namespace Go.Proofs.YtpmiljdhacmppaaGreat
open Go.RowKit F256
set_option maxHeartbeats 8000000 in
set_option maxRecDepth 100000 in
theorem l6Holds_any (v:Value) (m:Nat) (y:Nat → RecD) (r:RecD) (cr:List Value) (hi:Nat) (w:World) (h:(layRec.slice 76).rd w hi (m,y) [v]) (hr:layRec.rd w hi r cr) (hhi:hi ≤ w.heap.size) (hm:m ≤ 1048576) :
    Calls Tryz.prog 68 #[v,.agg cr.toArray] w (BoolP (∃ i,i < m ∧ SameR (y i) r) w):=by
  obtain ⟨ao,cap,e,hmm,hc⟩:=h
  obtain rfl:v = .slice ao m cap:=by simpa using e
  have B0:=one_new w cr.toArray 76;have HR:Hid (layRec.rd w hi r cr):=hr;have HC:Hid (m ≠ 0 → ∃ b off,ao = some ⟨b,off,none⟩ ∧ b < hi ∧ ∀ i,i < m → ∃ ce,layRec.rd w hi (y i) ce ∧ ∀ j,j < layRec.sz → w.cell? ⟨b,off + (i * layRec.sz + j),none⟩ = ce[j]?):=hc;have HR0:=hr;obtain ⟨b6,bk6,b7,bk7,b8,bk8,rfl,-⟩:=Rec_rd HR0;clear e hmm hc HR0
  go_enter Tryz.func68,Tryz.ntmps68
  go_wp2
  go_loopw [5] (fun z wr => ∃ k:Nat,k ≤ m ∧ z = .int .i64 k ∧ (∀ t,t < k → ¬ SameR (y t) r) ∧ One w wr #[.int .i64 r.kind,.int .i64 r.seq,.string r.name,.int .i64 r.length,.int .i64 r.group,.int .i64 r.row,.slice b6 r.rows.1 bk6,.slice b7 r.data.1 bk7,.slice b8 r.delta.1 bk8] 76) (fun z _ => m - (intOf z).toNat)
  case atStart => exact ⟨0,Nat.zero_le _,rfl,fun t ht => by omega,B0⟩
  case round =>
    obtain ⟨k,hk,rfl,hall,hO⟩:=hrel;obtain ⟨wx,rfl⟩:∃ y,y = wr:=⟨_,rfl⟩;have HALL:Hid (∀ t,t < k → ¬ SameR (y t) r):=hall;have HO:Hid (One w wx #[.int .i64 r.kind,.int .i64 r.seq,.string r.name,.int .i64 r.length,.int .i64 r.group,.int .i64 r.row,.slice b6 r.rows.1 bk6,.slice b7 r.data.1 bk7,.slice b8 r.delta.1 bk8] 76):=hO;have hbl:=hO.bel;have zx:=hbl.size;have XB:Box wx w.heap.size #[.int .i64 r.kind,.int .i64 r.seq,.string r.name,.int .i64 r.length,.int .i64 r.group,.int .i64 r.row,.slice b6 r.rows.1 bk6,.slice b7 r.data.1 bk7,.slice b8 r.delta.1 bk8] 76:=hO.b1;clear hall B0 hO
    by_cases hlt:k < m
    · obtain ⟨b,off,rfl,hbh,hel⟩:=HC.out (by omega)
      obtain ⟨ce,hy,hcell⟩:=elem_rd (t:=76) hel hbl hhi hbh hlt;have bD:Below wx.heap.size wx wx.drew:=⟨rfl,rfl,rfl,Nat.le_refl _,fun _ _ => rfl⟩;have CS:=specSame_any (y k) r ce [.int .i64 r.kind,.int .i64 r.seq,.string r.name,.int .i64 r.length,.int .i64 r.group,.int .i64 r.row,.slice b6 r.rows.1 bk6,.slice b7 r.data.1 bk7,.slice b8 r.delta.1 bk8] hi hi wx.drew (layRec.rd_below hy bD (by omega)) (layRec.rd_below (layRec.rd_below HR.out hbl hhi) bD (by omega)) (by show hi ≤ wx.heap.size;omega) (by show hi ≤ wx.heap.size;omega)
      have r1:wx.drew.rangeAt b (off + k * 9) ce:=fun j v hv => by
        have hj:j < 9:=by have:=layRec.rd_len hy;have e:j < ce.length:=(List.getElem?_eq_some_iff.1 hv).1;rw [this] at e;exact e
        have:=hcell j hj;rw [← Nat.add_assoc] at this;exact this.trans hv
      have r2:wx.drew.rangeAt w.heap.size 0 [.int .i64 r.kind,.int .i64 r.seq,.string r.name,.int .i64 r.length,.int .i64 r.group,.int .i64 r.row,.slice b6 r.rows.1 bk6,.slice b7 r.data.1 bk7,.slice b8 r.delta.1 bk8]:=fun j v hv => by
        have:=(XB.cell j).trans (by simpa using hv);rw [Nat.zero_add];exact this
      have hce:ce.length = 9:=layRec.rd_len hy
      have CC:Calls Tryz.prog 99 (#[.agg ce.toArray,.agg [.int .i64 r.kind,.int .i64 r.seq,.string r.name,.int .i64 r.length,.int .i64 r.group,.int .i64 r.row,.slice b6 r.rows.1 bk6,.slice b7 r.data.1 bk7,.slice b8 r.delta.1 bk8].toArray] ++ #[]) wx.drew (BoolP (SameR (y k) r) wx.drew):=by rw [Array.append_empty];exact CS
      have HBX:Hid (Box wx w.heap.size #[.int .i64 r.kind,.int .i64 r.seq,.string r.name,.int .i64 r.length,.int .i64 r.group,.int .i64 r.row,.slice b6 r.rows.1 bk6,.slice b7 r.data.1 bk7,.slice b8 r.delta.1 bk8] 76):=XB;obtain ⟨cq,hcq⟩:∃ c:List Value,c = [.int .i64 r.kind,.int .i64 r.seq,.string r.name,.int .i64 r.length,.int .i64 r.group,.int .i64 r.row,.slice b6 r.rows.1 bk6,.slice b7 r.data.1 bk7,.slice b8 r.delta.1 bk8]:=⟨_,rfl⟩
      have hcl:cq.length = 9:=by rw [hcq];rfl
      rw [← hcq] at r2 CC;clear hcq
      have i1:(0:Int) ≤ (k:Int):=by omega
      have i2:(k:Int) < (m:Int):=by omega
      clear hcell hel XB hy CS HC HR
      go_upto_region 4 with fail
      refine wp_region_M 5 (fun w' => w'.rangeAt b (off + k * 9) ce ∧ w'.rangeAt w.heap.size 0 cq) mixedO ⟨r1,r2⟩ (fun hHeld => ?_);refine wpAnyM_pure (i:=0) (oi:=_) (v:=?_) rfl (by kernel_rfl) (fun _ _ _ h => h) (Or.inl ⟨by kernel_rfl,?_⟩) (by assumption) ?_
      rotate_left
      · intro w' hSw;go_simp;try with_reducible rfl
      try simp only [Act.put,SL]
      refine wpAnyM_pure (i:=1) (oi:=_) (v:=?_) rfl (by kernel_rfl) (fun _ _ _ h => h) (Or.inl ⟨by kernel_rfl,?_⟩) (by assumption) ?_
      rotate_left
      · intro w' hSw;go_simp;try with_reducible rfl
      try simp only [Act.put,SL]
      refine wpAnyM_pure (i:=2) (oi:=_) (v:=?_) rfl (by kernel_rfl) (fun _ _ _ h => h) (Or.inl ⟨by kernel_rfl,?_⟩) (by assumption) ?_
      rotate_left
      · intro w' hSw;go_simp;try with_reducible rfl
      try simp only [Act.put,SL]
      refine wpAnyM_take (i:=3) (oi:=_) (v:=.agg ce.toArray) 16 rfl (by kernel_rfl) (fun _ _ _ h => h) (yieldsIf_load_mid (by kernel_rfl) 76 (.tmp 14) rfl b (off + k * 9) (by simp [Act.eval,Act.put]) ce _ (fun w h => h.1) Tryz.underlying76 rfl (info_Rec9 hce)) (by assumption) ?_
      try simp only [Act.put,SL]
      refine wpAnyM_take (i:=4) (oi:=_) (v:=.agg cq.toArray) 16 rfl (by kernel_rfl) (fun _ _ _ h => h) (yieldsIf_load_mid (by kernel_rfl) 76 (.tmp 3) rfl w.heap.size (0) (by simp [Act.eval,Act.put]) cq _ (fun w h => h.2) Tryz.underlying76 rfl (info_Rec9 hcl)) (by assumption) ?_
      try simp only [Act.put,SL]
      refine wpAnyM_one (i:=5) (o:=_) rfl (by kernel_rfl) (by kernel_rfl) (fun KC hKC => ?_);refine step_callv (by kernel_rfl) (.func 99) 99 #[] _ _ rfl (by simp [Act.eval,Act.put]) #[.agg ce.toArray,.agg cq.toArray] (by simp [Act.eval,Act.put]) Tryz.func99 (by kernel_rfl) (by kernel_rfl) CC ?_;rintro ee w5 ⟨t,rfl,ht,b5⟩;refine ⟨_,rfl,?_⟩;refine hKC _ _ ?_;clear hKC KC
      try simp only [Act.put,SL]
      refine wpAnyM_done (by kernel_rfl) ?_ _;have b5':Below wx.heap.size wx w5:=bD.trans b5;have HO5:Hid (One w w5 #[.int .i64 r.kind,.int .i64 r.seq,.string r.name,.int .i64 r.length,.int .i64 r.group,.int .i64 r.row,.slice b6 r.rows.1 bk6,.slice b7 r.data.1 bk7,.slice b8 r.delta.1 bk8] 76):=⟨HBX.out.below b5' HBX.out.lt,hbl.trans (b5'.mono zx)⟩;have HT:Hid (t = true ↔ SameR (y k) r):=ht;clear b5 b5' ht bD r1 r2 CC HBX hHeld hbl HO
      cases t with
      | true =>
        go_wp2;go_ret;exact boolYes rfl ⟨k,hlt,HT.out.1 (by simp)⟩ HO5.out.bel
      | false =>
        go_wp2
        go_roundw
        case rel => exact ⟨k + 1,by omega,by go_num,fun t ht => by
                      by_cases c:t = k
                      · rw [c];intro hs;exact absurd (HT.out.2 hs) (by simp)
                      · exact HALL.out t (by omega),HO5.out⟩
        case measure => simp [intOf];omega
    · obtain rfl:k = m:=by omega
      clear hbl XB;go_wp2;go_ret;exact boolNo rfl (fun ⟨i,h1,h2⟩ => HALL.out i h1 h2) HO.out.bel
end Go.Proofs.YtpmiljdhacmppaaGreat
namespace Go.Proofs.YtpmiljdhacmppaaGreat
open Go.RowKit F256
set_option maxHeartbeats 8000000 in
set_option maxRecDepth 100000 in
theorem l6Ahead_any (a r:RecD) (ca cr:List Value) (hi hj:Nat) (w:World) (ha:layRec.rd w hi a ca) (hr:layRec.rd w hj r cr) :
    Calls Tryz.prog 69 #[.agg ca.toArray,.agg cr.toArray] w fun e w' => e = .returned (.bool (decide (numC a r < 0))) ∧ Below w.heap.size w w':=by
  obtain ⟨a6,ak6,a7,ak7,a8,ak8,rfl,-⟩:=Rec_rd ha;obtain ⟨b6,bk6,b7,bk7,b8,bk8,rfl,-⟩:=Rec_rd hr;have T0:=two_newb w #[.int .i64 a.kind,.int .i64 a.seq,.string a.name,.int .i64 a.length,.int .i64 a.group,.int .i64 a.row,.slice a6 a.rows.1 ak6,.slice a7 a.data.1 ak7,.slice a8 a.delta.1 ak8] #[.int .i64 r.kind,.int .i64 r.seq,.string r.name,.int .i64 r.length,.int .i64 r.group,.int .i64 r.row,.slice b6 r.rows.1 bk6,.slice b7 r.data.1 bk7,.slice b8 r.delta.1 bk8] 76 76;have HB0:Hid (Below w.heap.size w ((w.alloc (.cells #[.int .i64 a.kind,.int .i64 a.seq,.string a.name,.int .i64 a.length,.int .i64 a.group,.int .i64 a.row,.slice a6 a.rows.1 ak6,.slice a7 a.data.1 ak7,.slice a8 a.delta.1 ak8] 76)).alloc (.cells #[.int .i64 r.kind,.int .i64 r.seq,.string r.name,.int .i64 r.length,.int .i64 r.group,.int .i64 r.row,.slice b6 r.rows.1 bk6,.slice b7 r.data.1 bk7,.slice b8 r.delta.1 bk8] 76))):=T0.bel;have x0:((w.alloc (.cells #[.int .i64 a.kind,.int .i64 a.seq,.string a.name,.int .i64 a.length,.int .i64 a.group,.int .i64 a.row,.slice a6 a.rows.1 ak6,.slice a7 a.data.1 ak7,.slice a8 a.delta.1 ak8] 76)).alloc (.cells #[.int .i64 r.kind,.int .i64 r.seq,.string r.name,.int .i64 r.length,.int .i64 r.group,.int .i64 r.row,.slice b6 r.rows.1 bk6,.slice b7 r.data.1 bk7,.slice b8 r.delta.1 bk8] 76)).cell? ⟨w.heap.size,0,none⟩ = some (.int .i64 a.kind):=T0.b1.cell 0;have x1:((w.alloc (.cells #[.int .i64 a.kind,.int .i64 a.seq,.string a.name,.int .i64 a.length,.int .i64 a.group,.int .i64 a.row,.slice a6 a.rows.1 ak6,.slice a7 a.data.1 ak7,.slice a8 a.delta.1 ak8] 76)).alloc (.cells #[.int .i64 r.kind,.int .i64 r.seq,.string r.name,.int .i64 r.length,.int .i64 r.group,.int .i64 r.row,.slice b6 r.rows.1 bk6,.slice b7 r.data.1 bk7,.slice b8 r.delta.1 bk8] 76)).cell? ⟨w.heap.size,1,none⟩ = some (.int .i64 a.seq):=T0.b1.cell 1;have x4:((w.alloc (.cells #[.int .i64 a.kind,.int .i64 a.seq,.string a.name,.int .i64 a.length,.int .i64 a.group,.int .i64 a.row,.slice a6 a.rows.1 ak6,.slice a7 a.data.1 ak7,.slice a8 a.delta.1 ak8] 76)).alloc (.cells #[.int .i64 r.kind,.int .i64 r.seq,.string r.name,.int .i64 r.length,.int .i64 r.group,.int .i64 r.row,.slice b6 r.rows.1 bk6,.slice b7 r.data.1 bk7,.slice b8 r.delta.1 bk8] 76)).cell? ⟨w.heap.size,4,none⟩ = some (.int .i64 a.group):=T0.b1.cell 4;have y0:((w.alloc (.cells #[.int .i64 a.kind,.int .i64 a.seq,.string a.name,.int .i64 a.length,.int .i64 a.group,.int .i64 a.row,.slice a6 a.rows.1 ak6,.slice a7 a.data.1 ak7,.slice a8 a.delta.1 ak8] 76)).alloc (.cells #[.int .i64 r.kind,.int .i64 r.seq,.string r.name,.int .i64 r.length,.int .i64 r.group,.int .i64 r.row,.slice b6 r.rows.1 bk6,.slice b7 r.data.1 bk7,.slice b8 r.delta.1 bk8] 76)).cell? ⟨w.heap.size + 1,0,none⟩ = some (.int .i64 r.kind):=T0.b2.cell 0;have y1:((w.alloc (.cells #[.int .i64 a.kind,.int .i64 a.seq,.string a.name,.int .i64 a.length,.int .i64 a.group,.int .i64 a.row,.slice a6 a.rows.1 ak6,.slice a7 a.data.1 ak7,.slice a8 a.delta.1 ak8] 76)).alloc (.cells #[.int .i64 r.kind,.int .i64 r.seq,.string r.name,.int .i64 r.length,.int .i64 r.group,.int .i64 r.row,.slice b6 r.rows.1 bk6,.slice b7 r.data.1 bk7,.slice b8 r.delta.1 bk8] 76)).cell? ⟨w.heap.size + 1,1,none⟩ = some (.int .i64 r.seq):=T0.b2.cell 1
  have y4:((w.alloc (.cells #[.int .i64 a.kind,.int .i64 a.seq,.string a.name,.int .i64 a.length,.int .i64 a.group,.int .i64 a.row,.slice a6 a.rows.1 ak6,.slice a7 a.data.1 ak7,.slice a8 a.delta.1 ak8] 76)).alloc (.cells #[.int .i64 r.kind,.int .i64 r.seq,.string r.name,.int .i64 r.length,.int .i64 r.group,.int .i64 r.row,.slice b6 r.rows.1 bk6,.slice b7 r.data.1 bk7,.slice b8 r.delta.1 bk8] 76)).cell? ⟨w.heap.size + 1,4,none⟩ = some (.int .i64 r.group):=T0.b2.cell 4;clear T0 ha hr;have hN:=@numC_lt a r
  by_cases c1:a.seq = r.seq
  case neg =>
    have e1:(a.seq != r.seq) = true:=by simpa using c1
    have e9:decide (numC a r < 0) = decide (a.seq < r.seq):=decide_eq_decide.2 (by rw [hN];omega);rw [e9];clear hN e9
    go_enter Tryz.func69,Tryz.ntmps69
    go_wp2;go_ret;exact ⟨rfl,HB0.out⟩
  have e1:(a.seq != r.seq) = false:=by simpa using c1
  by_cases c2:a.kind = r.kind
  case neg =>
    have e2:(a.kind != r.kind) = true:=by simpa using c2
    have e9:decide (numC a r < 0) = decide (a.kind < r.kind):=decide_eq_decide.2 (by rw [hN];omega);rw [e9];clear hN e9 c1
    go_enter Tryz.func69,Tryz.ntmps69
    go_wp2;go_ret;exact ⟨rfl,HB0.out⟩
  have e2:(a.kind != r.kind) = false:=by simpa using c2
  have e9:decide (numC a r < 0) = decide (a.group < r.group):=decide_eq_decide.2 (by rw [hN];omega);rw [e9];clear hN e9 c1 c2
  go_enter Tryz.func69,Tryz.ntmps69
  go_wp2;go_ret;exact ⟨rfl,HB0.out⟩
end Go.Proofs.YtpmiljdhacmppaaGreat
namespace Go.Proofs.YtpmiljdhacmppaaGreat
open Go.RowKit
section
variable {P:Program} {ops:Array Oper} {Q:Exit → Act → World → Prop} {md:Region.Mode} {S:World → Prop} {L:Nat}
theorem wpAnyM_oneS {i:Nat} {o:Oper} {fuel:Nat} {listed:Array Bool} {a:Act} {w:World} (ho:ops[i]? = some o) (hr:Region.ready md ops listed = [i])
    (h:∀ K':Act → World → Prop,Shut (∀ a w,S w → wpAnyM P md ops Q S L fuel (listed.setIfInBounds i true) a w → K' a w) → if Region.wanted o (yielded ops a.tmps) = true then Oper.wp P o a w K' Q else K' (a.put o.dst undef) w):wpAnyM P md ops Q S L (fuel + 1) listed a w:=by
  refine ⟨fun h0 => (by rw [hr] at h0;cases h0),fun j hj => ?_⟩;rw [hr] at hj
  obtain rfl:j = i:=by simpa using hj
  exact wpOp_step ho (fun K' hK => h K' (fun a w hS hW => hK a w ⟨fun _ => hS,hW⟩))
theorem wpAnyM_twoS {i j:Nat} {o o':Oper} {fuel:Nat} {listed:Array Bool} {a:Act} {w:World} (ho:ops[i]? = some o) (ho':ops[j]? = some o') (hr:Region.ready md ops listed = [i,j])
    (h:∀ K':Act → World → Prop,Shut (∀ a w,S w → wpAnyM P md ops Q S L fuel (listed.setIfInBounds i true) a w → K' a w) → if Region.wanted o (yielded ops a.tmps) = true then Oper.wp P o a w K' Q else K' (a.put o.dst undef) w)
    (h':∀ K':Act → World → Prop,Shut (∀ a w,S w → wpAnyM P md ops Q S L fuel (listed.setIfInBounds j true) a w → K' a w) → if Region.wanted o' (yielded ops a.tmps) = true then Oper.wp P o' a w K' Q else K' (a.put o'.dst undef) w):wpAnyM P md ops Q S L (fuel + 1) listed a w:=by
  refine ⟨fun h0 => (by rw [hr] at h0;cases h0),fun k hk => ?_⟩;rw [hr] at hk
  simp only [List.mem_cons,List.not_mem_nil,or_false] at hk
  rcases hk with rfl | rfl
  · exact wpOp_step ho (fun K' hK => h K' (fun a w hS hW => hK a w ⟨fun _ => hS,hW⟩))
  · exact wpOp_step ho' (fun K' hK => h' K' (fun a w hS hW => hK a w ⟨fun _ => hS,hW⟩))
end
theorem step_build0 {ops:Array Oper} {o:Oper} {a:Act} {W:World} {K:Act → World → Prop} {Q:Exit → Act → World → Prop} {F:Prop} (hg:o.guard = none) (hop:o.op = Op.buildSlice 71 0 #[])
    (hK:K (a.put o.dst (.slice (some ⟨W.heap.size,0,none⟩) 0 0)) (W.alloc (.cells #[] 76))):if Region.wanted o (yielded ops a.tmps) = true then Oper.wp Tryz.prog o a W K Q else F:=by
  have hw:Region.wanted o (yielded ops a.tmps) = true:=by simp [Region.wanted,hg]
  rw [if_pos hw];unfold Oper.wp execOp
  simp only [hop]
  go_simp;exact hK
theorem step_build1 {ops:Array Oper} {o:Oper} {a:Act} {W:World} {K:Act → World → Prop} {Q:Exit → Act → World → Prop} {F:Prop} (hg:o.guard = none) (x:Operand) (hop:o.op = Op.buildSlice 71 1 #[(0,x)]) (r:RecD) (b6 b7 b8:Option Addr) (bk6 bk7 bk8:Nat) (hx:a.eval x = .agg #[.int .i64 r.kind,.int .i64 r.seq,.string r.name,.int .i64 r.length,.int .i64 r.group,.int .i64 r.row,.slice b6 r.rows.1 bk6,.slice b7 r.data.1 bk7,.slice b8 r.delta.1 bk8])
    (hK:K (a.put o.dst (.slice (some ⟨W.heap.size,0,none⟩) 1 1)) (W.alloc (.cells #[.int .i64 r.kind,.int .i64 r.seq,.string r.name,.int .i64 r.length,.int .i64 r.group,.int .i64 r.row,.slice b6 r.rows.1 bk6,.slice b7 r.data.1 bk7,.slice b8 r.delta.1 bk8] 76))):if Region.wanted o (yielded ops a.tmps) = true then Oper.wp Tryz.prog o a W K Q else F:=by
  have hw:Region.wanted o (yielded ops a.tmps) = true:=by simp [Region.wanted,hg]
  rw [if_pos hw];unfold Oper.wp execOp
  simp only [hop,List.map_toArray,List.map_cons,List.map_nil,hx]
  go_simp;exact hK
theorem step_build1R {ops:Array Oper} {o:Oper} {a:Act} {W:World} {K:Act → World → Prop} {Q:Exit → Act → World → Prop} {F:Prop} (hg:o.guard = none) (x:Operand) (hop:o.op = Op.buildSlice 71 1 #[(0,x)]) {w0:World} {hi0:Nat} {r:RecD} {cs:List Value} (hr:layRec.rd w0 hi0 r cs) (hx:a.eval x = .agg cs.toArray)
    (hK:K (a.put o.dst (.slice (some ⟨W.heap.size,0,none⟩) 1 1)) (W.alloc (.cells cs.toArray 76))):if Region.wanted o (yielded ops a.tmps) = true then Oper.wp Tryz.prog o a W K Q else F:=by
  obtain ⟨b6,bk6,b7,bk7,b8,bk8,rfl,-⟩:=Rec_rd hr;exact step_build1 hg x hop r b6 b7 b8 bk6 bk7 bk8 hx hK
end Go.Proofs.YtpmiljdhacmppaaGreat
namespace Go.Proofs.YtpmiljdhacmppaaGreat
open Go.RowKit F256
theorem range_below {w w':World} {B b o:Nat} {cs:List Value} (h:w.rangeAt b o cs) (hb:Below B w w') (hB:b < B):w'.rangeAt b o cs:=fun j v hv => (hb.cell (p:=⟨b,o + j,none⟩) hB).trans (h j v hv)
theorem Src.below {w w':World} {B hi:Nat} {ao:Option Addr} {m:Nat} {y:Nat → RecD} {cy:Nat → List Value} (h:Src layRec w hi ao m y cy) (hb:Below B w w') (hB:∀ b off,ao = some ⟨b,off,none⟩ → b < B) (hh:hi ≤ B):Src layRec w' hi ao m y cy :=
  ⟨fun h0 => by
    obtain ⟨b,off,e,hc⟩:=h.1 h0
    exact ⟨b,off,e,fun j hj k hk => (hb.cell (p:=⟨b,off + (j * layRec.sz + k),none⟩) (hB b off e)).trans (hc j hj k hk)⟩,fun j hj => layRec.rd_below (h.2 j hj) hb hh⟩
theorem ins_up {D U:World} {lo hi m:Nat} {ao:Option Addr} {c:Nat} {y:Nat → RecD} {cy:Nat → List Value} {v0:Value} {x':Nat → RecD} {ce:Nat → List Value} (hS:Src layRec D hi ao m y cy) (hz:ao = none → c = 0 ∨ m = 0) (hA:∀ b off,ao = some ⟨b,off,none⟩ → b < D.heap.size) (hb:Below D.heap.size D U) (hh:hi ≤ D.heap.size) (hm:m ≤ 1000000)
    (V:View layRec 76 U D.heap.size hi v0 0 x' ce):∃ v' w' ce',(Builtin.append_ #[71,71] 71 #[v0,.slice ao m c]).run Tryz.prog U = .ok v' w' ∧ View layRec 76 w' D.heap.size hi v' m y ce' ∧ Below D.heap.size U w':=by
  obtain ⟨v',w',hrun,V',_,b'⟩:=run_appendV el_Rec rdOne_rec 71 V c (hS.below hb hA hh) hb.size hh (by omega) hz;refine ⟨v',w',cat2 ce 0 cy,hrun,?_,b'⟩;rw [Nat.zero_add] at V';exact V'.congr (fun i hi => by unfold cat2;rw [if_neg (by omega)];rfl)
theorem View.weakL {w:World} {lo lo' hi n:Nat} {v:Value} {x:Nat → RecD} {ce:Nat → List Value} (h:View layRec 76 w lo hi v n x ce) (hl:lo' ≤ lo):View layRec 76 w lo' hi v n x ce:=⟨⟨h.row.1,by
  rcases h.row.2 with hn | ⟨g,cap,cur,rfl,hbg,rest⟩
  · exact .inl hn
  · exact .inr ⟨g,cap,cur,rfl,Nat.le_trans hl hbg,rest⟩⟩,h.each⟩
theorem ins_up4 {D U:World} {hi m g:Nat} {ao:Option Addr} {c:Nat} {y:Nat → RecD} {cy:Nat → List Value} {v0:Value} {x':Nat → RecD} {ce:Nat → List Value} {cR:List Value} (hS:Src layRec D hi ao m y cy) (hz:ao = none → c = 0 ∨ m = 0) (hA:∀ b off,ao = some ⟨b,off,none⟩ → b < D.heap.size) (hb:Below D.heap.size D U) (hh:hi ≤ D.heap.size) (hm:m ≤ 1000000)
    (V:View layRec 76 U D.heap.size hi v0 0 x' ce) (hX:Box U g cR.toArray 76) (hg:v0.ownBlock ≠ some g):∃ v' w' ce',(Builtin.append_ #[71,71] 71 #[v0,.slice ao m c]).run Tryz.prog U = .ok v' w' ∧ (View layRec 76 w' D.heap.size hi v' m y ce' ∧ Box w' g cR.toArray 76) ∧ Below D.heap.size U w':=by
  obtain ⟨v',w',hrun,V',hgr,b'⟩:=run_appendV el_Rec rdOne_rec 71 V c (hS.below hb hA hh) hb.size hh (by omega) hz;refine ⟨v',w',cat2 ce 0 cy,hrun,⟨?_,?_⟩,b'⟩
  · rw [Nat.zero_add] at V'
    exact V'.congr (fun i hi => by unfold cat2;rw [if_neg (by omega)];rfl)
  · exact (hgr.block g hX.lt (fun h => hg h.symm)).trans hX
theorem ins_one {D U:World} {hi m g:Nat} {v:Value} {x:Nat → RecD} {ce:Nat → List Value} {r:RecD} {cR:List Value} (hb:Below D.heap.size D U) (hh:hi ≤ D.heap.size) (hm:m ≤ 1000000) (V:View layRec 76 U D.heap.size hi v m x ce) (hX:Box U g cR.toArray 76) (hr:layRec.rd U hi r cR) :
    ∃ v' w' ce',(Builtin.append_ #[71,71] 71 #[v,.slice (some ⟨g,0,none⟩) 1 1]).run Tryz.prog U = .ok v' w' ∧ View layRec 76 w' D.heap.size hi v' (m + 1) (cat2 x m (fun _ => r)) ce' ∧ Below D.heap.size U w':=by
  obtain ⟨v',w',hrun,V',_,b'⟩:=run_appendV el_Rec rdOne_rec 71 V 1 (src_one (b:=g) (hi:=hi) (y:=r) (cs:=cR) (fun j hj => by rw [hX.cell j];simp) hr) hb.size hh (by omega) (fun h => by cases h);exact ⟨v',w',_,hrun,V',b'⟩
theorem ins_rest {D U:World} {hi m k:Nat} {ao:Option Addr} {c:Nat} {y:Nat → RecD} {cy:Nat → List Value} {v:Value} {x:Nat → RecD} {ce:Nat → List Value} (hS:Src layRec D hi ao k y cy) (hz:ao = none → c = 0 ∨ k = 0) (hA:∀ b off,ao = some ⟨b,off,none⟩ → b < D.heap.size) (hb:Below D.heap.size D U) (hh:hi ≤ D.heap.size) (hm:m + k ≤ 2000000)
    (V:View layRec 76 U D.heap.size hi v m x ce):∃ v' w' ce',(Builtin.append_ #[71,71] 71 #[v,.slice ao k c]).run Tryz.prog U = .ok v' w' ∧ View layRec 76 w' D.heap.size hi v' (m + k) (cat2 x m y) ce' ∧ Below D.heap.size U w':=by
  obtain ⟨v',w',hrun,V',_,b'⟩:=run_appendV el_Rec rdOne_rec 71 V c (hS.below hb hA hh) hb.size hh (by omega) hz;exact ⟨v',w',_,hrun,V',b'⟩
theorem ins_len (l:List Nat) (M at_:Nat) (h:at_ ≤ l.length):(l.take at_ ++ M :: l.drop at_).length = at_ + 1 + (l.length - at_):=by
  rw [List.length_append,List.length_cons,List.length_take,List.length_drop];omega
theorem ins_getD (x0:Nat → RecD) (l:List Nat) (M at_:Nat) (h:at_ ≤ l.length) (i:Nat):cat2 (cat2 (fun i => x0 (l.getD i 0)) at_ (fun _ => x0 M)) (at_ + 1) (fun j => x0 (l.getD (at_ + j) 0)) i = x0 ((l.take at_ ++ M :: l.drop at_).getD i 0):=by
  have hl:(l.take at_).length = at_:=by rw [List.length_take];omega
  by_cases c1:i < at_
  · rw [cat2_lt _ _ (by omega),cat2_lt _ _ c1]
    congr 1
    rw [List.getD_eq_getElem?_getD,List.getD_eq_getElem?_getD,List.getElem?_append_left (by omega),List.getElem?_take,if_pos c1]
  · by_cases c2:i = at_
    · subst c2
      have e:=cat2_ge (fun i => x0 (l.getD i 0)) i (fun _ => x0 M) 0;rw [Nat.add_zero] at e;rw [cat2_lt _ _ (by omega),e]
      congr 1
      rw [List.getD_eq_getElem?_getD,List.getElem?_append_right (by omega),hl]
      simp
    · obtain ⟨j,rfl⟩:∃ j,i = at_ + 1 + j:=⟨i - (at_ + 1),by omega⟩
      rw [cat2_ge]
      congr 1
      rw [List.getD_eq_getElem?_getD,List.getD_eq_getElem?_getD,List.getElem?_append_right (by omega),hl,show at_ + 1 + j - at_ = j + 1 by omega,List.getElem?_cons_succ,List.getElem?_drop]
end Go.Proofs.YtpmiljdhacmppaaGreat
namespace Go.Proofs.YtpmiljdhacmppaaGreat
open Go.RowKit F256
theorem recT_at (tp:Nat → TapeD) {T i:Nat} (hT:T < 2) (hi:i < (tp T).recs.1):recT tp 2 (lenT tp T + i) = (tp T).recs.2 i:=by
  have:T = 0 ∨ T = 1:=by omega
  rcases this with rfl | rfl
  · have h1:recT tp 2 (lenT tp 0 + i) = recT tp 1 (lenT tp 0 + i):=cat2_lt _ _ (by show lenT tp 0 + i < lenT tp 0 + (tp 0).recs.1;omega)
    rw [h1];exact cat2_ge _ _ _ _
  · exact cat2_ge _ _ _ _
theorem wrapPred {k:Nat} (h:k + 1 < 1000000000):IntKind.i64.wrap (((k + 1:Nat):Int) - 1) = (k:Int):=by rw [IntKind.wrap_i64];omega
set_option maxHeartbeats 8000000 in
set_option maxRecDepth 100000 in
theorem l6Counted_any (d:WorldD) (cs:List Value) (hi B:Nat) (w:World) (h:layWorld.rd w hi d cs) (hhi:hi ≤ w.heap.size) (hBX:Box w B cs.toArray 35) (h2:d.tapes.1 = 2) (hn0:(d.tapes.2 0).recs.1 ≤ 400000) (hn1:(d.tapes.2 1).recs.1 ≤ 400000) :
    Calls Tryz.prog 36 #[.pointer (some ⟨B,0,none⟩)] w (fun e w' => ∃ v' l ce lo,e = .returned v' ∧ Cnt (recT d.tapes.2 2) (lenT d.tapes.2 2) l ∧ w.heap.size ≤ lo ∧ View layRec 76 w' lo hi v' l.length (fun i => recT d.tapes.2 2 (l.getD i 0)) ce ∧ Below w.heap.size w w'):=by
  obtain ⟨ao1,cap1,ao2,cap2,ao3,cap3,rfl,g1,g2,g3,k0,k4,k5⟩:=World_rd h;obtain ⟨ao3',cap3',e,hmm,hc⟩:=g3
  simp only [List.cons.injEq,Value.slice.injEq,true_and,and_true] at e
  obtain ⟨rfl,rfl⟩:=e;obtain ⟨tb,toff,rfl,hbh,hel⟩:=hc (by rw [h2];simp);rw [h2] at hel;have HEL:Hid (∀ i,i < 2 → ∃ ce,layTape.rd w hi (d.tapes.2 i) ce ∧ ∀ j,j < layTape.sz → w.cell? ⟨tb,toff + (i * layTape.sz + j),none⟩ = ce[j]?):=hel;have hBlt:=hBX.lt
  have HBX:Hid (w.cell? ⟨B,11,none⟩ = some (.slice (some ⟨tb,toff,none⟩) 2 cap3)):=by have:=hBX.cell 11;rw [h2] at this;exact this
  obtain ⟨tp,htp⟩:∃ t,t = d.tapes.2:=⟨_,rfl⟩;rw [← htp] at HEL hn0 hn1 ⊢;clear h hc hmm g1 g2 k0 k4 k5 hel h2 hBX htp;obtain ⟨x0,hx0⟩:∃ x,x = recT tp 2:=⟨_,rfl⟩;have HX0:Hid (x0 = recT tp 2):=hx0;rw [← hx0];clear hx0;have bL:Below w.heap.size w (w.alloc (.cells #[] 76)):=(Below.refl _ _).alloc (Nat.le_refl _) _;have V0:=View.lit0 (E:=layRec) (t:=76) (fun i => x0 (([]:List Nat).getD i 0)) (fun _ => []) w hi;have HL:Hid (lenT tp 0 = 0 ∧ lenT tp 1 = (tp 0).recs.1 ∧ lenT tp 2 = (tp 0).recs.1 + (tp 1).recs.1):=⟨rfl,by simp [lenT],by simp [lenT]⟩
  go_enter Tryz.func36,Tryz.ntmps36
  go_wp2
  go_loopw [3,4] (fun vo vt wr => ∃ (T lo:Nat) (l:List Nat) (co:Nat → List Value),T ≤ 2 ∧ vt = .int .i64 T ∧ w.heap.size ≤ lo ∧ lo ≤ wr.heap.size ∧ Cnt x0 (lenT tp T) l ∧ l.length ≤ lenT tp T ∧ View layRec 76 wr lo hi vo l.length (fun i => x0 (l.getD i 0)) co ∧ Below w.heap.size w wr) (fun _ i _ => 2 - (intOf i).toNat)
  case atStart => exact ⟨0,w.heap.size,[],fun _ => [],by omega,rfl,Nat.le_refl _,bL.size,Cnt.nil x0,Nat.zero_le _,V0,bL⟩
  case round =>
    obtain ⟨T,lo,l,co,hT,rfl,hlo,hlow,hCt,hLl,V,bw⟩:=hrel;have HCt:Hid (Cnt x0 (lenT tp T) l):=hCt;have HV:Hid (View layRec 76 wr lo hi u3 l.length (fun i => x0 (l.getD i 0)) co):=V;have HBW:Hid (Below w.heap.size w wr):=bw;clear bL V0 hCt
    by_cases hlt:T < 2
    · obtain ⟨m,hm⟩:∃ m,m = (tp T).recs.1:=⟨_,rfl⟩
      have HM:Hid (m = (tp T).recs.1):=hm
      have hmb:m ≤ 400000 ∧ lenT tp T ≤ 400000:=by
        have:T = 0 ∨ T = 1:=by omega
        have h3:=HL.out
        rcases this with rfl | rfl <;> omega
      have HLS:Hid (lenT tp (T + 1) = lenT tp T + m):=by rw [hm];exact rfl
      have HW0:Hid (∀ w',Below w.heap.size w w' → ∃ rb cap1,w'.cell? ⟨tb,toff + T * 2 + 1,none⟩ = some (.slice rb m cap1) ∧ (layRec.slice 76).rd w' hi (m,(tp T).recs.2) [.slice rb m cap1]):=fun w' hb => by
        obtain ⟨ct,hy,hcell⟩:=elem_rd (t:=73) HEL.out hb hhi hbh hlt;obtain ⟨aoT,capT,rfl,hrs⟩:=Tape_rd hy;exact ⟨aoT,capT,by have:=hcell 1 (by decide);rw [hm];exact this,by rw [hm];exact hrs⟩
      obtain ⟨L0,hL0⟩:∃ n,n = lenT tp T:=⟨_,rfl⟩;have HL0:Hid (L0 = lenT tp T):=hL0;rw [← hL0] at HCt hLl HLS hmb
      have t1:(T:Int) < 2:=by omega
      have t0:(0:Int) ≤ (T:Int):=by omega
      clear hm bw V hL0 HEL;go_wp2
      go_loopw [3,5] (fun vo vi wr => ∃ (i lo:Nat) (l:List Nat) (co:Nat → List Value),i ≤ m ∧ vi = .int .i64 i ∧ w.heap.size ≤ lo ∧ lo ≤ wr.heap.size ∧ Cnt x0 (L0 + i) l ∧ l.length ≤ L0 + i ∧ View layRec 76 wr lo hi vo l.length (fun i => x0 (l.getD i 0)) co ∧ Below w.heap.size w wr) (fun _ i _ => m - (intOf i).toNat)
      case atStart => exact ⟨0,lo,l,co,Nat.zero_le _,rfl,hlo,hlow,HCt.out,hLl,HV.out,HBW.out⟩
      case round =>
        clear HCt HV HBW hLl hlow hlo co lo l;obtain ⟨i,lo,l,co,hi',rfl,hlo,hlow,hCt,hLl,V,bw⟩:=hrel;obtain ⟨wi,rfl⟩:∃ y,y = wr:=⟨_,rfl⟩;obtain ⟨n,hn⟩:∃ n,n = l.length:=⟨_,rfl⟩;have HN:Hid (n = l.length):=hn;rw [← hn] at V hLl;have HCt:Hid (Cnt x0 (L0 + i) l):=hCt;obtain ⟨ao,cap,hvo⟩:=V.form;subst hvo;have HV:Hid (View layRec 76 wi lo hi (.slice ao n cap) n (fun i => x0 (l.getD i 0)) co):=V;have HBW:Hid (Below w.heap.size w wi):=bw;have zr:w.heap.size ≤ wi.heap.size:=bw.size;have xB:wi.cell? ⟨B,11,none⟩ = some (.slice (some ⟨tb,toff,none⟩) 2 cap3):=(bw.cell (p:=⟨B,11,none⟩) hBlt).trans HBX.out;obtain ⟨rb,capT,xT,hrs⟩:=HW0.out wi bw;clear hCt hn V bw
        by_cases hlt2:i < m
        · obtain ⟨cy,hS,-⟩:=src_of hrs
          obtain ⟨b,off,hrb,hcell⟩:=hS.1 (by omega);subst hrb;have rdR:=hS.2 i hlt2;have hcR:(cy i).length = 9:=layRec.rd_len rdR
          have rgR:wi.rangeAt b (off + i * 9) (cy i):=fun j v hv => by
            have hj:j < 9:=by rw [← hcR];exact (List.getElem?_eq_some_iff.1 hv).1
            have:=hcell i hlt2 j hj;rw [show off + (i * layRec.sz + j) = off + i * 9 + j from (Nat.add_assoc _ _ _).symm] at this;exact this.trans hv
          obtain ⟨cR,hcRe⟩:∃ c,c = cy i:=⟨_,rfl⟩;rw [← hcRe] at rgR hcR rdR
          have hxr:(tp T).recs.2 i = x0 (L0 + i):=by rw [HX0.out,HL0.out];exact (recT_at tp hlt (by rw [← HM.out];exact hlt2)).symm
          rw [hxr] at rdR;obtain ⟨M,hM⟩:∃ M,M = L0 + i:=⟨_,rfl⟩;have HMM:Hid (M = L0 + i):=hM;rw [← hM] at rdR HCt;have oneR:∀ v,v ∈ cR → v.oneCell' = true:=rdOne_rec _ _ _ _ rdR
          have i1:(0:Int) ≤ (i:Int):=by omega
          have i2:(i:Int) < (m:Int):=by omega
          have bA:Below wi.heap.size wi (wi.alloc (.cells cR.toArray 76)):=(Below.refl _ _).alloc (Nat.le_refl _) _;have XA:Box (wi.alloc (.cells cR.toArray 76)) wi.heap.size cR.toArray 76:=box_new _ _ _;have rdW:layRec.rd (wi.alloc (.cells cR.toArray 76)) hi (x0 M) cR:=layRec.rd_below rdR bA (by omega);clear hrs hS hcell hcRe hxr rdR hM
          go_upto_region 9 with (first | (refine wpList_load_mid rfl 76 (.tmp 35) rfl b (off + i * 9) (by simp [Act.eval]) cR _ rgR Tryz.underlying76 rfl (info_Rec9 hcR) ?_) | (refine wp_allocStore 76 6 (.tmp 36) cR _ 9 rfl rfl rfl rfl rfl rfl rfl rfl info_RecZ rfl hcR oneR ?_))
          obtain ⟨W,hW⟩:∃ x,x = wi.alloc (.cells cR.toArray 76):=⟨_,rfl⟩;rw [← hW] at bA XA rdW ⊢;clear hW rgR xB xT;have VW:=HV.out.below bA (by omega);have zW':wi.heap.size < W.heap.size:=XA.lt;have CH:=l6Holds_any (.slice ao n cap) n (fun i => x0 (l.getD i 0)) (x0 M) cR W.heap.size W (VW.rd (by omega)) (layRec.rd_mono rdW (by omega)) (Nat.le_refl _) (by omega);have HXW:Hid (Box W wi.heap.size cR.toArray 76):=XA;have HVW:Hid (View layRec 76 W lo hi (.slice ao n cap) n (fun i => x0 (l.getD i 0)) co):=VW;have HRW:Hid (layRec.rd W hi (x0 M) cR):=rdW;have HBW2:Hid (Below w.heap.size w W):=HBW.out.trans (bA.mono zr);clear VW XA rdW bA HV HBW
          go_wp2_with (refine wp_loadBox 76 (.tmp 6) rfl rfl (wi.heap.size) rfl (cs:=cR) HXW.out Tryz.underlying76 size_Rec hcR ?_)
          refine CH.mono ?_;rintro ee w5 ⟨t,rfl,ht,b5⟩;have z5:W.heap.size ≤ w5.heap.size:=b5.size;have HV5:Hid (View layRec 76 w5 lo hi (.slice ao n cap) n (fun i => x0 (l.getD i 0)) co):=HVW.out.below b5 (by omega);have HX5:Hid (Box w5 wi.heap.size cR.toArray 76):=HXW.out.below b5 zW';have HR5:Hid (layRec.rd w5 hi (x0 M) cR):=layRec.rd_below HRW.out b5 (by omega);have HB5:Hid (Below w.heap.size w w5):=HBW2.out.trans (b5.mono (by omega))
          have HT:Hid (t = true ↔ ¬ Fst x0 M):=by
            show t = true ↔ ¬ Fst x0 M
            rw [ht,← HCt.out.has,HN.out];have:=(mem_drop_getD (l:=l) (al:=0) (P:=fun o => SameR (x0 o) (x0 M))).symm
            simpa using this
          clear ht b5 CH HVW HXW HRW HBW2
          cases t with
          | true =>
            go_wp2
            go_roundw
            case rel => exact ⟨i + 1,lo,l,co,by omega,by go_num,hlo,by omega,by rw [← Nat.add_assoc,← HMM.out];exact HCt.out.skip (HT.out.1 (by simp)),by rw [← HN.out];omega,by rw [← HN.out];exact HV5.out,HB5.out⟩
            case measure => simp [intOf];omega
          | false =>
            have HF:Hid (Fst x0 M):=Classical.byContradiction fun h => absurd (HT.out.2 h) (by simp);clear HT;go_wp2
            go_loopw [7] (fun va wx => ∃ at_:Nat,at_ ≤ n ∧ va = .int .i64 at_ ∧ (∀ k,at_ ≤ k → k < n → numC (x0 M) (x0 (l.getD k 0)) < 0) ∧ Below w5.heap.size w5 wx) (fun va _ => (intOf va).toNat)
            case atStart => exact ⟨n,Nat.le_refl _,by go_num,fun k h1 h2 => by omega,Below.refl _ _⟩
            case round =>
              obtain ⟨at_,hat,rfl,hbeh,bx⟩:=hrel;obtain ⟨wx,rfl⟩:∃ y,y = wr:=⟨_,rfl⟩;have HBE:Hid (∀ k,at_ ≤ k → k < n → numC (x0 M) (x0 (l.getD k 0)) < 0):=hbeh;have zx:w5.heap.size ≤ wx.heap.size:=bx.size;have HVx:Hid (View layRec 76 wx lo hi (.slice ao n cap) n (fun i => x0 (l.getD i 0)) co):=HV5.out.below bx (by omega);have HXx:Hid (Box wx wi.heap.size cR.toArray 76):=HX5.out.below bx (by omega);have HRx:Hid (layRec.rd wx hi (x0 M) cR):=layRec.rd_below HR5.out bx (by omega);have HBx:Hid (Below w.heap.size w wx):=HB5.out.trans (bx.mono (by omega));have HB5x:Hid (Below w5.heap.size w5 wx):=bx;have bD:Below wx.heap.size wx wx.drew:=⟨rfl,rfl,rfl,Nat.le_refl _,fun _ _ => rfl⟩;clear hbeh bx
              by_cases hat0:at_ = 0
              · have d1:decide (0 < at_) = false:=decide_eq_false (by omega)
                have d2:decide ((0:Int) < (at_:Int)) = false:=decide_eq_false (by omega);have HS:Hid (at_ = 0 ∨ ¬ numC (x0 M) (x0 (l.getD (at_ - 1) 0)) < 0):=.inl hat0;clear hat0
                go_upto_region 11 with fail
                refine wp_region_M 9 (fun w' => True) mixedO trivial (fun hHeld => ?_);refine wpAnyM_pure (i:=0) (oi:=_) (v:=?_) rfl (by kernel_rfl) (fun _ _ _ h => h) (Or.inl ⟨by kernel_rfl,?_⟩) (by assumption) ?_
                rotate_left
                · intro w' hSw;go_simp;try with_reducible rfl
                try simp only [Act.put,SL]
                refine wpAnyM_pure (i:=1) (oi:=_) (v:=?_) rfl (by kernel_rfl) (fun _ _ _ h => h) (Or.inl ⟨by kernel_rfl,?_⟩) (by assumption) ?_
                rotate_left
                · intro w' hSw;go_simp;try with_reducible rfl
                try simp only [Act.put,SL]
                try rw [d1]
                refine wpAnyM_pure (i:=2) (oi:=_) (v:=?_) rfl (by kernel_rfl) (fun _ _ _ h => h) (Or.inl ⟨by kernel_rfl,?_⟩) (by assumption) ?_
                rotate_left
                · intro w' hSw;go_simp;try with_reducible rfl
                try simp only [Act.put,SL]
                refine wpAnyM_pure (i:=3) (oi:=_) (v:=undef) rfl (by kernel_rfl) (fun _ _ _ h => h) (Or.inr ⟨by kernel_rfl,rfl⟩) (by assumption) ?_
                try simp only [Act.put,SL]
                refine wpAnyM_pure (i:=4) (oi:=_) (v:=undef) rfl (by kernel_rfl) (fun _ _ _ h => h) (Or.inr ⟨by kernel_rfl,rfl⟩) (by assumption) ?_
                try simp only [Act.put,SL]
                refine wpAnyM_pure (i:=5) (oi:=_) (v:=undef) rfl (by kernel_rfl) (fun _ _ _ h => h) (Or.inr ⟨by kernel_rfl,rfl⟩) (by assumption) ?_
                try simp only [Act.put,SL]
                refine wpAnyM_pure (i:=6) (oi:=_) (v:=undef) rfl (by kernel_rfl) (fun _ _ _ h => h) (Or.inr ⟨by kernel_rfl,rfl⟩) (by assumption) ?_
                try simp only [Act.put,SL]
                refine wpAnyM_pure (i:=7) (oi:=_) (v:=undef) rfl (by kernel_rfl) (fun _ _ _ h => h) (Or.inr ⟨by kernel_rfl,rfl⟩) (by assumption) ?_
                try simp only [Act.put,SL]
                refine wpAnyM_pure (i:=8) (oi:=_) (v:=undef) rfl (by kernel_rfl) (fun _ _ _ h => h) (Or.inr ⟨by kernel_rfl,rfl⟩) (by assumption) ?_
                try simp only [Act.put,SL]
                refine wpAnyM_one (i:=9) (o:=_) rfl (by kernel_rfl) (by kernel_rfl) (fun KC hKC => ?_);refine if_no (by kernel_rfl) (hKC _ _ ?_);clear hKC KC
                try simp only [Act.put,SL]
                refine wpAnyM_pureL (i:=10) (oi:=_) (v:=?_) rfl (by kernel_rfl) (fun _ _ _ h => h) (Or.inl ⟨by kernel_rfl,?_⟩) ?_
                rotate_left
                · intro w' hSw;go_simp;try with_reducible rfl
                try simp only [Act.put,SL]
                refine wpAnyM_done (by kernel_rfl) ?_ _;obtain ⟨w9,hw9⟩:∃ x,x = wx.drew:=⟨_,rfl⟩;rw [← hw9] at bD ⊢;have b9:Below wx.heap.size wx w9:=bD;clear bD hw9 hHeld d1 d2;have z9:wx.heap.size ≤ w9.heap.size:=b9.size;have V9:=(HVx.out.below b9 (by omega)).drew;have b9':Below wx.heap.size wx w9.drew:=b9.trans (show Below wx.heap.size w9 w9.drew from ⟨rfl,rfl,rfl,Nat.le_refl _,fun _ _ => rfl⟩);have X9:Box w9.drew wi.heap.size cR.toArray 76:=HXx.out.below b9' (by omega);have R9:layRec.rd w9.drew hi (x0 M) cR:=layRec.rd_below HRx.out b9' (by omega);have B9:Below w.heap.size w w9.drew:=HBx.out.trans (b9'.mono (by omega))
                have rg9:w9.drew.rangeAt wi.heap.size 0 cR:=fun j v hv => by
                  have:=(X9.cell j).trans (by simpa using hv);rw [Nat.zero_add];exact this
                obtain ⟨D,hD⟩:∃ D,D = w9.drew:=⟨_,rfl⟩;have HD:Hid (D = w9.drew):=hD;rw [← hD] at V9 X9 R9 B9 rg9
                have zD:w9.heap.size = D.heap.size:=by rw [hD];rfl
                clear hD b9 b9';obtain ⟨aU,cU,hUr,sU,hUz⟩:=V9.upto_ (show hi ≤ D.heap.size by omega) (al:=at_) hat;obtain ⟨aF,cF,hFr,sF,rF,hFz⟩:=V9.from_ (show hi ≤ D.heap.size by omega) (al:=at_) hat
                have hAU:∀ b off,aU = some ⟨b,off,none⟩ → b < D.heap.size:=fun b off e => by
                  rcases V9.form2 with ⟨e3,e4⟩ | ⟨g,cp,e3,e4,hg⟩
                  · have hz:at_ = 0:=by omega
                    have:=hUr D;rw [e3,hz,run_upto0 D] at this
                    simp only [Result.ok.injEq,Value.slice.injEq,and_true] at this
                    rw [← this.1] at e
                    cases e
                  · have:=hUr D
                    rw [e3,run_upto9 g n cp at_ hat e4 D] at this
                    simp only [Result.ok.injEq,Value.slice.injEq,and_true] at this
                    rw [← this.1] at e
                    cases e
                    exact hg
                have hAF:∀ b off,aF = some ⟨b,off,none⟩ → b < D.heap.size:=fun b off e => by
                  rcases V9.form2 with ⟨e3,e4⟩ | ⟨g,cp,e3,e4,hg⟩
                  · have hz:at_ = 0:=by omega
                    have:=hFr D;rw [e3,hz,run_from0 D] at this
                    simp only [Result.ok.injEq,Value.slice.injEq,and_true] at this
                    rw [← this.1] at e
                    cases e
                  · have:=hFr D
                    rw [e3,run_from9 g n cp at_ hat D] at this
                    simp only [Result.ok.injEq,Value.slice.injEq,and_true] at this
                    rw [← this.1] at e
                    split at e <;> cases e <;> exact hg
                have hiD:hi ≤ D.heap.size:=by omega
                have hpD:wi.heap.size < D.heap.size:=X9.lt
                have hatL:at_ ≤ l.length:=by rw [← HN.out];exact hat
                have HCN:Hid (Cnt x0 (M + 1) (l.take at_ ++ M :: l.drop at_)):=HCt.out.ins HF.out at_ hatL (fun k h1 h2 => HBE.out k h1 (by rw [HN.out];exact h2)) HS.out;have HRd:Hid (layRec.rd D hi (x0 M) cR):=R9;have HBD:Hid (Below w.heap.size w D):=B9;have HUS:Hid (Src layRec D hi aU at_ (fun i => x0 (l.getD i 0)) co):=sU;have HFS:Hid (Src layRec D hi aF (n - at_) (fun j => x0 (l.getD (at_ + j) 0)) (fun j => co (at_ + j))):=sF;clear V9 X9 R9 B9 sU sF rF
                go_upto_region 13 with fail
                refine wp_region_M 7 (fun w' => w'.rangeAt wi.heap.size 0 cR) mixedO (by rw [← HD.out];exact rg9) (fun hHeld => ?_);rw [← HD.out] at hHeld ⊢;refine wpAnyM_pure (i:=1) (oi:=_) (v:=?_) rfl (by kernel_rfl) (fun _ _ _ h => h) (Or.inl ⟨by kernel_rfl,?_⟩) (by assumption) ?_
                rotate_left
                · intro w' hSw;go_simp;try with_reducible rfl
                try simp only [Act.put,SL]
                refine wpAnyM_pure (i:=2) (oi:=_) (v:=?_) rfl (by kernel_rfl) (fun _ _ _ h => h) (Or.inl ⟨by kernel_rfl,?_⟩) (by assumption) ?_
                rotate_left
                · intro w' hSw;go_simp;try with_reducible rfl
                try simp only [Act.put,SL]
                refine wpAnyM_pure (i:=3) (oi:=_) (v:=?_) rfl (by kernel_rfl) (fun _ _ _ h => h) (Or.inl ⟨by kernel_rfl,?_⟩) (by assumption) ?_
                rotate_left
                · intro w' hSw
                  try rw [show (Instr.slice 71 (.slice ao n cap) none (some (.int .i64 (at_:Int))) none).run Tryz.prog w' = _ from hUr w']
                  have hSl':=hUr w';go_simp
                  try with_reducible rfl
                try simp only [Act.put,SL]
                refine wpAnyM_take (i:=5) (oi:=_) (v:=.agg cR.toArray) 16 rfl (by kernel_rfl) (fun _ _ _ h => h) (yieldsIf_load_mid (by kernel_rfl) 76 (.tmp 6) rfl wi.heap.size (0) (by simp [Act.eval,Act.put]) cR _ (fun w h => h) Tryz.underlying76 rfl (info_Rec9 hcR)) (by assumption) ?_
                try simp only [Act.put,SL]
                refine wpAnyM_pure (i:=8) (oi:=_) (v:=?_) rfl (by kernel_rfl) (fun _ _ _ h => h) (Or.inl ⟨by kernel_rfl,?_⟩) (by assumption) ?_
                rotate_left
                · intro w' hSw;go_simp;try with_reducible rfl
                try simp only [Act.put,SL]
                refine wpAnyM_pure (i:=9) (oi:=_) (v:=?_) rfl (by kernel_rfl) (fun _ _ _ h => h) (Or.inl ⟨by kernel_rfl,?_⟩) (by assumption) ?_
                rotate_left
                · intro w' hSw;go_simp;try with_reducible rfl
                try simp only [Act.put,SL]
                refine wpAnyM_pure (i:=10) (oi:=_) (v:=?_) rfl (by kernel_rfl) (fun _ _ _ h => h) (Or.inl ⟨by kernel_rfl,?_⟩) (by assumption) ?_
                rotate_left
                · intro w' hSw
                  try rw [show (Instr.slice 71 (.slice ao n cap) (some (.int .i64 (at_:Int))) none none).run Tryz.prog w' = _ from hFr w']
                  have hSl':=hFr w';go_simp
                  try with_reducible rfl
                try simp only [Act.put,SL]
                refine wpAnyM_twoS (i:=0) (j:=6) (o:=_) (o':=_) rfl rfl (by kernel_rfl) (fun KC hKC => ?_) (fun KC hKC => ?_)
                · refine step_build0 rfl rfl ?_
                  have bA:Below D.heap.size D (D.alloc (.cells #[] 76)):=(Below.refl _ _).alloc (Nat.le_refl _) _;refine hKC _ _ (range_below rg9 bA hpD) ?_;clear hKC KC
                  try simp only [Act.put,SL]
                  have VL:=View.lit0 (E:=layRec) (t:=76) (fun i => x0 (l.getD i 0)) co D hi;have zA1:D.heap.size < (D.alloc (.cells #[] 76)).heap.size:=(box_new D #[] 76).lt;obtain ⟨D1,hD1⟩:∃ x,x = D.alloc (.cells #[] 76):=⟨_,rfl⟩;rw [← hD1] at bA VL zA1 ⊢;clear hD1;refine wpAnyM_twoS (i:=4) (j:=6) (o:=_) (o':=_) rfl rfl (by kernel_rfl) (fun KC hKC => ?_) (fun KC hKC => ?_)
                  · skip
                    obtain ⟨v4,w4,cv4,runv4,V4,bw4⟩:=ins_up (lo:=lo) HUS.out hUz hAU bA hiD (by omega) VL;refine step_run2 rfl (.tmp 55) (.tmp 58) rfl (by simp [Act.eval,Act.put]) (by simp [Act.eval,Act.put]) runv4 ?_;have b4D:=bA.trans bw4;refine hKC _ _ (range_below rg9 b4D hpD) ?_;clear hKC KC
                    try simp only [Act.put,SL]
                    refine wpAnyM_oneS (i:=6) (o:=_) rfl (by kernel_rfl) (fun KC hKC => ?_);refine step_build1R rfl (.tmp 60) rfl HRd.out (by simp [Act.eval,Act.put]) ?_;have b6:Below w4.heap.size w4 (w4.alloc (.cells cR.toArray 76)):=(Below.refl _ _).alloc (Nat.le_refl _) _;have b6D:=b4D.trans (b6.mono b4D.size);refine hKC _ _ (range_below rg9 b6D hpD) ?_;clear hKC KC
                    try simp only [Act.put,SL]
                    have V6:=V4.below b6 (by have:=b4D.size;omega);have X6:Box (w4.alloc (.cells cR.toArray 76)) w4.heap.size cR.toArray 76:=box_new _ _ _;obtain ⟨v7,w7,cv7,runv7,V7,bw7⟩:=ins_one b6D hiD (by omega) V6 X6 (layRec.rd_below HRd.out b6D hiD);refine wpAnyM_one (i:=7) (o:=_) rfl (by kernel_rfl) (by kernel_rfl) (fun KC hKC => ?_);refine step_run2 rfl (.tmp 59) (.tmp 61) rfl (by simp [Act.eval,Act.put]) (by simp [Act.eval,Act.put]) runv7 ?_;refine hKC _ _ ?_;clear hKC KC
                    try simp only [Act.put,SL]
                    have b7D:=b6D.trans bw7;obtain ⟨v8,w8,cv8,runv8,V8,bw8⟩:=ins_rest HFS.out hFz hAF b7D hiD (by omega) V7;refine wpAnyM_one (i:=11) (o:=_) rfl (by kernel_rfl) (by kernel_rfl) (fun KC hKC => ?_);refine step_run2 rfl (.tmp 62) (.tmp 65) rfl (by simp [Act.eval,Act.put]) (by simp [Act.eval,Act.put]) runv8 ?_;refine hKC _ _ ?_;clear hKC KC
                    try simp only [Act.put,SL]
                    refine wpAnyM_pureL (i:=12) (oi:=_) (v:=?_) rfl (by kernel_rfl) (fun _ _ _ h => h) (Or.inl ⟨by kernel_rfl,?_⟩) ?_
                    rotate_left
                    · intro w' hSw;go_simp;try with_reducible rfl
                    try simp only [Act.put,SL]
                    refine wpAnyM_done (by kernel_rfl) ?_ _
                    have HV8:Hid (View layRec 76 w8 D.heap.size hi v8 (l.take at_ ++ M :: l.drop at_).length (fun i => x0 ((l.take at_ ++ M :: l.drop at_).getD i 0)) cv8):=by
                      show View _ _ _ _ _ _ _ _ _
                      rw [ins_len l M at_ hatL,← HN.out];exact V8.congr (fun i _ => ins_getD x0 l M at_ hatL i)
                    have HB8:Hid (Below w.heap.size w w8):=HBD.out.trans ((b7D.trans bw8).mono (by omega));have z8:D.heap.size ≤ w8.heap.size:=(b7D.trans bw8).size
                    have HLn:Hid ((l.take at_ ++ M :: l.drop at_).length ≤ L0 + (i + 1)):=by
                      show (l.take at_ ++ M :: l.drop at_).length ≤ L0 + (i + 1)
                      rw [ins_len l M at_ hatL,← HN.out];omega
                    clear V8 V7 bw7 bw8 b7D hHeld runv7 runv8 hUr hFr hUz hFz hAU hAF rg9 HUS HFS HRd HBD;go_wp2
                    go_roundw
                    case rel => exact ⟨i + 1,D.heap.size,l.take at_ ++ M :: l.drop at_,cv8,by omega,by go_num,by omega,z8,by rw [← Nat.add_assoc,← HMM.out];exact HCN.out,HLn.out,HV8.out,HB8.out⟩
                    case measure => simp [intOf];omega
                  · refine step_build1R rfl (.tmp 60) rfl HRd.out (by simp [Act.eval,Act.put]) ?_
                    have b6:Below D1.heap.size D1 (D1.alloc (.cells cR.toArray 76)):=(Below.refl _ _).alloc (Nat.le_refl _) _;have b6D:=bA.trans (b6.mono bA.size);refine hKC _ _ (range_below rg9 b6D hpD) ?_;clear hKC KC
                    try simp only [Act.put,SL]
                    have VL6:=VL.below b6 (by have:=bA.size;omega);have X6:Box (D1.alloc (.cells cR.toArray 76)) D1.heap.size cR.toArray 76:=box_new _ _ _;have z6:D1.heap.size < (D1.alloc (.cells cR.toArray 76)).heap.size:=X6.lt;have zA:=bA.size;obtain ⟨D2,hD2⟩:∃ x,x = D1.alloc (.cells cR.toArray 76):=⟨_,rfl⟩;rw [← hD2] at b6 b6D VL6 X6 z6 ⊢;clear hD2;have XK:=X6;obtain ⟨v4,w4,cv4,runv4,⟨V4,X4⟩,bw4⟩:=ins_up4 HUS.out hUz hAU b6D hiD (by omega) VL6 X6 (fun h => by simp [Value.ownBlock] at h;omega);refine wpAnyM_oneS (i:=4) (o:=_) rfl (by kernel_rfl) (fun KC hKC => ?_);refine step_run2 rfl (.tmp 55) (.tmp 58) rfl (by simp [Act.eval,Act.put]) (by simp [Act.eval,Act.put]) runv4 ?_;have b4D:=b6D.trans bw4;refine hKC _ _ (range_below rg9 b4D hpD) ?_;clear hKC KC
                    try simp only [Act.put,SL]
                    obtain ⟨v7,w7,cv7,runv7,V7,bw7⟩:=ins_one b4D hiD (by omega) V4 X4 (layRec.rd_below HRd.out b4D hiD);refine wpAnyM_one (i:=7) (o:=_) rfl (by kernel_rfl) (by kernel_rfl) (fun KC hKC => ?_);refine step_run2 rfl (.tmp 59) (.tmp 61) rfl (by simp [Act.eval,Act.put]) (by simp [Act.eval,Act.put]) runv7 ?_;refine hKC _ _ ?_;clear hKC KC
                    try simp only [Act.put,SL]
                    have b7D:=b4D.trans bw7;obtain ⟨v8,w8,cv8,runv8,V8,bw8⟩:=ins_rest HFS.out hFz hAF b7D hiD (by omega) V7;refine wpAnyM_one (i:=11) (o:=_) rfl (by kernel_rfl) (by kernel_rfl) (fun KC hKC => ?_);refine step_run2 rfl (.tmp 62) (.tmp 65) rfl (by simp [Act.eval,Act.put]) (by simp [Act.eval,Act.put]) runv8 ?_;refine hKC _ _ ?_;clear hKC KC
                    try simp only [Act.put,SL]
                    refine wpAnyM_pureL (i:=12) (oi:=_) (v:=?_) rfl (by kernel_rfl) (fun _ _ _ h => h) (Or.inl ⟨by kernel_rfl,?_⟩) ?_
                    rotate_left
                    · intro w' hSw;go_simp;try with_reducible rfl
                    try simp only [Act.put,SL]
                    refine wpAnyM_done (by kernel_rfl) ?_ _
                    have HV8:Hid (View layRec 76 w8 D.heap.size hi v8 (l.take at_ ++ M :: l.drop at_).length (fun i => x0 ((l.take at_ ++ M :: l.drop at_).getD i 0)) cv8):=by
                      show View _ _ _ _ _ _ _ _ _
                      rw [ins_len l M at_ hatL,← HN.out];exact V8.congr (fun i _ => ins_getD x0 l M at_ hatL i)
                    have HB8:Hid (Below w.heap.size w w8):=HBD.out.trans ((b7D.trans bw8).mono (by omega));have z8:D.heap.size ≤ w8.heap.size:=(b7D.trans bw8).size
                    have HLn:Hid ((l.take at_ ++ M :: l.drop at_).length ≤ L0 + (i + 1)):=by
                      show (l.take at_ ++ M :: l.drop at_).length ≤ L0 + (i + 1)
                      rw [ins_len l M at_ hatL,← HN.out];omega
                    clear V8 V7 bw7 bw8 b7D hHeld runv7 runv8 hUr hFr hUz hFz hAU hAF rg9 HUS HFS HRd HBD;go_wp2
                    go_roundw
                    case rel => exact ⟨i + 1,D.heap.size,l.take at_ ++ M :: l.drop at_,cv8,by omega,by go_num,by omega,z8,by rw [← Nat.add_assoc,← HMM.out];exact HCN.out,HLn.out,HV8.out,HB8.out⟩
                    case measure => simp [intOf];omega
                · refine step_build1R rfl (.tmp 60) rfl HRd.out (by simp [Act.eval,Act.put]) ?_
                  have bA:Below D.heap.size D (D.alloc (.cells cR.toArray 76)):=(Below.refl _ _).alloc (Nat.le_refl _) _;refine hKC _ _ (range_below rg9 bA hpD) ?_;clear hKC KC
                  try simp only [Act.put,SL]
                  have XA:Box (D.alloc (.cells cR.toArray 76)) D.heap.size cR.toArray 76:=box_new _ _ _;have zA:D.heap.size < (D.alloc (.cells cR.toArray 76)).heap.size:=XA.lt;obtain ⟨D1,hD1⟩:∃ x,x = D.alloc (.cells cR.toArray 76):=⟨_,rfl⟩;rw [← hD1] at bA XA zA ⊢;clear hD1;refine wpAnyM_oneS (i:=0) (o:=_) rfl (by kernel_rfl) (fun KC hKC => ?_);refine step_build0 rfl rfl ?_;have b6:Below D1.heap.size D1 (D1.alloc (.cells #[] 76)):=(Below.refl _ _).alloc (Nat.le_refl _) _;have b6D:=bA.trans (b6.mono bA.size);refine hKC _ _ (range_below rg9 b6D hpD) ?_;clear hKC KC
                  try simp only [Act.put,SL]
                  have VL:=(View.lit0 (E:=layRec) (t:=76) (fun i => x0 (l.getD i 0)) co D1 hi).weakL (lo':=D.heap.size) (by omega);have X6:=XA.below b6 zA;obtain ⟨D2,hD2⟩:∃ x,x = D1.alloc (.cells #[] 76):=⟨_,rfl⟩;rw [← hD2] at b6 b6D VL X6 ⊢;clear hD2;obtain ⟨v4,w4,cv4,runv4,⟨V4,X4⟩,bw4⟩:=ins_up4 HUS.out hUz hAU b6D hiD (by omega) VL X6 (fun h => by simp [Value.ownBlock] at h;omega);refine wpAnyM_oneS (i:=4) (o:=_) rfl (by kernel_rfl) (fun KC hKC => ?_);refine step_run2 rfl (.tmp 55) (.tmp 58) rfl (by simp [Act.eval,Act.put]) (by simp [Act.eval,Act.put]) runv4 ?_;have b4D:=b6D.trans bw4;refine hKC _ _ (range_below rg9 b4D hpD) ?_;clear hKC KC
                  try simp only [Act.put,SL]
                  obtain ⟨v7,w7,cv7,runv7,V7,bw7⟩:=ins_one b4D hiD (by omega) V4 X4 (layRec.rd_below HRd.out b4D hiD);refine wpAnyM_one (i:=7) (o:=_) rfl (by kernel_rfl) (by kernel_rfl) (fun KC hKC => ?_);refine step_run2 rfl (.tmp 59) (.tmp 61) rfl (by simp [Act.eval,Act.put]) (by simp [Act.eval,Act.put]) runv7 ?_;refine hKC _ _ ?_;clear hKC KC
                  try simp only [Act.put,SL]
                  have b7D:=b4D.trans bw7;obtain ⟨v8,w8,cv8,runv8,V8,bw8⟩:=ins_rest HFS.out hFz hAF b7D hiD (by omega) V7;refine wpAnyM_one (i:=11) (o:=_) rfl (by kernel_rfl) (by kernel_rfl) (fun KC hKC => ?_);refine step_run2 rfl (.tmp 62) (.tmp 65) rfl (by simp [Act.eval,Act.put]) (by simp [Act.eval,Act.put]) runv8 ?_;refine hKC _ _ ?_;clear hKC KC
                  try simp only [Act.put,SL]
                  refine wpAnyM_pureL (i:=12) (oi:=_) (v:=?_) rfl (by kernel_rfl) (fun _ _ _ h => h) (Or.inl ⟨by kernel_rfl,?_⟩) ?_
                  rotate_left
                  · intro w' hSw;go_simp;try with_reducible rfl
                  try simp only [Act.put,SL]
                  refine wpAnyM_done (by kernel_rfl) ?_ _
                  have HV8:Hid (View layRec 76 w8 D.heap.size hi v8 (l.take at_ ++ M :: l.drop at_).length (fun i => x0 ((l.take at_ ++ M :: l.drop at_).getD i 0)) cv8):=by
                    show View _ _ _ _ _ _ _ _ _
                    rw [ins_len l M at_ hatL,← HN.out];exact V8.congr (fun i _ => ins_getD x0 l M at_ hatL i)
                  have HB8:Hid (Below w.heap.size w w8):=HBD.out.trans ((b7D.trans bw8).mono (by omega));have z8:D.heap.size ≤ w8.heap.size:=(b7D.trans bw8).size
                  have HLn:Hid ((l.take at_ ++ M :: l.drop at_).length ≤ L0 + (i + 1)):=by
                    show (l.take at_ ++ M :: l.drop at_).length ≤ L0 + (i + 1)
                    rw [ins_len l M at_ hatL,← HN.out];omega
                  clear V8 V7 bw7 bw8 b7D hHeld runv7 runv8 hUr hFr hUz hFz hAU hAF rg9 HUS HFS HRd HBD;go_wp2
                  go_roundw
                  case rel => exact ⟨i + 1,D.heap.size,l.take at_ ++ M :: l.drop at_,cv8,by omega,by go_num,by omega,z8,by rw [← Nat.add_assoc,← HMM.out];exact HCN.out,HLn.out,HV8.out,HB8.out⟩
                  case measure => simp [intOf];omega
              · obtain ⟨A,hA⟩:∃ A,at_ = A + 1:=⟨at_ - 1,by omega⟩
                subst hA
                have hAn:A < n:=by omega
                have VD:=HVx.out.drew;obtain ⟨gO,cO',hgO⟩:=VD.form0 (by omega)
                have rgO:wx.drew.rangeAt gO (A * 9) (co A):=by rw [hgO] at VD;exact VD.range hAn
                obtain ⟨rfl,rfl⟩:ao = some ⟨gO,0,none⟩ ∧ cap = cO':=by simpa using hgO
                have hcO:(co A).length = 9:=VD.lens A hAn;have CC0:=l6Ahead_any (x0 M) (x0 (l.getD A 0)) cR (co A) hi hi wx.drew (layRec.rd_below HRx.out bD (by omega)) (VD.each A hAn);obtain ⟨cO,hcOe⟩:∃ c,c = co A:=⟨_,rfl⟩;rw [← hcOe] at rgO hcO CC0;obtain ⟨t,ht⟩:∃ t,t = decide (numC (x0 M) (x0 (l.getD A 0)) < 0):=⟨_,rfl⟩;rw [← ht] at CC0;have HT:Hid (t = decide (numC (x0 M) (x0 (l.getD A 0)) < 0)):=ht
                have CC:Calls Tryz.prog 69 (#[.agg cR.toArray,.agg cO.toArray] ++ #[]) wx.drew fun e w' => e = .returned (.bool t) ∧ Below wx.drew.heap.size wx.drew w':=by rw [Array.append_empty];exact CC0
                have rgB:wx.drew.rangeAt wi.heap.size 0 cR:=fun j v hv => by
                  have:=(HXx.out.cell j).trans (by simpa using hv);rw [Nat.zero_add];exact this
                have d1:decide (0 < A + 1) = true:=decide_eq_true (by omega);have d2:decide ((0:Int) < ((A + 1:Nat):Int)) = true:=decide_eq_true (by omega);have wP:IntKind.i64.wrap (((A + 1:Nat):Int) - 1) = (A:Int):=wrapPred (by omega)
                have wP':IntKind.i64.wrap ((A:Int) + 1 - 1) = (A:Int):=by rw [IntKind.wrap_i64];omega
                have wA:IntKind.i64.wrap (A:Int) = (A:Int):=by rw [IntKind.wrap_i64];omega
                have i3:(0:Int) ≤ (A:Int):=by omega
                have i4:(A:Int) < (n:Int):=by omega
                clear CC0 ht hcOe VD hgO
                go_upto_region 11 with fail
                refine wp_region_M 9 (fun w' => w'.rangeAt gO (A * 9) cO ∧ w'.rangeAt wi.heap.size 0 cR) mixedO ⟨rgO,rgB⟩ (fun hHeld => ?_);refine wpAnyM_pure (i:=0) (oi:=_) (v:=?_) rfl (by kernel_rfl) (fun _ _ _ h => h) (Or.inl ⟨by kernel_rfl,?_⟩) (by assumption) ?_
                rotate_left
                · intro w' hSw;go_simp;try with_reducible rfl
                try simp only [Act.put,SL]
                refine wpAnyM_pure (i:=1) (oi:=_) (v:=?_) rfl (by kernel_rfl) (fun _ _ _ h => h) (Or.inl ⟨by kernel_rfl,?_⟩) (by assumption) ?_
                rotate_left
                · intro w' hSw;go_simp;try with_reducible rfl
                try simp only [Act.put,SL]
                try rw [d1]
                refine wpAnyM_pure (i:=2) (oi:=_) (v:=?_) rfl (by kernel_rfl) (fun _ _ _ h => h) (Or.inl ⟨by kernel_rfl,?_⟩) (by assumption) ?_
                rotate_left
                · intro w' hSw;go_simp;try with_reducible rfl
                try simp only [Act.put,SL]
                refine wpAnyM_take (i:=3) (oi:=_) (v:=.agg cR.toArray) 16 rfl (by kernel_rfl) (fun _ _ _ h => h) (yieldsIf_load_mid (by kernel_rfl) 76 (.tmp 6) rfl wi.heap.size (0) (by simp [Act.eval,Act.put]) cR _ (fun w h => h.2) Tryz.underlying76 rfl (info_Rec9 hcR)) (by assumption) ?_
                try simp only [Act.put,SL]
                refine wpAnyM_pure (i:=4) (oi:=_) (v:=?_) rfl (by kernel_rfl) (fun _ _ _ h => h) (Or.inl ⟨by kernel_rfl,?_⟩) (by assumption) ?_
                rotate_left
                · intro w' hSw;go_simp;try with_reducible rfl
                try simp only [Act.put,SL]
                refine wpAnyM_pure (i:=5) (oi:=_) (v:=?_) rfl (by kernel_rfl) (fun _ _ _ h => h) (Or.inl ⟨by kernel_rfl,?_⟩) (by assumption) ?_
                rotate_left
                · intro w' hSw;go_simp;try with_reducible rfl
                try simp only [Act.put,SL]
                refine wpAnyM_pure (i:=6) (oi:=_) (v:=?_) rfl (by kernel_rfl) (fun _ _ _ h => h) (Or.inl ⟨by kernel_rfl,?_⟩) (by assumption) ?_
                rotate_left
                · intro w' hSw;go_simp;try with_reducible rfl
                try simp only [Act.put,SL]
                refine wpAnyM_pure (i:=7) (oi:=_) (v:=?_) rfl (by kernel_rfl) (fun _ _ _ h => h) (Or.inl ⟨by kernel_rfl,?_⟩) (by assumption) ?_
                rotate_left
                · intro w' hSw;go_simp;try with_reducible rfl
                try simp only [Act.put,SL]
                refine wpAnyM_take (i:=8) (oi:=_) (v:=.agg cO.toArray) 16 rfl (by kernel_rfl) (fun _ _ _ h => h) (yieldsIf_load_mid (by kernel_rfl) 76 (.tmp 49) rfl gO (A * 9) (by simp [Act.eval,Act.put]) cO _ (fun w h => h.1) Tryz.underlying76 rfl (info_Rec9 hcO)) (by assumption) ?_
                try simp only [Act.put,SL]
                refine wpAnyM_one (i:=9) (o:=_) rfl (by kernel_rfl) (by kernel_rfl) (fun KC hKC => ?_);refine step_callv (by kernel_rfl) (.func 69) 69 #[] _ _ rfl (by simp [Act.eval,Act.put]) #[.agg cR.toArray,.agg cO.toArray] (by simp [Act.eval,Act.put]) Tryz.func69 (by kernel_rfl) (by kernel_rfl) CC ?_;rintro ee w9 ⟨rfl,b9d⟩;refine ⟨_,rfl,?_⟩;refine hKC _ _ ?_;clear hKC KC
                try simp only [Act.put,SL]
                refine wpAnyM_pureL (i:=10) (oi:=_) (v:=?_) rfl (by kernel_rfl) (fun _ _ _ h => h) (Or.inl ⟨by kernel_rfl,?_⟩) ?_
                rotate_left
                · intro w' hSw;go_simp;try with_reducible rfl
                try simp only [Act.put,SL]
                refine wpAnyM_done (by kernel_rfl) ?_ _;have b9:Below wx.heap.size wx w9:=bD.trans b9d;clear bD hHeld d1 d2 CC rgO rgB hcO b9d
                cases t with
                | true =>
                  go_wp2
                  go_roundw
                  case rel => exact ⟨A,by omega,by go_num,fun k h1 h2 => by
                                by_cases c:k = A
                                · rw [c];simpa using HT.out
                                · exact HBE.out k (by omega) h2,HB5x.out.trans (b9.mono zx)⟩
                  case measure => simp [intOf]
                | false =>
                  have HS:Hid (A + 1 = 0 ∨ ¬ numC (x0 M) (x0 (l.getD (A + 1 - 1) 0)) < 0):=.inr (by simpa using HT.out);obtain ⟨at_,hate⟩:∃ a,a = A + 1:=⟨_,rfl⟩;rw [← hate] at HS HBE hat ⊢;clear hate HT wP wP' wA hat0;have z9:wx.heap.size ≤ w9.heap.size:=b9.size;have V9:=(HVx.out.below b9 (by omega)).drew;have b9':Below wx.heap.size wx w9.drew:=b9.trans (show Below wx.heap.size w9 w9.drew from ⟨rfl,rfl,rfl,Nat.le_refl _,fun _ _ => rfl⟩);have X9:Box w9.drew wi.heap.size cR.toArray 76:=HXx.out.below b9' (by omega);have R9:layRec.rd w9.drew hi (x0 M) cR:=layRec.rd_below HRx.out b9' (by omega);have B9:Below w.heap.size w w9.drew:=HBx.out.trans (b9'.mono (by omega))
                  have rg9:w9.drew.rangeAt wi.heap.size 0 cR:=fun j v hv => by
                    have:=(X9.cell j).trans (by simpa using hv);rw [Nat.zero_add];exact this
                  obtain ⟨D,hD⟩:∃ D,D = w9.drew:=⟨_,rfl⟩;have HD:Hid (D = w9.drew):=hD;rw [← hD] at V9 X9 R9 B9 rg9
                  have zD:w9.heap.size = D.heap.size:=by rw [hD];rfl
                  clear hD b9 b9';obtain ⟨aU,cU,hUr,sU,hUz⟩:=V9.upto_ (show hi ≤ D.heap.size by omega) (al:=at_) hat;obtain ⟨aF,cF,hFr,sF,rF,hFz⟩:=V9.from_ (show hi ≤ D.heap.size by omega) (al:=at_) hat
                  have hAU:∀ b off,aU = some ⟨b,off,none⟩ → b < D.heap.size:=fun b off e => by
                    rcases V9.form2 with ⟨e3,e4⟩ | ⟨g,cp,e3,e4,hg⟩
                    · have hz:at_ = 0:=by omega
                      have:=hUr D;rw [e3,hz,run_upto0 D] at this
                      simp only [Result.ok.injEq,Value.slice.injEq,and_true] at this
                      rw [← this.1] at e
                      cases e
                    · have:=hUr D
                      rw [e3,run_upto9 g n cp at_ hat e4 D] at this
                      simp only [Result.ok.injEq,Value.slice.injEq,and_true] at this
                      rw [← this.1] at e
                      cases e
                      exact hg
                  have hAF:∀ b off,aF = some ⟨b,off,none⟩ → b < D.heap.size:=fun b off e => by
                    rcases V9.form2 with ⟨e3,e4⟩ | ⟨g,cp,e3,e4,hg⟩
                    · have hz:at_ = 0:=by omega
                      have:=hFr D;rw [e3,hz,run_from0 D] at this
                      simp only [Result.ok.injEq,Value.slice.injEq,and_true] at this
                      rw [← this.1] at e
                      cases e
                    · have:=hFr D
                      rw [e3,run_from9 g n cp at_ hat D] at this
                      simp only [Result.ok.injEq,Value.slice.injEq,and_true] at this
                      rw [← this.1] at e
                      split at e <;> cases e <;> exact hg
                  have hiD:hi ≤ D.heap.size:=by omega
                  have hpD:wi.heap.size < D.heap.size:=X9.lt
                  have hatL:at_ ≤ l.length:=by rw [← HN.out];exact hat
                  have HCN:Hid (Cnt x0 (M + 1) (l.take at_ ++ M :: l.drop at_)):=HCt.out.ins HF.out at_ hatL (fun k h1 h2 => HBE.out k h1 (by rw [HN.out];exact h2)) HS.out;have HRd:Hid (layRec.rd D hi (x0 M) cR):=R9;have HBD:Hid (Below w.heap.size w D):=B9;have HUS:Hid (Src layRec D hi aU at_ (fun i => x0 (l.getD i 0)) co):=sU;have HFS:Hid (Src layRec D hi aF (n - at_) (fun j => x0 (l.getD (at_ + j) 0)) (fun j => co (at_ + j))):=sF;clear V9 X9 R9 B9 sU sF rF
                  go_upto_region 13 with fail
                  refine wp_region_M 7 (fun w' => w'.rangeAt wi.heap.size 0 cR) mixedO (by rw [← HD.out];exact rg9) (fun hHeld => ?_);rw [← HD.out] at hHeld ⊢;refine wpAnyM_pure (i:=1) (oi:=_) (v:=?_) rfl (by kernel_rfl) (fun _ _ _ h => h) (Or.inl ⟨by kernel_rfl,?_⟩) (by assumption) ?_
                  rotate_left
                  · intro w' hSw;go_simp;try with_reducible rfl
                  try simp only [Act.put,SL]
                  refine wpAnyM_pure (i:=2) (oi:=_) (v:=?_) rfl (by kernel_rfl) (fun _ _ _ h => h) (Or.inl ⟨by kernel_rfl,?_⟩) (by assumption) ?_
                  rotate_left
                  · intro w' hSw;go_simp;try with_reducible rfl
                  try simp only [Act.put,SL]
                  refine wpAnyM_pure (i:=3) (oi:=_) (v:=?_) rfl (by kernel_rfl) (fun _ _ _ h => h) (Or.inl ⟨by kernel_rfl,?_⟩) (by assumption) ?_
                  rotate_left
                  · intro w' hSw
                    try rw [show (Instr.slice 71 (.slice (some ⟨gO,0,none⟩) n cap) none (some (.int .i64 (at_:Int))) none).run Tryz.prog w' = _ from hUr w']
                    have hSl':=hUr w';go_simp
                    try with_reducible rfl
                  try simp only [Act.put,SL]
                  refine wpAnyM_take (i:=5) (oi:=_) (v:=.agg cR.toArray) 16 rfl (by kernel_rfl) (fun _ _ _ h => h) (yieldsIf_load_mid (by kernel_rfl) 76 (.tmp 6) rfl wi.heap.size (0) (by simp [Act.eval,Act.put]) cR _ (fun w h => h) Tryz.underlying76 rfl (info_Rec9 hcR)) (by assumption) ?_
                  try simp only [Act.put,SL]
                  refine wpAnyM_pure (i:=8) (oi:=_) (v:=?_) rfl (by kernel_rfl) (fun _ _ _ h => h) (Or.inl ⟨by kernel_rfl,?_⟩) (by assumption) ?_
                  rotate_left
                  · intro w' hSw;go_simp;try with_reducible rfl
                  try simp only [Act.put,SL]
                  refine wpAnyM_pure (i:=9) (oi:=_) (v:=?_) rfl (by kernel_rfl) (fun _ _ _ h => h) (Or.inl ⟨by kernel_rfl,?_⟩) (by assumption) ?_
                  rotate_left
                  · intro w' hSw;go_simp;try with_reducible rfl
                  try simp only [Act.put,SL]
                  refine wpAnyM_pure (i:=10) (oi:=_) (v:=?_) rfl (by kernel_rfl) (fun _ _ _ h => h) (Or.inl ⟨by kernel_rfl,?_⟩) (by assumption) ?_
                  rotate_left
                  · intro w' hSw
                    try rw [show (Instr.slice 71 (.slice (some ⟨gO,0,none⟩) n cap) (some (.int .i64 (at_:Int))) none none).run Tryz.prog w' = _ from hFr w']
                    have hSl':=hFr w';go_simp
                    try with_reducible rfl
                  try simp only [Act.put,SL]
                  refine wpAnyM_twoS (i:=0) (j:=6) (o:=_) (o':=_) rfl rfl (by kernel_rfl) (fun KC hKC => ?_) (fun KC hKC => ?_)
                  · refine step_build0 rfl rfl ?_
                    have bA:Below D.heap.size D (D.alloc (.cells #[] 76)):=(Below.refl _ _).alloc (Nat.le_refl _) _;refine hKC _ _ (range_below rg9 bA hpD) ?_;clear hKC KC
                    try simp only [Act.put,SL]
                    have VL:=View.lit0 (E:=layRec) (t:=76) (fun i => x0 (l.getD i 0)) co D hi;have zA1:D.heap.size < (D.alloc (.cells #[] 76)).heap.size:=(box_new D #[] 76).lt;obtain ⟨D1,hD1⟩:∃ x,x = D.alloc (.cells #[] 76):=⟨_,rfl⟩;rw [← hD1] at bA VL zA1 ⊢;clear hD1;refine wpAnyM_twoS (i:=4) (j:=6) (o:=_) (o':=_) rfl rfl (by kernel_rfl) (fun KC hKC => ?_) (fun KC hKC => ?_)
                    · skip
                      obtain ⟨v4,w4,cv4,runv4,V4,bw4⟩:=ins_up (lo:=lo) HUS.out hUz hAU bA hiD (by omega) VL;refine step_run2 rfl (.tmp 55) (.tmp 58) rfl (by simp [Act.eval,Act.put]) (by simp [Act.eval,Act.put]) runv4 ?_;have b4D:=bA.trans bw4;refine hKC _ _ (range_below rg9 b4D hpD) ?_;clear hKC KC
                      try simp only [Act.put,SL]
                      refine wpAnyM_oneS (i:=6) (o:=_) rfl (by kernel_rfl) (fun KC hKC => ?_);refine step_build1R rfl (.tmp 60) rfl HRd.out (by simp [Act.eval,Act.put]) ?_;have b6:Below w4.heap.size w4 (w4.alloc (.cells cR.toArray 76)):=(Below.refl _ _).alloc (Nat.le_refl _) _;have b6D:=b4D.trans (b6.mono b4D.size);refine hKC _ _ (range_below rg9 b6D hpD) ?_;clear hKC KC
                      try simp only [Act.put,SL]
                      have V6:=V4.below b6 (by have:=b4D.size;omega);have X6:Box (w4.alloc (.cells cR.toArray 76)) w4.heap.size cR.toArray 76:=box_new _ _ _;obtain ⟨v7,w7,cv7,runv7,V7,bw7⟩:=ins_one b6D hiD (by omega) V6 X6 (layRec.rd_below HRd.out b6D hiD);refine wpAnyM_one (i:=7) (o:=_) rfl (by kernel_rfl) (by kernel_rfl) (fun KC hKC => ?_);refine step_run2 rfl (.tmp 59) (.tmp 61) rfl (by simp [Act.eval,Act.put]) (by simp [Act.eval,Act.put]) runv7 ?_;refine hKC _ _ ?_;clear hKC KC
                      try simp only [Act.put,SL]
                      have b7D:=b6D.trans bw7;obtain ⟨v8,w8,cv8,runv8,V8,bw8⟩:=ins_rest HFS.out hFz hAF b7D hiD (by omega) V7;refine wpAnyM_one (i:=11) (o:=_) rfl (by kernel_rfl) (by kernel_rfl) (fun KC hKC => ?_);refine step_run2 rfl (.tmp 62) (.tmp 65) rfl (by simp [Act.eval,Act.put]) (by simp [Act.eval,Act.put]) runv8 ?_;refine hKC _ _ ?_;clear hKC KC
                      try simp only [Act.put,SL]
                      refine wpAnyM_pureL (i:=12) (oi:=_) (v:=?_) rfl (by kernel_rfl) (fun _ _ _ h => h) (Or.inl ⟨by kernel_rfl,?_⟩) ?_
                      rotate_left
                      · intro w' hSw;go_simp;try with_reducible rfl
                      try simp only [Act.put,SL]
                      refine wpAnyM_done (by kernel_rfl) ?_ _
                      have HV8:Hid (View layRec 76 w8 D.heap.size hi v8 (l.take at_ ++ M :: l.drop at_).length (fun i => x0 ((l.take at_ ++ M :: l.drop at_).getD i 0)) cv8):=by
                        show View _ _ _ _ _ _ _ _ _
                        rw [ins_len l M at_ hatL,← HN.out];exact V8.congr (fun i _ => ins_getD x0 l M at_ hatL i)
                      have HB8:Hid (Below w.heap.size w w8):=HBD.out.trans ((b7D.trans bw8).mono (by omega));have z8:D.heap.size ≤ w8.heap.size:=(b7D.trans bw8).size
                      have HLn:Hid ((l.take at_ ++ M :: l.drop at_).length ≤ L0 + (i + 1)):=by
                        show (l.take at_ ++ M :: l.drop at_).length ≤ L0 + (i + 1)
                        rw [ins_len l M at_ hatL,← HN.out];omega
                      clear V8 V7 bw7 bw8 b7D hHeld runv7 runv8 hUr hFr hUz hFz hAU hAF rg9 HUS HFS HRd HBD;go_wp2
                      go_roundw
                      case rel => exact ⟨i + 1,D.heap.size,l.take at_ ++ M :: l.drop at_,cv8,by omega,by go_num,by omega,z8,by rw [← Nat.add_assoc,← HMM.out];exact HCN.out,HLn.out,HV8.out,HB8.out⟩
                      case measure => simp [intOf];omega
                    · refine step_build1R rfl (.tmp 60) rfl HRd.out (by simp [Act.eval,Act.put]) ?_
                      have b6:Below D1.heap.size D1 (D1.alloc (.cells cR.toArray 76)):=(Below.refl _ _).alloc (Nat.le_refl _) _;have b6D:=bA.trans (b6.mono bA.size);refine hKC _ _ (range_below rg9 b6D hpD) ?_;clear hKC KC
                      try simp only [Act.put,SL]
                      have VL6:=VL.below b6 (by have:=bA.size;omega);have X6:Box (D1.alloc (.cells cR.toArray 76)) D1.heap.size cR.toArray 76:=box_new _ _ _;have z6:D1.heap.size < (D1.alloc (.cells cR.toArray 76)).heap.size:=X6.lt;have zA:=bA.size;obtain ⟨D2,hD2⟩:∃ x,x = D1.alloc (.cells cR.toArray 76):=⟨_,rfl⟩;rw [← hD2] at b6 b6D VL6 X6 z6 ⊢;clear hD2;have XK:=X6;obtain ⟨v4,w4,cv4,runv4,⟨V4,X4⟩,bw4⟩:=ins_up4 HUS.out hUz hAU b6D hiD (by omega) VL6 X6 (fun h => by simp [Value.ownBlock] at h;omega);refine wpAnyM_oneS (i:=4) (o:=_) rfl (by kernel_rfl) (fun KC hKC => ?_);refine step_run2 rfl (.tmp 55) (.tmp 58) rfl (by simp [Act.eval,Act.put]) (by simp [Act.eval,Act.put]) runv4 ?_;have b4D:=b6D.trans bw4;refine hKC _ _ (range_below rg9 b4D hpD) ?_;clear hKC KC
                      try simp only [Act.put,SL]
                      obtain ⟨v7,w7,cv7,runv7,V7,bw7⟩:=ins_one b4D hiD (by omega) V4 X4 (layRec.rd_below HRd.out b4D hiD);refine wpAnyM_one (i:=7) (o:=_) rfl (by kernel_rfl) (by kernel_rfl) (fun KC hKC => ?_);refine step_run2 rfl (.tmp 59) (.tmp 61) rfl (by simp [Act.eval,Act.put]) (by simp [Act.eval,Act.put]) runv7 ?_;refine hKC _ _ ?_;clear hKC KC
                      try simp only [Act.put,SL]
                      have b7D:=b4D.trans bw7;obtain ⟨v8,w8,cv8,runv8,V8,bw8⟩:=ins_rest HFS.out hFz hAF b7D hiD (by omega) V7;refine wpAnyM_one (i:=11) (o:=_) rfl (by kernel_rfl) (by kernel_rfl) (fun KC hKC => ?_);refine step_run2 rfl (.tmp 62) (.tmp 65) rfl (by simp [Act.eval,Act.put]) (by simp [Act.eval,Act.put]) runv8 ?_;refine hKC _ _ ?_;clear hKC KC
                      try simp only [Act.put,SL]
                      refine wpAnyM_pureL (i:=12) (oi:=_) (v:=?_) rfl (by kernel_rfl) (fun _ _ _ h => h) (Or.inl ⟨by kernel_rfl,?_⟩) ?_
                      rotate_left
                      · intro w' hSw;go_simp;try with_reducible rfl
                      try simp only [Act.put,SL]
                      refine wpAnyM_done (by kernel_rfl) ?_ _
                      have HV8:Hid (View layRec 76 w8 D.heap.size hi v8 (l.take at_ ++ M :: l.drop at_).length (fun i => x0 ((l.take at_ ++ M :: l.drop at_).getD i 0)) cv8):=by
                        show View _ _ _ _ _ _ _ _ _
                        rw [ins_len l M at_ hatL,← HN.out];exact V8.congr (fun i _ => ins_getD x0 l M at_ hatL i)
                      have HB8:Hid (Below w.heap.size w w8):=HBD.out.trans ((b7D.trans bw8).mono (by omega));have z8:D.heap.size ≤ w8.heap.size:=(b7D.trans bw8).size
                      have HLn:Hid ((l.take at_ ++ M :: l.drop at_).length ≤ L0 + (i + 1)):=by
                        show (l.take at_ ++ M :: l.drop at_).length ≤ L0 + (i + 1)
                        rw [ins_len l M at_ hatL,← HN.out];omega
                      clear V8 V7 bw7 bw8 b7D hHeld runv7 runv8 hUr hFr hUz hFz hAU hAF rg9 HUS HFS HRd HBD;go_wp2
                      go_roundw
                      case rel => exact ⟨i + 1,D.heap.size,l.take at_ ++ M :: l.drop at_,cv8,by omega,by go_num,by omega,z8,by rw [← Nat.add_assoc,← HMM.out];exact HCN.out,HLn.out,HV8.out,HB8.out⟩
                      case measure => simp [intOf];omega
                  · refine step_build1R rfl (.tmp 60) rfl HRd.out (by simp [Act.eval,Act.put]) ?_
                    have bA:Below D.heap.size D (D.alloc (.cells cR.toArray 76)):=(Below.refl _ _).alloc (Nat.le_refl _) _;refine hKC _ _ (range_below rg9 bA hpD) ?_;clear hKC KC
                    try simp only [Act.put,SL]
                    have XA:Box (D.alloc (.cells cR.toArray 76)) D.heap.size cR.toArray 76:=box_new _ _ _;have zA:D.heap.size < (D.alloc (.cells cR.toArray 76)).heap.size:=XA.lt;obtain ⟨D1,hD1⟩:∃ x,x = D.alloc (.cells cR.toArray 76):=⟨_,rfl⟩;rw [← hD1] at bA XA zA ⊢;clear hD1;refine wpAnyM_oneS (i:=0) (o:=_) rfl (by kernel_rfl) (fun KC hKC => ?_);refine step_build0 rfl rfl ?_;have b6:Below D1.heap.size D1 (D1.alloc (.cells #[] 76)):=(Below.refl _ _).alloc (Nat.le_refl _) _;have b6D:=bA.trans (b6.mono bA.size);refine hKC _ _ (range_below rg9 b6D hpD) ?_;clear hKC KC
                    try simp only [Act.put,SL]
                    have VL:=(View.lit0 (E:=layRec) (t:=76) (fun i => x0 (l.getD i 0)) co D1 hi).weakL (lo':=D.heap.size) (by omega);have X6:=XA.below b6 zA;obtain ⟨D2,hD2⟩:∃ x,x = D1.alloc (.cells #[] 76):=⟨_,rfl⟩;rw [← hD2] at b6 b6D VL X6 ⊢;clear hD2;obtain ⟨v4,w4,cv4,runv4,⟨V4,X4⟩,bw4⟩:=ins_up4 HUS.out hUz hAU b6D hiD (by omega) VL X6 (fun h => by simp [Value.ownBlock] at h;omega);refine wpAnyM_oneS (i:=4) (o:=_) rfl (by kernel_rfl) (fun KC hKC => ?_);refine step_run2 rfl (.tmp 55) (.tmp 58) rfl (by simp [Act.eval,Act.put]) (by simp [Act.eval,Act.put]) runv4 ?_;have b4D:=b6D.trans bw4;refine hKC _ _ (range_below rg9 b4D hpD) ?_;clear hKC KC
                    try simp only [Act.put,SL]
                    obtain ⟨v7,w7,cv7,runv7,V7,bw7⟩:=ins_one b4D hiD (by omega) V4 X4 (layRec.rd_below HRd.out b4D hiD);refine wpAnyM_one (i:=7) (o:=_) rfl (by kernel_rfl) (by kernel_rfl) (fun KC hKC => ?_);refine step_run2 rfl (.tmp 59) (.tmp 61) rfl (by simp [Act.eval,Act.put]) (by simp [Act.eval,Act.put]) runv7 ?_;refine hKC _ _ ?_;clear hKC KC
                    try simp only [Act.put,SL]
                    have b7D:=b4D.trans bw7;obtain ⟨v8,w8,cv8,runv8,V8,bw8⟩:=ins_rest HFS.out hFz hAF b7D hiD (by omega) V7;refine wpAnyM_one (i:=11) (o:=_) rfl (by kernel_rfl) (by kernel_rfl) (fun KC hKC => ?_);refine step_run2 rfl (.tmp 62) (.tmp 65) rfl (by simp [Act.eval,Act.put]) (by simp [Act.eval,Act.put]) runv8 ?_;refine hKC _ _ ?_;clear hKC KC
                    try simp only [Act.put,SL]
                    refine wpAnyM_pureL (i:=12) (oi:=_) (v:=?_) rfl (by kernel_rfl) (fun _ _ _ h => h) (Or.inl ⟨by kernel_rfl,?_⟩) ?_
                    rotate_left
                    · intro w' hSw;go_simp;try with_reducible rfl
                    try simp only [Act.put,SL]
                    refine wpAnyM_done (by kernel_rfl) ?_ _
                    have HV8:Hid (View layRec 76 w8 D.heap.size hi v8 (l.take at_ ++ M :: l.drop at_).length (fun i => x0 ((l.take at_ ++ M :: l.drop at_).getD i 0)) cv8):=by
                      show View _ _ _ _ _ _ _ _ _
                      rw [ins_len l M at_ hatL,← HN.out];exact V8.congr (fun i _ => ins_getD x0 l M at_ hatL i)
                    have HB8:Hid (Below w.heap.size w w8):=HBD.out.trans ((b7D.trans bw8).mono (by omega));have z8:D.heap.size ≤ w8.heap.size:=(b7D.trans bw8).size
                    have HLn:Hid ((l.take at_ ++ M :: l.drop at_).length ≤ L0 + (i + 1)):=by
                      show (l.take at_ ++ M :: l.drop at_).length ≤ L0 + (i + 1)
                      rw [ins_len l M at_ hatL,← HN.out];omega
                    clear V8 V7 bw7 bw8 b7D hHeld runv7 runv8 hUr hFr hUz hFz hAU hAF rg9 HUS HFS HRd HBD;go_wp2
                    go_roundw
                    case rel => exact ⟨i + 1,D.heap.size,l.take at_ ++ M :: l.drop at_,cv8,by omega,by go_num,by omega,z8,by rw [← Nat.add_assoc,← HMM.out];exact HCN.out,HLn.out,HV8.out,HB8.out⟩
                    case measure => simp [intOf];omega
        · obtain rfl:i = m:=by omega
          clear hrs hlt2;go_wp2
          go_roundw
          case rel => exact ⟨T + 1,lo,l,co,by omega,by go_num,hlo,hlow,by rw [HLS.out];exact HCt.out,by rw [HLS.out,← HN.out];exact hLl,by rw [← HN.out];exact HV.out,HBW.out⟩
          case measure => simp [intOf];omega
    · obtain rfl:T = 2:=by omega
      clear hlt bw;go_wp2;go_ret;exact ⟨_,l,co,lo,rfl,HCt.out,hlo,HV.out,HBW.out⟩
end Go.Proofs.YtpmiljdhacmppaaGreat
namespace Go.Proofs.YtpmiljdhacmppaaGreat
open Go.RowKit F256
theorem undrewC {B:Nat} {w w2:World} {m:Nat} (h:Below B (w.drewN m) w2):Below B w w2:=⟨h.os,h.tape,h.output,h.size,h.block⟩
set_option maxHeartbeats 4000000 in
theorem specFitsC_any (v:Value) (R:Nat) (n:Nat → Nat) (f:Mat) (c:Int) (hcb:-9223372036854775808 ≤ c ∧ c ≤ 9223372036854775807) (l1 h1:Nat) (w:World) (o1:OwnM w l1 h1 v R n f) (hh:h1 ≤ w.heap.size) (kf:Byt f) (hN9:n 0 ≤ 1000000000) (hR9:R ≤ 1000000000) :
    Calls Tryz.prog 39 #[v,.int .i64 c] w (BoolP (CfP R n f c) w):=by
  obtain ⟨gA,cA,e,r1⟩:=o1;obtain rfl:=r1.val
  have hcA:R ≤ cA:=by
    rcases r1.row.2 with ⟨h,_⟩ | ⟨g,cap,cur,h,_,_,hle,_⟩
    · cases h
    · cases h;exact hle
  have HA:Hid (OwnE w l1 h1 (.slice (some ⟨gA,0,none⟩) R cA) R n f gA cA e):=r1
  have hgw:gA < w.heap.size:=by have:=r1.high;omega
  clear r1
  by_cases hc2:0 ≤ c ∧ c ≤ 2
  · have HC2:Hid (0 ≤ c ∧ c ≤ 2):=hc2
    obtain ⟨C,rfl⟩:∃ C:Nat,c = C:=⟨c.toNat,by omega⟩
    have hC:C ≤ 2:=by omega
    have CL:=l1In_yes (C:Int) 0 2 (by omega) (by omega);have CS:=l3Shape_any ((R:Int) - (C:Int)) (C:Int)
    have wsub:IntKind.i64.wrap ((R:Int) - (C:Int)) = (R:Int) - (C:Int):=by rw [IntKind.wrap_i64];omega
    clear hc2 hcb
    by_cases hsh:Shp3 ((R:Int) - (C:Int)) (C:Int)
    · have HSH:Hid (Shp3 ((R:Int) - (C:Int)) (C:Int)):=hsh
      obtain ⟨q1,q2,q3,q4⟩:=hsh;obtain ⟨D,hD⟩:∃ D:Nat,D + C = R:=⟨R - C,by omega⟩;have HD:Hid (D + C = R):=hD
      have hsubi:(R:Int) - (C:Int) = (D:Int):=by omega
      have HDR:Hid (R - C = D):=by show R - C = D;omega
      have hD1:1 ≤ D:=by omega
      have hD4:D ≤ 4:=by omega
      have hDR:D ≤ R:=by omega
      have hDc:(D:Int) ≤ (cA:Int):=by omega
      have hD0:D ≠ 0:=by omega
      rw [hsubi] at CS wsub;clear hD;have CE:=fun (w1:World) (b:Below w.heap.size w w1) => l3Even_any _ R n f h1 w1 (HA.out.rd.below b hh)
      by_cases hev:EvenP R n
      · have HEV:Hid (EvenP R n):=hev
        clear hev
        go_enter Tryz.func39,Tryz.ntmps39
        go_wp2_with fail
        refine (CL _).mono ?_;rintro e0 w0 ⟨rfl,hw0⟩;obtain rfl:=hw0.symm;clear CL
        go_wp2_with fail
        refine (CS _).mono ?_;rintro e0 w1 ⟨b1,rfl,hb1,B1⟩;obtain rfl:b1 = true:=hb1.mpr (by rw [← hsubi];exact HSH.out);clear hb1 CS
        go_wp2_with fail
        refine (CE _ B1).mono ?_;rintro e0 w2 ⟨b2,rfl,hb2,b2'⟩;obtain rfl:b2 = true:=hb2.mpr HEV.out;have B2:Below w.heap.size w w2:=B1.trans (b2'.mono B1.size);have s2:=B2.size;clear hb2 b2' B1 CE
        have rP:RdM w2 w.heap.size (.slice (some ⟨gA,0,none⟩) D cA) D n f:=⟨_,_,e,rfl,by unfold maxLen;omega,fun _ => ⟨gA,0,rfl,hgw,fun i hi => by
          rw [Nat.zero_add]
          exact (B2.cell (p:=⟨gA,i,none⟩) hgw).trans (HA.out.cell i (by omega))⟩,fun i hi => (((HA.out.each i (by omega)).below B2 hh).rd).mono hh⟩
        have CX:=l3Encode_any _ D C (n 0) n f w.heap.size w2 rP s2 hD1 hD4 hC (fun i hi => HEV.out i (by omega)) hN9 kf;obtain ⟨N,hN⟩:∃ N,N = n 0:=⟨_,rfl⟩;have HN:Hid (N = n 0):=hN;rw [← hN] at CX;clear rP hN
        go_wp2_with fail
        refine CX.mono ?_;rintro ee w4 ⟨v4,rfl,om,b4⟩;obtain ⟨gW,cW,eW,hW⟩:=om;have hv:=hW.val;subst hv;have HW:Hid (OwnE w4 w2.heap.size w4.heap.size (.slice (some ⟨gW,0,none⟩) C cW) C (fun _ => N) (parN D f) gW cW eW):=hW;have hgW:=hW.high;have HB4:Hid (Below w.heap.size w w4):=B2.trans (b4.mono s2);have s4:w.heap.size ≤ w4.heap.size:=HB4.out.size;clear b4 B2 CX hW;go_wp2
        go_loopw [7] (fun i wr => ∃ k:Nat,k ≤ C ∧ i = .int .i64 k ∧ (∀ j,j < k → ∀ t,t < N → f (D + j) t = parN D f j t) ∧ Below w4.heap.size w4 wr) (fun i _ => C - (intOf i).toNat)
        case atStart => exact ⟨0,Nat.zero_le _,rfl,fun i hi => by omega,Below.refl _ _⟩
        case round =>
          obtain ⟨k,hk,rfl,hall,hb⟩:=hrel;have HALL:Hid (∀ j,j < k → ∀ t,t < N → f (D + j) t = parN D f j t):=hall;have HB:Hid (Below w4.heap.size w4 wr):=hb;have hB:Below w.heap.size w wr:=HB4.out.trans (hb.mono s4)
          by_cases hlt:k < C
          · obtain ⟨q,hq⟩:∃ q,q = D + k:=⟨_,rfl⟩
            have HQ:Hid (q = D + k):=hq
            have hqR:q < R:=by have:=HD.out;omega
            have wq:IntKind.i64.wrap ((D:Int) + (k:Int)) = (q:Int):=by rw [IntKind.wrap_i64];omega
            have c1:wr.cell? ⟨gA,q,none⟩ = some (e q):=(hB.cell (p:=⟨gA,q,none⟩) hgw).trans (HA.out.cell q hqR);have c2:wr.cell? ⟨gW,k,none⟩ = some (eW k):=(hb.cell (p:=⟨gW,k,none⟩) hgW).trans (HW.out.cell k hlt);have r1:=((HA.out.each q hqR).below hB hh).rd;have r2:=((HW.out.each k hlt).below hb (Nat.le_refl _)).rd;rw [HEV.out q hqR,← HN.out] at r1;obtain ⟨x1,hx1⟩:∃ x,x = e q:=⟨_,rfl⟩;obtain ⟨x2,hx2⟩:∃ x,x = eW k:=⟨_,rfl⟩;rw [← hx1] at c1 r1;rw [← hx2] at c2 r2;have HR1:Hid (Rd wr h1 x1 N (f q)):=r1;have HR2:Hid (Rd wr w4.heap.size x2 N (parN D f k)):=r2;obtain ⟨ao1,cap1,hq1,_,_⟩:=r1;obtain ⟨ao2,cap2,hq2,_,_⟩:=r2;subst hq1;subst hq2;clear hx1 hx2 hall hb hB hq
            by_cases hsm:SameP N N (f q) (parN D f k)
            · have HSM:Hid (SameP N N (f q) (parN D f k)):=hsm
              clear hsm;go_wp2
              go_region_with (go_at_call 73;refine (l2Same_any _ _ N N (f q) (parN D f k) h1 w4.heap.size _ ?_ ?_).mono ?_;exact HR1.out;exact HR2.out;rintro ee w5 ⟨bb,rfl,hbb,b5⟩;obtain rfl:bb = true:=hbb.mpr HSM.out)
              all_goals
                have R5:Below w4.heap.size w4 w5:=HB.out.trans ((undrewC b5).mono HB.out.size);clear b5 hbb c1 c2;go_wp2
                go_roundw
                case rel => exact ⟨k + 1,by omega,by go_num,fun j hj t ht => by
                              by_cases cc:j = k
                              · rw [cc,← HQ.out];exact HSM.out.2 t ht
                              · exact HALL.out j (by omega) t ht,R5⟩
                case measure => simp [intOf];omega
            · have HSM:Hid (¬ SameP N N (f q) (parN D f k)):=hsm
              clear hsm;go_wp2
              go_region_with (go_at_call 73;refine (l2Same_any _ _ N N (f q) (parN D f k) h1 w4.heap.size _ ?_ ?_).mono ?_;exact HR1.out;exact HR2.out;rintro ee w5 ⟨bb,rfl,hbb,b5⟩;obtain rfl:bb = false:=by (cases bb with | false => rfl | true => exact absurd (hbb.mp rfl) HSM.out))
              all_goals
                have R5:Below w4.heap.size w4 w5:=HB.out.trans ((undrewC b5).mono HB.out.size);clear b5 hbb c1 c2;go_wp2;go_ret
                exact boolNo rfl (fun h => HSM.out ⟨rfl,fun t ht => by
                  have:=h.2.2.2 k (by rw [Int.toNat_natCast];exact hlt) t (by rw [← HN.out];exact ht);rw [Int.toNat_natCast,HDR.out,← HQ.out] at this
                  exact this⟩) (HB4.out.trans (R5.mono s4))
          · obtain rfl:k = C:=by omega
            go_wp2;go_ret
            exact boolYes rfl ⟨HC2.out,HSH.out,HEV.out,fun j hj t ht => by
              rw [Int.toNat_natCast] at hj ⊢;rw [HDR.out]
              exact HALL.out j hj t (by rw [HN.out];exact ht)⟩ hB
      · have HEV:Hid (¬ EvenP R n):=hev
        clear hev
        go_enter Tryz.func39,Tryz.ntmps39
        go_wp2_with fail
        refine (CL _).mono ?_;rintro e0 w0 ⟨rfl,hw0⟩;obtain rfl:=hw0.symm;clear CL
        go_wp2_with fail
        refine (CS _).mono ?_;rintro e0 w1 ⟨b1,rfl,hb1,B1⟩;obtain rfl:b1 = true:=hb1.mpr (by rw [← hsubi];exact HSH.out);clear hb1 CS
        go_wp2_with fail
        refine (CE _ B1).mono ?_;rintro e0 w2 ⟨b2,rfl,hb2,b2'⟩
        obtain rfl:b2 = false:=by
          cases b2 with
          | false => rfl
          | true => exact absurd (hb2.mp rfl) HEV.out
        have B2:Below w.heap.size w w2:=B1.trans (b2'.mono B1.size);clear hb2 b2' B1 CE;go_wp2;go_ret;exact boolNo rfl (fun h => HEV.out h.2.2.1) B2
    · have HSH:Hid (¬ Shp3 ((R:Int) - (C:Int)) (C:Int)):=hsh
      clear hsh
      go_enter Tryz.func39,Tryz.ntmps39
      go_wp2_with fail
      refine (CL _).mono ?_;rintro e0 w0 ⟨rfl,hw0⟩;obtain rfl:=hw0.symm;clear CL
      go_wp2_with fail
      refine (CS _).mono ?_;rintro e0 w1 ⟨b1,rfl,hb1,B1⟩
      obtain rfl:b1 = false:=by
        cases b1 with
        | false => rfl
        | true => exact absurd (hb1.mp rfl) HSH.out
      clear hb1 CS;go_wp2;go_ret;exact boolNo rfl (fun h => HSH.out h.2.1) B1
  · have HC2:Hid (¬ (0 ≤ c ∧ c ≤ 2)):=hc2
    have CL:=l1In_no c 0 2 (by omega);clear hc2
    go_enter Tryz.func39,Tryz.ntmps39
    go_wp2_with fail
    refine (CL _).mono ?_;rintro e0 w0 ⟨rfl,hw0⟩;obtain rfl:=hw0.symm;clear CL;go_wp2;go_ret;exact boolNo rfl (fun h => HC2.out h.1) (Below.refl _ _)
end Go.Proofs.YtpmiljdhacmppaaGreat
namespace Go.Proofs.YtpmiljdhacmppaaGreat
open Go.RowKit F256
theorem BldQ.own {wr:World} {lo hi:Nat} {v:Value} {k:Nat} {n:Nat → Nat} {f:Mat} {e:Nat → Value} (h:BldQ wr lo hi v k n f e) (h0:k ≠ 0):OwnM wr lo wr.heap.size v k n f:=by
  have hnn:v ≠ nilS:=fun hh => by
    rcases h.row.2 with ⟨_,h1⟩ | ⟨g,cap,cur,hv,_⟩
    · exact h0 h1
    · rw [hh] at hv;cases hv
  have R:BldR wr lo wr.heap.size v k n f e:=⟨h.row,hnn,fun b hb => (h.row.lt b hb).2,fun i hi => (h.each i hi).weaken (Nat.le_refl _) h.le2,h.apart,Nat.le_trans h.le h.le2,Nat.le_refl _⟩;obtain ⟨g,cap,hE⟩:=R.done;exact ⟨g,cap,e,hE⟩
theorem BldQ.lit (w:World) (lo:Nat) (hlo:lo ≤ w.heap.size) (n:Nat → Nat) (f:Mat) (e:Nat → Value):BldQ (w.alloc (.cells #[] 56)) lo (w.alloc (.cells #[] 56)).heap.size (.slice (some ⟨w.heap.size,0,none⟩) 0 0) 0 n f e:=by
  have h:=World.ownsRow_lit (base:=lo) (e:=56) (size:=1) w #[] 0 hlo (Nat.zero_le _) (by simp);have hz:w.heap.size ≤ (w.alloc (.cells #[] 56)).heap.size:=((Below.refl w.heap.size w).alloc (Nat.le_refl _) _).size;exact ⟨by simpa [valsOf] using h,fun b hb => (h.lt b hb).2,fun i hi => by omega,fun i j hi => by omega,by omega,Nat.le_refl _⟩
set_option maxHeartbeats 16000000 in
set_option maxRecDepth 20000 in
theorem l10Column_any (d:WorldD) (cs:List Value) (hi B R:Nat) (w:World) (h:layWorld.rd w hi d cs) (hhi:hi ≤ w.heap.size) (hBX:Box w B cs.toArray 35) (hok:OkWorld d) (hR:(R:Int) < d.shape 4) :
    Calls Tryz.prog 14 #[.pointer (some ⟨B,0,none⟩),.int .i64 (R:Int)] w (BoolP ((∀ G,G < d.groups.1 → ¬ DeadP d G) ∧ (∀ l,Cnt (recT d.tapes.2 2) (lenT d.tapes.2 2) l → ¬ ∃ i,i < l.length ∧ movB (R:Int) (recT d.tapes.2 2 (l.getD i 0)) = true) ∧ CfP d.groups.1 (fun _ => 4 * (d.shape 2).toNat) (fun g => rowB d g R) (d.shape 1)) w):=by
  have hn0:(d.tapes.2 0).recs.1 ≤ 400000:=Nat.le_trans (hok.few 0 (by have:=hok.form.2.2;omega)) (by decide);have hn1:(d.tapes.2 1).recs.1 ≤ 400000:=Nat.le_trans (hok.few 1 (by have:=hok.form.2.2;omega)) (by decide);have CC:=l6Counted_any d cs hi B w h hhi hBX hok.form.2.2 hn0 hn1;have HRD:Hid (layWorld.rd w hi d cs):=h;have HBB:Hid (Box w B cs.toArray 35):=hBX;have hBlt:=hBX.lt;have HL7:Hid (∀ (G:Nat) (w':World),G < d.groups.1 → Below w.heap.size w w' → Calls Tryz.prog 37 #[.pointer (some ⟨B,0,none⟩),.int .i64 (G:Int),.int .i64 (R:Int)] w' (L7BPost d G R w')):=fun G w' hG hb => l7Bytes_any d cs hi B G R w' (layWorld.rd_below h hb hhi) (Nat.le_trans hhi hb.size) (hBX.below hb hBX.lt) hG (fun j hj => by have h1:=((hok.form.1.2 G hG).2 j hj).1;omega) hok;have HLD:Hid (∀ (G:Nat) (w':World),G < d.groups.1 → Below w.heap.size w w' → Calls Tryz.prog 38 #[.pointer (some ⟨B,0,none⟩),.int .i64 (G:Int)] w' (BoolP (DeadP d G) w')):=fun G w' hG hb => l7Dead_any d cs hi B G w' (layWorld.rd_below h hb hhi) (Nat.le_trans hhi hb.size) (hBX.below hb hBX.lt) hG;obtain ⟨ao1,cap1,ao2,cap2,ao3,cap3,rfl,-⟩:=World_rd h;have HXS:Hid (∀ w',Below w.heap.size w w' → (w'.cell? ⟨B,0,none⟩ = some (.int .i64 (d.shape 0)) ∧ w'.cell? ⟨B,1,none⟩ = some (.int .i64 (d.shape 1)) ∧ w'.cell? ⟨B,2,none⟩ = some (.int .i64 (d.shape 2)) ∧ w'.cell? ⟨B,3,none⟩ = some (.int .i64 (d.shape 3)) ∧ w'.cell? ⟨B,4,none⟩ = some (.int .i64 (d.shape 4)) ∧ w'.cell? ⟨B,5,none⟩ = some (.int .i64 (d.shape 5)) ∧ w'.cell? ⟨B,6,none⟩ = some (.int .i64 (d.shape 6)) ∧ w'.cell? ⟨B,7,none⟩ = some (.int .i64 (d.shape 7)) ∧ w'.cell? ⟨B,8,none⟩ = some (.int .i64 (d.shape 8)))):=fun w' hb => ⟨(hb.cell (p:=⟨B,0,none⟩) hBlt).trans (HBB.out.cell 0),(hb.cell (p:=⟨B,1,none⟩) hBlt).trans (HBB.out.cell 1),(hb.cell (p:=⟨B,2,none⟩) hBlt).trans (HBB.out.cell 2),(hb.cell (p:=⟨B,3,none⟩) hBlt).trans (HBB.out.cell 3),(hb.cell (p:=⟨B,4,none⟩) hBlt).trans (HBB.out.cell 4),(hb.cell (p:=⟨B,5,none⟩) hBlt).trans (HBB.out.cell 5),(hb.cell (p:=⟨B,6,none⟩) hBlt).trans (HBB.out.cell 6),(hb.cell (p:=⟨B,7,none⟩) hBlt).trans (HBB.out.cell 7),(hb.cell (p:=⟨B,8,none⟩) hBlt).trans (HBB.out.cell 8)⟩;clear h hBX
  go_enter Tryz.func14,Tryz.ntmps14
  go_wp2_with fail
  refine CC.mono ?_;rintro e w1 ⟨v1,l,ce,lo,rfl,hCt,hlo,V,b1⟩;have HL:Hid (Cnt (recT d.tapes.2 2) (lenT d.tapes.2 2) l):=hCt;have HB1:Hid (Below w.heap.size w w1):=b1
  have hlen:l.length ≤ 1048576:=by
    have h1:=(hCt.sum (fun _ => 0)).2
    have e2:lenT d.tapes.2 2 = (d.tapes.2 0).recs.1 + (d.tapes.2 1).recs.1:=by simp [lenT]
    omega
  obtain ⟨x0,hx0⟩:∃ x,x = recT d.tapes.2 2:=⟨_,rfl⟩;have HX0:Hid (x0 = recT d.tapes.2 2):=hx0;rw [← hx0] at V;obtain ⟨n,hn⟩:∃ n,n = l.length:=⟨_,rfl⟩;have HN:Hid (n = l.length):=hn;rw [← hn] at V hlen;have HV:Hid (View layRec 76 w1 lo hi v1 n (fun i => x0 (l.getD i 0)) ce):=V;have z1:w.heap.size ≤ w1.heap.size:=b1.size;obtain ⟨aC,cC,hvC⟩:=V.form;subst hvC;clear CC hCt V b1 hx0 hn;go_wp2
  go_loopw [6] (fun i wr => ∃ k:Nat,k ≤ n ∧ i = .int .i64 k ∧ (∀ j,j < k → movB (R:Int) (x0 (l.getD j 0)) = false) ∧ Below w1.heap.size w1 wr) (fun i _ => n - (intOf i).toNat)
  case atStart => exact ⟨0,Nat.zero_le _,rfl,fun j hj => by omega,Below.refl _ _⟩
  case round =>
   obtain ⟨k,hk,rfl,hall,bw⟩:=hrel;obtain ⟨wx,rfl⟩:∃ y,y = wr:=⟨_,rfl⟩;have HALL:Hid (∀ j,j < k → movB (R:Int) (x0 (l.getD j 0)) = false):=hall;have HBX:Hid (Below w1.heap.size w1 wx):=bw;have zx:w1.heap.size ≤ wx.heap.size:=bw.size;clear hall
   by_cases hlt:k < n
   · have VX:=HV.out.below bw (by omega)
     obtain ⟨g,c',hg⟩:=VX.form0 (by omega)
     obtain ⟨rfl,rfl⟩:aC = some ⟨g,0,none⟩ ∧ cC = c':=by simpa using hg
     obtain ⟨b6,bk6,b7,bk7,b8,bk8,eR,-⟩:=Rec_rd (VX.each k hlt);have s0:wx.cell? ⟨g,k * 9,none⟩ = some (.int .i64 (x0 (l.getD k 0)).kind):=(VX.cell hlt (j:=0) (by decide)).trans (by rw [eR];rfl);have s5:wx.cell? ⟨g,k * 9 + 5,none⟩ = some (.int .i64 (x0 (l.getD k 0)).row):=(VX.cell hlt (j:=5) (by decide)).trans (by rw [eR];rfl);obtain ⟨kd,hkd⟩:∃ x,x = (x0 (l.getD k 0)).kind:=⟨_,rfl⟩;obtain ⟨rw_,hrw⟩:∃ x,x = (x0 (l.getD k 0)).row:=⟨_,rfl⟩
     have HM:Hid (movB (R:Int) (x0 (l.getD k 0)) = (kd == 2 && rw_ == (R:Int))):=by rw [hkd,hrw];exact rfl
     rw [← hkd] at s0;rw [← hrw] at s5
     have i1:(0:Int) ≤ (k:Int):=by omega
     have i2:(k:Int) < (n:Int):=by omega
     clear VX hg eR hkd hrw bw
     by_cases c1:kd = 2
     · have e1:(kd == 2) = true:=by simp [c1]
       by_cases c2:rw_ = (R:Int)
       · have e2:(rw_ == (R:Int)) = true:=by simp [c2]
         have HMT:Hid (movB (R:Int) (x0 (l.getD k 0)) = true):=by rw [HM.out,e1,e2];exact rfl
         clear c1 c2 HM;go_wp2;go_ret;exact boolNo rfl (fun h => h.2.1 l HL.out ⟨k,by rw [← HN.out];exact hlt,by rw [← HX0.out];exact HMT.out⟩) (HB1.out.trans (HBX.out.mono z1))
       · have e2:(rw_ == (R:Int)) = false:=by simpa using c2
         have HMF:Hid (movB (R:Int) (x0 (l.getD k 0)) = false):=by rw [HM.out,e1,e2];exact rfl
         clear c1 c2 HM;go_wp2
         go_roundw
         case rel => exact ⟨k + 1,by omega,by go_num,fun j hj => by
                       by_cases c:j = k
                       · rw [c];exact HMF.out
                       · exact HALL.out j (by omega),HBX.out⟩
         case measure => simp [intOf];omega
     · have e1:(kd == 2) = false:=by simpa using c1
       have HMF:Hid (movB (R:Int) (x0 (l.getD k 0)) = false):=by rw [HM.out,e1];exact rfl
       clear c1 HM;go_wp2
       go_roundw
       case rel => exact ⟨k + 1,by omega,by go_num,fun j hj => by
                     by_cases c:j = k
                     · rw [c];exact HMF.out
                     · exact HALL.out j (by omega),HBX.out⟩
       case measure => simp [intOf];omega
   obtain rfl:k = n:=by omega
   have HNM:Hid (∀ l,Cnt (recT d.tapes.2 2) (lenT d.tapes.2 2) l → ¬ ∃ i,i < l.length ∧ movB (R:Int) (recT d.tapes.2 2 (l.getD i 0)) = true):=fun l' hl' h => by
     obtain ⟨i,h1,h2⟩:=h;rw [hl'.uniq HL.out] at h1 h2;rw [← HX0.out,HALL.out i (by rw [HN.out];exact h1)] at h2
     cases h2
   have hNG:d.shape 0 + d.shape 1 = (d.groups.1:Int):=by have:=hok.form.1.1;omega
   have HCG:Hid (∀ w',Calls Tryz.prog 34 #[shapeV d.shape] w' fun e w'' => e = .returned (.int .i64 (d.groups.1:Int)) ∧ Below w'.heap.size w' w''):=fun w' => by
     have:=l5All_any d.shape hok.shape w';rw [hNG] at this;exact this
   obtain ⟨nG,hnG⟩:∃ n,n = d.groups.1:=⟨_,rfl⟩;have HNG:Hid (nG = d.groups.1):=hnG
   have hnG0:1 ≤ nG ∧ nG ≤ 100:=by
     obtain ⟨s1,s2,_⟩:=hok.shape;unfold Shp3 at s1;omega
   have HBx:Hid (Below w.heap.size w wx):=HB1.out.trans (HBX.out.mono z1)
   have zwx:w.heap.size ≤ wx.heap.size:=by omega
   have bL:Below wx.heap.size wx (wx.alloc (.cells #[] 56)):=(Below.refl _ _).alloc (Nat.le_refl _) _;obtain ⟨D,hD⟩:∃ D,D = 4 * (d.shape 2).toNat:=⟨_,rfl⟩;have HD:Hid (D = 4 * (d.shape 2).toNat):=hD;have Q0:=BldQ.lit wx w.heap.size zwx (fun _ => D) (fun g => rowB d g R) (fun _ => nilS);have HBL:Hid (Below w.heap.size w (wx.alloc (.cells #[] 56))):=HBx.out.trans (bL.mono zwx);clear hD hnG hNG bw hlt bL HV HBX hlo;go_wp2
   go_loopw [7,8] (fun v i wr => ∃ (k:Nat) (e:Nat → Value),k ≤ nG ∧ i = .int .i64 k ∧ (∀ j,j < k → ¬ DeadP d j) ∧ BldQ wr w.heap.size wr.heap.size v k (fun _ => D) (fun g => rowB d g R) e ∧ Below w.heap.size w wr) (fun _ i _ => nG - (intOf i).toNat)
   case atStart => exact ⟨0,_,Nat.zero_le _,rfl,fun j hj => by omega,Q0,HBL.out⟩
   case round =>
    clear Q0 HBL;obtain ⟨k,ee,hk,rfl,hall,hB,bw⟩:=hrel;obtain ⟨wi,rfl⟩:∃ y,y = wr:=⟨_,rfl⟩;have HALLD:Hid (∀ j,j < k → ¬ DeadP d j):=hall;have HB:Hid (BldQ wi w.heap.size wi.heap.size u7 k (fun _ => D) (fun g => rowB d g R) ee):=hB;have HBW:Hid (Below w.heap.size w wi):=bw;have zi:w.heap.size ≤ wi.heap.size:=bw.size;obtain ⟨xw_0,xw_1,xw_2,xw_3,xw_4,xw_5,xw_6,xw_7,xw_8⟩:=HXS.out wi bw;have CG:=HCG.out wi;rw [← HNG.out] at CG;unfold shapeV at CG;clear hall hB bw
    go_wp2_with fail
    refine CG.mono ?_;rintro e w4 ⟨rfl,b4⟩;have HB4:Hid (Below w.heap.size w w4):=HBW.out.trans (b4.mono zi);have z4:wi.heap.size ≤ w4.heap.size:=b4.size;have HQ4:Hid (BldQ w4 w.heap.size wi.heap.size u7 k (fun _ => D) (fun g => rowB d g R) ee):=HB.out.kept (fun b h1 h2 => b4.block b h2) z4;clear CG b4 HB HBW xw_0 xw_1 xw_2 xw_3 xw_4 xw_5 xw_6 xw_7 xw_8
    by_cases hlt:k < nG
    · have t1:(k:Int) < (nG:Int):=by omega
      have hkG:k < d.groups.1:=by rw [← HNG.out];exact hlt
      have CB:=HL7.out k w4 hkG HB4.out
      go_wp2_with fail
      refine CB.mono ?_;rintro e w5 ⟨vb,tb,rfl,htb,ob,b5⟩;have HB5:Hid (Below w.heap.size w w5):=HB4.out.trans (b5.mono (by omega));have z5:w4.heap.size ≤ w5.heap.size:=b5.size;have HQ5:Hid (BldQ w5 w.heap.size wi.heap.size u7 k (fun _ => D) (fun g => rowB d g R) ee):=HQ4.out.kept (fun b h1 h2 => b5.block b (by omega)) (by omega);have HTB:Hid (tb = true ↔ ¬ DeadP d k):=htb;have HO:Hid (Own w5 w4.heap.size w5.heap.size vb (if tb = true then 4 * (d.shape 2).toNat else 0) (rowB d k R)):=ob;clear CB htb b5 HB4 HQ4 ob
      cases tb with
      | false =>
        have HDK:Hid (DeadP d k):=Classical.byContradiction fun h => absurd (HTB.out.2 h) (by simp);go_wp2;go_ret;exact boolNo rfl (fun h => h.1 k hkG HDK.out) HB5.out
      | true =>
        have HNK:Hid (¬ DeadP d k):=HTB.out.1 (by simp)
        have HO5:Hid (Own w5 w4.heap.size w5.heap.size vb D (rowB d k R)):=by show Own w5 w4.heap.size w5.heap.size vb D (rowB d k R);rw [HD.out];have:=HO.out;simpa using this
        have CD:=HLD.out k w5 hkG HB5.out;obtain ⟨aob,capb,hvb⟩:=HO5.out.slice;subst hvb;clear HO HTB
        go_wp2_with fail
        refine CD.mono ?_;rintro e w6 ⟨t6,rfl,ht6,b6⟩
        obtain rfl:t6 = false:=by
          cases t6 with
          | false => rfl
          | true => exact absurd (ht6.1 rfl) HNK.out
        have HB6:Hid (Below w.heap.size w w6):=HB5.out.trans (b6.mono (by omega));have z6:w5.heap.size ≤ w6.heap.size:=b6.size;have HQ6:Hid (BldQ w6 w.heap.size wi.heap.size u7 k (fun _ => D) (fun g => rowB d g R) ee):=HQ5.out.kept (fun b h1 h2 => b6.block b (by omega)) (by omega);have HO6:Hid (Own w6 w4.heap.size w5.heap.size (.slice aob D capb) D (rowB d k R)):=HO5.out.below b6 (Nat.le_refl _);clear CD ht6 b6 HB5 HQ5 HO5
        go_wp2_with (at_builtin;refine wp_appendM rfl (.tmp 58) (.tmp 60) rfl w.heap.size u7 k ee ?_ ?_ w6.heap.size 1 (.slice aob D capb) ?_ ?_ rfl (by omega) ?_ ?_;(simp [Act.eval]);exact HQ6.out.row.alloc _;(simp [Act.eval]);simp;(simp;omega);intro v7 w7 hr7 hg7 hn7)
        have HQ7:Hid (BldQ w7 w.heap.size w7.heap.size v7 (k + 1) (fun _ => D) (fun g => rowB d g R) _):=HQ6.out.next HO6.out z4 (fun _ _ => rfl) (fun _ _ => rfl) hr7 hg7 hn7;have b7:Below w.heap.size w6 w7:=((Below.refl w.heap.size w6).alloc (by omega) _).trans ((Below.refl _ _).grown hg7 (by simp;omega) (fun b hb => (HQ6.out.row.lt b hb).1));have HB7:Hid (Below w.heap.size w w7):=HB6.out.trans b7;clear hr7 hg7 hn7 b7 HQ6 HB6 HO6;go_wp2
        go_roundw
        case rel => exact ⟨k + 1,_,by omega,by go_num,fun j hj => by
                      by_cases c:j = k
                      · rw [c];exact HNK.out
                      · exact HALLD.out j (by omega),HQ7.out,HB7.out⟩
        case measure => simp [intOf];omega
    · obtain rfl:k = nG:=by omega
      have x1:w4.cell? ⟨B,1,none⟩ = some (.int .i64 (d.shape 1)):=(HXS.out w4 HB4.out).2.1;have OM:=HQ4.out.own (by omega)
      have CF:=specFitsC_any u7 k (fun _ => D) (fun g => rowB d g R) (d.shape 1) (by
        obtain ⟨s1,s2,_⟩:=hok.shape;unfold Shp3 at s1
        omega) w.heap.size w4.heap.size w4 OM (Nat.le_refl _) (fun i j => rowB_lt3 d i R j) (by
        show D ≤ 1000000000
        rw [HD.out];obtain ⟨_,q,_⟩:=hok.shape;unfold Shp at q
        omega) (by omega)
      obtain ⟨_,aF,cF,hvF,-⟩:=HQ4.out.rd (by omega);subst hvF;clear OM hlt HQ4
      go_wp2_with fail
      refine CF.mono ?_;rintro e w7 ⟨t,rfl,ht,b7⟩;have HB7:Hid (Below w.heap.size w w7):=HB4.out.trans (b7.mono (by omega))
      have HC:Hid (t = true ↔ ((∀ G,G < d.groups.1 → ¬ DeadP d G) ∧ (∀ l,Cnt (recT d.tapes.2 2) (lenT d.tapes.2 2) l → ¬ ∃ i,i < l.length ∧ movB (R:Int) (recT d.tapes.2 2 (l.getD i 0)) = true) ∧ CfP d.groups.1 (fun _ => 4 * (d.shape 2).toNat) (fun g => rowB d g R) (d.shape 1))):=by
        show t = true ↔ _
        rw [ht,HNG.out,HD.out];exact ⟨fun h => ⟨fun G hG => HALLD.out G (by rw [HNG.out];exact hG),HNM.out,h⟩,fun h => h.2.2⟩
      clear CF ht b7;go_wp2;go_ret;exact ⟨t,rfl,HC.out,HB7.out⟩
end Go.Proofs.YtpmiljdhacmppaaGreat
namespace Go.Proofs.YtpmiljdhacmppaaGreat
open Go.RowKit F256
set_option maxHeartbeats 16000000 in
set_option maxRecDepth 20000 in
theorem specCh_any (d:WorldD) (r:Int) (cs:List Value) (hi:Nat) (w:World) (h:layWorld.rd w hi d cs) (hhi:hi ≤ w.heap.size) (hsz:szWorldD d ≤ 1048576) :
    Calls Tryz.prog 5 #[.agg cs.toArray,.int .i64 r] w (BoolP (ColP d r) w):=by
  have h':=h;obtain ⟨ao1,cap1,ao2,cap2,ao3,cap3,rfl,g1,g2,g3,k0,k4,k5⟩:=World_rd h';have HRD:Hid (layWorld.rd w hi d [.int .i64 (d.shape 0),.int .i64 (d.shape 1),.int .i64 (d.shape 2),.int .i64 (d.shape 3),.int .i64 (d.shape 4),.int .i64 (d.shape 5),.int .i64 (d.shape 6),.int .i64 (d.shape 7),.int .i64 (d.shape 8),.slice ao1 d.groups.1 cap1,.slice ao2 d.on.1 cap2,.slice ao3 d.tapes.1 cap3,.int .i64 d.writes,.int .i64 d.stop,.bool d.down]):=h;clear h h' g1 g2 g3 k0 k4 k5;have T0:=one_new w #[.int .i64 (d.shape 0),.int .i64 (d.shape 1),.int .i64 (d.shape 2),.int .i64 (d.shape 3),.int .i64 (d.shape 4),.int .i64 (d.shape 5),.int .i64 (d.shape 6),.int .i64 (d.shape 7),.int .i64 (d.shape 8),.slice ao1 d.groups.1 cap1,.slice ao2 d.on.1 cap2,.slice ao3 d.tapes.1 cap3,.int .i64 d.writes,.int .i64 d.stop,.bool d.down] 35
  go_enter Tryz.func5,Tryz.ntmps5
  go_wp2_with (refine wp_loadBox 35 (.tmp 2) rfl rfl (w.heap.size) rfl (cs:=[.int .i64 (d.shape 0),.int .i64 (d.shape 1),.int .i64 (d.shape 2),.int .i64 (d.shape 3),.int .i64 (d.shape 4),.int .i64 (d.shape 5),.int .i64 (d.shape 6),.int .i64 (d.shape 7),.int .i64 (d.shape 8),.slice ao1 d.groups.1 cap1,.slice ao2 d.on.1 cap2,.slice ao3 d.tapes.1 cap3,.int .i64 d.writes,.int .i64 d.stop,.bool d.down]) (T0.b1) Tryz.underlying35 size_W rfl ?_)
  refine (specWorld_any d _ hi _ (layWorld.rd_below HRD.out T0.bel hhi) (Nat.le_trans hhi T0.bel.size) (wld_ok_names hsz)).mono ?_;rintro e w1 ⟨x,rfl,hx,b1⟩;have HT1:Hid (One w w1 #[.int .i64 (d.shape 0),.int .i64 (d.shape 1),.int .i64 (d.shape 2),.int .i64 (d.shape 3),.int .i64 (d.shape 4),.int .i64 (d.shape 5),.int .i64 (d.shape 6),.int .i64 (d.shape 7),.int .i64 (d.shape 8),.slice ao1 d.groups.1 cap1,.slice ao2 d.on.1 cap2,.slice ao3 d.tapes.1 cap3,.int .i64 d.writes,.int .i64 d.stop,.bool d.down] 35):=T0.call b1;have HX:Hid (WldAns d x):=hx;clear b1 T0 hx
  by_cases hx0:x = 0
  case neg =>
    have hne:(x == 0) = false:=by simpa using hx0
    have HN:Hid (x ≠ 0):=hx0;clear hx0;go_wp2;go_ret;exact boolNo rfl (fun h => HN.out (HX.out.one h.1)) HT1.out.bel
  subst hx0;have HOK:Hid (OkWorld d):=WldAns.ok HX.out;have x4:w1.cell? ⟨w.heap.size,4,none⟩ = some (.int .i64 (d.shape 4)):=HT1.out.b1.cell 4
  have wP:IntKind.i64.wrap (d.shape 4 - 1) = d.shape 4 - 1:=by
    obtain ⟨s1,q,s3,_⟩:=HOK.out.shape;rw [IntKind.wrap_i64];omega
  obtain ⟨t,ht⟩:∃ t:Bool,(t = true ↔ InP r 0 (d.shape 4 - 1)):=⟨@decide _ (Classical.propDecidable _),@decide_eq_true_iff _ (Classical.propDecidable _)⟩;have HIN:Hid (t = true ↔ InP r 0 (d.shape 4 - 1)):=ht;have CB:=l1In_b (v:=r) (a:=0) (b:=d.shape 4 - 1) ht w1;clear ht
  go_wp2_with fail
  refine CB.mono ?_;rintro e w2 ⟨rfl,e2⟩;obtain rfl:=e2.symm;clear CB x4 wP
  cases t with
  | false =>
    go_wp2;go_ret;exact boolNo rfl (fun h => absurd (HIN.out.2 h.2.2.1) (by simp)) HT1.out.bel
  | true =>
    have hIn:=HIN.out.1 (by simp);obtain ⟨R,hRe⟩:∃ R:Nat,r = (R:Int):=⟨r.toNat,by have:=hIn.1;omega⟩;subst hRe;have HI:Hid (InP (R:Int) 0 (d.shape 4 - 1)):=hIn;have CG:=l10Column_any d [.int .i64 (d.shape 0),.int .i64 (d.shape 1),.int .i64 (d.shape 2),.int .i64 (d.shape 3),.int .i64 (d.shape 4),.int .i64 (d.shape 5),.int .i64 (d.shape 6),.int .i64 (d.shape 7),.int .i64 (d.shape 8),.slice ao1 d.groups.1 cap1,.slice ao2 d.on.1 cap2,.slice ao3 d.tapes.1 cap3,.int .i64 d.writes,.int .i64 d.stop,.bool d.down] hi w.heap.size R w1 (layWorld.rd_below HRD.out HT1.out.bel hhi) (Nat.le_trans hhi HT1.out.bel.size) HT1.out.b1 HOK.out (by have:=hIn.2;omega);clear hIn HIN
    go_wp2_with fail
    refine CG.mono ?_;rintro e w3 ⟨t,rfl,ht,b3⟩;have HB3:Hid (Below w.heap.size w w3):=(HT1.out.call b3).bel
    have HG:Hid (t = true ↔ ColP d (R:Int)):=by
      show t = true ↔ ColP d (R:Int)
      rw [ht];exact ⟨fun h => ⟨HX.out,h.1,HI.out,h.2.1,h.2.2⟩,fun h => ⟨h.2.1,h.2.2.2.1,h.2.2.2.2⟩⟩
    clear CG ht b3;go_wp2;go_ret;exact ⟨t,by simp,HG.out,HB3.out⟩
end Go.Proofs.YtpmiljdhacmppaaGreat
namespace Go.Proofs.YtpmiljdhacmppaaGreat
open Go.ChangeShapes Go.WideShapes Go.ChangeAt Go.RowKit F256
theorem bool_det {P:Prop} {b:Bool} {w:World} {f:Nat} {args:Array Value} (hb:b = true ↔ P) (h:Calls Tryz.prog f args w (BoolP P w)):Calls Tryz.prog f args w fun e w' => e = .returned (.bool b) ∧ Below w.heap.size w w' :=
  h.mono fun e w' ⟨t,h1,h2,h3⟩ => ⟨by
    have:t = b:=by
      cases t <;> cases b <;> first | rfl | (exfalso;simp only [Bool.false_eq_true,false_iff,true_iff] at hb h2;first | exact hb h2 | exact h2 hb)
    rw [h1,this],h3⟩
set_option maxHeartbeats 16000000 in
set_option maxRecDepth 20000 in
theorem fnExactColumnHolds_walk (d:WorldD) (cs:List Value) (i0:Int) (w:World) (rd0:layWorld.rd w w.heap.size d cs) (hi0:-9223372036854775808 ≤ i0 ∧ i0 ≤ 9223372036854775807) :
    Calls Tryz.prog 3 #[.agg cs.toArray,.int .i64 i0] w fun e w' => e = .returned (.bool true) ∧ Below w.heap.size w w':=by
  obtain ⟨v0,v1,v2,v3,v4,v5,v6,v7,v8,vp0,vl0,vq0,vp1,vl1,vq1,vp2,vl2,vq2,v9,v10,vb,rfl⟩:=world15 rd0;have HR:Hid (layWorld.rd w w.heap.size d [.int .i64 v0,.int .i64 v1,.int .i64 v2,.int .i64 v3,.int .i64 v4,.int .i64 v5,.int .i64 v6,.int .i64 v7,.int .i64 v8,.slice vp0 vl0 vq0,.slice vp1 vl1 vq1,.slice vp2 vl2 vq2,.int .i64 v9,.int .i64 v10,.bool vb]):=rd0;clear rd0 hi0;have T0:=one_new w #[.int .i64 v0,.int .i64 v1,.int .i64 v2,.int .i64 v3,.int .i64 v4,.int .i64 v5,.int .i64 v6,.int .i64 v7,.int .i64 v8,.slice vp0 vl0 vq0,.slice vp1 vl1 vq1,.slice vp2 vl2 vq2,.int .i64 v9,.int .i64 v10,.bool vb] 28
  go_enter Tryz.func3,Tryz.ntmps3
  go_wp2_with (refine wp_loadBox 28 (.tmp 2) rfl rfl (w.heap.size) rfl (cs:=[.int .i64 v0,.int .i64 v1,.int .i64 v2,.int .i64 v3,.int .i64 v4,.int .i64 v5,.int .i64 v6,.int .i64 v7,.int .i64 v8,.slice vp0 vl0 vq0,.slice vp1 vl1 vq1,.slice vp2 vl2 vq2,.int .i64 v9,.int .i64 v10,.bool vb]) T0.b1 Tryz.underlying28 size_LW rfl ?_)
  refine (szWorld_is _ d w.heap.size 1048576 _ (layWorld.rd_below HR.out T0.bel (Nat.le_refl _)) T0.bel.size (by omega)).mono ?_;rintro e w1 ⟨x,rfl,hx,b1⟩;have T1:=T0.call b1;have HT1:Hid (One w w1 #[.int .i64 v0,.int .i64 v1,.int .i64 v2,.int .i64 v3,.int .i64 v4,.int .i64 v5,.int .i64 v6,.int .i64 v7,.int .i64 v8,.slice vp0 vl0 vq0,.slice vp1 vl1 vq1,.slice vp2 vl2 vq2,.int .i64 v9,.int .i64 v10,.bool vb] 28):=T1;clear b1 T0
  rcases hx with rfl | ⟨hsz,hx⟩
  · clear T1
    go_wp2;go_ret;exact ⟨rfl,HT1.out.bel⟩
  have hx0:¬ x < 0:=by omega
  clear hx;obtain ⟨bb,hq⟩:∃ b:Bool,(b = true ↔ ColP d i0):=⟨@decide _ (Classical.propDecidable _),@decide_eq_true_iff _ (Classical.propDecidable _)⟩
  have CT:∀ w',Below w1.heap.size w1 w' → Calls Tryz.prog 6 #[.agg #[.int .i64 v0,.int .i64 v1,.int .i64 v2,.int .i64 v3,.int .i64 v4,.int .i64 v5,.int .i64 v6,.int .i64 v7,.int .i64 v8,.slice vp0 vl0 vq0,.slice vp1 vl1 vq1,.slice vp2 vl2 vq2,.int .i64 v9,.int .i64 v10,.bool vb]] w' fun e w'' => ∃ cs',e = .returned (.agg cs'.toArray) ∧ OwnT layWorld w'' w'.heap.size w''.heap.size d cs' ∧ Below w'.heap.size w' w'':=fun w' hb =>
    toWorld_is _ d w.heap.size w' (layWorld.rd_below (layWorld.rd_below HR.out HT1.out.bel (Nat.le_refl _)) hb HT1.out.bel.size) (Nat.le_trans HT1.out.bel.size hb.size) hsz
  have CS:=fun (cs':List Value) (hi:Nat) (w':World) (h1:layWorld.rd w' hi d cs') (h2:hi ≤ w'.heap.size) => bool_det hq (specCh_any d i0 cs' hi w' h1 h2 hsz);have CI:=fun (cs':List Value) (hi:Nat) (w':World) (h1:layWorld.rd w' hi d cs') (h2:hi ≤ w'.heap.size) => bool_det hq (implCh_any d i0 cs' hi w' h1 h2 hsz);have CW:=fun c1 c2 h1 h2 w' => eqWorld_is c1 c2 d h1 h2 w';clear hq hsz
  go_wp2_with (refine wp_loadBox 28 (.tmp 2) rfl rfl (w.heap.size) rfl (cs:=[.int .i64 v0,.int .i64 v1,.int .i64 v2,.int .i64 v3,.int .i64 v4,.int .i64 v5,.int .i64 v6,.int .i64 v7,.int .i64 v8,.slice vp0 vl0 vq0,.slice vp1 vl1 vq1,.slice vp2 vl2 vq2,.int .i64 v9,.int .i64 v10,.bool vb]) T1.b1 Tryz.underlying28 size_LW rfl ?_)
  refine (CT _ (Below.refl _ _)).mono ?_;rintro e w2 ⟨c2,rfl,o2,b2⟩;have z1:w.heap.size < w1.heap.size:=T1.b1.lt;clear T1
  go_wp2_with fail
  refine (CS _ _ _ o2.rd (Nat.le_refl _)).mono ?_;rintro e w3 ⟨rfl,b3⟩;have z2:w1.heap.size ≤ w2.heap.size:=b2.size;have z3:w2.heap.size ≤ w3.heap.size:=b3.size;have B4:Below w1.heap.size w1 w3:=b2.trans (b3.mono b2.size);have P4:=HT1.out.call B4;clear o2 b2 b3
  go_wp2_with (refine wp_loadBox 28 (.tmp 2) rfl rfl (w.heap.size) rfl (cs:=[.int .i64 v0,.int .i64 v1,.int .i64 v2,.int .i64 v3,.int .i64 v4,.int .i64 v5,.int .i64 v6,.int .i64 v7,.int .i64 v8,.slice vp0 vl0 vq0,.slice vp1 vl1 vq1,.slice vp2 vl2 vq2,.int .i64 v9,.int .i64 v10,.bool vb]) P4.b1 Tryz.underlying28 size_LW rfl ?_)
  refine (CT _ B4).mono ?_;rintro e w5 ⟨cX,rfl,oX,b5⟩;obtain ⟨x0,x1,x2,x3,x4,x5,x6,x7,x8,xp0,xl0,xq0,xp1,xl1,xq1,xp2,xl2,xq2,x9,x10,xb,rfl⟩:=world15O oX;have z5:w3.heap.size ≤ w5.heap.size:=b5.size;have B5:=B4.trans (b5.mono (by omega));clear P4 b5 B4
  go_upto_region 7 with (refine wp_allocStore 35 7 (.tmp 19) [.int .i64 x0,.int .i64 x1,.int .i64 x2,.int .i64 x3,.int .i64 x4,.int .i64 x5,.int .i64 x6,.int .i64 x7,.int .i64 x8,.slice xp0 xl0 xq0,.slice xp1 xl1 xq1,.slice xp2 xl2 xq2,.int .i64 x9,.int .i64 x10,.bool xb] _ 15 rfl rfl rfl rfl rfl rfl rfl rfl info_W rfl rfl oX.one ?_)
  have bA:Below w5.heap.size w5 (w5.alloc (.cells #[.int .i64 x0,.int .i64 x1,.int .i64 x2,.int .i64 x3,.int .i64 x4,.int .i64 x5,.int .i64 x6,.int .i64 x7,.int .i64 x8,.slice xp0 xl0 xq0,.slice xp1 xl1 xq1,.slice xp2 xl2 xq2,.int .i64 x9,.int .i64 x10,.bool xb] 35)):=(Below.refl _ _).alloc (Nat.le_refl _) _;have X6:Box (w5.alloc (.cells #[.int .i64 x0,.int .i64 x1,.int .i64 x2,.int .i64 x3,.int .i64 x4,.int .i64 x5,.int .i64 x6,.int .i64 x7,.int .i64 x8,.slice xp0 xl0 xq0,.slice xp1 xl1 xq1,.slice xp2 xl2 xq2,.int .i64 x9,.int .i64 x10,.bool xb] 35)) w5.heap.size #[.int .i64 x0,.int .i64 x1,.int .i64 x2,.int .i64 x3,.int .i64 x4,.int .i64 x5,.int .i64 x6,.int .i64 x7,.int .i64 x8,.slice xp0 xl0 xq0,.slice xp1 xl1 xq1,.slice xp2 xl2 xq2,.int .i64 x9,.int .i64 x10,.bool xb] 35:=box_new _ _ _;obtain ⟨W6,hW6⟩:∃ x,x = w5.alloc (.cells #[.int .i64 x0,.int .i64 x1,.int .i64 x2,.int .i64 x3,.int .i64 x4,.int .i64 x5,.int .i64 x6,.int .i64 x7,.int .i64 x8,.slice xp0 xl0 xq0,.slice xp1 xl1 xq1,.slice xp2 xl2 xq2,.int .i64 x9,.int .i64 x10,.bool xb] 35):=⟨_,rfl⟩;rw [← hW6] at bA X6 ⊢;have B6:=B5.trans (bA.mono (by omega));have OX6:=oX.call bA;have z6:w5.heap.size < W6.heap.size:=X6.lt;clear bA hW6 oX B5
  go_wp2_with (refine wp_loadBox 35 (.tmp 7) rfl rfl (w5.heap.size) rfl (cs:=[.int .i64 x0,.int .i64 x1,.int .i64 x2,.int .i64 x3,.int .i64 x4,.int .i64 x5,.int .i64 x6,.int .i64 x7,.int .i64 x8,.slice xp0 xl0 xq0,.slice xp1 xl1 xq1,.slice xp2 xl2 xq2,.int .i64 x9,.int .i64 x10,.bool xb]) X6 Tryz.underlying35 size_W rfl ?_)
  refine (CI _ _ _ OX6.rd (by omega)).mono ?_;rintro e w9 ⟨rfl,b7⟩;have z7:W6.heap.size ≤ w9.heap.size:=b7.size;have B9:=B6.trans (b7.mono (by omega));have X9:Hid (Box w9 w5.heap.size #[.int .i64 x0,.int .i64 x1,.int .i64 x2,.int .i64 x3,.int .i64 x4,.int .i64 x5,.int .i64 x6,.int .i64 x7,.int .i64 x8,.slice xp0 xl0 xq0,.slice xp1 xl1 xq1,.slice xp2 xl2 xq2,.int .i64 x9,.int .i64 x10,.bool xb] 35):=X6.call b7;have OX9:Hid (OwnT layWorld w9 w3.heap.size w5.heap.size d [.int .i64 x0,.int .i64 x1,.int .i64 x2,.int .i64 x3,.int .i64 x4,.int .i64 x5,.int .i64 x6,.int .i64 x7,.int .i64 x8,.slice xp0 xl0 xq0,.slice xp1 xl1 xq1,.slice xp2 xl2 xq2,.int .i64 x9,.int .i64 x10,.bool xb]):=OX6.call b7;have HB9:Hid (Below w1.heap.size w1 w9):=B9;have P9:Hid (One w w9 #[.int .i64 v0,.int .i64 v1,.int .i64 v2,.int .i64 v3,.int .i64 v4,.int .i64 v5,.int .i64 v6,.int .i64 v7,.int .i64 v8,.slice vp0 vl0 vq0,.slice vp1 vl1 vq1,.slice vp2 vl2 vq2,.int .i64 v9,.int .i64 v10,.bool vb] 28):=HT1.out.call B9;have CTc:=fun w' (hb:Below w9.heap.size w9 w') => CT w' (HB9.out.trans (hb.mono (by omega)))
  have eqb:(bb != bb) = false:=by simp
  clear b7 B6 X6 OX6 B9
  go_upto_region 10 with fail
  go_cut [30] (fun v wx => v = .bool false ∧ Below w9.heap.size w9 wx)
  case first =>
    have KS:∀ w',Below w9.heap.size w9 w' → (Box w' (w5.heap.size) #[.int .i64 x0,.int .i64 x1,.int .i64 x2,.int .i64 x3,.int .i64 x4,.int .i64 x5,.int .i64 x6,.int .i64 x7,.int .i64 x8,.slice xp0 xl0 xq0,.slice xp1 xl1 xq1,.slice xp2 xl2 xq2,.int .i64 x9,.int .i64 x10,.bool xb] 35 ∧ Box w' (w.heap.size) #[.int .i64 v0,.int .i64 v1,.int .i64 v2,.int .i64 v3,.int .i64 v4,.int .i64 v5,.int .i64 v6,.int .i64 v7,.int .i64 v8,.slice vp0 vl0 vq0,.slice vp1 vl1 vq1,.slice vp2 vl2 vq2,.int .i64 v9,.int .i64 v10,.bool vb] 28):=fun w' hb => ⟨(X9.out).call hb,(P9.out.b1).call hb⟩;have B0:Below w9.heap.size w9 w9.drew:=below_drew _;refine wp_region_L 4 (fun w' => Box w' (w5.heap.size) #[.int .i64 x0,.int .i64 x1,.int .i64 x2,.int .i64 x3,.int .i64 x4,.int .i64 x5,.int .i64 x6,.int .i64 x7,.int .i64 x8,.slice xp0 xl0 xq0,.slice xp1 xl1 xq1,.slice xp2 xl2 xq2,.int .i64 x9,.int .i64 x10,.bool xb] 35 ∧ Box w' (w.heap.size) #[.int .i64 v0,.int .i64 v1,.int .i64 v2,.int .i64 v3,.int .i64 v4,.int .i64 v5,.int .i64 v6,.int .i64 v7,.int .i64 v8,.slice vp0 vl0 vq0,.slice vp1 vl1 vq1,.slice vp2 vl2 vq2,.int .i64 v9,.int .i64 v10,.bool vb] 28) (by kernel_rfl) (KS _ B0) (fun hHeld => ?_);refine wpAnyL_take (i:=0) (oi:=_) (v:=.agg #[.int .i64 x0,.int .i64 x1,.int .i64 x2,.int .i64 x3,.int .i64 x4,.int .i64 x5,.int .i64 x6,.int .i64 x7,.int .i64 x8,.slice xp0 xl0 xq0,.slice xp1 xl1 xq1,.slice xp2 xl2 xq2,.int .i64 x9,.int .i64 x10,.bool xb]) 16 rfl (by kernel_rfl) (fun _ _ _ h => h) (load_yield 35 (.tmp 7) rfl rfl (w5.heap.size) rfl (cs:=[.int .i64 x0,.int .i64 x1,.int .i64 x2,.int .i64 x3,.int .i64 x4,.int .i64 x5,.int .i64 x6,.int .i64 x7,.int .i64 x8,.slice xp0 xl0 xq0,.slice xp1 xl1 xq1,.slice xp2 xl2 xq2,.int .i64 x9,.int .i64 x10,.bool xb]) (fun w' h => h.1) Tryz.underlying35 size_W rfl) (by assumption) ?_
    try simp only [Act.put,SL]
    refine wpAnyL_take (i:=1) (oi:=_) (v:=.agg #[.int .i64 v0,.int .i64 v1,.int .i64 v2,.int .i64 v3,.int .i64 v4,.int .i64 v5,.int .i64 v6,.int .i64 v7,.int .i64 v8,.slice vp0 vl0 vq0,.slice vp1 vl1 vq1,.slice vp2 vl2 vq2,.int .i64 v9,.int .i64 v10,.bool vb]) 16 rfl (by kernel_rfl) (fun _ _ _ h => h) (load_yield 28 (.tmp 2) rfl rfl (w.heap.size) rfl (cs:=[.int .i64 v0,.int .i64 v1,.int .i64 v2,.int .i64 v3,.int .i64 v4,.int .i64 v5,.int .i64 v6,.int .i64 v7,.int .i64 v8,.slice vp0 vl0 vq0,.slice vp1 vl1 vq1,.slice vp2 vl2 vq2,.int .i64 v9,.int .i64 v10,.bool vb]) (fun w' h => h.2) Tryz.underlying28 size_LW rfl) (by assumption) ?_
    try simp only [Act.put,SL]
    refine wpAnyL_one (i:=2) (o:=_) rfl (by kernel_rfl) (fun KC hKC => ?_);refine step_call rfl 6 _ _ rfl #[.agg #[.int .i64 v0,.int .i64 v1,.int .i64 v2,.int .i64 v3,.int .i64 v4,.int .i64 v5,.int .i64 v6,.int .i64 v7,.int .i64 v8,.slice vp0 vl0 vq0,.slice vp1 vl1 vq1,.slice vp2 vl2 vq2,.int .i64 v9,.int .i64 v10,.bool vb]] ?_ Tryz.func6 (by kernel_rfl) (by kernel_rfl) (CTc _ B0) ?_
    · simp [Act.eval,Act.put]
    rintro ee wb ⟨cs',rfl,oR,bb⟩;have bR:Below w9.heap.size w9 wb:=B0.trans (bb.mono B0.size);refine ⟨_,rfl,?_⟩;refine hKC.out _ _ (KS _ bR) (fun hHeld => ?_);clear hKC KC
    try simp only [Act.put,SL]
    refine wpAnyL_one (i:=3) (o:=_) rfl (by kernel_rfl) (fun KC hKC => ?_);refine step_call rfl 8 _ _ rfl #[.agg #[.int .i64 x0,.int .i64 x1,.int .i64 x2,.int .i64 x3,.int .i64 x4,.int .i64 x5,.int .i64 x6,.int .i64 x7,.int .i64 x8,.slice xp0 xl0 xq0,.slice xp1 xl1 xq1,.slice xp2 xl2 xq2,.int .i64 x9,.int .i64 x10,.bool xb],.agg cs'.toArray] ?_ Tryz.func8 (by kernel_rfl) (by kernel_rfl) (CW _ _ _ _ _ ((OX9.out).call bR).rd oR.rd (Nat.le_trans (by omega) bR.size) (Nat.le_refl _)) ?_
    · simp [Act.eval,Act.put]
    rintro ee wc' ⟨rfl,bc⟩;have bC:Below w9.heap.size w9 wc':=bR.trans (bc.mono bR.size);refine ⟨_,rfl,?_⟩;refine hKC.out _ _ (KS _ bC) (fun hHeld => ?_);clear hKC KC
    try simp only [Act.put,SL]
    refine wpAnyL_last (o:=_) rfl (by kernel_rfl) (fun KC hKC => ?_);go_simp;refine hKC.out _ _ ?_;clear hKC KC
    try simp only [Act.put,SL]
    refine wpAnyL_done (by kernel_rfl) ?_ _;go_wp2
    go_meet
    exact ⟨rfl,bC⟩
  case rest =>
  obtain ⟨rfl,b10⟩:=hcut;have HB:Hid (Below w.heap.size w wc):=(P9.out.call b10).bel;clear b10 CTc;go_wp2;go_ret;exact ⟨rfl,HB.out⟩
set_option maxRecDepth 100000 in
theorem fnExactColumnHolds_lifted (os:Os) (started:os.Started) (H:Type) (enc:TypeId × Value → H) :
    ReturnsInHanded {} Tryz.checked os 3 .any (Rows.fnExactColumnHoldsSpec.pre6 enc Tryz.prog Tryz.f3 Rows.fnExactColumnHoldsRow.domain false) (Rows.fnExactColumnHoldsSpec.post enc Tryz.prog Tryz.f3 false true false false):=by
  refine returnsInHanded_of_change (C:=Tryz.checked) frame_own started (by kernel_rfl) Tryz.func3
    (ChangeSpec.witness6 (enc:=enc) (C:=Tryz.checked) false ⟨#[],#[.agg #[.int .i64 0,.int .i64 0,.int .i64 0,.int .i64 0,.int .i64 0,.int .i64 0,.int .i64 0,.int .i64 0,.int .i64 0,.slice none 0 0,.slice none 0 0,.slice none 0 0,.int .i64 0,.int .i64 0,.bool false],.int .i64 0],[]⟩ 8 (by kernel_rfl) (by kernel_rfl) (by kernel_rfl) (by kernel_rfl)) ?_
  intro W base args ds gs before hval0 hW hcnd _;have hval:∀ (j:Nat) t v,Tryz.f3.params[j]? = some t → args[j]? = some v → Value.okWide Tryz.prog W .any base t v:=hval0;have hW':=hW;obtain ⟨p,q,hA0,hV,rfl,hfz,hnd⟩:=hW;have hA:DataW.TrodAll enc Tryz.prog W 0 (fun _ => true) true Tryz.f3.params.toList args.toList ds p:=hA0;rw [Tryz.params3] at hA hval;obtain ⟨v0,vs0,d0,ds0,p0,q0,hargs,rfl,rfl,h0,r0⟩:=trodAll_cons hA;obtain ⟨v1,vs1,d1,ds1,p1,q1,rfl,rfl,rfl,h1,r1⟩:=trodAll_cons r0;obtain ⟨rfl,rfl,rfl⟩:=trodAll_nil r1
  obtain rfl:args = #[v0,v1]:=by cases args;simp_all
  obtain ⟨rfl,rfl⟩:=trodVars_none hV;have k0:=h0
  have lt0:∀ x ∈ p0,x.block < W.heap.size:=by obtain ⟨m,hm⟩:=k0;exact DataW.trod_lt m _ _ _ hm
  obtain ⟨cs0,a0,rfl,rd0⟩:=struct_of_trod opensWorld Tryz.underlying28 (hval 0 28 v0 rfl rfl) h0;obtain ⟨n1,rfl,rfl,rfl,hn1⟩:=open_int Tryz.underlying2 (hval 1 2 v1 rfl rfl) h1;clear hA0 hval0;refine (fnExactColumnHolds_walk a0 cs0 n1 W rd0 (bounds_i64 hn1)).mono fun e W' ⟨he,bel⟩ => ?_;subst he;exact ⟨_,rfl,_,_,_,[],_,[],hW',trodAll_mk1 (shut_bool Tryz.underlying4 _),(trodAll_cons_mk (Below.trod frame_laid (by kernel_rfl) (of_decide_eq_true (by kernel_rfl)) k0 bel lt0) (trodAll_cons_mk (shut_int Tryz.underlying2 hn1) trodAll_mk0)),rfl,bel.frame _,fun h => by cases h⟩
end Go.Proofs.YtpmiljdhacmppaaGreat