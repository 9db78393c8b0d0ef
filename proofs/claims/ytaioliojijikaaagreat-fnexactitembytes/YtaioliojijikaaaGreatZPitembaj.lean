/- Walk of the program's weightsOf. -/
import Derived.Test.YtaioliojijikaaaGreatZPitembai
import Derived.Test.YtaioliojijikaaaGreatZPitembab
import Derived.Test.YtaioliojijikaaaGreatZPitembae
import Derived.Test.YtaioliojijikaaaGreatZPitembag
import Derived.Deep.DeepCutAuto
import Derived.Test.YtaioliojijikaaaGreatZPitembah
import Derived.Test.YtaioliojijikaaaGreatZPitembad
import Derived.Test.YtaioliojijikaaaGreatZPitembaf
import Derived.Test.YtaioliojijikaaaGreatZPitembac
import Derived.Test.YtaioliojijikaaaGreatZPitembaa
import Derived.BigQuiet
import Derived.Deep.QuietTactic
set_option linter.unusedVariables false
set_option linter.unusedSimpArgs false
namespace Go.Proofs.YtaioliojijikaaaGreat
open Go.RowKit F256
theorem OwnE.congr {w:World} {lo hi:Nat} {v:Value} {R:Nat} {n:Nat → Nat} {M M':Mat} {g cap:Nat} {e:Nat → Value} (h:OwnE w lo hi v R n M g cap e) (hM:∀ i j,i < R → j < n i → M i j = M' i j):OwnE w lo hi v R n M' g cap e :=
  ⟨h.val,h.low,h.high,h.row,fun i hi => (h.each i hi).congr (fun j hj => hM i j hi hj),h.apart⟩
def wayW (D:Nat) (hv:Nat → Nat) (k m:Nat):Mat:=fun i j => if j < k ∨ (j = k ∧ i < m) then wtM D 0 hv i j else 0
theorem OwnE.byte {w:World} {lo hi:Nat} {v:Value} {R C:Nat} {M M':Mat} {g cap:Nat} {e:Nat → Value} (h:OwnE w lo hi v R (fun _ => C) M g cap e) (i k x gi ci:Nat) (hi':i < R) (hk:k < C) (he:e i = .slice (some ⟨gi,0,none⟩) C ci)
    (hM:∀ a b,a < R → b < C → M' a b = if a = i ∧ b = k then x else M a b) (hlh:lo ≤ hi):OwnE (w.setCell ⟨gi,k,none⟩ (.int .u8 x)) lo hi v R (fun _ => C) M' g cap e:=by
  have ho:=h.each i hi';have ho2:=ho;rw [he] at ho
  have hM2:∀ a b,a < R → b < C → (fun a b => if a = i then M' a b else M a b) a b = M' a b:=fun a b ha hb => by
    show (if a = i then M' a b else M a b) = M' a b
    by_cases c:a = i
    · rw [if_pos c]
    · rw [if_neg c,hM a b ha hb,if_neg (fun hh => c hh.1)]
  refine OwnE.congr (M:=fun a b => if a = i then M' a b else M a b) (OwnE.upd h i hi' ?_ ?_ (fun j _ hj => by funext b;show (if j = i then M' j b else M j b) = M j b;rw [if_neg hj])) (fun a b ha hb => hM2 a b ha hb)
  · have t1:tlo (e i) lo = gi:=by rw [he];rfl
    have t2:thi (e i) lo = gi + 1:=by rw [he];rfl
    rw [t1,t2];exact (out_store w gi (gi + 1) gi k _ (Nat.le_refl _) (Nat.lt_succ_self _)).chg
  · rw [he]
    exact ho.store k x hk (fun b hb => by
      show (if i = i then M' i b else M i b) = _
      rw [if_pos rfl,hM i b hi' hb]
      by_cases c:b = k
      · rw [if_pos ⟨rfl,c⟩,if_pos c]
      · rw [if_neg (fun hh => c hh.2),if_neg c])
theorem fieldB1 (x:Int) (v:Value) (w:World):(Instr.field 32 (.agg #[.int .i64 x,v]) 1).run Tryz.prog w = .ok v w:=by kernel_rfl
set_option maxHeartbeats 4000000 in
theorem weightsOf_any (D want:Nat) (vh:Value) (hv:Nat → Nat) (h1:Nat) (w:World) (rh:RdI w h1 vh D (fun i => (hv i:Int))) (hh:h1 ≤ w.heap.size) (hD1:1 ≤ D) (hD:D ≤ 3) (hb:∀ k,k < D → hv k < D + 2) (hr:∀ k,k + 1 < D → hv k < hv (k + 1)) (hw:want < D + 2) :
    Calls Tryz.prog 164 #[.int .i64 D,vh,.int .i64 want] w fun e w' => ∃ v',e = .returned v' ∧ Own w' w.heap.size w'.heap.size v' D (weightsN D 0 hv want) ∧ Below w.heap.size w w':=by
  obtain ⟨aoh,caph,rfl,hmm,hch⟩:=rh;obtain ⟨bh,oh,rfl,hbh,hcell⟩:=hch (by omega);have HC:Hid (∀ i,i < D → w.cell? ⟨bh,oh + i,none⟩ = some (.int .i64 (hv i:Int))):=hcell;have HBD:Hid (∀ k,k < D → hv k < D + 2):=hb;have HFULL:Hid ((gaussM D (aug D (wtM D 0 hv) (genN D want 0)) D).2 = D):=row_full D hD1 hD hv (genN D want 0) hb hr
  have hbw:bh < w.heap.size:=by omega
  clear hch hcell hb hr hmm
  go_enter Tryz.func164,Tryz.ntmps164
  go_wp2_with (at_make;refine wp_makeM _ rfl _ _ rfl _ _ D rfl rfl rfl rfl (by omega) ?_;intro w1 hown1 hb1 hz1)
  go_loopw [15] (fun i wr => ∃ k:Nat,k ≤ D ∧ i = .int .i64 k ∧ ∃ e',Cpy w wr D k (fun _ => D) (wayW D hv 0 0) e' ∧ ∀ i,i < k → ∃ gi ci,e' i = .slice (some ⟨gi,0,none⟩) D ci) (fun i _ => D - (intOf i).toNat)
  case atStart => exact ⟨0,Nat.zero_le _,rfl,fun _ => nilS,⟨by rw [valsOf_eq (g:=fun _ => nilS) (fun i hi => by simp)];exact hown1,fun i hi => by omega,⟨fun i hi => by omega,fun i j hi => by omega⟩,hb1,hz1⟩,fun i hi => by omega⟩
  case round =>
    clear hown1 hb1 hz1;obtain ⟨k,hk,rfl,e',hcp,hsl⟩:=hrel
    by_cases hlt:k < D
    · have HSL:Hid (∀ i,i < k → ∃ gi ci,e' i = .slice (some ⟨gi,0,none⟩) D ci):=hsl
      have HCP:Hid (Cpy w wr D k (fun _ => D) (wayW D hv 0 0) e'):=hcp;have hl:=hcp.lt;clear hsl hcp
      go_wp2_with (at_make;refine wp_makeB _ rfl _ _ rfl _ _ D rfl rfl rfl rfl (by omega) ?_;intro w2 ho2 hb2 hz2;have q1:w2.cell? ⟨w.heap.size,k,none⟩ = some nilS:=(by rw [hb2.cell (p:=⟨w.heap.size,k,none⟩) hl,HCP.out.row.cellAt k (by omega),valsOf_get _ _ _ hlt,if_neg (Nat.lt_irrefl k)]);have q2:w2.frozen? ⟨w.heap.size,k,none⟩ = false:=(hb2.frozen (p:=⟨w.heap.size,k,none⟩) hl).trans (HCP.out.row.frozenAt k))
      have N:=HCP.out.next hlt hb2 (ho2.congr (g:=wayW D hv 0 0 k) (fun i hi => by simp [wayW]))
      have NS:∀ i,i < k + 1 → ∃ gi ci,(fun i => if i = k then Value.slice (some ⟨wr.heap.size,0,none⟩) D D else e' i) i = .slice (some ⟨gi,0,none⟩) D ci:=fun i hi => by
        show ∃ gi ci,(if i = k then Value.slice (some ⟨wr.heap.size,0,none⟩) D D else e' i) = .slice (some ⟨gi,0,none⟩) D ci
        by_cases c:i = k
        · exact ⟨_,_,by rw [if_pos c]⟩
        · rw [if_neg c]
          exact HSL.out i (by omega)
      clear HCP HSL hb2 ho2 q1 q2
      go_roundw
      case rel => exact ⟨k + 1,by omega,by go_num,_,N,NS⟩
      case measure => simp [intOf];omega
    · obtain rfl:k = D:=by omega
      have E0:OwnE wr w.heap.size wr.heap.size (.slice (some ⟨w.heap.size,0,none⟩) k k) k (fun _ => k) (wayW k hv 0 0) w.heap.size k e':=by
        have hrr:=hcp.row;rw [valsOf_eq (g:=e') (fun i hi => by simp [hi])] at hrr;exact ⟨rfl,Nat.le_refl _,hcp.lt,hrr,fun i hi => (hcp.each i hi).weaken (by omega) (Nat.le_refl _),hcp.apart⟩
      have HSL:Hid (∀ i,i < k → ∃ gi ci,e' i = .slice (some ⟨gi,0,none⟩) k ci):=hsl;have B0:Below w.heap.size w wr:=hcp.bel;obtain ⟨wA,hwA⟩:∃ wA,wA = wr:=⟨_,rfl⟩;rw [← hwA] at E0 B0 ⊢;have hzA:w.heap.size < wA.heap.size:=E0.high;clear hcp hsl hwA;go_wp2
      go_loopw [25] (fun i wr => ∃ c:Nat,c ≤ k ∧ i = .int .i64 c ∧ OwnE wr w.heap.size wA.heap.size (.slice (some ⟨w.heap.size,0,none⟩) k k) k (fun _ => k) (wayW k hv c 0) w.heap.size k e' ∧ Below w.heap.size w wr ∧ wA.heap.size ≤ wr.heap.size) (fun i _ => k - (intOf i).toNat)
      case atStart => exact ⟨0,Nat.zero_le _,rfl,E0,B0,Nat.le_refl _⟩
      case round =>
        clear E0 B0;obtain ⟨c,hc,rfl,hE,hbel,hsz⟩:=hrel
        by_cases hck:c < k
        · have ck:wr.cell? ⟨bh,oh + c,none⟩ = some (.int .i64 (hv c:Int)):=(hbel.cell (p:=⟨bh,oh + c,none⟩) hbw).trans (HC.out c hck)
          have C:=factorsAt_any k (hv c) (by omega) (by have:=HBD.out c hck;omega) wr;obtain ⟨p,hp⟩:∃ p,p = hv c:=⟨_,rfl⟩;have HP:Hid (p = hv c):=hp;rw [← hp] at ck C;have HE:Hid (OwnE wr w.heap.size wA.heap.size (.slice (some ⟨w.heap.size,0,none⟩) k k) k (fun _ => k) (wayW k hv c 0) w.heap.size k e'):=hE;have HBL:Hid (Below w.heap.size w wr):=hbel;obtain ⟨wk,hwk⟩:∃ wk,wk = wr:=⟨_,rfl⟩;rw [← hwk] at ck C HE HBL hsz ⊢;clear hp hE hbel hwk
          go_wp2_with fail
          refine C.mono ?_;rintro ee w6 ⟨v6,rfl,o6,b6⟩;obtain ⟨gv,capv,hgv,h61,h62,h63,h64⟩:=o6.form (by omega);subst hgv;have E6:=HE.out.below b6 hsz;have s6:=b6.size;have B6:Below w.heap.size w w6:=HBL.out.trans (b6.mono HBL.out.size);clear C ck b6 HE HBL;go_wp2
          go_loopw [35] (fun i wr => ∃ m:Nat,m ≤ k ∧ i = .int .i64 m ∧ OwnE wr w.heap.size wA.heap.size (.slice (some ⟨w.heap.size,0,none⟩) k k) k (fun _ => k) (wayW k hv c m) w.heap.size k e' ∧ Own wr wk.heap.size w6.heap.size (.slice (some ⟨gv,0,none⟩) k capv) k (genN k p 0) ∧ Below w.heap.size w wr ∧ w6.heap.size ≤ wr.heap.size) (fun i _ => k - (intOf i).toNat)
          case atStart => exact ⟨0,Nat.zero_le _,rfl,E6,o6,B6,Nat.le_refl _⟩
          case round =>
            clear E6 o6 B6;obtain ⟨m,hm,rfl,hE,ho,hbel,hsz6⟩:=hrel
            by_cases hmk:m < k
            · obtain ⟨gi,ci,hei⟩:=HSL.out m hmk
              have om:=hE.each m hmk
              have c1:wr.cell? ⟨w.heap.size,m,none⟩ = some (.slice (some ⟨gi,0,none⟩) k ci):=by rw [← hei];exact hE.cell m hmk
              have c2:wr.cell? ⟨gv,m,none⟩ = some (.int .u8 (genN k p 0 m)):=(ho.1.cellAt m (by omega)).trans (cellsOf_get _ _ _ hmk);rw [hei] at om;have hgi:=om.1.lt gi rfl;have hgi2:=om.2 gi rfl;have c3:wr.cell? ⟨gi,c,none⟩ = some (.int .u8 (wayW k hv c m m c)):=(om.1.cellAt c (by omega)).trans (cellsOf_get _ _ _ hck);have c4:wr.frozen? ⟨gi,c,none⟩ = false:=om.1.frozenAt c;obtain ⟨y,hy⟩:∃ y,y = genN k p 0 m:=⟨_,rfl⟩;obtain ⟨y3,hy3⟩:∃ y,y = wayW k hv c m m c:=⟨_,rfl⟩;rw [← hy] at c2;rw [← hy3] at c3
              have EN:OwnE (wr.setCell ⟨gi,c,none⟩ (.int .u8 y)) w.heap.size wA.heap.size (.slice (some ⟨w.heap.size,0,none⟩) k k) k (fun _ => k) (wayW k hv c (m + 1)) w.heap.size k e':=hE.byte m c y gi ci hmk hck hei (fun a b ha hb => by
                unfold wayW
                by_cases cc:a = m ∧ b = c
                · obtain ⟨rfl,rfl⟩:=cc
                  rw [if_pos (show b < b ∨ (b = b ∧ a < a + 1) from .inr ⟨rfl,by omega⟩),if_pos (show a = a ∧ b = b from ⟨rfl,rfl⟩),hy,HP.out];rfl
                · rw [if_neg cc]
                  by_cases c5:b < c ∨ (b = c ∧ a < m)
                  · rw [if_pos c5,if_pos (by omega)]
                  · rw [if_neg c5,if_neg (by omega)]) (Nat.le_of_lt hzA)
              have ON:Own (wr.setCell ⟨gi,c,none⟩ (.int .u8 y)) wk.heap.size w6.heap.size (.slice (some ⟨gv,0,none⟩) k capv) k (genN k p 0):=ho.out (out_store wr w.heap.size wA.heap.size gi c _ hgi.1 hgi2) (.inr hsz);have BN:Below w.heap.size w (wr.setCell ⟨gi,c,none⟩ (.int .u8 y)):=hbel.setCell hgi.1 _
              have SN:w6.heap.size ≤ (wr.setCell ⟨gi,c,none⟩ (.int .u8 y)).heap.size:=by simpa using hsz6
              clear hE ho hbel om hei hy hy3;go_wp2
              go_region
              all_goals
                go_wp2
                go_roundw
                case rel => exact ⟨m + 1,by omega,by go_num,by first | exact EN | exact EN.drewN 1,ON,by first | exact BN | exact below_drewN BN 1,SN⟩
                case measure => simp [intOf];omega
            · obtain rfl:m = k:=by omega
              have E9:=hE.congr (M':=wayW m hv (c + 1) 0) (fun a b ha hb => by
                unfold wayW
                by_cases c5:b < c ∨ (b = c ∧ a < m)
                · rw [if_pos c5,if_pos (by omega)]
                · rw [if_neg c5,if_neg (by omega)])
              clear hE ho;go_wp2
              go_roundw
              case rel => exact ⟨c + 1,by omega,by go_num,E9,hbel,by omega⟩
              case measure => simp [intOf];omega
        · obtain rfl:c = k:=by omega
          have C:=factorsAt_any c want (by omega) (by omega) wr;have EF:=hE.congr (M':=wtM c 0 hv) (fun a b ha hb => by unfold wayW;rw [if_pos (.inl hb)]);have HE:Hid (OwnE wr w.heap.size wA.heap.size (.slice (some ⟨w.heap.size,0,none⟩) c c) c (fun _ => c) (wtM c 0 hv) w.heap.size c e'):=EF;have HBL:Hid (Below w.heap.size w wr):=hbel;clear hE hbel EF
          go_wp2_with fail
          refine C.mono ?_;rintro ee w6 ⟨v6,rfl,o6,b6⟩;have B6:Below w.heap.size w w6:=HBL.out.trans (b6.mono HBL.out.size);have E6:=HE.out.below b6 hsz;have CS:=implSolve_any _ _ c c (fun _ => c) (wtM c 0 hv) (genN c want 0) w.heap.size wA.heap.size wr.heap.size w6.heap.size w6 ⟨_,_,_,E6⟩ o6 (Nat.le_trans hsz b6.size) (Nat.le_refl _) (wtM_byt c 0 hv) (genN_lt c want 0);obtain ⟨ao6,cap6,rfl⟩:=o6.slice;have s6:=B6.size;clear C o6 b6 E6 HE HBL
          go_wp2_with fail
          refine CS.mono ?_;rintro ee w7 ⟨x7,v7,rfl,ha7,o7,b7⟩
          have hx7:x7 = 0:=by
            rcases ha7 with ⟨_,h⟩ | ⟨_,_,h⟩ | ⟨_,_,_,_,⟨_,h⟩ | ⟨h,_⟩⟩
            · omega
            · rcases h with h | h | ⟨i,_,h⟩
              · omega
              · exact absurd rfl h
              · exact absurd rfl h
            · have:=HFULL.out;omega
            · exact h
          subst hx7
          simp only [if_pos] at o7
          obtain ⟨ao7,cap7,rfl⟩:=o7.slice;have HO7:Hid (Own w7 w6.heap.size w7.heap.size (.slice ao7 c cap7) c (weightsN c 0 hv want)):=o7;have B7:Below w.heap.size w w7:=B6.trans (b7.mono s6);unfold bytesR;have hfd:=fieldB1 0 (.slice ao7 c cap7);clear ha7 o7 b7 CS B6;go_wp2;go_ret;exact ⟨_,rfl,HO7.out.weaken s6 (Nat.le_refl _),B7⟩
end Go.Proofs.YtaioliojijikaaaGreat
namespace Go.Proofs.YtaioliojijikaaaGreat
open Go.RowKit F256
theorem mixN_unit {f:Mat} {c:Nat → Nat} {t0 j:Nat} (kf:Byt f):∀ k,(∀ i,i < k → c i = if i = t0 then 1 else 0) → mixN f c k j = if t0 < k then f t0 j else 0
  | 0,_ => rfl
  | k + 1,h => by
    rw [mixN,mixN_unit kf k (fun i hi => h i (by omega)),h k (by omega)]
    by_cases e:k = t0
    · subst e
      rw [if_pos rfl,if_neg (Nat.lt_irrefl k),if_pos (Nat.lt_succ_self k),one_mulN (kf k j),Nat.zero_xor]
    · rw [if_neg e,zero_mulN (kf k j),Nat.xor_zero]
      by_cases c2:t0 < k
      · rw [if_pos c2,if_pos (by omega)]
      · rw [if_neg c2,if_neg (by omega)]
theorem picked {D R:Nat} {n:Nat → Nat} (hc:D ≤ cntN n R) (h4:∀ i,i < R → n i = 0 ∨ n i = 4):(∀ t,t < D → nthN n R t < R ∧ n (nthN n R t) = 4) ∧ ∀ t,t + 1 < D → nthN n R t < nthN n R (t + 1):=by
  refine ⟨fun t ht => ?_,fun t ht => nthN_rise (by omega)⟩;have q:=nthN_spec (n:=n) (R:=R) (k:=t) (by omega);refine ⟨q.1,?_⟩
  rcases h4 _ q.1 with e0 | e0
  · exact absurd e0 q.2.1
  · exact e0
theorem blockN_is {D R:Nat} {n:Nat → Nat} {f:Mat} {t0:Nat} (hD1:1 ≤ D) (hD:D ≤ 3) (hR:R ≤ D + 2) (hc:D ≤ cntN n R) (h4:∀ i,i < R → n i = 0 ∨ n i = 4) (kf:Byt f) (ht:t0 < D) (j:Nat):blockN D n R f (nthN n R t0) j = f (nthN n R t0) j:=by
  obtain ⟨p1,p2⟩:=picked hc h4;unfold blockN;rw [mixN_unit (t0:=t0) (fun i j => kf _ _) D (fun i hi => weights_unit ht (row_full D hD1 hD (nthN n R) _ (fun t ht => by have:=(p1 t ht).1;omega) p2) i hi),if_pos ht]
set_option maxHeartbeats 4000000 in
theorem blockFrom_any (D want:Nat) (v vh:Value) (R:Nat) (n:Nat → Nat) (f:Mat) (h1 h2:Nat) (w:World) (r:RdM w h1 v R n f) (rh:RdI w h2 vh D (fun t => (nthN n R t:Int))) (hh:h1 ≤ w.heap.size) (hh2:h2 ≤ w.heap.size) (hD1:1 ≤ D) (hD:D ≤ 3) (hR:R ≤ D + 2) (hw:want < D + 2) (hcnt:D ≤ cntN n R) (h4:∀ i,i < R → n i = 0 ∨ n i = 4) (kf:Byt f) :
    Calls Tryz.prog 147 #[.int .i64 D,v,vh,.int .i64 want] w fun e w' => ∃ v',e = .returned v' ∧ Own w' w.heap.size w'.heap.size v' 4 (blockN D n R f want) ∧ Below w.heap.size w w':=by
  have CC:=contains_any vh D (fun t => (nthN n R t:Int)) h2 (want:Int) w rh;have HRH:Hid (RdI w h2 vh D (fun t => (nthN n R t:Int))):=rh;obtain ⟨aoh,caph,rfl,hmh,hch⟩:=rh;have HCH:Hid (D ≠ 0 → ∃ b off,aoh = some ⟨b,off,none⟩ ∧ b < h2 ∧ ∀ i,i < D → w.cell? ⟨b,off + i,none⟩ = some (.int .i64 (nthN n R i:Int))):=hch;obtain ⟨p1,p2⟩:=picked hcnt h4;have HP1:Hid (∀ t,t < D → nthN n R t < R ∧ n (nthN n R t) = 4):=p1;have HP2:Hid (∀ t,t + 1 < D → nthN n R t < nthN n R (t + 1)):=p2;have HIS:Hid (∀ t0,t0 < D → ∀ j,blockN D n R f (nthN n R t0) j = f (nthN n R t0) j):=fun t0 ht j => blockN_is hD1 hD hR hcnt h4 kf ht j;obtain ⟨ao,cap,e,rfl,hm,hc,he⟩:=r;obtain ⟨b,off,rfl,hblt,hcell⟩:=hc (by have:=(p1 0 (by omega)).1;omega);have HHE:Hid (∀ i,i < R → Rd w h1 (e i) (n i) (f i)):=he;have HHC:Hid (∀ i,i < R → w.cell? ⟨b,off + i,none⟩ = some (e i)):=hcell
  have hbw:b < w.heap.size:=by omega
  unfold maxLen at hm;clear hc he hcell p1 p2 hch hmh hcnt h4
  by_cases hin:∃ t,t < D ∧ (nthN n R t:Int) = (want:Int)
  · have HIN:Hid (∃ t,t < D ∧ (nthN n R t:Int) = (want:Int)):=hin
    obtain ⟨t0,ht0,het⟩:=hin
    have hwt:nthN n R t0 = want:=by omega
    have q1:=HP1.out t0 ht0;rw [hwt] at q1;have q2:=HIS.out t0 ht0;rw [hwt] at q2;have HQ2:Hid (∀ j,blockN D n R f want j = f want j):=q2;have hwR:want < R:=q1.1;have c1:w.cell? ⟨b,off + want,none⟩ = some (e want):=HHC.out want hwR;have r1:=HHE.out want hwR;rw [q1.2] at r1;obtain ⟨x,hx⟩:∃ x,x = e want:=⟨_,rfl⟩;rw [← hx] at c1 r1;have HRX:Hid (Rd w h1 x 4 (f want)):=r1;obtain ⟨aox,capx,hxs,_,_⟩:=r1;subst hxs;clear hx q1 q2 hwt het
    go_enter Tryz.func147,Tryz.ntmps147
    go_wp2_with fail
    refine CC.mono ?_;rintro e0 w1 ⟨b1,rfl,hb1,B1⟩;obtain rfl:b1 = true:=hb1.mpr HIN.out;have c2:w1.cell? ⟨b,off + want,none⟩ = some (.slice aox 4 capx):=(B1.cell (p:=⟨b,off + want,none⟩) hbw).trans c1;have CJ:=joined_nil (.slice aox 4 capx) (.slice none 0 0) 4 (f want) (fun _ => 0) h1 h1 w1 (HRX.out.below B1 hh) ⟨_,_,rfl,Nat.zero_le _,fun h => absurd rfl h⟩ (Nat.le_trans hh B1.size) (by omega);have HB1:Hid (Below w.heap.size w w1):=B1;clear hb1 CC B1 c1
    go_wp2_with fail
    refine CJ.mono ?_;rintro e0 w2 ⟨v2,rfl,o2,b2⟩;have HO2:Hid (Own w2 w1.heap.size w2.heap.size v2 4 (f want)):=o2;obtain ⟨ao2,cap2,rfl⟩:=o2.slice;have B2:Below w.heap.size w w2:=HB1.out.trans (b2.mono HB1.out.size);clear CJ o2 b2;go_wp2;go_ret;exact ⟨_,rfl,(HO2.out.congr (fun j _ => (HQ2.out j).symm)).weaken HB1.out.size (Nat.le_refl _),B2⟩
  · have HIN:Hid (¬ ∃ t,t < D ∧ (nthN n R t:Int) = (want:Int)):=hin
    clear hin HIS;obtain ⟨bh,oh,hao,hbh,hch⟩:=HCH.out (by omega);subst hao;have HCI:Hid (∀ i,i < D → w.cell? ⟨bh,oh + i,none⟩ = some (.int .i64 (nthN n R i:Int))):=hch
    have hbhw:bh < w.heap.size:=by omega
    have CWf:=fun (w1:World) (b1:Below w.heap.size w w1) => weightsOf_any D want _ (nthN n R) h2 w1 (HRH.out.below b1 hh2) (Nat.le_trans hh2 b1.size) hD1 hD (fun t ht => by have:=(HP1.out t ht).1;omega) HP2.out hw;have HCW:Hid (∀ (w1:World),Below w.heap.size w w1 → Calls Tryz.prog 164 #[.int .i64 D,.slice (some ⟨bh,oh,none⟩) D caph,.int .i64 want] w1 fun e w' => ∃ v',e = .returned v' ∧ Own w' w1.heap.size w'.heap.size v' D (weightsN D 0 (nthN n R) want) ∧ Below w1.heap.size w1 w'):=CWf;clear hch HCH CWf
    go_enter Tryz.func147,Tryz.ntmps147
    go_wp2_with fail
    refine CC.mono ?_;rintro e0 w1 ⟨b1,rfl,hb1,B1⟩
    obtain rfl:b1 = false:=by
      cases b1 with
      | false => rfl
      | true => exact absurd (hb1.mp rfl) HIN.out
    have CW:=HCW.out w1 B1;have HB1:Hid (Below w.heap.size w w1):=B1;clear hb1 CC B1 HCW
    go_wp2_with fail
    refine CW.mono ?_;rintro e0 w5 ⟨v5,rfl,o5,b5⟩;obtain ⟨gv,capv,hgv,h51,h52,h53,h54⟩:=o5.form (by omega);subst hgv;have B5:Below w.heap.size w w5:=HB1.out.trans (b5.mono HB1.out.size);have O5:Own w5 w.heap.size w5.heap.size (.slice (some ⟨gv,0,none⟩) D capv) D (weightsN D 0 (nthN n R) want):=o5.weaken HB1.out.size (Nat.le_refl _);clear CW o5 b5 HB1
    go_wp2_with (at_make;refine wp_makeB _ rfl _ _ rfl _ _ 4 rfl rfl rfl rfl (by omega) ?_;intro w6 o6 b6 hz6)
    have B6:Below w.heap.size w w6:=B5.trans (b6.mono B5.size);have O56:=O5.below b6 (Nat.le_refl _);have s5:=B5.size;clear O5 b6 B5
    go_loopw [26] (fun i wr => ∃ k:Nat,k ≤ D ∧ i = .int .i64 k ∧ Own wr w5.heap.size w6.heap.size (.slice (some ⟨w5.heap.size,0,none⟩) 4 4) 4 (mixN (fun t => f (nthN n R t)) (weightsN D 0 (nthN n R) want) k) ∧ Own wr w.heap.size w5.heap.size (.slice (some ⟨gv,0,none⟩) D capv) D (weightsN D 0 (nthN n R) want) ∧ Below w.heap.size w wr ∧ w6.heap.size ≤ wr.heap.size) (fun i _ => D - (intOf i).toNat)
    case atStart => exact ⟨0,Nat.zero_le _,rfl,o6,O56,B6,Nat.le_refl _⟩
    case round =>
      clear o6 O56 B6;obtain ⟨k,hk,rfl,hO,hW,hbel,hsz⟩:=hrel
      by_cases hlt:k < D
      · have c1:wr.cell? ⟨bh,oh + k,none⟩ = some (.int .i64 (nthN n R k:Int)):=(hbel.cell (p:=⟨bh,oh + k,none⟩) hbhw).trans (HCI.out k hlt)
        have q:=HP1.out k hlt;have c2:wr.cell? ⟨b,off + nthN n R k,none⟩ = some (e (nthN n R k)):=(hbel.cell (p:=⟨b,off + nthN n R k,none⟩) hbw).trans (HHC.out _ q.1);have c3:wr.cell? ⟨gv,k,none⟩ = some (.int .u8 (weightsN D 0 (nthN n R) want k)):=(hW.1.cellAt k (by omega)).trans (cellsOf_get _ _ _ hlt);have rk:=(HHE.out _ q.1).below hbel hh;rw [q.2] at rk;obtain ⟨P,hP⟩:∃ P,P = nthN n R k:=⟨_,rfl⟩;have HPP:Hid (P = nthN n R k):=hP;rw [← hP] at c1 c2 q rk;have hPR:P < R:=q.1;obtain ⟨x,hx⟩:∃ x,x = e P:=⟨_,rfl⟩;rw [← hx] at c2 rk;obtain ⟨y,hy⟩:∃ y,y = weightsN D 0 (nthN n R) want k:=⟨_,rfl⟩;rw [← hy] at c3
        have CA:∀ q,Calls Tryz.prog 165 #[.slice (some ⟨w5.heap.size,0,none⟩) 4 4,x,.int .u8 y] (wr.drewN q) fun e w' => e = .returned (.tuple #[]) ∧ Own w' w5.heap.size w6.heap.size (.slice (some ⟨w5.heap.size,0,none⟩) 4 4) 4 (mixN (fun t => f (nthN n R t)) (weightsN D 0 (nthN n R) want) (k + 1)) ∧ Chg w5.heap.size w6.heap.size (wr.drewN q) w':=fun q =>
          addScaled_any _ _ 4 (mixN (fun t => f (nthN n R t)) (weightsN D 0 (nthN n R) want) k) (f P) (mixN (fun t => f (nthN n R t)) (weightsN D 0 (nthN n R) want) (k + 1)) y w5.heap.size w6.heap.size h1 (wr.drewN q) hO hsz rk (Nat.le_trans hh s5) (Nat.le_trans hh hbel.size) (fun i => mixN_lt _ _ (weightsN_lt D 0 (nthN n R) want) k i) (fun i => kf P i) (by rw [hy];exact weightsN_lt D 0 (nthN n R) want k) (fun i _ => by rw [mixN,hy,HPP.out]) (by omega)
        have CA1:=CA 1;obtain ⟨aox,capx,hxs,_,_⟩:=rk;rw [hxs] at c2 CA1;have HO:Hid (Own wr w.heap.size w5.heap.size (.slice (some ⟨gv,0,none⟩) D capv) D (weightsN D 0 (nthN n R) want)):=hW;have HBL:Hid (Below w.heap.size w wr):=hbel
        have hPRi:(P:Int) < (R:Int):=by omega
        clear hO hW hbel hP hx hxs hy CA q;go_wp2
        go_region_with (go_at_call 165;refine CA1.mono ?_;rintro e w7 ⟨rfl,o7,ch7⟩)
        all_goals
          have O7:Own w7 w.heap.size w5.heap.size (.slice (some ⟨gv,0,none⟩) D capv) D (weightsN D 0 (nthN n R) want):=(show Own (wr.drewN 1) w.heap.size w5.heap.size (.slice (some ⟨gv,0,none⟩) D capv) D (weightsN D 0 (nthN n R) want) from HO.out).chg ch7 (.inl (Nat.le_refl _));have B7:Below w.heap.size w w7:=(below_drewN HBL.out 1).trans (ch7.below s5 HBL.out.size);have S7:w6.heap.size ≤ w7.heap.size:=Nat.le_trans hsz ch7.size;clear ch7 HO HBL CA1 c1 c2 c3;go_wp2
          go_roundw
          case rel => exact ⟨k + 1,by omega,by go_num,o7,O7,B7,S7⟩
          case measure => simp [intOf];omega
      · obtain rfl:k = D:=by omega
        have HO9:Hid (Own wr w5.heap.size w6.heap.size (.slice (some ⟨w5.heap.size,0,none⟩) 4 4) 4 (blockN k n R f want)):=hO;clear hO hW;go_wp2;go_ret;exact ⟨_,rfl,HO9.out.weaken s5 hsz,hbel⟩
set_option maxHeartbeats 4000000 in
theorem bytesFrom_any (D:Nat) (v vh:Value) (R:Nat) (n:Nat → Nat) (f:Mat) (h1 h2:Nat) (w:World) (r:RdM w h1 v R n f) (rh:RdI w h2 vh D (fun t => (nthN n R t:Int))) (hh:h1 ≤ w.heap.size) (hh2:h2 ≤ w.heap.size) (hD1:1 ≤ D) (hD:D ≤ 3) (hR:R ≤ D + 2) (hcnt:D ≤ cntN n R) (h4:∀ i,i < R → n i = 0 ∨ n i = 4) (kf:Byt f) :
    Calls Tryz.prog 124 #[.int .i64 D,v,vh] w fun e w' => ∃ v',e = .returned v' ∧ Own w' w.heap.size w'.heap.size v' (4 * D) (decN D n R f) ∧ Below w.heap.size w w':=by
  have CBf:=fun (w1:World) (k:Nat) (hk:k < D) (b1:Below w.heap.size w w1) => blockFrom_any D k v vh R n f h1 h2 w1 (r.below b1 hh) (rh.below b1 hh2) (Nat.le_trans hh b1.size) (Nat.le_trans hh2 b1.size) hD1 hD hR (by omega) hcnt h4 kf;obtain ⟨aoh,caph,rfl,hmh,hch⟩:=rh;obtain ⟨ao,cap,e,rfl,hm,hc,he⟩:=r;have HCB:Hid (∀ (w1:World) (k:Nat),k < D → Below w.heap.size w w1 → Calls Tryz.prog 147 #[.int .i64 D,.slice ao R cap,.slice aoh D caph,.int .i64 k] w1 fun e w' => ∃ v',e = .returned v' ∧ Own w' w1.heap.size w'.heap.size v' 4 (blockN D n R f k) ∧ Below w1.heap.size w1 w'):=CBf;clear CBf hc he hch hm hmh hcnt h4
  have hs4:(D:Int) * 4 = ((4 * D:Nat):Int):=by omega
  obtain ⟨Q,hQ⟩:∃ Q,Q = 4 * D:=⟨_,rfl⟩;rw [← hQ] at hs4
  have hQ12:Q ≤ 12:=by omega
  clear hQ
  go_enter Tryz.func124,Tryz.ntmps124
  go_wp2_with (at_make;refine wp_makeB0 _ rfl _ _ rfl _ Q rfl rfl (by first | omega | simp [hs4]) (by omega) ?_;intro w1 hown1 hb1 hz1)
  have I0:=hown1 (decN D n R f);clear hown1
  go_loopw [7,13] (fun u i wr => ∃ k:Nat,k ≤ D ∧ i = .int .i64 k ∧ Own wr w.heap.size wr.heap.size u (4 * k) (decN D n R f) ∧ Below w.heap.size w wr) (fun _ i _ => D - (intOf i).toNat)
  case atStart => exact ⟨0,Nat.zero_le _,rfl,I0,hb1⟩
  case round =>
    clear I0 hb1 hz1;obtain ⟨k,hk,rfl,hown,hb⟩:=hrel;have HO:Hid (Own wr w.heap.size wr.heap.size u7 (4 * k) (decN D n R f)):=hown;have HB:Hid (Below w.heap.size w wr):=hb;have szr:=hb.size
    by_cases hlt:k < D
    · have C:=HCB.out wr k hlt hb
      clear hown hb
      go_wp2_with fail
      refine C.mono ?_;rintro ee w2 ⟨v2,rfl,o2,b2'⟩;have B2:Below w.heap.size w w2:=HB.out.trans (b2'.mono szr);have s2:=b2'.size;have HO2:Hid (Own w2 w.heap.size wr.heap.size u7 (4 * k) (decN D n R f)):=HO.out.below b2' (Nat.le_refl _);obtain ⟨ao2,cap2,rfl⟩:=o2.slice;have HO3:Hid (Own w2 wr.heap.size w2.heap.size (.slice ao2 4 cap2) 4 (blockN D n R f k)):=o2
      have hm4:4 * k + 4 ≤ 1000000:=by omega
      have sw2:w.heap.size ≤ w2.heap.size:=by omega
      clear C b2' o2
      go_wp2_with (at_builtin;refine wp_appendX rfl (.tmp 16) (.tmp 21) rfl w.heap.size wr.heap.size u7 (4 * k) (decN D n R f) ?_ HO2.out w2.heap.size (.slice ao2 4 cap2) 4 (blockN D n R f k) ?_ HO3.out.rd (by omega) (fun i hi => decN_at D n R f k i hi) hm4 sw2 ?_;(simp [Act.eval]);(simp [Act.eval]);intro v5 w5 o5 g5)
      have R5:Below w.heap.size w w5:=B2.grown g5 sw2 (fun q hq => (HO2.out.1.lt q hq).1)
      have e4:4 * k + 4 = 4 * (k + 1):=by omega
      rw [e4] at o5;clear g5 HO2 HO3 HO HB;go_wp2
      go_roundw
      case rel => exact ⟨k + 1,by omega,by go_num,o5,R5⟩
      case measure => simp [intOf];omega
    · obtain rfl:k = D:=by omega
      go_wp2;go_ret;exact ⟨_,rfl,hown,hb⟩
end Go.Proofs.YtaioliojijikaaaGreat
namespace Go.Proofs.YtaioliojijikaaaGreat
open Go.RowKit F256
theorem not_there {R:Nat} {n:Nat → Nat} {N:Int} (h:¬ ThereP R n N):(R:Int) ≠ N ∨ ∃ i,i < R ∧ n i ≠ 0 ∧ n i ≠ 4:=by
  by_cases c:(R:Int) = N
  · right
    refine Classical.byContradiction fun hh => h ⟨c,fun i hi => ?_⟩
    by_cases c0:n i = 0
    · exact .inl c0
    · by_cases c4:n i = 4
      · exact .inr c4
      · exact absurd ⟨i,hi,c0,c4⟩ hh
  · exact .inl c
set_option maxHeartbeats 4000000 in
theorem implDecode_rd (d s:Int) (v:Value) (R:Nat) (n:Nat → Nat) (f:Mat) (h1:Nat) (w:World) (r:RdM w h1 v R n f) (hh:h1 ≤ w.heap.size) (kf:Byt f) :
    Calls Tryz.prog 84 #[.int .i64 d,.int .i64 s,v] w fun ee w' => ∃ x v',ee = .returned (bytesR x v') ∧ DecAns d s R n x ∧ Own w' w.heap.size w'.heap.size v' (if x = 0 then 4 * d.toNat else 0) (decN d.toNat n R f) ∧ Below w.heap.size w w':=by
  have HR:Hid (RdM w h1 v R n f):=r;obtain ⟨ao,cap,e,rfl,hm,hc,he⟩:=r;clear hm hc he
  go_enter Tryz.func84,Tryz.ntmps84
  go_wp2_with fail
  refine (rowInBounds_any d s _).mono ?_;rintro e0 w1 ⟨b1,rfl,hb1,b1'⟩;have HS:Hid (b1 = true ↔ Shp d s):=hb1;have B1:Below w.heap.size w w1:=bnew b1';have X1:Box w1 w.heap.size #[.int .i64 0,.slice none 0 0] 32:=(box_new w _ _).below b1' (by simp);have z1:w.heap.size < w1.heap.size:=X1.lt;obtain ⟨x0,x1,y0,y1⟩:=res_cells X1;clear hb1 b1'
  cases b1 with
  | false =>
    have HNO:Hid (¬ Shp d s):=fun h => by have:=HS.out.mpr h;cases this
    clear HS;go_wp2;exact bodyPost_ret (v:=bytesR 3 (.slice none 0 0)) (by simp [results,Tryz.results84,go_sem,bytesR,x0,x1]) rfl ⟨3,_,rfl,.inl ⟨.inl ⟨rfl,HNO.out⟩,by omega⟩,own_nil _ _ _ _,(B1.setCell (Nat.le_refl _) _).setCell (Nat.le_refl _) _⟩
  | true =>
    have hsh:=HS.out.mp rfl;have HSH:Hid (Shp d s):=hsh;obtain ⟨q1,q2,q3,q4⟩:=hsh;obtain ⟨D,rfl⟩:∃ D:Nat,d = D:=⟨d.toNat,by omega⟩;obtain ⟨S,rfl⟩:∃ S:Nat,s = S:=⟨s.toNat,by omega⟩;have CT:=thereOrNot_any (.slice ao R cap) R n f h1 ((D:Int) + (S:Int)) w1 (HR.out.below B1 hh);clear HS
    go_wp2_with fail
    refine CT.mono ?_;rintro e0 w2 ⟨b2,rfl,hb2,b2'⟩;have HT:Hid (b2 = true ↔ ThereP R n ((D:Int) + (S:Int))):=hb2;have B2:Below w.heap.size w w2:=B1.trans (b2'.mono B1.size);have X2:Box w2 w.heap.size #[.int .i64 0,.slice none 0 0] 32:=X1.below b2' z1;have z2:w.heap.size < w2.heap.size:=X2.lt;clear x0 x1 y0 y1;obtain ⟨x0,x1,y0,y1⟩:=res_cells X2;clear hb2 b2' X1 B1 z1 CT
    cases b2 with
    | false =>
      have HNO:Hid ((R:Int) ≠ (D:Int) + (S:Int) ∨ ∃ i,i < R ∧ n i ≠ 0 ∧ n i ≠ 4):=not_there fun h => by have:=HT.out.mpr h;cases this
      clear HT;go_wp2;exact bodyPost_ret (v:=bytesR 1 (.slice none 0 0)) (by simp [results,Tryz.results84,go_sem,bytesR,x0,x1]) rfl ⟨1,_,rfl,.inl ⟨.inr (.inl ⟨rfl,HSH.out,HNO.out⟩),by omega⟩,own_nil _ _ _ _,(B2.setCell (Nat.le_refl _) _).setCell (Nat.le_refl _) _⟩
    | true =>
      have HTH:Hid (ThereP R n ((D:Int) + (S:Int))):=HT.out.mp rfl;have HASK:Hid (AskP (D:Int) (S:Int) R n 0):=.inr (.inr ⟨rfl,HSH.out,HTH.out.1,HTH.out.2⟩);have CF:=firstThere_any D (.slice ao R cap) R n f h1 w2 (HR.out.below B2 hh) (Nat.le_trans hh B2.size) (by omega);clear HT x0 x1 y0 y1
      go_wp2_with fail
      refine CF.mono ?_;rintro e0 w3 ⟨v3,rfl,o3,b3'⟩;have B3:Below w.heap.size w w3:=B2.trans (b3'.mono B2.size);have X3:Box w3 w.heap.size #[.int .i64 0,.slice none 0 0] 32:=X2.below b3' z2;have z3:w.heap.size < w3.heap.size:=X3.lt;obtain ⟨x0,x1,y0,y1⟩:=res_cells X3;clear b3' X2 B2 z2 CF
      by_cases hcnt:D ≤ cntN n R
      · have HCN:Hid (D ≤ cntN n R):=hcnt
        rw [pickN_all hcnt] at o3;obtain ⟨ao3,cap3,rfl⟩:=o3.slice;have CB:=bytesFrom_any D (.slice ao R cap) (.slice ao3 D cap3) R n f h1 w3.heap.size w3 (HR.out.below B3 hh) o3.rd (Nat.le_trans hh B3.size) (Nat.le_refl _) (by omega) (by omega) (by have:=HTH.out.1;omega) hcnt HTH.out.2 kf;clear o3 hcnt x0 x1 y0 y1
        go_wp2_with fail
        refine CB.mono ?_;rintro e0 w4 ⟨v4,rfl,o4,b4⟩;obtain ⟨ao4,cap4,rfl⟩:=o4.slice;have HO:Hid (Own w4 w3.heap.size w4.heap.size (.slice ao4 (4 * D) cap4) (4 * D) (decN D n R f)):=o4;have B4:Below w.heap.size w w4:=B3.trans (b4.mono (by omega));have X4:Box w4 w.heap.size #[.int .i64 0,.slice none 0 0] 32:=X3.below b4 z3;have z4:=X4.lt;obtain ⟨x0,x1,y0,y1⟩:=res_cells X4;clear o4 b4 CB X4 X3;go_wp2;refine bodyPost_ret (v:=bytesR 0 (.slice ao4 (4 * D) cap4)) (by simp [results,Tryz.results84,go_sem,bytesR,x0,x1]) rfl ⟨0,_,rfl,.inr (.inr ⟨HASK.out,by rw [Int.toNat_natCast];exact HCN.out,rfl⟩),?_,(B4.setCell (Nat.le_refl _) _).setCell (Nat.le_refl _) _⟩;have o1:=out_store w4 w.heap.size (w.heap.size + 1) w.heap.size 0 (.int .i64 0) (Nat.le_refl _) (by omega);have o2:=out_store (w4.setCell ⟨w.heap.size,0,none⟩ (.int .i64 0)) w.heap.size (w.heap.size + 1) w.heap.size 1 (.slice ao4 (4 * D) cap4) (Nat.le_refl _) (by omega)
        simp only [if_pos]
        rw [Int.toNat_natCast];exact (HO.out.out (o1.trans o2) (.inr (by omega))).weaken (by omega) (by rw [(o1.trans o2).size];exact Nat.le_refl _)
      · have HNC:Hid (¬ D ≤ cntN n R):=hcnt
        have hpf:=pickN_few hcnt;obtain ⟨c,hc⟩:∃ c,c = pickN D n R:=⟨_,rfl⟩;rw [← hc] at o3 hpf;obtain ⟨ao3,cap3,rfl⟩:=o3.slice
        have hci:(c:Int) < (D:Int):=by omega
        clear o3 hcnt hc;go_wp2;exact bodyPost_ret (v:=bytesR 10 (.slice none 0 0)) (by simp [results,Tryz.results84,go_sem,bytesR,x0,x1]) rfl ⟨10,_,rfl,.inr (.inl ⟨HASK.out,by rw [Int.toNat_natCast];exact HNC.out,rfl⟩),own_nil _ _ _ _,(B3.setCell (Nat.le_refl _) _).setCell (Nat.le_refl _) _⟩
end Go.Proofs.YtaioliojijikaaaGreat
namespace Go.Proofs.YtaioliojijikaaaGreat
open Go.RowKit F256
theorem el_Bytes:ElInfo layBytes 86 30 24 [.slice none 0 0]:=⟨by decide,rfl,Tryz.underlying86,by kernel_rfl,by decide⟩
theorem rd_nilB (w:World) (hi:Nat):layBytes.rd w hi (0,fun _ => 0) [.slice none 0 0]:=⟨_,rfl,⟨none,0,rfl,Nat.zero_le _,fun h => absurd rfl h⟩,fun _ => Nat.zero_lt_succ _⟩
theorem View.rdM {w:World} {lo hi n:Nat} {v:Value} {x:Nat → Nat × (Nat → Nat)} {ce:Nat → List Value} (h:View layBytes 30 w lo hi v n x ce) (hh:hi ≤ w.heap.size):RdM w w.heap.size v n (fun i => (x i).1) (fun i => (x i).2):=by
  obtain ⟨ao,cap,rfl⟩:=h.form
  have hce:∀ i,i < n → ∃ u,ce i = [u] ∧ Rd w hi u (x i).1 (x i).2:=fun i hi => by
    obtain ⟨u,h1,h2,_⟩:=h.each i hi;exact ⟨u,h1,h2⟩
  refine ⟨ao,cap,fun i => (ce i).headD (.int .i64 0),rfl,h.len,fun h0 => ?_,fun i hi => ?_⟩
  · obtain ⟨g,cap',e⟩:=h.form0 h0
    cases e
    refine ⟨g,0,rfl,(h.row.lt g (by simp [Value.ownBlock])).2,fun i hi => ?_⟩;obtain ⟨u,h1,_⟩:=hce i hi;have:=h.cell hi (j:=0) (by decide)
    show w.cell? ⟨g,0 + i,none⟩ = some ((ce i).headD (.int .i64 0))
    rw [h1] at this ⊢;rw [show 0 + i = i * layBytes.sz + 0 by show 0 + i = i * 1 + 0;omega];exact this
  · obtain ⟨u,h1,h2⟩:=hce i hi
    show Rd w w.heap.size ((ce i).headD (.int .i64 0)) _ _
    rw [h1];exact h2.mono hh
def rowX (x:Nat → DriveD) (n R:Nat):Nat → Nat × (Nat → Nat):=fun i => if i < n ∧ (x i).wiped = false then ((x i).blocks.2 R).bytes else (0,fun _ => 0)
def rowK (x:Nat → DriveD) (n R k:Nat):Nat → Nat × (Nat → Nat):=fun i => if i < k then rowX x n R i else (0,fun _ => 0)
def rowN (x:Nat → DriveD) (n R:Nat):Nat → Nat:=fun i => (rowX x n R i).1
def rowM (x:Nat → DriveD) (n R:Nat):Mat:=fun i => (rowX x n R i).2
theorem rowX_wiped {x:Nat → DriveD} {n R i:Nat} (h:(x i).wiped = true):rowX x n R i = (0,fun _ => 0):=if_neg (fun hh => by rw [h] at hh;cases hh.2)
theorem rowX_there {x:Nat → DriveD} {n R i:Nat} (hi:i < n) (h:(x i).wiped = false):rowX x n R i = ((x i).blocks.2 R).bytes:=if_pos ⟨hi,h⟩
theorem rowK_skip {x:Nat → DriveD} {n R k:Nat} (h:(x k).wiped = true) (i:Nat):rowK x n R k i = rowK x n R (k + 1) i:=by
  unfold rowK
  by_cases c:i < k
  · rw [if_pos c,if_pos (by omega)]
  · rw [if_neg c]
    by_cases c2:i = k
    · subst c2;rw [if_pos (by omega),rowX_wiped h]
    · rw [if_neg (by omega)]
theorem rowK_next {x:Nat → DriveD} {n R k:Nat} (i:Nat):upd (rowK x n R k) k (rowX x n R k) i = rowK x n R (k + 1) i:=by
  unfold rowK
  by_cases c2:i = k
  · subst c2;rw [upd_at,if_pos (by omega)]
  · rw [upd_ne _ _ c2]
    by_cases c:i < k
    · rw [if_pos c,if_pos (by omega)]
    · rw [if_neg c,if_neg (by omega)]
theorem rowK_cat {x:Nat → DriveD} {n R k:Nat} {y:Nat → Nat × (Nat → Nat)} (hy:y 0 = rowX x n R k) (i:Nat) (hi:i < k + 1):cat2 (rowX x n R) k y i = rowX x n R i:=by
  by_cases c:i < k
  · exact cat2_lt _ _ c
  · obtain rfl:i = k:=by omega
    rw [show cat2 (rowX x n R) i y i = y 0 from cat2_ge (rowX x n R) i y 0,hy]
theorem rowK_all {x:Nat → DriveD} {n R:Nat} (i:Nat) (hi:i < n):rowK x n R n i = rowX x n R i:=if_pos hi
theorem rowN_cnt {x:Nat → DriveD} {n R:Nat} (h4:∀ i,i < n → ((x i).blocks.2 R).bytes.1 = 4):∀ k,k ≤ n → cntN (rowN x n R) k + wipedN x k = k
  | 0,_ => rfl
  | k + 1,hk => by
    have ih:=rowN_cnt (x:=x) (n:=n) (R:=R) h4 k (by omega)
    show (if rowN x n R k = 0 then cntN (rowN x n R) k else cntN (rowN x n R) k + 1) + (wipedN x k + (if (x k).wiped = true then 1 else 0)) = k + 1
    cases hw:(x k).wiped with
    | true =>
      rw [if_pos (show rowN x n R k = 0 by unfold rowN;rw [rowX_wiped hw])]
      simp
      omega
    | false =>
      rw [if_neg (show rowN x n R k ≠ 0 by unfold rowN;rw [rowX_there (by omega) hw,h4 k (by omega)];decide)]
      simp
      omega
theorem rowN_four {x:Nat → DriveD} {n R:Nat} (h4:∀ i,i < n → ((x i).blocks.2 R).bytes.1 = 4) (i:Nat) (hi:i < n):rowN x n R i = 0 ∨ rowN x n R i = 4:=by
  unfold rowN
  cases hw:(x i).wiped with
  | true => rw [rowX_wiped hw];exact .inl rfl
  | false => rw [rowX_there hi hw];exact .inr (h4 i hi)
theorem rowM_byt {w:World} {hi:Nat} {d:WorldD} {cs:List Value} (h:layWorld.rd w hi d cs) {G R:Nat} (hG:G < d.groups.1) (hR:∀ k,k < (d.groups.2 G).1 → R < ((d.groups.2 G).2 k).blocks.1):Byt (rowM (d.groups.2 G).2 (d.groups.2 G).1 R):=fun i j => by
  unfold rowM
  by_cases c:i < (d.groups.2 G).1 ∧ ((d.groups.2 G).2 i).wiped = false
  · rw [rowX_there c.1 c.2]
    obtain ⟨ao1,cap1,ao2,cap2,ao3,cap3,rfl,g1,_⟩:=World_rd h;obtain ⟨_,_,e1,hm1,hc1⟩:=g1;obtain ⟨b1,off1,he1,hb1,hel1⟩:=hc1 (by omega);obtain ⟨cg,hrg,hcg⟩:=hel1 G hG;obtain ⟨_,_,e9,hm9,hc9⟩:=hrg;obtain ⟨b,off,_,hblt,hcell⟩:=hc9 (by omega);obtain ⟨cd,hrd,hcd⟩:=hcell i c.1;obtain ⟨ao5,cap5,rfl,g5⟩:=Drive_rd hrd;obtain ⟨_,_,e5,hm5,hc5⟩:=g5;have hRi:=hR i c.1;obtain ⟨b5,off5,he5,hb5,hel5⟩:=hc5 (by omega);obtain ⟨cb,hrb,hcb⟩:=hel5 R hRi;obtain ⟨ao0,cap0,rfl,hrr,-⟩:=Block_rd hrb;obtain ⟨v,_,_,hk⟩:=hrr;exact hk j
  · unfold rowX
    rw [if_neg c];exact Nat.zero_lt_succ _
theorem not_dead {d:WorldD} {G R:Nat} {D S:Nat} (hD:d.shape 2 = (D:Int)) (hS:d.shape 3 = (S:Int)) (hn:(d.groups.2 G).1 = D + S) (h4:∀ i,i < (d.groups.2 G).1 → (((d.groups.2 G).2 i).blocks.2 R).bytes.1 = 4):¬ DeadP d G ↔ D ≤ cntN (rowN (d.groups.2 G).2 (d.groups.2 G).1 R) (d.groups.2 G).1:=by
  have:=rowN_cnt (R:=R) h4 _ (Nat.le_refl _);unfold DeadP;rw [hS];omega
def rowB (d:WorldD) (G R:Nat):Nat → Nat:=decN (d.shape 2).toNat (rowN (d.groups.2 G).2 (d.groups.2 G).1 R) (d.groups.2 G).1 (rowM (d.groups.2 G).2 (d.groups.2 G).1 R)
theorem row_facts {d:WorldD} (h:OkWorld d) {G:Nat} (hG:G < d.groups.1):∃ D S:Nat,d.shape 2 = (D:Int) ∧ d.shape 3 = (S:Int) ∧ (d.groups.2 G).1 = D + S ∧ 1 ≤ D ∧ D ≤ 3 ∧ S ≤ 2 ∧ ∀ R,(∀ k,k < (d.groups.2 G).1 → R < ((d.groups.2 G).2 k).blocks.1) → ∀ i,i < (d.groups.2 G).1 → (((d.groups.2 G).2 i).blocks.2 R).bytes.1 = 4:=by
  obtain ⟨_,q,_⟩:=h.shape;unfold Shp at q;have h2:=h.form.1.2 G hG;refine ⟨(d.shape 2).toNat,(d.shape 3).toNat,by omega,by omega,by have:=h2.1;omega,by omega,by omega,by omega,fun R hR i hi => ((h2.2 i hi).2 R (hR i hi)).2⟩
set_option maxHeartbeats 8000000 in
set_option maxRecDepth 20000 in
theorem bytesInRow_any (d:WorldD) (cs:List Value) (hi:Nat) (G R:Nat) (w:World) (h:layWorld.rd w hi d cs) (hhi:hi ≤ w.heap.size) (hG:G < d.groups.1) (hR:∀ k,k < (d.groups.2 G).1 → R < ((d.groups.2 G).2 k).blocks.1) (hok:OkWorld d) (hnd:¬ DeadP d G) :
    Calls Tryz.prog 54 #[.agg cs.toArray,.int .i64 (G:Int),.int .i64 (R:Int)] w fun e w' => ∃ v,e = .returned v ∧ Own w' w.heap.size w'.heap.size v (4 * (d.shape 2).toNat) (rowB d G R) ∧ Below w.heap.size w w':=by
  have kf:=rowM_byt h hG hR;obtain ⟨D,S,hD,hS,hn,d1,d2,s2,h4'⟩:=row_facts hok hG;have h4:=h4' R hR;have hcnt:=(not_dead (R:=R) hD hS hn h4).1 hnd;have HFour:Hid (∀ i,i < (d.groups.2 G).1 → rowN (d.groups.2 G).2 (d.groups.2 G).1 R i = 0 ∨ rowN (d.groups.2 G).2 (d.groups.2 G).1 R i = 4):=rowN_four h4;have HCNT:Hid (D ≤ cntN (rowN (d.groups.2 G).2 (d.groups.2 G).1 R) (d.groups.2 G).1):=hcnt;have HKF:Hid (Byt (rowM (d.groups.2 G).2 (d.groups.2 G).1 R)):=kf;have HD:Hid (d.shape 2 = (D:Int)):=hD;have HS:Hid (d.shape 3 = (S:Int)):=hS;have HN:Hid ((d.groups.2 G).1 = D + S):=hn
  have hn6:(d.groups.2 G).1 ≤ 6:=by omega
  have HOK:Hid (OkWorld d):=hok;clear h4 h4' hcnt hnd kf hD hS hn hok;obtain ⟨ao1,cap1,ao2,cap2,ao3,cap3,rfl,g1,g2,g3,k0,k4,k5⟩:=World_rd h;obtain ⟨_,_,e1,hm1,hc1⟩:=g1
  cases e1
  obtain ⟨b1,off1,he1,hb1,hel1⟩:=hc1 (by omega);subst he1;obtain ⟨cg,hrg,hcg⟩:=hel1 G hG;obtain ⟨ao9,cap9,rfl⟩:=sl_form hrg
  have c0:w.cell? ⟨b1,off1 + G,none⟩ = some (.slice ao9 (d.groups.2 G).1 cap9):=by
    have:=hcg 0 (by decide)
    have e:off1 + (G * (layDrive.slice 116).sz + 0) = off1 + G:=by show off1 + (G * 1 + 0) = off1 + G;omega
    rw [e] at this;exact this
  obtain ⟨_,_,e9,hm9,hc9⟩:=hrg
  cases e9
  unfold maxLen at hm9
  have i1:(0:Int) ≤ (G:Int):=by omega
  have i2:(G:Int) < (d.groups.1:Int):=by omega
  clear g2 g3 k0 k4 k5 hcg hel1 hc1 hm1;have T0:=one_new w #[.int .i64 (d.shape 0),.int .i64 (d.shape 1),.int .i64 (d.shape 2),.int .i64 (d.shape 3),.int .i64 (d.shape 4),.int .i64 (d.shape 5),.int .i64 (d.shape 6),.int .i64 (d.shape 7),.int .i64 (d.shape 8),.slice (some ⟨b1,off1,none⟩) d.groups.1 cap1,.slice ao2 d.on.1 cap2,.slice ao3 d.tapes.1 cap3,.int .i64 d.writes,.int .i64 d.stop,.bool d.down] 38;have c0':=(T0.bel.cell (p:=⟨b1,off1 + G,none⟩) (by show b1 < w.heap.size;omega)).trans c0;have x_0:(w.alloc (.cells #[.int .i64 (d.shape 0),.int .i64 (d.shape 1),.int .i64 (d.shape 2),.int .i64 (d.shape 3),.int .i64 (d.shape 4),.int .i64 (d.shape 5),.int .i64 (d.shape 6),.int .i64 (d.shape 7),.int .i64 (d.shape 8),.slice (some ⟨b1,off1,none⟩) d.groups.1 cap1,.slice ao2 d.on.1 cap2,.slice ao3 d.tapes.1 cap3,.int .i64 d.writes,.int .i64 d.stop,.bool d.down] 38)).cell? ⟨w.heap.size,0,none⟩ = some (.int .i64 (d.shape 0)):=T0.b1.cell 0;have x_1:(w.alloc (.cells #[.int .i64 (d.shape 0),.int .i64 (d.shape 1),.int .i64 (d.shape 2),.int .i64 (d.shape 3),.int .i64 (d.shape 4),.int .i64 (d.shape 5),.int .i64 (d.shape 6),.int .i64 (d.shape 7),.int .i64 (d.shape 8),.slice (some ⟨b1,off1,none⟩) d.groups.1 cap1,.slice ao2 d.on.1 cap2,.slice ao3 d.tapes.1 cap3,.int .i64 d.writes,.int .i64 d.stop,.bool d.down] 38)).cell? ⟨w.heap.size,1,none⟩ = some (.int .i64 (d.shape 1)):=T0.b1.cell 1;have x_2:(w.alloc (.cells #[.int .i64 (d.shape 0),.int .i64 (d.shape 1),.int .i64 (d.shape 2),.int .i64 (d.shape 3),.int .i64 (d.shape 4),.int .i64 (d.shape 5),.int .i64 (d.shape 6),.int .i64 (d.shape 7),.int .i64 (d.shape 8),.slice (some ⟨b1,off1,none⟩) d.groups.1 cap1,.slice ao2 d.on.1 cap2,.slice ao3 d.tapes.1 cap3,.int .i64 d.writes,.int .i64 d.stop,.bool d.down] 38)).cell? ⟨w.heap.size,2,none⟩ = some (.int .i64 (d.shape 2)):=T0.b1.cell 2;have x_3:(w.alloc (.cells #[.int .i64 (d.shape 0),.int .i64 (d.shape 1),.int .i64 (d.shape 2),.int .i64 (d.shape 3),.int .i64 (d.shape 4),.int .i64 (d.shape 5),.int .i64 (d.shape 6),.int .i64 (d.shape 7),.int .i64 (d.shape 8),.slice (some ⟨b1,off1,none⟩) d.groups.1 cap1,.slice ao2 d.on.1 cap2,.slice ao3 d.tapes.1 cap3,.int .i64 d.writes,.int .i64 d.stop,.bool d.down] 38)).cell? ⟨w.heap.size,3,none⟩ = some (.int .i64 (d.shape 3)):=T0.b1.cell 3;have x_4:(w.alloc (.cells #[.int .i64 (d.shape 0),.int .i64 (d.shape 1),.int .i64 (d.shape 2),.int .i64 (d.shape 3),.int .i64 (d.shape 4),.int .i64 (d.shape 5),.int .i64 (d.shape 6),.int .i64 (d.shape 7),.int .i64 (d.shape 8),.slice (some ⟨b1,off1,none⟩) d.groups.1 cap1,.slice ao2 d.on.1 cap2,.slice ao3 d.tapes.1 cap3,.int .i64 d.writes,.int .i64 d.stop,.bool d.down] 38)).cell? ⟨w.heap.size,4,none⟩ = some (.int .i64 (d.shape 4)):=T0.b1.cell 4;have x_5:(w.alloc (.cells #[.int .i64 (d.shape 0),.int .i64 (d.shape 1),.int .i64 (d.shape 2),.int .i64 (d.shape 3),.int .i64 (d.shape 4),.int .i64 (d.shape 5),.int .i64 (d.shape 6),.int .i64 (d.shape 7),.int .i64 (d.shape 8),.slice (some ⟨b1,off1,none⟩) d.groups.1 cap1,.slice ao2 d.on.1 cap2,.slice ao3 d.tapes.1 cap3,.int .i64 d.writes,.int .i64 d.stop,.bool d.down] 38)).cell? ⟨w.heap.size,5,none⟩ = some (.int .i64 (d.shape 5)):=T0.b1.cell 5
  have x_6:(w.alloc (.cells #[.int .i64 (d.shape 0),.int .i64 (d.shape 1),.int .i64 (d.shape 2),.int .i64 (d.shape 3),.int .i64 (d.shape 4),.int .i64 (d.shape 5),.int .i64 (d.shape 6),.int .i64 (d.shape 7),.int .i64 (d.shape 8),.slice (some ⟨b1,off1,none⟩) d.groups.1 cap1,.slice ao2 d.on.1 cap2,.slice ao3 d.tapes.1 cap3,.int .i64 d.writes,.int .i64 d.stop,.bool d.down] 38)).cell? ⟨w.heap.size,6,none⟩ = some (.int .i64 (d.shape 6)):=T0.b1.cell 6;have x_7:(w.alloc (.cells #[.int .i64 (d.shape 0),.int .i64 (d.shape 1),.int .i64 (d.shape 2),.int .i64 (d.shape 3),.int .i64 (d.shape 4),.int .i64 (d.shape 5),.int .i64 (d.shape 6),.int .i64 (d.shape 7),.int .i64 (d.shape 8),.slice (some ⟨b1,off1,none⟩) d.groups.1 cap1,.slice ao2 d.on.1 cap2,.slice ao3 d.tapes.1 cap3,.int .i64 d.writes,.int .i64 d.stop,.bool d.down] 38)).cell? ⟨w.heap.size,7,none⟩ = some (.int .i64 (d.shape 7)):=T0.b1.cell 7;have x_8:(w.alloc (.cells #[.int .i64 (d.shape 0),.int .i64 (d.shape 1),.int .i64 (d.shape 2),.int .i64 (d.shape 3),.int .i64 (d.shape 4),.int .i64 (d.shape 5),.int .i64 (d.shape 6),.int .i64 (d.shape 7),.int .i64 (d.shape 8),.slice (some ⟨b1,off1,none⟩) d.groups.1 cap1,.slice ao2 d.on.1 cap2,.slice ao3 d.tapes.1 cap3,.int .i64 d.writes,.int .i64 d.stop,.bool d.down] 38)).cell? ⟨w.heap.size,8,none⟩ = some (.int .i64 (d.shape 8)):=T0.b1.cell 8;have CG:=driveCount_any d.shape HOK.out.shape (w.alloc (.cells #[.int .i64 (d.shape 0),.int .i64 (d.shape 1),.int .i64 (d.shape 2),.int .i64 (d.shape 3),.int .i64 (d.shape 4),.int .i64 (d.shape 5),.int .i64 (d.shape 6),.int .i64 (d.shape 7),.int .i64 (d.shape 8),.slice (some ⟨b1,off1,none⟩) d.groups.1 cap1,.slice ao2 d.on.1 cap2,.slice ao3 d.tapes.1 cap3,.int .i64 d.writes,.int .i64 d.stop,.bool d.down] 38));rw [show d.shape 2 + d.shape 3 = ((d.groups.2 G).1:Int) by rw [HD.out,HS.out,HN.out];omega] at CG;unfold shapeV at CG
  go_enter Tryz.func54,Tryz.ntmps54
  go_wp2_with fail
  refine CG.mono ?_;rintro e w1 ⟨rfl,q1⟩;have T1:=T0.call q1;have zw1:w.heap.size < w1.heap.size:=T1.b1.lt;clear CG T0 q1 c0' x_0 x_1 x_2 x_3 x_4 x_5 x_6 x_7 x_8;obtain ⟨w2,hrun,hP,bm⟩:=run_makeT el_Bytes (fun _ => (0,fun _ => 0)) (fun _ => []) w1 (d.groups.2 G).1 (by omega);have T2:=T1.call bm;have V2:View layBytes 30 w2 w1.heap.size hi (.slice (some ⟨w1.heap.size,0,none⟩) (d.groups.2 G).1 (d.groups.2 G).1) (d.groups.2 G).1 (rowK (d.groups.2 G).2 (d.groups.2 G).1 R 0) (fun _ => [.slice none 0 0]):=⟨hP.row,fun i hi => by unfold rowK;rw [if_neg (by omega)];exact rd_nilB _ _⟩;have x9:=T2.b1.cell 9;have c0':=(T2.bel.cell (p:=⟨b1,off1 + G,none⟩) (by show b1 < w.heap.size;omega)).trans c0;have zw2:w1.heap.size < w2.heap.size:=hP.lt;clear hP bm T1;go_wp2
  go_loopw [20] (fun i wr => ∃ (k:Nat) (ce:Nat → List Value),k ≤ (d.groups.2 G).1 ∧ i = .int .i64 k ∧ View layBytes 30 wr w1.heap.size hi (.slice (some ⟨w1.heap.size,0,none⟩) (d.groups.2 G).1 (d.groups.2 G).1) (d.groups.2 G).1 (rowK (d.groups.2 G).2 (d.groups.2 G).1 R k) ce ∧ One w wr #[.int .i64 (d.shape 0),.int .i64 (d.shape 1),.int .i64 (d.shape 2),.int .i64 (d.shape 3),.int .i64 (d.shape 4),.int .i64 (d.shape 5),.int .i64 (d.shape 6),.int .i64 (d.shape 7),.int .i64 (d.shape 8),.slice (some ⟨b1,off1,none⟩) d.groups.1 cap1,.slice ao2 d.on.1 cap2,.slice ao3 d.tapes.1 cap3,.int .i64 d.writes,.int .i64 d.stop,.bool d.down] 38) (fun i _ => (d.groups.2 G).1 - (intOf i).toNat)
  case atStart => exact ⟨0,_,Nat.zero_le _,rfl,V2,T2⟩
  case round =>
    clear T2 V2 x9 c0' hrun;obtain ⟨k,ce,hk,rfl,V,T⟩:=hrel;have HT:Hid (One w wr #[.int .i64 (d.shape 0),.int .i64 (d.shape 1),.int .i64 (d.shape 2),.int .i64 (d.shape 3),.int .i64 (d.shape 4),.int .i64 (d.shape 5),.int .i64 (d.shape 6),.int .i64 (d.shape 7),.int .i64 (d.shape 8),.slice (some ⟨b1,off1,none⟩) d.groups.1 cap1,.slice ao2 d.on.1 cap2,.slice ao3 d.tapes.1 cap3,.int .i64 d.writes,.int .i64 d.stop,.bool d.down] 38):=T;have HV:Hid (View layBytes 30 wr w1.heap.size hi (.slice (some ⟨w1.heap.size,0,none⟩) (d.groups.2 G).1 (d.groups.2 G).1) (d.groups.2 G).1 (rowK (d.groups.2 G).2 (d.groups.2 G).1 R k) ce):=V;have zr:w1.heap.size < wr.heap.size:=(V.row.lt w1.heap.size rfl).2
    by_cases hlt:k < (d.groups.2 G).1
    · have t1:(k:Int) < ((d.groups.2 G).1:Int):=by omega
      have HLT:Hid (k < (d.groups.2 G).1):=hlt;obtain ⟨b,off,rfl,hblt,hcell⟩:=hc9 (by omega);obtain ⟨cd,hrd,hcd⟩:=hcell k hlt;obtain ⟨ao5,cap5,rfl,g5⟩:=Drive_rd hrd;have hRk:R < ((d.groups.2 G).2 k).blocks.1:=hR k hlt;obtain ⟨_,_,e5,hm5,hc5⟩:=g5
      cases e5
      obtain ⟨b5,off5,he5,hb5,hel5⟩:=hc5 (by omega);subst he5;obtain ⟨cb,hrb,hcb⟩:=hel5 R hRk;obtain ⟨ao0,cap0,rfl,hrB,-⟩:=Block_rd hrb;have c2:wr.cell? ⟨b,off + k * 2,none⟩ = some (.bool ((d.groups.2 G).2 k).wiped):=(T.bel.cell (p:=⟨b,off + k * 2,none⟩) (by show b < w.heap.size;omega)).trans (hcd 0 (by decide));have c3:wr.cell? ⟨b,off + k * 2 + 1,none⟩ = some (.slice (some ⟨b5,off5,none⟩) ((d.groups.2 G).2 k).blocks.1 cap5):=(T.bel.cell (p:=⟨b,off + k * 2 + 1,none⟩) (by show b < w.heap.size;omega)).trans (hcd 1 (by decide));have c4:wr.cell? ⟨b5,off5 + R * 2 + 1,none⟩ = some (.slice ao0 (((d.groups.2 G).2 k).blocks.2 R).bytes.1 cap0):=(T.bel.cell (p:=⟨b5,off5 + R * 2 + 1,none⟩) (by show b5 < w.heap.size;omega)).trans (hcb 1 (by decide));obtain ⟨D9,hD9⟩:∃ D,D = (d.groups.2 G).2 k:=⟨_,rfl⟩;have HD9:Hid (D9 = (d.groups.2 G).2 k):=hD9;rw [← hD9] at c2 c3 c4 hRk hrB;obtain ⟨y,hy⟩:∃ y,y = (D9.blocks.2 R).bytes.1:=⟨_,rfl⟩;have HY:Hid (y = (D9.blocks.2 R).bytes.1):=hy
      have HRB:Hid (layBytes.rd w hi (D9.blocks.2 R).bytes [.slice ao0 y cap0]):=by rw [hy];exact hrB
      rw [← hy] at c4;have bA:Below wr.heap.size wr (wr.alloc (.cells #[.bool D9.wiped,.slice (some ⟨b5,off5,none⟩) D9.blocks.1 cap5] 116)):=(Below.refl _ _).alloc (Nat.le_refl _) _;have HT9:Hid (One w (wr.alloc (.cells #[.bool D9.wiped,.slice (some ⟨b5,off5,none⟩) D9.blocks.1 cap5] 116)) #[.int .i64 (d.shape 0),.int .i64 (d.shape 1),.int .i64 (d.shape 2),.int .i64 (d.shape 3),.int .i64 (d.shape 4),.int .i64 (d.shape 5),.int .i64 (d.shape 6),.int .i64 (d.shape 7),.int .i64 (d.shape 8),.slice (some ⟨b1,off1,none⟩) d.groups.1 cap1,.slice ao2 d.on.1 cap2,.slice ao3 d.tapes.1 cap3,.int .i64 d.writes,.int .i64 d.stop,.bool d.down] 38):=HT.out.call bA;have HV9:Hid (View layBytes 30 (wr.alloc (.cells #[.bool D9.wiped,.slice (some ⟨b5,off5,none⟩) D9.blocks.1 cap5] 116)) w1.heap.size hi (.slice (some ⟨w1.heap.size,0,none⟩) (d.groups.2 G).1 (d.groups.2 G).1) (d.groups.2 G).1 (rowK (d.groups.2 G).2 (d.groups.2 G).1 R k) ce):=V.below bA (by omega);have c4':(wr.alloc (.cells #[.bool D9.wiped,.slice (some ⟨b5,off5,none⟩) D9.blocks.1 cap5] 116)).cell? ⟨b5,off5 + R * 2 + 1,none⟩ = some (.slice ao0 y cap0):=(bA.cell (p:=⟨b5,off5 + R * 2 + 1,none⟩) (by have:=T.b1.lt;show b5 < wr.heap.size;omega)).trans c4;have fz:=HV9.out.row.frozenAt k;obtain ⟨uk,huk,_⟩:=V.each k hlt;have ck0:=HV9.out.cell hlt (j:=0) (by decide);rw [huk,show k * layBytes.sz + 0 = k by show k * 1 + 0 = k;omega,show ([uk]:List Value)[0]? = some uk from rfl] at ck0
      have j1:(0:Int) ≤ (R:Int):=by omega
      have j2:(R:Int) < (D9.blocks.1:Int):=by omega
      clear hc9 hcell hcd hrd hcb hrb hel5 hc5 hm5 T V hD9 hy bA hrB huk
      cases hw:D9.wiped with
      | true =>
        rw [hw] at c2 HT9 c4' HV9 fz ck0;have HW:Hid (D9.wiped = true):=hw;clear hw;go_wp2
        go_roundw
        case rel => exact ⟨k + 1,ce,by omega,by go_num,HV9.out.congr (fun i hi => rowK_skip (by rw [← HD9.out];exact HW.out) i),HT9.out⟩
        case measure => simp [intOf];omega
      | false =>
        rw [hw] at c2 HT9 c4' HV9 fz ck0;have HW:Hid (D9.wiped = false):=hw;clear hw
        have HE:Hid (rowX (d.groups.2 G).2 (d.groups.2 G).1 R k = (D9.blocks.2 R).bytes):=by
          show rowX (d.groups.2 G).2 (d.groups.2 G).1 R k = (D9.blocks.2 R).bytes
          rw [rowX_there HLT.out (by rw [← HD9.out];exact HW.out),HD9.out]
        have VS:=HV.out.store1 rfl (by omega) HLT.out (u:=.slice ao0 y cap0) (a:=rowX (d.groups.2 G).2 (d.groups.2 G).1 R k) (by
          rw [HE.out]
          exact layBytes.rd_below HRB.out HT.out.bel (by omega))
        have TS:One w (wr.setCell ⟨w1.heap.size,k,none⟩ (.slice ao0 y cap0)) #[.int .i64 (d.shape 0),.int .i64 (d.shape 1),.int .i64 (d.shape 2),.int .i64 (d.shape 3),.int .i64 (d.shape 4),.int .i64 (d.shape 5),.int .i64 (d.shape 6),.int .i64 (d.shape 7),.int .i64 (d.shape 8),.slice (some ⟨b1,off1,none⟩) d.groups.1 cap1,.slice ao2 d.on.1 cap2,.slice ao3 d.tapes.1 cap3,.int .i64 d.writes,.int .i64 d.stop,.bool d.down] 38:=⟨HT.out.b1.below VS.2 zw1,HT.out.bel.trans (VS.2.mono (by omega))⟩;have bS:Below (wr.setCell ⟨w1.heap.size,k,none⟩ (.slice ao0 y cap0)).heap.size (wr.setCell ⟨w1.heap.size,k,none⟩ (.slice ao0 y cap0)) ((wr.setCell ⟨w1.heap.size,k,none⟩ (.slice ao0 y cap0)).alloc (.cells #[.bool false,.slice (some ⟨b5,off5,none⟩) D9.blocks.1 cap5] 116)):=(Below.refl _ _).alloc (Nat.le_refl _) _;have HVS:Hid (View layBytes 30 ((wr.setCell ⟨w1.heap.size,k,none⟩ (.slice ao0 y cap0)).alloc (.cells #[.bool false,.slice (some ⟨b5,off5,none⟩) D9.blocks.1 cap5] 116)) w1.heap.size hi (.slice (some ⟨w1.heap.size,0,none⟩) (d.groups.2 G).1 (d.groups.2 G).1) (d.groups.2 G).1 (rowK (d.groups.2 G).2 (d.groups.2 G).1 R (k + 1)) (upd ce k [.slice ao0 y cap0])):=(VS.1.congr (fun i _ => rowK_next i)).below bS (by have:=(VS.1.row.lt w1.heap.size rfl).2;omega);have HTS:Hid (One w ((wr.setCell ⟨w1.heap.size,k,none⟩ (.slice ao0 y cap0)).alloc (.cells #[.bool false,.slice (some ⟨b5,off5,none⟩) D9.blocks.1 cap5] 116)) #[.int .i64 (d.shape 0),.int .i64 (d.shape 1),.int .i64 (d.shape 2),.int .i64 (d.shape 3),.int .i64 (d.shape 4),.int .i64 (d.shape 5),.int .i64 (d.shape 6),.int .i64 (d.shape 7),.int .i64 (d.shape 8),.slice (some ⟨b1,off1,none⟩) d.groups.1 cap1,.slice ao2 d.on.1 cap2,.slice ao3 d.tapes.1 cap3,.int .i64 d.writes,.int .i64 d.stop,.bool d.down] 38):=TS.call bS;clear VS TS bS HV9 HT9;go_wp2
        go_roundw
        case rel => exact ⟨k + 1,_,by omega,by go_num,HVS.out,HTS.out⟩
        case measure => simp [intOf];omega
    · obtain rfl:k = (d.groups.2 G).1:=by omega
      have x2:wr.cell? ⟨w.heap.size,2,none⟩ = some (.int .i64 (d.shape 2)):=T.b1.cell 2;have x3:wr.cell? ⟨w.heap.size,3,none⟩ = some (.int .i64 (d.shape 3)):=T.b1.cell 3;have RM:RdM wr wr.heap.size (.slice (some ⟨w1.heap.size,0,none⟩) (d.groups.2 G).1 (d.groups.2 G).1) (d.groups.2 G).1 (rowN (d.groups.2 G).2 (d.groups.2 G).1 R) (rowM (d.groups.2 G).2 (d.groups.2 G).1 R):=(V.congr (fun i hi => rowK_all i hi)).rdM (by omega);have CD:=implDecode_rd (d.shape 2) (d.shape 3) _ _ _ _ wr.heap.size wr RM (Nat.le_refl _) HKF.out
      have fB:∀ (x:Int) (v:Value) (w':World),(Instr.field 32 (.agg #[.int .i64 x,v]) 1).run Tryz.prog w' = .ok v w':=fun x v w' => by kernel_rfl
      clear hlt T V RM hc9
      go_wp2_with fail
      refine CD.mono ?_;rintro e w3 ⟨x,v3,rfl,hans,o3,b3⟩;have hx0:x = 0:=hans.one (.inr (.inr ⟨.inr (.inr ⟨rfl,by rw [HD.out,HS.out];exact ⟨by omega,by omega,by omega,by omega⟩,by rw [HD.out,HS.out,HN.out];omega,HFour.out⟩),by rw [HD.out];exact HCNT.out,rfl⟩));subst hx0;have HO:Hid (Own w3 wr.heap.size w3.heap.size v3 (4 * (d.shape 2).toNat) (rowB d G R)):=o3;have HB:Hid (Below w.heap.size w w3):=HT.out.bel.trans (b3.mono HT.out.bel.size);have zz:=HT.out.bel.size;obtain ⟨ao3,cap3,rfl⟩:=o3.slice;clear o3 hans b3 CD x2 x3;have f3:=fun w' => fB 0 (.slice ao3 (4 * (d.shape 2).toNat) cap3) w';clear fB;unfold bytesR;go_wp2;go_ret;exact ⟨_,rfl,HO.out.weaken (by omega) (Nat.le_refl _),HB.out⟩
def L7BPost (d:WorldD) (G R:Nat) (w:World) (e:Ending) (w':World):Prop:=∃ v b,e = .returned (.tuple #[v,.bool b]) ∧ (b = true ↔ ¬ DeadP d G) ∧ Own w' w.heap.size w'.heap.size v (if b = true then 4 * (d.shape 2).toNat else 0) (rowB d G R) ∧ Below w.heap.size w w'
set_option maxHeartbeats 8000000 in
set_option maxRecDepth 20000 in
theorem l7Bytes_any (d:WorldD) (cs:List Value) (hi B:Nat) (G R:Nat) (w:World) (h:layWorld.rd w hi d cs) (hhi:hi ≤ w.heap.size) (hB:Box w B cs.toArray 38) (hG:G < d.groups.1) (hR:∀ k,k < (d.groups.2 G).1 → R < ((d.groups.2 G).2 k).blocks.1) (hok:OkWorld d) :
    Calls Tryz.prog 44 #[.pointer (some ⟨B,0,none⟩),.int .i64 (G:Int),.int .i64 (R:Int)] w (L7BPost d G R w):=by
  have kf:=rowM_byt h hG hR;obtain ⟨D,S,hD,hS,hn,d1,d2,s2,h4'⟩:=row_facts hok hG;have h4:=h4' R hR;have HND:Hid (¬ DeadP d G ↔ D ≤ cntN (rowN (d.groups.2 G).2 (d.groups.2 G).1 R) (d.groups.2 G).1):=not_dead (R:=R) hD hS hn h4;have HFour:Hid (∀ i,i < (d.groups.2 G).1 → rowN (d.groups.2 G).2 (d.groups.2 G).1 R i = 0 ∨ rowN (d.groups.2 G).2 (d.groups.2 G).1 R i = 4):=rowN_four h4;have HKF:Hid (Byt (rowM (d.groups.2 G).2 (d.groups.2 G).1 R)):=kf;have HD:Hid (d.shape 2 = (D:Int)):=hD
  have hn6:(d.groups.2 G).1 ≤ 6:=by omega
  have hn5:(d.groups.2 G).1 ≤ D + 2:=by omega
  clear h4 h4' kf hD hS hn hok;obtain ⟨ao1,cap1,ao2,cap2,ao3,cap3,rfl,g1,g2,g3,k0,k4,k5⟩:=World_rd h;obtain ⟨_,_,e1,hm1,hc1⟩:=g1
  cases e1
  obtain ⟨b1,off1,he1,hb1,hel1⟩:=hc1 (by omega);subst he1;obtain ⟨cg,hrg,hcg⟩:=hel1 G hG;obtain ⟨ao9,cap9,rfl⟩:=sl_form hrg
  have c0:w.cell? ⟨b1,off1 + G,none⟩ = some (.slice ao9 (d.groups.2 G).1 cap9):=by
    have:=hcg 0 (by decide)
    have e:off1 + (G * (layDrive.slice 116).sz + 0) = off1 + G:=by show off1 + (G * 1 + 0) = off1 + G;omega
    rw [e] at this;exact this
  obtain ⟨_,_,e9,hm9,hc9⟩:=hrg
  cases e9
  unfold maxLen at hm9
  have i1:(0:Int) ≤ (G:Int):=by omega
  have i2:(G:Int) < (d.groups.1:Int):=by omega
  clear g2 g3 k0 k4 k5 hcg hel1 hc1 hm1;have hBlt:=hB.lt;have HBX:Hid (Box w B #[.int .i64 (d.shape 0),.int .i64 (d.shape 1),.int .i64 (d.shape 2),.int .i64 (d.shape 3),.int .i64 (d.shape 4),.int .i64 (d.shape 5),.int .i64 (d.shape 6),.int .i64 (d.shape 7),.int .i64 (d.shape 8),.slice (some ⟨b1,off1,none⟩) d.groups.1 cap1,.slice ao2 d.on.1 cap2,.slice ao3 d.tapes.1 cap3,.int .i64 d.writes,.int .i64 d.stop,.bool d.down] 38):=hB;clear hB
  go_enter Tryz.func44,Tryz.ntmps44
  go_wp2
  go_loopw [8,9] (fun v i wr => ∃ (k:Nat) (ce:Nat → List Value),k ≤ (d.groups.2 G).1 ∧ i = .int .i64 k ∧ View layBytes 30 wr w.heap.size hi v k (rowX (d.groups.2 G).2 (d.groups.2 G).1 R) ce ∧ Below w.heap.size w wr) (fun _ i _ => (d.groups.2 G).1 - (intOf i).toNat)
  case atStart => exact ⟨0,fun _ => [],Nat.zero_le _,rfl,View.lit0 _ _ w hi,(Below.refl _ _).alloc (Nat.le_refl _) _⟩
  case round =>
    obtain ⟨k,ce,hk,rfl,V,bw⟩:=hrel;have x9:wr.cell? ⟨B,9,none⟩ = some (.slice (some ⟨b1,off1,none⟩) d.groups.1 cap1):=(bw.cell (p:=⟨B,9,none⟩) hBlt).trans (HBX.out.cell 9);have c0':=(bw.cell (p:=⟨b1,off1 + G,none⟩) (by show b1 < w.heap.size;omega)).trans c0;have zr:=bw.size;have HV:Hid (View layBytes 30 wr w.heap.size hi u8 k (rowX (d.groups.2 G).2 (d.groups.2 G).1 R) ce):=V;have HBW:Hid (Below w.heap.size w wr):=bw;obtain ⟨aoV,capV,hvf⟩:=V.form;subst hvf
    by_cases hlt:k < (d.groups.2 G).1
    · have t1:(k:Int) < ((d.groups.2 G).1:Int):=by omega
      have HLT:Hid (k < (d.groups.2 G).1):=hlt;obtain ⟨b,off,rfl,hblt,hcell⟩:=hc9 (by omega);obtain ⟨cd,hrd,hcd⟩:=hcell k hlt;obtain ⟨ao5,cap5,rfl,g5⟩:=Drive_rd hrd;have hRk:R < ((d.groups.2 G).2 k).blocks.1:=hR k hlt;obtain ⟨_,_,e5,hm5,hc5⟩:=g5
      cases e5
      obtain ⟨b5,off5,he5,hb5,hel5⟩:=hc5 (by omega);subst he5;obtain ⟨cb,hrb,hcb⟩:=hel5 R hRk;obtain ⟨ao0,cap0,rfl,hrB,-⟩:=Block_rd hrb;have c2:wr.cell? ⟨b,off + k * 2,none⟩ = some (.bool ((d.groups.2 G).2 k).wiped):=(bw.cell (p:=⟨b,off + k * 2,none⟩) (by show b < w.heap.size;omega)).trans (hcd 0 (by decide));have c3:wr.cell? ⟨b,off + k * 2 + 1,none⟩ = some (.slice (some ⟨b5,off5,none⟩) ((d.groups.2 G).2 k).blocks.1 cap5):=(bw.cell (p:=⟨b,off + k * 2 + 1,none⟩) (by show b < w.heap.size;omega)).trans (hcd 1 (by decide));have c4:wr.cell? ⟨b5,off5 + R * 2 + 1,none⟩ = some (.slice ao0 (((d.groups.2 G).2 k).blocks.2 R).bytes.1 cap0):=(bw.cell (p:=⟨b5,off5 + R * 2 + 1,none⟩) (by show b5 < w.heap.size;omega)).trans (hcb 1 (by decide));obtain ⟨D9,hD9⟩:∃ D,D = (d.groups.2 G).2 k:=⟨_,rfl⟩;have HD9:Hid (D9 = (d.groups.2 G).2 k):=hD9;rw [← hD9] at c2 c3 c4 hRk hrB;obtain ⟨y,hy⟩:∃ y,y = (D9.blocks.2 R).bytes.1:=⟨_,rfl⟩;have HY:Hid (y = (D9.blocks.2 R).bytes.1):=hy
      have HRB:Hid (layBytes.rd w hi (D9.blocks.2 R).bytes [.slice ao0 y cap0]):=by rw [hy];exact hrB
      rw [← hy] at c4
      have j1:(0:Int) ≤ (R:Int):=by omega
      have j2:(R:Int) < (D9.blocks.1:Int):=by omega
      clear hc9 hcell hcd hrd hcb hrb hel5 hc5 hm5 V hD9 hy hrB bw
      cases hw:D9.wiped with
      | true =>
        rw [hw] at c2;have HW:Hid (D9.wiped = true):=hw;clear hw;have bA:Below wr.heap.size wr (wr.alloc (.cells #[.slice none 0 0] 30)):=(Below.refl _ _).alloc (Nat.le_refl _) _;obtain ⟨v3,w3,hrun,V3,_,b3⟩:=run_appendV el_Bytes rdOne_bytes 86 (HV.out.below bA (by omega)) 1 (src_one (b:=wr.heap.size) (hi:=hi) (y:=(0,fun _ => 0)) (cs:=[.slice none 0 0]) (fun j hj => by simp) (rd_nilB _ _)) (by simp;omega) (by omega) (by omega) (fun h => by cases h);have HV3:Hid (View layBytes 30 w3 w.heap.size hi v3 (k + 1) (rowX (d.groups.2 G).2 (d.groups.2 G).1 R) _):=V3.congr (rowK_cat (rowX_wiped (by rw [← HD9.out];exact HW.out)).symm);have HB3:Hid (Below w.heap.size w w3):=(HBW.out.trans (bA.mono zr)).trans b3;clear V3 b3 bA
        go_wp2_with (at_builtin;refine wp_run2 rfl (.tmp 34) (.tmp 35) rfl ?_ ?_ hrun ?_;(simp [Act.eval]);(simp [Act.eval]))
        clear hrun;go_wp2
        go_roundw
        case rel => exact ⟨k + 1,_,by omega,by go_num,HV3.out,HB3.out⟩
        case measure => simp [intOf];omega
      | false =>
        rw [hw] at c2;have HW:Hid (D9.wiped = false):=hw;clear hw;have bA:Below wr.heap.size wr (wr.alloc (.cells #[.slice ao0 y cap0] 30)):=(Below.refl _ _).alloc (Nat.le_refl _) _
        obtain ⟨v3,w3,hrun,V3,_,b3⟩:=run_appendV el_Bytes rdOne_bytes 86 (HV.out.below bA (by omega)) 1 (src_one (b:=wr.heap.size) (hi:=hi) (y:=(D9.blocks.2 R).bytes) (cs:=[.slice ao0 y cap0]) (fun j hj => by simp) (by
          exact layBytes.rd_below HRB.out (HBW.out.trans (bA.mono zr)) (by omega))) (by simp;omega) (by omega) (by omega) (fun h => by cases h)
        have HV3:Hid (View layBytes 30 w3 w.heap.size hi v3 (k + 1) (rowX (d.groups.2 G).2 (d.groups.2 G).1 R) _):=V3.congr (rowK_cat (by
          rw [rowX_there HLT.out (by rw [← HD9.out];exact HW.out),HD9.out]))
        have HB3:Hid (Below w.heap.size w w3):=(HBW.out.trans (bA.mono zr)).trans b3;clear V3 b3 bA
        go_wp2_with (at_builtin;refine wp_run2 rfl (.tmp 37) (.tmp 53) rfl ?_ ?_ hrun ?_;(simp [Act.eval]);(simp [Act.eval]))
        clear hrun;go_wp2
        go_roundw
        case rel => exact ⟨k + 1,_,by omega,by go_num,HV3.out,HB3.out⟩
        case measure => simp [intOf];omega
    · obtain rfl:k = (d.groups.2 G).1:=by omega
      have x2:wr.cell? ⟨B,2,none⟩ = some (.int .i64 (d.shape 2)):=(bw.cell (p:=⟨B,2,none⟩) hBlt).trans (HBX.out.cell 2);have RM:RdM wr wr.heap.size (.slice aoV (d.groups.2 G).1 capV) (d.groups.2 G).1 (rowN (d.groups.2 G).2 (d.groups.2 G).1 R) (rowM (d.groups.2 G).2 (d.groups.2 G).1 R):=V.rdM (by omega);have CD:=l2Decode_any D _ _ _ _ wr.heap.size wr RM (Nat.le_refl _) d1 d2 hn5 HFour.out HKF.out;rw [HD.out] at x2;clear hlt V RM hc9 bw
      go_wp2_with fail
      refine CD.mono ?_;rintro e w3 ⟨v3,t3,rfl,ht3,o3,b3⟩
      have HO:Hid (Own w3 wr.heap.size w3.heap.size v3 (if t3 = true then 4 * (d.shape 2).toNat else 0) (rowB d G R)):=by
        show Own w3 wr.heap.size w3.heap.size v3 _ (rowB d G R)
        unfold rowB;rw [show (d.shape 2).toNat = D by rw [HD.out];rfl];exact o3
      have HT3:Hid (t3 = true ↔ ¬ DeadP d G):=ht3.trans HND.out.symm;have HB:Hid (Below w.heap.size w w3):=HBW.out.trans (b3.mono zr)
      cases t3 with
      | false =>
        simp only [Bool.false_eq_true,if_false] at o3
        obtain ⟨ao3,cap3,rfl⟩:=o3.slice;clear o3 ht3 b3 CD x2 x9 c0';go_wp2
        go_ret2
        exact ⟨_,false,rfl,HT3.out,HO.out.weaken (by omega) (Nat.le_refl _),HB.out⟩
      | true =>
        simp only [if_pos] at o3
        obtain ⟨ao3,cap3,rfl⟩:=o3.slice;clear o3 ht3 b3 CD x2 x9 c0';go_wp2
        go_ret2
        exact ⟨_,true,rfl,by simpa using HT3.out,HO.out.weaken (by omega) (Nat.le_refl _),HB.out⟩
end Go.Proofs.YtaioliojijikaaaGreat
namespace Go.Proofs.YtaioliojijikaaaGreat
open Go.RowKit F256
def AskAns (d:WorldD) (x:Int):Prop:=(x ≠ 0 ∧ WldAns d x) ∨ (WldAns d 0 ∧ ((d.down = true ∧ x = 9) ∨ (d.down = false ∧ x = 0)))
theorem AskAns.one {d:WorldD} {x y:Int} (h:AskAns d x) (k:AskAns d y):x = y:=by
  rcases h with ⟨h1,h2⟩ | ⟨h1,h2⟩ <;> rcases k with ⟨k1,k2⟩ | ⟨k1,k2⟩
  · exact h2.one k2
  · exact absurd (h2.one k1) h1
  · exact absurd (k2.one h1) k1
  · rcases h2 with ⟨a,rfl⟩ | ⟨a,rfl⟩ <;> rcases k2 with ⟨b,rfl⟩ | ⟨b,rfl⟩
    · rfl
    · rw [a] at b;cases b
    · rw [a] at b;cases b
    · rfl
def IntPost (P:Int → Prop) (w:World) (e:Ending) (w':World):Prop:=∃ x,e = .returned (.int .i64 x) ∧ P x ∧ Below w.heap.size w w'
end Go.Proofs.YtaioliojijikaaaGreat
namespace Go.Proofs.YtaioliojijikaaaGreat
open Go.RowKit F256
set_option maxHeartbeats 4000000 in
set_option maxRecDepth 20000 in
theorem l5Asked_any (d:WorldD) (cs:List Value) (hi:Nat) (w:World) (h:layWorld.rd w hi d cs) (hhi:hi ≤ w.heap.size) (hsz:szWorldD d ≤ 1048576) :
    Calls Tryz.prog 16 #[.agg cs.toArray] w (IntPost (AskAns d) w):=by
  have C:=fun w' hb => specWorld_any d cs hi w' (layWorld.rd_below h (B:=w.heap.size) hb hhi);obtain ⟨ao1,cap1,ao2,cap2,ao3,cap3,rfl,-⟩:=World_rd h;have T0:=one_new w #[.int .i64 (d.shape 0),.int .i64 (d.shape 1),.int .i64 (d.shape 2),.int .i64 (d.shape 3),.int .i64 (d.shape 4),.int .i64 (d.shape 5),.int .i64 (d.shape 6),.int .i64 (d.shape 7),.int .i64 (d.shape 8),.slice ao1 d.groups.1 cap1,.slice ao2 d.on.1 cap2,.slice ao3 d.tapes.1 cap3,.int .i64 d.writes,.int .i64 d.stop,.bool d.down] 38;clear h
  go_enter Tryz.func16,Tryz.ntmps16
  go_wp2_with (refine wp_loadBox 38 (.tmp 1) rfl rfl w.heap.size rfl (cs:=[.int .i64 (d.shape 0),.int .i64 (d.shape 1),.int .i64 (d.shape 2),.int .i64 (d.shape 3),.int .i64 (d.shape 4),.int .i64 (d.shape 5),.int .i64 (d.shape 6),.int .i64 (d.shape 7),.int .i64 (d.shape 8),.slice ao1 d.groups.1 cap1,.slice ao2 d.on.1 cap2,.slice ao3 d.tapes.1 cap3,.int .i64 d.writes,.int .i64 d.stop,.bool d.down]) T0.b1 Tryz.underlying38 size_W rfl ?_)
  refine (C _ T0.bel (Nat.le_trans hhi T0.bel.size) (wld_ok_names hsz)).mono ?_;rintro e w1 ⟨x,rfl,hx,b1⟩;have T1:=T0.call b1;have HX:Hid (WldAns d x):=hx;have HB:Hid (Below w.heap.size w w1):=T1.bel;have c14:w1.cell? ⟨w.heap.size,14,none⟩ = some (.bool d.down):=T1.b1.cell 14;clear T0 T1 b1 C hx
  by_cases hx0:x = 0
  · subst hx0
    obtain ⟨dn,hdn⟩:∃ b,b = d.down:=⟨_,rfl⟩;rw [← hdn] at c14;have HD:Hid (dn = d.down):=hdn;clear hdn
    cases dn with
    | true =>
      go_wp2;go_ret;exact ⟨9,rfl,.inr ⟨HX.out,.inl ⟨HD.out.symm,rfl⟩⟩,HB.out⟩
    | false =>
      go_wp2;go_ret;exact ⟨0,rfl,.inr ⟨HX.out,.inr ⟨HD.out.symm,rfl⟩⟩,HB.out⟩
  · have hne:(x != 0) = true:=by simp [hx0]
    go_wp2;go_ret;exact ⟨x,rfl,.inl ⟨hx0,HX.out⟩,HB.out⟩
set_option maxHeartbeats 4000000 in
set_option maxRecDepth 20000 in
theorem powered_any (d:WorldD) (cs:List Value) (hi:Nat) (w:World) (h:layWorld.rd w hi d cs) (hhi:hi ≤ w.heap.size) (hsz:szWorldD d ≤ 1048576) :
    Calls Tryz.prog 73 #[.agg cs.toArray] w (IntPost (AskAns d) w):=by
  have C:=fun w' hb => implWorld_any d cs hi w' (layWorld.rd_below h (B:=w.heap.size) hb hhi);obtain ⟨ao1,cap1,ao2,cap2,ao3,cap3,rfl,-⟩:=World_rd h;have T0:=one_new w #[.int .i64 (d.shape 0),.int .i64 (d.shape 1),.int .i64 (d.shape 2),.int .i64 (d.shape 3),.int .i64 (d.shape 4),.int .i64 (d.shape 5),.int .i64 (d.shape 6),.int .i64 (d.shape 7),.int .i64 (d.shape 8),.slice ao1 d.groups.1 cap1,.slice ao2 d.on.1 cap2,.slice ao3 d.tapes.1 cap3,.int .i64 d.writes,.int .i64 d.stop,.bool d.down] 38;clear h
  go_enter Tryz.func73,Tryz.ntmps73
  go_wp2_with (refine wp_loadBox 38 (.tmp 1) rfl rfl w.heap.size rfl (cs:=[.int .i64 (d.shape 0),.int .i64 (d.shape 1),.int .i64 (d.shape 2),.int .i64 (d.shape 3),.int .i64 (d.shape 4),.int .i64 (d.shape 5),.int .i64 (d.shape 6),.int .i64 (d.shape 7),.int .i64 (d.shape 8),.slice ao1 d.groups.1 cap1,.slice ao2 d.on.1 cap2,.slice ao3 d.tapes.1 cap3,.int .i64 d.writes,.int .i64 d.stop,.bool d.down]) T0.b1 Tryz.underlying38 size_W rfl ?_)
  refine (C _ T0.bel (Nat.le_trans hhi T0.bel.size) (wld_ok_names hsz)).mono ?_;rintro e w1 ⟨x,rfl,hx,b1⟩;have T1:=T0.call b1;have HX:Hid (WldAns d x):=hx;have HB:Hid (Below w.heap.size w w1):=T1.bel;have c14:w1.cell? ⟨w.heap.size,14,none⟩ = some (.bool d.down):=T1.b1.cell 14;clear T0 T1 b1 C hx
  by_cases hx0:x = 0
  · subst hx0
    obtain ⟨dn,hdn⟩:∃ b,b = d.down:=⟨_,rfl⟩;rw [← hdn] at c14;have HD:Hid (dn = d.down):=hdn;clear hdn
    cases dn with
    | true =>
      go_wp2;go_ret;exact ⟨9,rfl,.inr ⟨HX.out,.inl ⟨HD.out.symm,rfl⟩⟩,HB.out⟩
    | false =>
      go_wp2;go_ret;exact ⟨0,rfl,.inr ⟨HX.out,.inr ⟨HD.out.symm,rfl⟩⟩,HB.out⟩
  · have hne:(x != 0) = true:=by simp [hx0]
    go_wp2;go_ret;exact ⟨x,rfl,.inl ⟨hx0,HX.out⟩,HB.out⟩
set_option maxHeartbeats 4000000 in
set_option maxRecDepth 20000 in
theorem isOn_any (d:WorldD) (cs:List Value) (hi:Nat) (g:Int) (w:World) (h:layWorld.rd w hi d cs) (hhi:hi ≤ w.heap.size):Calls Tryz.prog 82 #[.agg cs.toArray,.int .i64 g] w (BoolP (HasP d.on.1 d.on.2 g) w):=by
  obtain ⟨ao1,cap1,ao2,cap2,ao3,cap3,rfl,g1,g2,g3,-⟩:=World_rd h;obtain ⟨_,e2,⟨h2,_⟩,_⟩:=g2
  cases e2
  have T0:=one_new w #[.int .i64 (d.shape 0),.int .i64 (d.shape 1),.int .i64 (d.shape 2),.int .i64 (d.shape 3),.int .i64 (d.shape 4),.int .i64 (d.shape 5),.int .i64 (d.shape 6),.int .i64 (d.shape 7),.int .i64 (d.shape 8),.slice ao1 d.groups.1 cap1,.slice ao2 d.on.1 cap2,.slice ao3 d.tapes.1 cap3,.int .i64 d.writes,.int .i64 d.stop,.bool d.down] 38;have C:=contains_any (.slice ao2 d.on.1 cap2) d.on.1 d.on.2 hi g _ (h2.below T0.bel hhi);clear h g1 g3 h2
  go_enter Tryz.func82,Tryz.ntmps82
  go_wp2_with fail
  refine C.mono ?_;rintro e w1 ⟨b,rfl,hb,b1⟩;have HP:Hid (b = true ↔ HasP d.on.1 d.on.2 g):=hb;have HB:Hid (Below w.heap.size w w1):=(T0.call b1).bel;clear b1 T0 C hb;go_wp2;go_ret;exact ⟨b,rfl,HP.out,HB.out⟩
end Go.Proofs.YtaioliojijikaaaGreat
namespace Go.Proofs.YtaioliojijikaaaGreat
open Go.RowKit F256
theorem ask_small {d:WorldD} {x:Int} (h:AskAns d x):(-9223372036854775808 ≤ x ∧ x ≤ 9223372036854775807):=by
  rcases h with ⟨_,h⟩ | ⟨_,h | h⟩
  · exact wld_small h
  · rw [h.2];decide
  · rw [h.2];decide
end Go.Proofs.YtaioliojijikaaaGreat
namespace Go.Proofs.YtaioliojijikaaaGreat
open Go.RowKit F256
def WhP (s:Nat → Int) (g r:Int):Prop:=InP g 0 (s 0 + s 1 - 1) ∧ InP r 0 (s 4 - 1)
def WhereAns (d:WorldD) (g r x:Int):Prop:=(x ≠ 0 ∧ AskAns d x) ∨ (AskAns d 0 ∧ ((¬ WhP d.shape g r ∧ x = 3) ∨ (WhP d.shape g r ∧ ((¬ HasP d.on.1 d.on.2 g ∧ x = 8) ∨ (HasP d.on.1 d.on.2 g ∧ x = 0)))))
theorem where_small {d:WorldD} {g r x:Int} (h:WhereAns d g r x):-9223372036854775808 ≤ x ∧ x ≤ 9223372036854775807:=by
  rcases h with ⟨_,h⟩ | ⟨_,⟨_,rfl⟩ | ⟨_,⟨_,rfl⟩ | ⟨_,rfl⟩⟩⟩
  · exact ask_small h
  · decide
  · decide
  · decide
def CodeP (P:Int → Prop) (w:World) (e:Ending) (w':World):Prop:=∃ x,e = .returned (.int .i64 x) ∧ P x ∧ Below w.heap.size w w'
set_option maxHeartbeats 8000000 in
set_option maxRecDepth 20000 in
theorem onFault_any (d:WorldD) (g:Int) (cs:List Value) (hi:Nat) (w:World) (h:layWorld.rd w hi d cs) (hhi:hi ≤ w.heap.size) (hok:OkShape d.shape) :
    Calls Tryz.prog 52 #[.agg cs.toArray,.int .i64 g] w (CodeP (fun x => (¬ InP g 0 (d.shape 0 + d.shape 1 - 1) ∧ x = 3) ∨ (InP g 0 (d.shape 0 + d.shape 1 - 1) ∧ ((¬ HasP d.on.1 d.on.2 g ∧ x = 8) ∨ (HasP d.on.1 d.on.2 g ∧ x = 0)))) w):=by
  have h':=h;obtain ⟨ao1,cap1,ao2,cap2,ao3,cap3,rfl,g1,g2,g3,k0,k4,k5⟩:=World_rd h';have HRD:Hid (layWorld.rd w hi d [.int .i64 (d.shape 0),.int .i64 (d.shape 1),.int .i64 (d.shape 2),.int .i64 (d.shape 3),.int .i64 (d.shape 4),.int .i64 (d.shape 5),.int .i64 (d.shape 6),.int .i64 (d.shape 7),.int .i64 (d.shape 8),.slice ao1 d.groups.1 cap1,.slice ao2 d.on.1 cap2,.slice ao3 d.tapes.1 cap3,.int .i64 d.writes,.int .i64 d.stop,.bool d.down]):=h
  have HG2:Hid (RdI w hi (.slice ao2 d.on.1 cap2) d.on.1 d.on.2):=by
    obtain ⟨_,e2,⟨h2,_⟩,_⟩:=g2
    cases e2
    exact h2
  clear h h' g1 g2 g3 k0 k4 k5;have T0:=one_new w #[.int .i64 (d.shape 0),.int .i64 (d.shape 1),.int .i64 (d.shape 2),.int .i64 (d.shape 3),.int .i64 (d.shape 4),.int .i64 (d.shape 5),.int .i64 (d.shape 6),.int .i64 (d.shape 7),.int .i64 (d.shape 8),.slice ao1 d.groups.1 cap1,.slice ao2 d.on.1 cap2,.slice ao3 d.tapes.1 cap3,.int .i64 d.writes,.int .i64 d.stop,.bool d.down] 38;have HT:Hid (One w (w.alloc (.cells #[.int .i64 (d.shape 0),.int .i64 (d.shape 1),.int .i64 (d.shape 2),.int .i64 (d.shape 3),.int .i64 (d.shape 4),.int .i64 (d.shape 5),.int .i64 (d.shape 6),.int .i64 (d.shape 7),.int .i64 (d.shape 8),.slice ao1 d.groups.1 cap1,.slice ao2 d.on.1 cap2,.slice ao3 d.tapes.1 cap3,.int .i64 d.writes,.int .i64 d.stop,.bool d.down] 38)) #[.int .i64 (d.shape 0),.int .i64 (d.shape 1),.int .i64 (d.shape 2),.int .i64 (d.shape 3),.int .i64 (d.shape 4),.int .i64 (d.shape 5),.int .i64 (d.shape 6),.int .i64 (d.shape 7),.int .i64 (d.shape 8),.slice ao1 d.groups.1 cap1,.slice ao2 d.on.1 cap2,.slice ao3 d.tapes.1 cap3,.int .i64 d.writes,.int .i64 d.stop,.bool d.down] 38):=T0;obtain ⟨t,ht⟩:=exB (InP g 0 (d.shape 0 + d.shape 1 - 1));have Ht:Hid (t = true ↔ InP g 0 (d.shape 0 + d.shape 1 - 1)):=ht;have CI:=isGroup_b hok ht (w.alloc (.cells #[.int .i64 (d.shape 0),.int .i64 (d.shape 1),.int .i64 (d.shape 2),.int .i64 (d.shape 3),.int .i64 (d.shape 4),.int .i64 (d.shape 5),.int .i64 (d.shape 6),.int .i64 (d.shape 7),.int .i64 (d.shape 8),.slice ao1 d.groups.1 cap1,.slice ao2 d.on.1 cap2,.slice ao3 d.tapes.1 cap3,.int .i64 d.writes,.int .i64 d.stop,.bool d.down] 38));unfold shapeV at CI;have x_0:(w.alloc (.cells #[.int .i64 (d.shape 0),.int .i64 (d.shape 1),.int .i64 (d.shape 2),.int .i64 (d.shape 3),.int .i64 (d.shape 4),.int .i64 (d.shape 5),.int .i64 (d.shape 6),.int .i64 (d.shape 7),.int .i64 (d.shape 8),.slice ao1 d.groups.1 cap1,.slice ao2 d.on.1 cap2,.slice ao3 d.tapes.1 cap3,.int .i64 d.writes,.int .i64 d.stop,.bool d.down] 38)).cell? ⟨w.heap.size,0,none⟩ = some (.int .i64 (d.shape 0)):=T0.b1.cell 0;have x_1:(w.alloc (.cells #[.int .i64 (d.shape 0),.int .i64 (d.shape 1),.int .i64 (d.shape 2),.int .i64 (d.shape 3),.int .i64 (d.shape 4),.int .i64 (d.shape 5),.int .i64 (d.shape 6),.int .i64 (d.shape 7),.int .i64 (d.shape 8),.slice ao1 d.groups.1 cap1,.slice ao2 d.on.1 cap2,.slice ao3 d.tapes.1 cap3,.int .i64 d.writes,.int .i64 d.stop,.bool d.down] 38)).cell? ⟨w.heap.size,1,none⟩ = some (.int .i64 (d.shape 1)):=T0.b1.cell 1;have x_2:(w.alloc (.cells #[.int .i64 (d.shape 0),.int .i64 (d.shape 1),.int .i64 (d.shape 2),.int .i64 (d.shape 3),.int .i64 (d.shape 4),.int .i64 (d.shape 5),.int .i64 (d.shape 6),.int .i64 (d.shape 7),.int .i64 (d.shape 8),.slice ao1 d.groups.1 cap1,.slice ao2 d.on.1 cap2,.slice ao3 d.tapes.1 cap3,.int .i64 d.writes,.int .i64 d.stop,.bool d.down] 38)).cell? ⟨w.heap.size,2,none⟩ = some (.int .i64 (d.shape 2)):=T0.b1.cell 2
  have x_3:(w.alloc (.cells #[.int .i64 (d.shape 0),.int .i64 (d.shape 1),.int .i64 (d.shape 2),.int .i64 (d.shape 3),.int .i64 (d.shape 4),.int .i64 (d.shape 5),.int .i64 (d.shape 6),.int .i64 (d.shape 7),.int .i64 (d.shape 8),.slice ao1 d.groups.1 cap1,.slice ao2 d.on.1 cap2,.slice ao3 d.tapes.1 cap3,.int .i64 d.writes,.int .i64 d.stop,.bool d.down] 38)).cell? ⟨w.heap.size,3,none⟩ = some (.int .i64 (d.shape 3)):=T0.b1.cell 3;have x_4:(w.alloc (.cells #[.int .i64 (d.shape 0),.int .i64 (d.shape 1),.int .i64 (d.shape 2),.int .i64 (d.shape 3),.int .i64 (d.shape 4),.int .i64 (d.shape 5),.int .i64 (d.shape 6),.int .i64 (d.shape 7),.int .i64 (d.shape 8),.slice ao1 d.groups.1 cap1,.slice ao2 d.on.1 cap2,.slice ao3 d.tapes.1 cap3,.int .i64 d.writes,.int .i64 d.stop,.bool d.down] 38)).cell? ⟨w.heap.size,4,none⟩ = some (.int .i64 (d.shape 4)):=T0.b1.cell 4;have x_5:(w.alloc (.cells #[.int .i64 (d.shape 0),.int .i64 (d.shape 1),.int .i64 (d.shape 2),.int .i64 (d.shape 3),.int .i64 (d.shape 4),.int .i64 (d.shape 5),.int .i64 (d.shape 6),.int .i64 (d.shape 7),.int .i64 (d.shape 8),.slice ao1 d.groups.1 cap1,.slice ao2 d.on.1 cap2,.slice ao3 d.tapes.1 cap3,.int .i64 d.writes,.int .i64 d.stop,.bool d.down] 38)).cell? ⟨w.heap.size,5,none⟩ = some (.int .i64 (d.shape 5)):=T0.b1.cell 5;have x_6:(w.alloc (.cells #[.int .i64 (d.shape 0),.int .i64 (d.shape 1),.int .i64 (d.shape 2),.int .i64 (d.shape 3),.int .i64 (d.shape 4),.int .i64 (d.shape 5),.int .i64 (d.shape 6),.int .i64 (d.shape 7),.int .i64 (d.shape 8),.slice ao1 d.groups.1 cap1,.slice ao2 d.on.1 cap2,.slice ao3 d.tapes.1 cap3,.int .i64 d.writes,.int .i64 d.stop,.bool d.down] 38)).cell? ⟨w.heap.size,6,none⟩ = some (.int .i64 (d.shape 6)):=T0.b1.cell 6;have x_7:(w.alloc (.cells #[.int .i64 (d.shape 0),.int .i64 (d.shape 1),.int .i64 (d.shape 2),.int .i64 (d.shape 3),.int .i64 (d.shape 4),.int .i64 (d.shape 5),.int .i64 (d.shape 6),.int .i64 (d.shape 7),.int .i64 (d.shape 8),.slice ao1 d.groups.1 cap1,.slice ao2 d.on.1 cap2,.slice ao3 d.tapes.1 cap3,.int .i64 d.writes,.int .i64 d.stop,.bool d.down] 38)).cell? ⟨w.heap.size,7,none⟩ = some (.int .i64 (d.shape 7)):=T0.b1.cell 7;have x_8:(w.alloc (.cells #[.int .i64 (d.shape 0),.int .i64 (d.shape 1),.int .i64 (d.shape 2),.int .i64 (d.shape 3),.int .i64 (d.shape 4),.int .i64 (d.shape 5),.int .i64 (d.shape 6),.int .i64 (d.shape 7),.int .i64 (d.shape 8),.slice ao1 d.groups.1 cap1,.slice ao2 d.on.1 cap2,.slice ao3 d.tapes.1 cap3,.int .i64 d.writes,.int .i64 d.stop,.bool d.down] 38)).cell? ⟨w.heap.size,8,none⟩ = some (.int .i64 (d.shape 8)):=T0.b1.cell 8;clear ht T0
  go_enter Tryz.func52,Tryz.ntmps52
  go_wp2_with fail
  refine CI.mono ?_;rintro e w2 ⟨rfl,b2⟩;have HT2:Hid (One w w2 #[.int .i64 (d.shape 0),.int .i64 (d.shape 1),.int .i64 (d.shape 2),.int .i64 (d.shape 3),.int .i64 (d.shape 4),.int .i64 (d.shape 5),.int .i64 (d.shape 6),.int .i64 (d.shape 7),.int .i64 (d.shape 8),.slice ao1 d.groups.1 cap1,.slice ao2 d.on.1 cap2,.slice ao3 d.tapes.1 cap3,.int .i64 d.writes,.int .i64 d.stop,.bool d.down] 38):=HT.out.call b2;clear CI b2 HT x_0 x_1 x_2 x_3 x_4 x_5 x_6 x_7 x_8
  cases t with
  | false =>
    go_wp2;go_ret;exact ⟨3,rfl,.inl ⟨fun h => (by have:=Ht.out.2 h;cases this),rfl⟩,HT2.out.bel⟩
  | true =>
  go_wp2_with (refine wp_loadBox 38 (.tmp 2) rfl rfl (w.heap.size) rfl (cs:=[.int .i64 (d.shape 0),.int .i64 (d.shape 1),.int .i64 (d.shape 2),.int .i64 (d.shape 3),.int .i64 (d.shape 4),.int .i64 (d.shape 5),.int .i64 (d.shape 6),.int .i64 (d.shape 7),.int .i64 (d.shape 8),.slice ao1 d.groups.1 cap1,.slice ao2 d.on.1 cap2,.slice ao3 d.tapes.1 cap3,.int .i64 d.writes,.int .i64 d.stop,.bool d.down]) (HT2.out.b1) Tryz.underlying38 size_W rfl ?_)
  refine (isOn_any d _ hi g _ (layWorld.rd_below HRD.out HT2.out.bel hhi) (Nat.le_trans hhi HT2.out.bel.size)).mono ?_;rintro e w3 ⟨t,rfl,ht,b3⟩;have HB:Hid (Below w.heap.size w w3):=(HT2.out.call b3).bel;have HH:Hid (t = true ↔ HasP d.on.1 d.on.2 g):=ht;clear ht b3 HT2
  cases t with
  | false =>
    go_wp2;go_ret;exact ⟨8,rfl,.inr ⟨Ht.out.1 (by simp),.inl ⟨fun h => (by have:=HH.out.2 h;cases this),rfl⟩⟩,HB.out⟩
  | true =>
    go_wp2;go_ret;exact ⟨0,rfl,.inr ⟨Ht.out.1 (by simp),.inr ⟨HH.out.1 (by simp),rfl⟩⟩,HB.out⟩
end Go.Proofs.YtaioliojijikaaaGreat
namespace Go.Proofs.YtaioliojijikaaaGreat
open Go.RowKit F256
end Go.Proofs.YtaioliojijikaaaGreat
namespace Go.Proofs.YtaioliojijikaaaGreat
open Go.RowKit F256
def LivC (d:WorldD) (g:Int) (x:Int):Prop:=(¬ HasP d.on.1 d.on.2 g ∧ x = 8) ∨ (HasP d.on.1 d.on.2 g ∧ ((DeadP d g.toNat ∧ x = 10) ∨ (¬ DeadP d g.toNat ∧ x = 0)))
set_option maxHeartbeats 8000000 in
set_option maxRecDepth 20000 in
theorem livingFault_any (d:WorldD) (G:Nat) (cs:List Value) (hi:Nat) (w:World) (h:layWorld.rd w hi d cs) (hhi:hi ≤ w.heap.size) (hok:OkShape d.shape) (hG:G < d.groups.1) (hin:InP (G:Int) 0 (d.shape 0 + d.shape 1 - 1)) :
    Calls Tryz.prog 25 #[.agg cs.toArray,.int .i64 (G:Int)] w (CodeP (LivC d G) w):=by
  have h':=h;obtain ⟨ao1,cap1,ao2,cap2,ao3,cap3,rfl,g1,g2,g3,k0,k4,k5⟩:=World_rd h';have HRD:Hid (layWorld.rd w hi d [.int .i64 (d.shape 0),.int .i64 (d.shape 1),.int .i64 (d.shape 2),.int .i64 (d.shape 3),.int .i64 (d.shape 4),.int .i64 (d.shape 5),.int .i64 (d.shape 6),.int .i64 (d.shape 7),.int .i64 (d.shape 8),.slice ao1 d.groups.1 cap1,.slice ao2 d.on.1 cap2,.slice ao3 d.tapes.1 cap3,.int .i64 d.writes,.int .i64 d.stop,.bool d.down]):=h;have HIN:Hid (InP (G:Int) 0 (d.shape 0 + d.shape 1 - 1)):=hin;clear h h' g1 g2 g3 k0 k4 k5 hin;have T0:=one_new w #[.int .i64 (d.shape 0),.int .i64 (d.shape 1),.int .i64 (d.shape 2),.int .i64 (d.shape 3),.int .i64 (d.shape 4),.int .i64 (d.shape 5),.int .i64 (d.shape 6),.int .i64 (d.shape 7),.int .i64 (d.shape 8),.slice ao1 d.groups.1 cap1,.slice ao2 d.on.1 cap2,.slice ao3 d.tapes.1 cap3,.int .i64 d.writes,.int .i64 d.stop,.bool d.down] 38
  go_enter Tryz.func25,Tryz.ntmps25
  go_wp2_with (refine wp_loadBox 38 (.tmp 2) rfl rfl (w.heap.size) rfl (cs:=[.int .i64 (d.shape 0),.int .i64 (d.shape 1),.int .i64 (d.shape 2),.int .i64 (d.shape 3),.int .i64 (d.shape 4),.int .i64 (d.shape 5),.int .i64 (d.shape 6),.int .i64 (d.shape 7),.int .i64 (d.shape 8),.slice ao1 d.groups.1 cap1,.slice ao2 d.on.1 cap2,.slice ao3 d.tapes.1 cap3,.int .i64 d.writes,.int .i64 d.stop,.bool d.down]) (T0.b1) Tryz.underlying38 size_W rfl ?_)
  refine (onFault_any d G _ hi _ (layWorld.rd_below HRD.out T0.bel hhi) (Nat.le_trans hhi T0.bel.size) hok).mono ?_;rintro e w1 ⟨x,rfl,hx,b1⟩;have HT1:Hid (One w w1 #[.int .i64 (d.shape 0),.int .i64 (d.shape 1),.int .i64 (d.shape 2),.int .i64 (d.shape 3),.int .i64 (d.shape 4),.int .i64 (d.shape 5),.int .i64 (d.shape 6),.int .i64 (d.shape 7),.int .i64 (d.shape 8),.slice ao1 d.groups.1 cap1,.slice ao2 d.on.1 cap2,.slice ao3 d.tapes.1 cap3,.int .i64 d.writes,.int .i64 d.stop,.bool d.down] 38):=T0.call b1
  have HX:Hid ((¬ HasP d.on.1 d.on.2 (G:Int) ∧ x = 8) ∨ (HasP d.on.1 d.on.2 (G:Int) ∧ x = 0)):=by
    rcases hx with ⟨h1,_⟩ | ⟨_,h⟩
    · exact absurd HIN.out h1
    · exact h
  clear b1 T0 hx
  rcases HX.out with ⟨h1,rfl⟩ | ⟨h1,rfl⟩
  · have H1:Hid (¬ HasP d.on.1 d.on.2 (G:Int)):=h1
    clear h1;go_wp2;go_ret;exact ⟨8,rfl,.inl ⟨H1.out,rfl⟩,HT1.out.bel⟩
  have H1:Hid (HasP d.on.1 d.on.2 (G:Int)):=h1;have T1:=HT1.out;clear h1
  go_wp2_with (refine wp_loadBox 38 (.tmp 2) rfl rfl (w.heap.size) rfl (cs:=[.int .i64 (d.shape 0),.int .i64 (d.shape 1),.int .i64 (d.shape 2),.int .i64 (d.shape 3),.int .i64 (d.shape 4),.int .i64 (d.shape 5),.int .i64 (d.shape 6),.int .i64 (d.shape 7),.int .i64 (d.shape 8),.slice ao1 d.groups.1 cap1,.slice ao2 d.on.1 cap2,.slice ao3 d.tapes.1 cap3,.int .i64 d.writes,.int .i64 d.stop,.bool d.down]) (T1.b1) Tryz.underlying38 size_W rfl ?_)
  refine (isDead_any d _ hi G w1 (layWorld.rd_below HRD.out HT1.out.bel hhi) (Nat.le_trans hhi HT1.out.bel.size) hG).mono ?_;rintro e w2 ⟨t,rfl,ht,b2⟩;have HB:Hid (Below w.heap.size w w2):=(HT1.out.call b2).bel;have HT:Hid (t = true ↔ DeadP d G):=ht;clear b2 ht T1
  cases t with
  | true =>
    go_wp2;go_ret;exact ⟨10,rfl,.inr ⟨H1.out,.inl ⟨HT.out.1 (by simp),rfl⟩⟩,HB.out⟩
  | false =>
    go_wp2;go_ret;exact ⟨0,rfl,.inr ⟨H1.out,.inr ⟨fun h => (by have:=HT.out.2 h;cases this),rfl⟩⟩,HB.out⟩
end Go.Proofs.YtaioliojijikaaaGreat
namespace Go.Proofs.YtaioliojijikaaaGreat
open Go.RowKit F256
end Go.Proofs.YtaioliojijikaaaGreat
namespace Go.Proofs.YtaioliojijikaaaGreat
open Go.RowKit F256
def partN (D n:Nat):Nat:=(n + 4 * D - 1) / (4 * D)
theorem part_bounds {D n:Nat} (h1:1 ≤ D) (h3:D ≤ 3) (hn:1 ≤ n) (hn2:n ≤ 12 * D):1 ≤ partN D n ∧ partN D n ≤ 3 ∧ n ≤ partN D n * (4 * D) ∧ partN D n * (4 * D) ≤ 36:=by
  unfold partN
  rcases (by omega:D = 1 ∨ D = 2 ∨ D = 3) with rfl | rfl | rfl <;> omega
theorem part_int {D n:Nat} (h1:1 ≤ D):((n:Int) + (D:Int) * 4 - 1) / ((D:Int) * 4) = ((partN D n:Nat):Int):=by
  unfold partN;rw [Int.natCast_ediv]
  congr 1 <;> omega
end Go.Proofs.YtaioliojijikaaaGreat
namespace Go.Proofs.YtaioliojijikaaaGreat
open Go.RowKit F256
theorem ok_data {s:Nat → Int} (h:OkShape s):∃ D:Nat,s 2 = (D:Int) ∧ 1 ≤ D ∧ D ≤ 3:=by
  have h2:=h.2.1;unfold Shp at h2;exact ⟨(s 2).toNat,by omega,by omega,by omega⟩
theorem alloc_cell {w:World} {o:Obj} {b j:Nat} {v:Value} (h:b < w.heap.size) (hc:w.cell? ⟨b,j,none⟩ = some v):(w.alloc o).cell? ⟨b,j,none⟩ = some v:=(cell_alloc_old w o b j h).trans hc
end Go.Proofs.YtaioliojijikaaaGreat
namespace Go.Proofs.YtaioliojijikaaaGreat
open Go.RowKit F256
def joinW (W:Nat) (f:Mat):Nat → Nat:=fun t => f (t / W) (t % W)
theorem joinW_at (W:Nat) (f:Mat) (k i:Nat) (hi:i < W):joinW W f (W * k + i) = f k i:=by
  unfold joinW;rw [Nat.mul_add_div (by omega),Nat.mul_add_mod,Nat.div_eq_of_lt hi,Nat.mod_eq_of_lt hi,Nat.add_zero]
theorem Own.cut {w:World} {lo hi g N L cap:Nat} {f:Nat → Nat} (h:Own w lo hi (.slice (some ⟨g,0,none⟩) N cap) N f) (hL:L ≤ N):Own w lo hi (.slice (some ⟨g,0,none⟩) L cap) L f:=by
  refine ⟨⟨by rw [cellsOf_length];omega,?_⟩,h.2⟩
  rcases h.1.2 with ⟨h1,_⟩ | ⟨g',cap',cur,h1,hbg,hgg,hnc,hcm,hcs,htake⟩
  · cases h1
  · cases h1
    refine .inr ⟨g,cap,cur,rfl,hbg,hgg,by omega,hcm,hcs,?_⟩
    have h2:List.take (L * 1) (List.take (N * 1) cur.toList) = List.take (L * 1) (cellsOf N f):=by rw [htake]
    rw [List.take_take,Nat.min_eq_left (by omega)] at h2;rw [h2]
    apply List.ext_getElem?
    intro i;rw [List.getElem?_take]
    by_cases hi:i < L
    · rw [if_pos (by omega),cellsOf_get _ _ _ (by omega),cellsOf_get _ _ _ hi]
    · rw [if_neg (by omega),List.getElem?_eq_none (by rw [cellsOf_length];omega)]
set_option maxHeartbeats 1000000 in
theorem l2JoinW_any (v:Value) (R W:Nat) (n:Nat → Nat) (f:Mat) (h1:Nat) (w:World) (r:RdM w h1 v R n f) (hh:h1 ≤ w.heap.size) (hR:R ≤ 1000) (hW1:1 ≤ W) (hW:W ≤ 100) (h4:∀ i,i < R → n i = W) :
    Calls Tryz.prog 45 #[v] w fun e w' => ∃ v',e = .returned v' ∧ Own w' w.heap.size w'.heap.size v' (W * R) (joinW W f) ∧ Below w.heap.size w w':=by
  obtain ⟨ao,cap,e,rfl,hm,hc,he⟩:=r
  have HE:Hid (∀ i,i < R → Rd w h1 (e i) W (f i)):=fun i hi => by have:=he i hi;rw [h4 i hi] at this;exact this
  clear he h4
  go_enter Tryz.func45,Tryz.ntmps45
  go_wp2
  go_loopw [3,4] (fun u i wr => ∃ k:Nat,k ≤ R ∧ i = .int .i64 k ∧ Own wr w.heap.size wr.heap.size u (W * k) (joinW W f) ∧ Below w.heap.size w wr) (fun _ i _ => R - (intOf i).toNat)
  case atStart => exact ⟨0,Nat.zero_le _,rfl,own_lit0 w _,(Below.refl _ _).alloc (Nat.le_refl _) _⟩
  case round =>
    obtain ⟨k,hk,rfl,hown,hb⟩:=hrel
    by_cases hlt:k < R
    · obtain ⟨b,off,rfl,hblt,hcell⟩:=hc (by omega)
      have hck:wr.cell? ⟨b,off + k,none⟩ = some (e k):=(hb.cell (p:=⟨b,off + k,none⟩) (by show b < w.heap.size;omega)).trans (hcell k hlt);have rk:Rd wr h1 (e k) W (f k):=(HE.out k hlt).below hb hh;obtain ⟨x,hx⟩:∃ x,x = e k:=⟨_,rfl⟩;rw [← hx] at hck rk;have HRK:Hid (Rd wr h1 x W (f k)):=rk;obtain ⟨aox,capx,hxs,_,_⟩:=rk;subst hxs;obtain ⟨A,hA⟩:∃ A,A = W * k:=⟨_,rfl⟩
      have hA9:A ≤ 100 * 1000:=by rw [hA];exact Nat.mul_le_mul hW (by omega)
      have HA:Hid (A = W * k):=hA
      have HG:Hid (∀ i,i < W → joinW W f (A + i) = f k i):=fun i hi => by rw [HA.out];exact joinW_at W f k i hi
      rw [← hA] at hown;have HO:Hid (Own wr w.heap.size wr.heap.size u3 A (joinW W f)):=hown;have HB:Hid (Below w.heap.size w wr):=hb;have hsz:=hb.size
      have hm4:A + W ≤ 1000000:=by omega
      have hW0:0 < W:=by omega
      clear hc hcell hown hb hx hA
      go_wp2_with (at_builtin;refine wp_appendX rfl (.tmp 12) (.tmp 16) rfl w.heap.size wr.heap.size u3 A (joinW W f) ?_ HO.out h1 (.slice aox W capx) W (f k) ?_ HRK.out hW0 HG.out hm4 hsz ?_;(simp [Act.eval]);(simp [Act.eval]);intro v2 w2 ho2 hg2)
      have R2:Below w.heap.size w w2:=HB.out.grown hg2 hsz (fun q hq => (HO.out.1.lt q hq).1)
      have e4:A + W = W * (k + 1):=by rw [HA.out,Nat.mul_succ]
      rw [e4] at ho2;clear hg2 HO HB HRK;go_wp2
      go_roundw
      case rel => exact ⟨k + 1,by omega,by go_num,ho2,R2⟩
      case measure => simp [intOf];omega
    · obtain rfl:k = R:=by omega
      go_wp2;go_ret;exact ⟨_,rfl,hown,hb⟩
def JoAns (s:Nat → Int) (R:Nat) (n:Nat → Nat) (l:Int) (x:Int):Prop :=
  (x ≠ 0 ∧ ∃ v,PfAns s l v x) ∨ (x = 1 ∧ ∃ v,PfAns s l v 0 ∧ ((R:Int) ≠ v ∨ ∃ i,i < R ∧ n i ≠ 4 * (s 2).toNat)) ∨ (x = 0 ∧ ∃ v,PfAns s l v 0 ∧ (R:Int) = v ∧ ∀ i,i < R → n i = 4 * (s 2).toNat)
theorem JoAns.one {s:Nat → Int} {R:Nat} {n:Nat → Nat} {l x y:Int} (h:JoAns s R n l x) (k:JoAns s R n l y):x = y:=by
  rcases h with ⟨h0,v,h⟩ | ⟨rfl,v,h,h2⟩ | ⟨rfl,v,h,h2,h3⟩ <;> rcases k with ⟨k0,u,k⟩ | ⟨rfl,u,k,k2⟩ | ⟨rfl,u,k,k2,k3⟩
  · exact (h.one k).2
  · exact absurd (h.one k).2 h0
  · exact (h.one k).2
  · exact absurd (h.one k).2.symm k0
  · rfl
  · obtain rfl:=(h.one k).1
    rcases h2 with h2 | ⟨i,hi,h2⟩
    · exact absurd k2 h2
    · exact absurd (k3 i hi) h2
  · exact (h.one k).2
  · obtain rfl:=(h.one k).1
    rcases k2 with k2 | ⟨i,hi,k2⟩
    · exact absurd h2 k2
    · exact absurd (h3 i hi) k2
  · rfl
end Go.Proofs.YtaioliojijikaaaGreat
namespace Go.Proofs.YtaioliojijikaaaGreat
open Go.RowKit F256
theorem size_Yr:(Tryz.prog.info? 32).map (·.size) = some 2:=by kernel_rfl
theorem yres_own {w:World} {lo hi n cap:Nat} {ao:Option Addr} {f:Nat → Nat} (h:Own w lo hi (.slice ao n cap) n f) (hhi:hi ≤ w.heap.size) (hb:∀ i,f i < 256) (c:Int) (hc:-9223372036854775808 ≤ c ∧ c ≤ 9223372036854775807):OwnT layBytesResult w lo hi ⟨c,(n,f)⟩ [.int .i64 c,.slice ao n cap] :=
  ⟨(Value.slice ao n cap).ownBlock.toList,BytesResult_mk ⟨c,(n,f)⟩ ⟨_,rfl,rfl,h.weaken (Nat.zero_le _) hhi,hb⟩ hc,by cases (Value.slice ao n cap).ownBlock <;> simp,fun b hb => by
    have e:(Value.slice ao n cap).ownBlock = some b:=by simpa using hb
    exact ⟨(h.1.lt b e).1,h.2 b e⟩⟩
theorem ycode_own (w:World) (c:Int) (hc:-9223372036854775808 ≤ c ∧ c ≤ 9223372036854775807) (lo hi:Nat) (hhi:hi ≤ w.heap.size):OwnT layBytesResult w lo hi ⟨c,(0,fun _ => 0)⟩ [.int .i64 c,.slice none 0 0]:=yres_own (own_nil w lo hi _) hhi (fun _ => Nat.zero_lt_succ _) c hc
def YPost (P:BytesResultD → Prop) (w:World) (e:Ending) (w':World):Prop:=∃ q cs,e = .returned (.agg cs.toArray) ∧ P q ∧ OwnT layBytesResult w' w.heap.size w'.heap.size q cs ∧ Below w.heap.size w w'
end Go.Proofs.YtaioliojijikaaaGreat
namespace Go.Proofs.YtaioliojijikaaaGreat
open Go.RowKit F256
def homeS (s:Nat → Int) (nm:ByteArray):Int:=(nameSum nm nm.size:Int) % s 0
theorem fieldN (c z:Int) (w':World):(Instr.field 64 (.agg #[.int .i64 c,.int .i64 z]) 1).run Tryz.prog w' = .ok (.int .i64 z) w':=by kernel_rfl
theorem home_det {s:Nat → Int} {b:ByteArray} (hok:OkShape s) (hn:OkName b) (w:World):Calls Tryz.prog 24 #[shapeV s,.string b] w fun e w' => e = .returned (.agg #[.int .i64 0,.int .i64 (homeS s b)]) ∧ Below w.heap.size w w' :=
  (implHomeOf_any s b (Nat.le_trans hn.2.1 (by decide)) w).mono fun e w' ⟨z,c,h1,h2,h3⟩ => by
    rcases h2 with ⟨h,_⟩ | ⟨_,h,_⟩ | ⟨_,_,rfl,rfl⟩
    · exact absurd hok h
    · exact absurd hn h
    · exact ⟨h1,h3⟩
def NfC (d:WorldD) (nm:ByteArray) (x:Int):Prop:=(x ≠ 0 ∧ AskAns d x) ∨ (AskAns d 0 ∧ NmAns nm x)
theorem NfC.one {d:WorldD} {nm:ByteArray} {x y:Int} (h:NfC d nm x) (k:NfC d nm y):x = y:=by
  rcases h with ⟨h1,h2⟩ | ⟨h1,h2⟩ <;> rcases k with ⟨k1,k2⟩ | ⟨k1,k2⟩
  · exact h2.one k2
  · exact absurd (h2.one k1) h1
  · exact absurd (k2.one h1) k1
  · exact h2.one k2
theorem nf_small {d:WorldD} {nm:ByteArray} {x:Int} (h:NfC d nm x):-9223372036854775808 ≤ x ∧ x ≤ 9223372036854775807:=by
  rcases h with ⟨h1,h2⟩ | ⟨_,⟨rfl,_⟩ | ⟨rfl,_⟩⟩
  · exact where_small (d:=d) (g:=0) (r:=0) (.inl ⟨h1,h2⟩)
  all_goals decide
theorem nf_zero {d:WorldD} {nm:ByteArray} (h:NfC d nm 0):AskAns d 0 ∧ OkName nm:=by
  rcases h with ⟨h1,_⟩ | ⟨h1,⟨h2,_⟩ | ⟨_,h2⟩⟩
  · exact absurd rfl h1
  · cases h2
  · exact ⟨h1,h2⟩
theorem ask_wld {d:WorldD} (h:AskAns d 0):WldAns d 0:=by
  rcases h with ⟨h,_⟩ | ⟨h,_⟩
  · exact absurd rfl h
  · exact h
def homeG (d:WorldD) (nm:ByteArray):Nat:=(homeS d.shape nm).toNat
def rowsB (d:WorldD) (G:Nat) (r:RecD):Nat → Nat:=joinW (4 * (d.shape 2).toNat) (fun k => rowB d G (r.rows.2 k).toNat)
def RdItP (d:WorldD) (nm:ByteArray) (r:RecD) (q:BytesResultD):Prop :=
  (r.data.1 ≠ 0 ∧ q = ⟨0,r.data⟩) ∨ (r.data.1 = 0 ∧ ((∃ x,x ≠ 0 ∧ LivC d (homeG d nm) x ∧ q = ⟨x,(0,fun _ => 0)⟩) ∨ (LivC d (homeG d nm) 0 ∧ q = ⟨0,(r.length.toNat,rowsB d (homeG d nm) r)⟩)))
theorem LivC.one {d:WorldD} {g x y:Int} (h:LivC d g x) (k:LivC d g y):x = y:=by
  rcases h with ⟨h1,rfl⟩ | ⟨h1,⟨h2,rfl⟩ | ⟨h2,rfl⟩⟩ <;> rcases k with ⟨k1,rfl⟩ | ⟨k1,⟨k2,rfl⟩ | ⟨k2,rfl⟩⟩ <;> first | rfl | exact absurd h1 k1 | exact absurd k1 h1 | exact absurd h2 k2 | exact absurd k2 h2
theorem livC_ex (d:WorldD) (g:Int):∃ x,LivC d g x:=by
  by_cases h:HasP d.on.1 d.on.2 g
  · by_cases k:DeadP d g.toNat
    · exact ⟨10,.inr ⟨h,.inl ⟨k,rfl⟩⟩⟩
    · exact ⟨0,.inr ⟨h,.inr ⟨k,rfl⟩⟩⟩
  · exact ⟨8,.inl ⟨h,rfl⟩⟩
theorem livC_small {d:WorldD} {g x:Int} (h:LivC d g x):-9223372036854775808 ≤ x ∧ x ≤ 9223372036854775807:=by
  rcases h with ⟨_,rfl⟩ | ⟨_,⟨_,rfl⟩ | ⟨_,rfl⟩⟩ <;> decide
theorem livC_zero {d:WorldD} {g:Int} (h:LivC d g 0):HasP d.on.1 d.on.2 g ∧ ¬ DeadP d g.toNat:=by
  rcases h with ⟨_,h⟩ | ⟨h1,⟨_,h⟩ | ⟨h2,_⟩⟩
  · cases h
  · cases h
  · exact ⟨h1,h2⟩
theorem RdItP.one {d:WorldD} {nm:ByteArray} {r:RecD} {p q:BytesResultD} (h:RdItP d nm r p) (k:RdItP d nm r q):p = q:=by
  rcases h with ⟨h1,rfl⟩ | ⟨h1,⟨x,h2,h3,rfl⟩ | ⟨h2,rfl⟩⟩ <;> rcases k with ⟨k1,rfl⟩ | ⟨k1,⟨y,k2,k3,rfl⟩ | ⟨k2,rfl⟩⟩
  · rfl
  · exact absurd k1 h1
  · exact absurd k1 h1
  · exact absurd h1 k1
  · rw [h3.one k3]
  · exact absurd (h3.one k2) h2
  · exact absurd h1 k1
  · exact absurd (k3.one h2) k2
  · rfl
theorem rdIt_ex (d:WorldD) (nm:ByteArray) (r:RecD):∃ q,RdItP d nm r q:=by
  by_cases h:r.data.1 = 0
  · obtain ⟨x,hx⟩:=livC_ex d (homeG d nm)
    by_cases h0:x = 0
    · subst h0
      exact ⟨_,.inr ⟨h,.inr ⟨hx,rfl⟩⟩⟩
    · exact ⟨_,.inr ⟨h,.inl ⟨x,h0,hx,rfl⟩⟩⟩
  · exact ⟨_,.inl ⟨h,rfl⟩⟩
def IbP (d:WorldD) (x:Nat → RecD) (n:Nat) (nm:ByteArray) (q:BytesResultD):Prop :=
  (lastI (itm x nm) n = -1 ∧ q = ⟨4,(0,fun _ => 0)⟩) ∨ ∃ i:Nat,i < n ∧ lastI (itm x nm) n = (i:Int) ∧ (((x i).length < 0 ∧ q = ⟨4,(0,fun _ => 0)⟩) ∨ (¬ (x i).length < 0 ∧ RdItP d nm (x i) q))
theorem IbP.one {d:WorldD} {x:Nat → RecD} {n:Nat} {nm:ByteArray} {p q:BytesResultD} (h:IbP d x n nm p) (k:IbP d x n nm q):p = q:=by
  rcases h with ⟨h1,h2⟩ | ⟨i,hi,h1,h2⟩ <;> rcases k with ⟨k1,k2⟩ | ⟨j,hj,k1,k2⟩
  · rw [h2,k2]
  · omega
  · omega
  · obtain rfl:i = j:=by omega
    rcases h2 with ⟨a,h2⟩ | ⟨a,h2⟩ <;> rcases k2 with ⟨b,k2⟩ | ⟨b,k2⟩
    · rw [h2,k2]
    · exact absurd a b
    · exact absurd b a
    · exact h2.one k2
theorem ibP_ex (d:WorldD) (x:Nat → RecD) (n:Nat) (nm:ByteArray):∃ q,IbP d x n nm q:=by
  rcases lastI_cases (itm x nm) n with e | ⟨i,h1,h2,h3⟩
  · exact ⟨_,.inl ⟨e,rfl⟩⟩
  · by_cases c:(x i).length < 0
    · exact ⟨_,.inr ⟨i,h1,h2,.inl ⟨c,rfl⟩⟩⟩
    · obtain ⟨q,hq⟩:=rdIt_ex d nm (x i)
      exact ⟨q,.inr ⟨i,h1,h2,.inr ⟨c,hq⟩⟩⟩
def IbAns (d:WorldD) (nm:ByteArray) (q:BytesResultD):Prop:=(∃ x,x ≠ 0 ∧ NfC d nm x ∧ q = ⟨x,(0,fun _ => 0)⟩) ∨ (NfC d nm 0 ∧ ∃ l,Cnt (recT d.tapes.2 2) (lenT d.tapes.2 2) l ∧ IbP d (fun i => recT d.tapes.2 2 (l.getD i 0)) l.length nm q)
theorem IbAns.one {d:WorldD} {nm:ByteArray} {p q:BytesResultD} (h:IbAns d nm p) (k:IbAns d nm q):p = q:=by
  rcases h with ⟨x,h1,h2,rfl⟩ | ⟨h1,l,hl,hp⟩ <;> rcases k with ⟨y,k1,k2,rfl⟩ | ⟨k1,m,hm,kp⟩
  · rw [h2.one k2]
  · exact absurd (h2.one k1) h1
  · exact absurd (k2.one h1) k1
  · obtain rfl:=hl.uniq hm
    exact hp.one kp
structure InRows (s:Nat → Int) (r:RecD):Prop where
  len:1 ≤ r.length
  most:r.length ≤ 3 * (s 2 * 4)
  count:(r.rows.1:Int) = (r.length + s 2 * 4 - 1) / (s 2 * 4)
  apart:ApartP r.rows.1 r.rows.2 (s 4 - 1)
theorem in_rows {s:Nat → Int} {r:RecD} (h:KindP s r) (hk:r.kind = 1) (hn:¬ r.length < 0) (hd:r.data.1 = 0):InRows s r:=by
  rcases h with ⟨_,h⟩ | ⟨h,_⟩ | ⟨h,_⟩ | ⟨h,_⟩
  · rcases h with ⟨h,_⟩ | ⟨_,h1,h2,⟨h3,_⟩ | ⟨_,h3,h4⟩⟩
    · omega
    · omega
    · exact ⟨h1,h2,h3,h4⟩
  · omega
  · omega
  · omega
theorem InRows.few {s:Nat → Int} {r:RecD} (hok:OkShape s) (h:InRows s r):1 ≤ r.rows.1 ∧ r.rows.1 ≤ 3:=by
  have hb:=okB hok;have h1:=h.len;have h2:=h.most;have h3:=h.count
  have c:0 < s 2 * 4:=by omega
  have e1:(1:Int) ≤ (r.length + s 2 * 4 - 1) / (s 2 * 4):=Int.le_ediv_of_mul_le c (by omega);have e2:(r.length + s 2 * 4 - 1) / (s 2 * 4) < 4:=Int.ediv_lt_of_lt_mul c (by omega);omega
theorem InRows.pf {s:Nat → Int} {r:RecD} (hok:OkShape s) (h:InRows s r):PfAns s r.length r.rows.1 0:=.inr (.inr (.inr ⟨hok,h.len,h.most,rfl,h.count⟩))
theorem home_in {d:WorldD} (hok:OkWorld d) (nm:ByteArray):((homeG d nm:Nat):Int) = homeS d.shape nm ∧ InP (homeG d nm:Int) 0 (d.shape 0 + d.shape 1 - 1) ∧ homeG d nm < d.groups.1:=by
  have hb:=okB hok.shape
  have c:d.shape 0 ≠ 0:=by omega
  have h1:0 ≤ homeS d.shape nm:=Int.emod_nonneg _ c;have h2:homeS d.shape nm < d.shape 0:=Int.emod_lt_of_pos _ (by omega)
  have e:((homeG d nm:Nat):Int) = homeS d.shape nm:=by unfold homeG;omega
  have hf:=hok.form.1.1;refine ⟨e,⟨by omega,by omega⟩,?_⟩;omega
end Go.Proofs.YtaioliojijikaaaGreat
namespace Go.Proofs.YtaioliojijikaaaGreat
open Go.RowKit F256
end Go.Proofs.YtaioliojijikaaaGreat
namespace Go.Proofs.YtaioliojijikaaaGreat
open Go.RowKit F256
theorem run_slice_from (b off n cap m:Nat) (hm:m ≤ n):∃ ao,(cap ≠ m → ao = some ⟨b,off + m,none⟩) ∧ ∀ w,(Instr.slice 30 (.slice (some ⟨b,off,none⟩) n cap) (some (.int .i64 (m:Int))) none none).run Tryz.prog w = .ok (.slice ao (n - m) (cap - m)) w:=by
  by_cases h:cap = m
  · refine ⟨some ⟨b,off,none⟩,fun k => absurd h k,fun w => ?_⟩
    have e1:(m:Int) ≤ (n:Int):=by omega
    subst h
    simp [Instr.slice,run_underlying Tryz.underlying30,Instr.sliceBounds,Instr.sliceBound,asIntOf,go_sem,e1,hm]
  · refine ⟨some ⟨b,off + m,none⟩,fun _ => rfl,fun w => ?_⟩
    have e1:(m:Int) ≤ (n:Int):=by omega
    simp [Instr.slice,run_underlying Tryz.underlying30,Instr.sliceBounds,Instr.sliceBound,asIntOf,go_sem,e1,hm,h]
theorem rowLength_be (s:Nat → Int) (W:Nat) (hW:s 2 * 4 = (W:Int)) (h1:1 ≤ s 2) (h2:s 2 ≤ 1000) (w:World) :
    Calls Tryz.prog 87 #[.agg #[.int .i64 (s 0),.int .i64 (s 1),.int .i64 (s 2),.int .i64 (s 3),.int .i64 (s 4),.int .i64 (s 5),.int .i64 (s 6),.int .i64 (s 7),.int .i64 (s 8)]] w fun e w' => e = .returned (.int .i64 (W:Int)) ∧ Below w.heap.size w w' :=
  (rowLength_any s h1 h2 w).mono fun e w' h => ⟨by rw [h.1,hW],h.2⟩
theorem part_lt {D n k:Nat} (hD:1 ≤ D) (hn:1 ≤ n) (h:k < partN D n):4 * D * k < n:=by
  unfold partN at h;have h2:(k + 1) * (4 * D) ≤ n + 4 * D - 1:=(Nat.le_div_iff_mul_le (by omega)).mp h;rw [Nat.succ_mul,Nat.mul_comm] at h2;omega
end Go.Proofs.YtaioliojijikaaaGreat
namespace Go.Proofs.YtaioliojijikaaaGreat
open Go.RowKit F256
set_option maxHeartbeats 1000000 in
theorem allLong_any (v:Value) (R:Nat) (n:Nat → Nat) (f:Mat) (hi:Nat) (W:Nat) (hW:W ≤ 1000) (bb:Bool) (hbb:bb = true ↔ ∀ i,i < R → n i = W) (w:World) (r:RdM w hi v R n f) :
    Calls Tryz.prog 86 #[v,.int .i64 (W:Int)] w fun e w' => e = .returned (.bool bb) ∧ w' = w:=by
  obtain ⟨ao,cap,e,rfl,hm,hc,he⟩:=r;unfold maxLen at hm;have HB:Hid (bb = true ↔ ∀ i,i < R → n i = W):=hbb;clear hbb
  go_enter Tryz.func86,Tryz.ntmps86
  go_wp2
  go_loop [9] (fun i => ∃ k:Nat,k ≤ R ∧ i = .int .i64 k ∧ ∀ i,i < k → n i = W) (fun i => R - (intOf i).toNat)
  case atStart => exact ⟨0,Nat.zero_le _,rfl,fun i hi => by omega⟩
  case round =>
    obtain ⟨k,hk,rfl,hall⟩:=hrel;have HALL:Hid (∀ i,i < k → n i = W):=hall;clear hall
    by_cases hlt:k < R
    · obtain ⟨b,off,rfl,hblt,hcell⟩:=hc (by omega)
      obtain ⟨aok,capk,hsk,hmk,hqk⟩:=he k hlt
      have hck:w.cell? ⟨b,off + k,none⟩ = some (.slice aok (n k) capk):=by rw [← hsk];exact hcell k hlt
      unfold maxLen at hmk;obtain ⟨nk,hnk⟩:∃ x,x = n k:=⟨_,rfl⟩;rw [← hnk] at hck hmk;have HN:Hid (nk = n k):=hnk;clear hc he hcell hsk hqk hnk
      by_cases heq:nk = W
      · subst heq
        have tn:((nk:Int) != (nk:Int)) = false:=by simp
        go_wp2
        go_round
        case rel => exact ⟨k + 1,by omega,by go_num,fun i hi => by
                      by_cases cc:i = k
                      · rw [cc,← HN.out]
                      · exact HALL.out i (by omega)⟩
        case measure => simp [intOf];omega
      · have tn:((nk:Int) != (W:Int)) = true:=by simp;omega
        have HF:Hid (bb = false):=by
          show bb = false
          cases hb:bb with
          | false => rfl
          | true => exact absurd (HN.out.trans (HB.out.mp hb k hlt)) heq
        clear heq;go_wp2;go_ret;have hf:=HF.out;subst hf;exact ⟨rfl,rfl⟩
    · obtain rfl:k = R:=by omega
      have HF:Hid (bb = true):=HB.out.mpr HALL.out;go_wp2;go_ret;have hf:=HF.out;subst hf;exact ⟨rfl,rfl⟩
def upTo (W:Nat) (f:Mat) (k:Nat):Nat → Nat:=fun i => if i < W * k then joinW W f i else 0
theorem upTo_zero (W:Nat) (f:Mat):upTo W f 0 = fun _ => 0:=by funext i;simp [upTo]
theorem upTo_row {W L k c:Nat} {f:Mat} (hc:c ≤ W) (h1:W * k + c ≤ L) (h2:c = L - W * k ∨ c = W):splice (cellsOf L (upTo W f k)) (W * k) (cellsOf c (f k)) = cellsOf L (upTo W f (k + 1)):=by
  refine splice_cells L (W * k) c _ _ _ h1 (fun i hi => ?_);unfold upTo;rw [Nat.mul_succ]
  by_cases hk:i < W * k
  · rw [if_pos (by omega),if_neg (by omega),if_pos hk]
  · by_cases hk2:i < W * k + c
    · rw [if_pos (by omega),if_pos ⟨by omega,hk2⟩]
      have:=joinW_at W f k (i - W * k) (by omega);rw [← this]
      congr 1
      omega
    · rw [if_neg (by omega),if_neg (by omega),if_neg hk]
theorem copy_src_part {w:World} {hi n c cap:Nat} {ao:Option Addr} {f:Nat → Nat} (r:Rd w hi (.slice ao n cap) n f) (hc:c ≤ n) (h:0 < (cellsOf c f).length):∃ ad,ao = some ad ∧ ∀ j v,(cellsOf c f)[j]? = some v → w.cell? (ad.add j) = some v:=by
  have h':=h;rw [cellsOf_length] at h';obtain ⟨ad,h1,h2⟩:=copy_src r (by rw [cellsOf_length];omega);refine ⟨ad,h1,fun j v hj => h2 j v ?_⟩
  by_cases hjc:j < c
  · rw [cellsOf_get c f j hjc] at hj
    rw [cellsOf_get n f j (by omega)];exact hj
  · rw [List.getElem?_eq_none (by rw [cellsOf_length];omega)] at hj
    cases hj
set_option maxHeartbeats 8000000 in
theorem implJoin_any (s:Nat → Int) (v:Value) (R:Nat) (n:Nat → Nat) (f:Mat) (l:Int) (h1:Nat) (w:World) (r:RdM w h1 v R n f) (hh:h1 ≤ w.heap.size) :
    Calls Tryz.prog 55 #[shapeV s,v,.int .i64 l] w fun ee w' => ∃ x v',ee = .returned (bytesR x v') ∧ JoAns s R n l x ∧ Own w' w.heap.size w'.heap.size v' (if x = 0 then l.toNat else 0) (joinW (4 * (s 2).toNat) f) ∧ Below w.heap.size w w':=by
  have HR:Hid (RdM w h1 v R n f):=r;obtain ⟨ao,cap,e,rfl,hm,hc,he⟩:=r;unfold maxLen at hm;have HHE:Hid (∀ i,i < R → Rd w h1 (e i) (n i) (f i)):=he;have HHC:Hid (R ≠ 0 → ∃ b off,ao = some ⟨b,off,none⟩ ∧ b < h1 ∧ ∀ i,i < R → w.cell? ⟨b,off + i,none⟩ = some (e i)):=hc;clear hc he;have CP:=implParts_any s l
  unfold shapeV at *
  go_enter Tryz.func55,Tryz.ntmps55
  go_wp2_with fail
  refine (CP _).mono ?_;rintro e0 w1 ⟨x,c,rfl,hp,b1'⟩;obtain ⟨X1,X2,B1,z1⟩:=two_new b1';obtain ⟨y0,y1,y2,y3⟩:=res_cells X2
  have z0:w.heap.size < w1.heap.size:=by omega
  have HP:Hid (PfAns s l x c):=hp;have HX1:Hid (Box w1 w.heap.size #[.int .i64 (s 0),.int .i64 (s 1),.int .i64 (s 2),.int .i64 (s 3),.int .i64 (s 4),.int .i64 (s 5),.int .i64 (s 6),.int .i64 (s 7),.int .i64 (s 8)] 34):=X1;have HX2:Hid (Box w1 (w.heap.size + 1) #[.int .i64 0,.slice none 0 0] 32):=X2;have BA:Below w.heap.size w (w1.alloc (.cells #[.int .i64 c,.int .i64 x] 64)):=B1.alloc B1.size _;clear b1' X1 X2 hp CP;unfold intR
  have HQ:Hid (∀ d:Int,(((w1.setCell ⟨w.heap.size + 1,0,none⟩ (.int .i64 d)).setCell ⟨w.heap.size + 1,1,none⟩ (.slice none 0 0)).alloc (.cells #[.int .i64 c,.int .i64 x] 64)).cell? ⟨w.heap.size + 1,0,none⟩ = some (.int .i64 d) ∧ (((w1.setCell ⟨w.heap.size + 1,0,none⟩ (.int .i64 d)).setCell ⟨w.heap.size + 1,1,none⟩ (.slice none 0 0)).alloc (.cells #[.int .i64 c,.int .i64 x] 64)).cell? ⟨w.heap.size + 1,1,none⟩ = some (.slice none 0 0)):=fun d => by
    have sz2:w.heap.size + 1 < ((w1.setCell ⟨w.heap.size + 1,0,none⟩ (.int .i64 d)).setCell ⟨w.heap.size + 1,1,none⟩ (.slice none 0 0)).heap.size:=by simp;exact z1
    have u0:((w1.setCell ⟨w.heap.size + 1,0,none⟩ (.int .i64 d)).setCell ⟨w.heap.size + 1,1,none⟩ (.slice none 0 0)).cell? ⟨w.heap.size + 1,0,none⟩ = some (.int .i64 d):=by simp [go_sem,y0,y1]
    have u1:((w1.setCell ⟨w.heap.size + 1,0,none⟩ (.int .i64 d)).setCell ⟨w.heap.size + 1,1,none⟩ (.slice none 0 0)).cell? ⟨w.heap.size + 1,1,none⟩ = some (.slice none 0 0):=by simp [go_sem,y0,y1]
    exact ⟨alloc_cell sz2 u0,alloc_cell sz2 u1⟩
  by_cases hc0:c = 0
  · subst hc0
    have HOK:Hid (OkShape s ∧ 1 ≤ l ∧ l ≤ 3 * (s 2 * 4) ∧ x = (l + s 2 * 4 - 1) / (s 2 * 4)):=by
      rcases HP.out with ⟨_,h,_⟩ | ⟨_,_,h,_⟩ | ⟨_,_,_,h,_⟩ | ⟨h1,h2,h3,_,h4⟩
      · omega
      · omega
      · omega
      · exact ⟨h1,h2,h3,h4⟩
    obtain ⟨D,hD,hD1,hD3⟩:=ok_data HOK.out.1
    have HDT:Hid ((s 2).toNat = D):=by show (s 2).toNat = D;rw [hD];simp
    obtain ⟨L,rfl⟩:∃ L:Nat,l = L:=⟨l.toNat,by have:=HOK.out.2.1;omega⟩
    have hL1:1 ≤ L:=by have:=HOK.out.2.1;omega
    have hL2:L ≤ 12 * D:=by have:=HOK.out.2.2.1;rw [hD] at this;omega
    have hxP:x = ((partN D L:Nat):Int):=by rw [HOK.out.2.2.2,hD,part_int hD1]
    obtain ⟨p1,p2,p3,p4⟩:=part_bounds hD1 hD3 hL1 hL2;have HPLL:Hid (∀ k,k < partN D L → 4 * D * k < L):=fun k hk => part_lt hD1 hL1 hk;obtain ⟨P,hP⟩:∃ P,P = partN D L:=⟨_,rfl⟩;rw [← hP] at hxP p1 p2 p3 p4 HPLL;obtain ⟨W,hW⟩:∃ W,W = 4 * D:=⟨_,rfl⟩
    have HW:Hid (4 * (s 2).toNat = W):=by show 4 * (s 2).toNat = W;rw [HDT.out,hW]
    rw [← hW] at p3 p4 HPLL;have CW:=rowLength_be s W (by rw [hD];omega) (by omega) (by omega)
    have hW12:W ≤ 12 ∧ 4 ≤ W:=by omega
    have HPW:Hid (L ≤ P * W ∧ P * W ≤ 36):=⟨p3,p4⟩;subst hxP;clear hP hW hD p3 p4 HOK
    by_cases hRP:R = P
    · subst hRP
      obtain ⟨wA,hwA⟩:∃ wA,wA = w1.alloc (.cells #[.int .i64 0,.int .i64 (R:Int)] 64):=⟨_,rfl⟩
      have HXA:Hid (Box wA w.heap.size #[.int .i64 (s 0),.int .i64 (s 1),.int .i64 (s 2),.int .i64 (s 3),.int .i64 (s 4),.int .i64 (s 5),.int .i64 (s 6),.int .i64 (s 7),.int .i64 (s 8)] 34):=by
        show Box wA w.heap.size _ _
        rw [hwA];exact HX1.out.allocd _
      have HXB:Hid (Box wA (w.heap.size + 1) #[.int .i64 0,.slice none 0 0] 32):=by
        show Box wA (w.heap.size + 1) _ _
        rw [hwA];exact HX2.out.allocd _
      have HBA:Hid (Below w.heap.size w wA):=by show Below w.heap.size w wA;rw [hwA];exact BA
      have zA:w.heap.size + 1 < wA.heap.size:=HXB.out.lt
      have tR:((R:Int) != (R:Int)) = false:=by simp
      clear BA;have XA:=HX1.out.allocd (.cells #[.int .i64 0,.int .i64 (R:Int)] 64);obtain ⟨x0,x1,x2,x3,x4,x5,x6,x7,x8⟩:=box9 XA;clear XA
      go_wp2_with fail
      refine (CW _).mono ?_;rintro ee w3 ⟨rfl,b3⟩;rw [← hwA] at b3;clear hwA y0 y1 y2 y3 x0 x1 x2 x3 x4 x5 x6 x7 x8;have HB3:Hid (Below w.heap.size w w3):=HBA.out.trans (b3.mono HBA.out.size);have HX3:Hid (Box w3 (w.heap.size + 1) #[.int .i64 0,.slice none 0 0] 32):=HXB.out.below b3 zA;have z3:w.heap.size + 1 < w3.heap.size:=HX3.out.lt;have HR3:Hid (RdM w3 h1 (.slice ao R cap) R n f):=HR.out.below HB3.out hh;clear b3 HXA HXB HBA zA HX1 HX2
      obtain ⟨bb,hbb⟩:∃ bb:Bool,bb = true ↔ ∀ i,i < R → n i = W:=by
        by_cases c:∀ i,i < R → n i = W
        · exact ⟨true,⟨fun _ => c,fun _ => rfl⟩⟩
        · exact ⟨false,⟨fun h => (by cases h),fun h => absurd h c⟩⟩
      have CA:=allLong_any (.slice ao R cap) R n f h1 W (by omega) bb hbb w3 HR3.out;have HBB:Hid (bb = true ↔ ∀ i,i < R → n i = W):=hbb;clear hbb
      go_wp2_with fail
      refine CA.mono ?_;rintro ee w4 ⟨rfl,hw4⟩;obtain rfl:=hw4.symm;clear CA
      cases bb with
      | false =>
        have HJ:Hid (JoAns s R n (L:Int) 1):=.inr (.inl ⟨rfl,_,HP.out,.inr (by
          have h1:¬ ∀ i,i < R → n i = W:=fun h => by have:=HBB.out.mpr h;cases this
          rw [HW.out]
          exact Classical.byContradiction fun h2 => h1 fun i hi => Classical.byContradiction fun h3 => h2 ⟨i,hi,h3⟩)⟩)
        obtain ⟨r0,r1,r2,r3⟩:=res_cells HX3.out;go_wp2;exact bodyPost_ret (v:=bytesR 1 (.slice none 0 0)) (by simp [results,Tryz.results55,go_sem,bytesR,r0,r1]) rfl ⟨1,_,rfl,HJ.out,own_nil _ _ _ _,(HB3.out.setCell (Nat.le_succ _) _).setCell (Nat.le_succ _) _⟩
      | true =>
        have HALL:Hid (∀ i,i < R → n i = W):=HBB.out.mp rfl;have HJ:Hid (JoAns s R n (L:Int) 0):=.inr (.inr ⟨rfl,_,HP.out,rfl,fun i hi => by rw [HW.out];exact HALL.out i hi⟩);have HANS:Hid (∀ w' v',Own w' w.heap.size w'.heap.size v' L (joinW W f) → Below w.heap.size w w' → ∃ x v'',Ending.returned (bytesR 0 v') = .returned (bytesR x v'') ∧ JoAns s R n (L:Int) x ∧ Own w' w.heap.size w'.heap.size v'' (if x = 0 then ((L:Int)).toNat else 0) (joinW (4 * (s 2).toNat) f) ∧ Below w.heap.size w w'):=fun w' v' ho hb => ⟨0,v',rfl,HJ.out,by rw [if_pos rfl,HW.out,Int.toNat_natCast];exact ho,hb⟩;have HPL:Hid (∀ k,k < R → W * k < L):=HPLL.out;clear HBB HJ HP HR CW HPLL
        go_wp2_with (at_make;refine wp_makeB _ rfl _ _ rfl _ _ L rfl rfl rfl rfl (by omega) ?_;intro w5 ho5 hb5 hz5)
        have HF0:Hid (w5.heap[w3.heap.size]? = some (.cells (cellsOf L (upTo W f 0)).toArray 5 (0,0))):=by
          have:=ho5.full;rw [show (cellsOf L fun _ => 0) = cellsOf L (upTo W f 0) from congrArg (cellsOf L) (upTo_zero W f).symm] at this;exact this
        clear ho5
        go_loopw [9,39] (fun u i wr => ∃ k:Nat,k ≤ R ∧ i = .int .i64 k ∧ (k < R → u = .slice (some ⟨w3.heap.size,W * k,none⟩) (L - W * k) (L - W * k)) ∧ Hid (wr.heap[w3.heap.size]? = some (.cells (cellsOf L (upTo W f k)).toArray 5 (0,0))) ∧ Below w3.heap.size w3 wr ∧ w3.heap.size < wr.heap.size) (fun _ i _ => R - (intOf i).toNat)
        case atStart => exact ⟨0,Nat.zero_le _,rfl,fun _ => by simp,HF0,hb5,hz5⟩
        case round =>
          clear HF0 hb5 hz5;obtain ⟨k,hk,rfl,hu,hF,hb,hz⟩:=hrel
          by_cases hlt:k < R
          · obtain rfl:=hu hlt
            have HB:Hid (Below w3.heap.size w3 wr):=hb;have HBW:Hid (Below w.heap.size w wr):=HB3.out.trans (hb.mono HB3.out.size);obtain ⟨b,off,hao,hblt,hcell⟩:=HHC.out (by omega);subst hao
            have hbw:b < w.heap.size:=by omega
            have hck:wr.cell? ⟨b,off + k,none⟩ = some (e k):=(HBW.out.cell (p:=⟨b,off + k,none⟩) hbw).trans (hcell k hlt)
            have rk:Rd wr h1 (e k) W (f k):=by have:=HHE.out k hlt;rw [HALL.out k hlt] at this;exact this.below HBW.out hh
            obtain ⟨aok,capk,hsk,hmk,hqk⟩:=rk;have HRK:Hid (Rd wr h1 (.slice aok W capk) W (f k)):=⟨aok,capk,rfl,hmk,hqk⟩;rw [hsk] at hck;obtain ⟨A,hA⟩:∃ A,A = W * k:=⟨_,rfl⟩
            have hAn:A < L:=by rw [hA];exact HPL.out k hlt
            have hA1:k + 1 < R → A + W < L:=fun h => by have:=HPL.out (k + 1) h;rw [Nat.mul_succ,← hA] at this;exact this
            obtain ⟨Ln,hLn⟩:∃ x,x = L - A:=⟨_,rfl⟩;obtain ⟨c,hc⟩:∃ c,c = Nat.min W Ln:=⟨_,rfl⟩
            have hcm:c ≤ Ln ∧ c ≤ W ∧ (c = Ln ∨ c = W):=by
              have:c = min W Ln:=hc;omega
            have HSP:Hid (splice (cellsOf L (upTo W f k)) A (cellsOf c (f k)) = cellsOf L (upTo W f (k + 1))):=by
              show splice (cellsOf L (upTo W f k)) A (cellsOf c (f k)) = cellsOf L (upTo W f (k + 1))
              rw [hA];exact upTo_row hcm.2.1 (by rw [← hA];omega) (by rw [← hA];omega)
            have HL1:Hid ((cellsOf c (f k)).length = Nat.min W Ln):=by show (cellsOf c (f k)).length = Nat.min W Ln;rw [cellsOf_length,hc]
            have HL2:Hid (A + (cellsOf c (f k)).length ≤ (cellsOf L (upTo W f k)).length):=by
              show A + (cellsOf c (f k)).length ≤ (cellsOf L (upTo W f k)).length
              rw [cellsOf_length,cellsOf_length];omega
            obtain ⟨ar,har,hsl⟩:=run_slice_from w3.heap.size A Ln Ln c hcm.1
            have HAO:Hid (k + 1 < R → (.slice ar (Ln - c) (Ln - c):Value) = .slice (some ⟨w3.heap.size,W * (k + 1),none⟩) (L - W * (k + 1)) (L - W * (k + 1))):=fun h => by
              have h1:=hA1 h
              have h2:c = W:=by omega
              rw [har (by omega),Nat.mul_succ,← hA,h2]
              congr 1 <;> omega
            have HSRC:Hid (∀ hp:0 < (cellsOf c (f k)).length,∃ ad,aok = some ad ∧ ∀ j v,(cellsOf c (f k))[j]? = some v → wr.cell? (ad.add j) = some v):=fun hp => copy_src_part HRK.out hcm.2.1 hp;obtain ⟨r1,hr1⟩:∃ x,x = Ln - c:=⟨_,rfl⟩;rw [← hr1] at hsl HAO;have hlc:(cellsOf c (f k)).length = c:=cellsOf_length _ _;rw [← hA,← hLn]
            have hc12:c ≤ 12:=by omega
            clear hb hu hA hA1 hLn hc hcm har hr1 hAn hcell hsk hqk hmk HRK
            go_wp2_with (refine wpList_copy_splice rfl (.tmp 44) (.tmp 45) 30 30 rfl 5 Tryz.underlying30 size_u8 (some ⟨w3.heap.size,A,none⟩) aok Ln Ln W capk rfl ?_ w3.heap.size A (cellsOf L (upTo W f k)) 5 hF.out (cellsOf c (f k)) HL1.out (fun hp => ⟨rfl,HSRC.out hp⟩) HL2.out (cellsOf_one c _) w3.heap.size w3 HB.out (Nat.le_refl _) ?_;(simp [Act.eval]);intro w6 hF6 hb6;rw [hlc])
            have F6:=hF6.out;rw [HSP.out] at F6;have HF6:Hid (w6.heap[w3.heap.size]? = some (.cells (cellsOf L (upTo W f (k + 1))).toArray 5 (0,0))):=F6;have z6:w3.heap.size < w6.heap.size:=(Array.getElem?_eq_some_iff.1 F6).1;clear F6 hF6
            go_roundw
            case rel => exact ⟨k + 1,by omega,by go_num,HAO.out,HF6,hb6,z6⟩
            case measure => simp [intOf];omega
          · obtain rfl:k = R:=by omega
            have B9:Below w.heap.size w wr:=HB3.out.trans (hb.mono HB3.out.size);obtain ⟨r0,r1,r2,r3⟩:=res_cells (HX3.out.below hb z3);have O9:Own wr w3.heap.size wr.heap.size (.slice (some ⟨w3.heap.size,0,none⟩) L L) L (upTo W f k):=own_of_full hF.out (Nat.le_refl _) (by unfold maxLen;omega)
            have O8:Own wr w3.heap.size wr.heap.size (.slice (some ⟨w3.heap.size,0,none⟩) L L) L (joinW W f):=O9.congr (fun i hi => by
              have:=HPW.out.1;rw [Nat.mul_comm] at this
              simp [upTo,show i < W * k by omega])
            have HO8:Hid (Own wr w3.heap.size wr.heap.size (.slice (some ⟨w3.heap.size,0,none⟩) L L) L (joinW W f)):=O8;clear hb hu O9 O8 hF;go_wp2;refine bodyPost_ret (v:=bytesR 0 (.slice (some ⟨w3.heap.size,0,none⟩) L L)) (by simp [results,Tryz.results55,go_sem,bytesR,r0,r1]) rfl (HANS.out _ _ ?_ ((B9.setCell (Nat.le_succ _) _).setCell (Nat.le_succ _) _));have o1:=out_store wr (w.heap.size + 1) (w.heap.size + 2) (w.heap.size + 1) 0 (.int .i64 0) (Nat.le_refl _) (by omega);have o2:=out_store (wr.setCell ⟨w.heap.size + 1,0,none⟩ (.int .i64 0)) (w.heap.size + 1) (w.heap.size + 2) (w.heap.size + 1) 1 (.slice (some ⟨w3.heap.size,0,none⟩) L L) (Nat.le_refl _) (by omega);exact (HO8.out.out (o1.trans o2) (.inr (by omega))).weaken (by omega) (by rw [(o1.trans o2).size];exact Nat.le_refl _)
    · have tR:((R:Int) != (P:Int)) = true:=by simp;omega
      have HJ:Hid (JoAns s R n (L:Int) 1):=.inr (.inl ⟨rfl,_,HP.out,.inl (by omega)⟩);obtain ⟨q0,q1⟩:=HQ.out 1;clear hRP;go_wp2;exact bodyPost_ret (v:=bytesR 1 (.slice none 0 0)) (by simp [results,Tryz.results55,go_sem,bytesR,q0,q1]) rfl ⟨1,_,rfl,HJ.out,own_nil _ _ _ _,((B1.setCell (Nat.le_succ _) _).setCell (Nat.le_succ _) _).alloc (by simp;omega) _⟩
  · have tc:(c != 0) = true:=by simp [hc0]
    have HJ:Hid (JoAns s R n l c):=.inl ⟨hc0,x,HP.out⟩;obtain ⟨q0,q1⟩:=HQ.out c;go_wp2;refine bodyPost_ret (v:=bytesR c (.slice none 0 0)) (by simp [results,Tryz.results55,go_sem,bytesR,q0,q1]) rfl ⟨c,_,rfl,HJ.out,?_,((B1.setCell (Nat.le_succ _) _).setCell (Nat.le_succ _) _).alloc (by simp;omega) _⟩;rw [if_neg hc0];exact own_nil _ _ _ _
end Go.Proofs.YtaioliojijikaaaGreat