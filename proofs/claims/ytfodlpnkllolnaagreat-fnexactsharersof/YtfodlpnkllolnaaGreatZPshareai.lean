/- Any so many lists of a column as it has groups tell it. No Go in sight. -/
import Derived.Test.YtfodlpnkllolnaaGreatZPshareac
import Derived.Test.YtfodlpnkllolnaaGreatZPshareaf
import Derived.Test.YtfodlpnkllolnaaGreatZPshareah
import Derived.Test.YtfodlpnkllolnaaGreatZPshareab
import Derived.BigRegion
import Derived.Test.YtfodlpnkllolnaaGreatZPshareae
import Derived.Test.YtfodlpnkllolnaaGreatZPshareaa
import Derived.Stop.BytesEq
import Derived.Maps.Own
import Derived.Maps.OwnOps
import Derived.Test.YtfodlpnkllolnaaGreatZPshareag
set_option linter.unusedVariables false
set_option linter.unusedSimpArgs false
namespace Go.Proofs.YtfodlpnkllolnaaGreat
open F256
theorem mixN_dotC (f:Mat) (c:Nat → Nat) (j:Nat):∀ k,mixN f c k j = dotN c (fun t => f t j) k
  | 0 => rfl
  | k + 1 => by rw [mixN,dotN,mixN_dotC f c j k]
end Go.Proofs.YtfodlpnkllolnaaGreat
namespace Go.Proofs.YtfodlpnkllolnaaGreat
open F256
theorem shareN_lt (n:Nat) (hv:Nat → Nat) (want i:Nat):shareN n hv want i < 256:=by
  unfold shareN
  split
  · exact weightsN_lt _ _ _ _ _
  · omega
end Go.Proofs.YtfodlpnkllolnaaGreat
namespace Go.Proofs.YtfodlpnkllolnaaGreat
open Go.RowKit F256
theorem size_Yr:(Tryz.prog.info? 32).map (·.size) = some 2:=by kernel_rfl
theorem yres_own {w:World} {lo hi n cap:Nat} {ao:Option Addr} {f:Nat → Nat} (h:Own w lo hi (.slice ao n cap) n f) (hhi:hi ≤ w.heap.size) (hb:∀ i,f i < 256) (c:Int) (hc:-9223372036854775808 ≤ c ∧ c ≤ 9223372036854775807):OwnT layBytesResult w lo hi ⟨c,(n,f)⟩ [.int .i64 c,.slice ao n cap] :=
  ⟨(Value.slice ao n cap).ownBlock.toList,BytesResult_mk ⟨c,(n,f)⟩ ⟨_,rfl,rfl,h.weaken (Nat.zero_le _) hhi,hb⟩ hc,by cases (Value.slice ao n cap).ownBlock <;> simp,fun b hb => by
    have e:(Value.slice ao n cap).ownBlock = some b:=by simpa using hb
    exact ⟨(h.1.lt b e).1,h.2 b e⟩⟩
theorem ycode_own (w:World) (c:Int) (hc:-9223372036854775808 ≤ c ∧ c ≤ 9223372036854775807) (lo hi:Nat) (hhi:hi ≤ w.heap.size):OwnT layBytesResult w lo hi ⟨c,(0,fun _ => 0)⟩ [.int .i64 c,.slice none 0 0]:=yres_own (own_nil w lo hi _) hhi (fun _ => Nat.zero_lt_succ _) c hc
def YPost (P:BytesResultD → Prop) (w:World) (e:Ending) (w':World):Prop:=∃ q cs,e = .returned (.agg cs.toArray) ∧ P q ∧ OwnT layBytesResult w' w.heap.size w'.heap.size q cs ∧ Below w.heap.size w w'
end Go.Proofs.YtfodlpnkllolnaaGreat
namespace Go.Proofs.YtfodlpnkllolnaaGreat
open Go.RowKit F256
def livB (d:WorldD) (G k:Nat):Bool:=decide (k ≠ G) && !deadB d k
def livN (d:WorldD) (G:Nat):Nat:=(pickI (livB d G) d.groups.1).length
def livF (d:WorldD) (G:Nat):Nat → Nat:=pickF (livB d G) d.groups.1
def livK (d:WorldD) (G k:Nat):Nat:=(pickI (livB d G) k).length
def shrM (d:WorldD) (G n m k:Nat):Nat:=if livB d G k = true ∧ livK d G k < m then shareN n (livF d G) G (livK d G k) else 0
def shrF (d:WorldD) (G:Nat):Nat → Nat:=fun k => shrM d G (d.shape 0).toNat (d.shape 0).toNat k
theorem shrM_lt (d:WorldD) (G n m k:Nat):shrM d G n m k < 256:=by
  unfold shrM
  split
  · exact shareN_lt _ _ _ _
  · omega
theorem shrM_next {d:WorldD} {G n m:Nat} (hm:m < livN d G) (k:Nat) (hk:k < d.groups.1):shrM d G n (m + 1) k = if k = livF d G m then shareN n (livF d G) G m else shrM d G n m k:=by
  by_cases c:k = livF d G m
  · rw [if_pos c]
    have h1:livB d G k = true:=by rw [c];exact pickF_is hm
    have h2:=pickF_at h1 d.groups.1 hk;have h3:livK d G k = m:=pickF_inj h2.2 hm (h2.1.trans c);unfold shrM;rw [h3,if_pos ⟨h1,Nat.lt_succ_self m⟩]
  · rw [if_neg c]
    unfold shrM
    by_cases h1:livB d G k = true
    · have h2:=pickF_at h1 d.groups.1 hk
      have h3:livK d G k ≠ m:=fun e => c (by
        have:=h2.1;unfold livF;rw [← e]
        exact this.symm)
      by_cases h4:livK d G k < m
      · rw [if_pos (show livB d G k = true ∧ livK d G k < m + 1 from ⟨h1,by omega⟩),if_pos (show livB d G k = true ∧ livK d G k < m from ⟨h1,h4⟩)]
      · rw [if_neg (show ¬ (livB d G k = true ∧ livK d G k < m + 1) from fun h => by have:=h.2;omega),if_neg (show ¬ (livB d G k = true ∧ livK d G k < m) from fun h => h4 h.2)]
    · rw [if_neg (show ¬ (livB d G k = true ∧ livK d G k < m + 1) from fun h => h1 h.1),if_neg (show ¬ (livB d G k = true ∧ livK d G k < m) from fun h => h1 h.1)]
theorem shrM_more {d:WorldD} {G n m:Nat} (h:n ≤ m) (k:Nat):shrM d G n m k = shrM d G n n k:=by
  unfold shrM
  by_cases h1:livB d G k = true
  · by_cases h2:livK d G k < n
    · rw [if_pos (show livB d G k = true ∧ livK d G k < m from ⟨h1,by omega⟩),if_pos (show livB d G k = true ∧ livK d G k < n from ⟨h1,h2⟩)]
    · rw [if_neg (show ¬ (livB d G k = true ∧ livK d G k < n) from fun h => h2 h.2)]
      split
      · unfold shareN
        rw [if_neg h2]
      · rfl
  · rw [if_neg (show ¬ (livB d G k = true ∧ livK d G k < m) from fun h => h1 h.1),if_neg (show ¬ (livB d G k = true ∧ livK d G k < n) from fun h => h1 h.1)]
theorem shrM_zero (d:WorldD) (G n k:Nat):shrM d G n 0 k = 0:=by
  unfold shrM;rw [if_neg (fun h => by have:=h.2;omega)]
theorem liv_lt {d:WorldD} {G i:Nat} (h:i < livN d G):livF d G i < d.groups.1:=pickF_lt h
theorem liv_ne {d:WorldD} {G i:Nat} (h:i < livN d G):livF d G i ≠ G:=by
  have h1:livB d G (livF d G i) = true:=pickF_is (p:=livB d G) h;intro e;rw [e] at h1;unfold livB at h1
  simp at h1
theorem liv_rise {d:WorldD} {G:Nat}:∀ i,i + 1 < livN d G → livF d G i < livF d G (i + 1):=fun i h => pickF_rise h
theorem livN_le (d:WorldD) (G:Nat):livN d G ≤ d.groups.1:=pick_le _ _
theorem liv_riseP {d:WorldD} (G:Nat) (most:Int) (h:(d.groups.1:Int) - 1 ≤ most):RiseP (livN d G) (fun i => (livF d G i:Int)) most:=fun i hi => by
  have h1:=liv_lt hi;refine ⟨show (0:Int) ≤ ((livF d G i:Nat):Int) by omega,show ((livF d G i:Nat):Int) ≤ most by omega,fun h0 => ?_⟩;have:=liv_rise (d:=d) (G:=G) (i - 1) (by omega);rw [show i - 1 + 1 = i by omega] at this
  show ((livF d G (i - 1):Nat):Int) < ((livF d G i:Nat):Int)
  omega
theorem liv_has {d:WorldD} (G:Nat):¬ HasP (livN d G) (fun i => (livF d G i:Int)) (G:Int):=by
  rintro ⟨i,hi,e⟩;exact liv_ne hi (by have:((livF d G i:Nat):Int) = (G:Int):=e;omega)
def ShrAns (d:WorldD) (g:Int) (q:BytesResultD):Prop :=
  (∃ x,x ≠ 0 ∧ WldAns d x ∧ q = ⟨x,(0,fun _ => 0)⟩) ∨ (WldAns d 0 ∧ ¬ InP g 0 (d.shape 0 + d.shape 1 - 1) ∧ q = ⟨3,(0,fun _ => 0)⟩) ∨
  (WldAns d 0 ∧ InP g 0 (d.shape 0 + d.shape 1 - 1) ∧ (livN d g.toNat:Int) < d.shape 0 ∧ q = ⟨10,(0,fun _ => 0)⟩) ∨
  (WldAns d 0 ∧ InP g 0 (d.shape 0 + d.shape 1 - 1) ∧ ¬ (livN d g.toNat:Int) < d.shape 0 ∧ q = ⟨0,(d.groups.1,shrF d g.toNat)⟩)
theorem ShrAns.one {d:WorldD} {g:Int} {p q:BytesResultD} (h:ShrAns d g p) (k:ShrAns d g q):p = q:=by
  rcases h with ⟨x,h1,h2,rfl⟩ | ⟨h1,h2,rfl⟩ | ⟨h1,h2,h3,rfl⟩ | ⟨h1,h2,h3,rfl⟩ <;> rcases k with ⟨y,k1,k2,rfl⟩ | ⟨k1,k2,rfl⟩ | ⟨k1,k2,k3,rfl⟩ | ⟨k1,k2,k3,rfl⟩ <;>
    first | rfl | (rw [h2.one k2]) | exact absurd (h2.one k1) h1 | exact absurd (k2.one h1) k1 | exact absurd h2 k2 | exact absurd k2 h2 | exact absurd h3 k3 | exact absurd k3 h3
theorem shr_ex (d:WorldD) (g:Int):∃ q,ShrAns d g q:=by
  obtain ⟨x,hx⟩:=world_ex d
  by_cases h:x = 0
  · subst h
    by_cases h1:InP g 0 (d.shape 0 + d.shape 1 - 1)
    · by_cases h2:(livN d g.toNat:Int) < d.shape 0
      · exact ⟨_,.inr (.inr (.inl ⟨hx,h1,h2,rfl⟩))⟩
      · exact ⟨_,.inr (.inr (.inr ⟨hx,h1,h2,rfl⟩))⟩
    · exact ⟨_,.inr (.inl ⟨hx,h1,rfl⟩)⟩
  · exact ⟨_,.inl ⟨x,h,hx,rfl⟩⟩
end Go.Proofs.YtfodlpnkllolnaaGreat
namespace Go.Proofs.YtfodlpnkllolnaaGreat
open Go.RowKit F256
set_option maxHeartbeats 1000000 in
theorem factorsFrom_any (base n p F:Nat) (hF:F = 128 + base) (hb:base ≤ 64) (hn:n ≤ 16) (hp:p < n + 16) (w:World) :
    Calls Tryz.prog 150 #[.int .i64 F,.int .i64 n,.int .i64 p] w fun e w' => ∃ v',e = .returned v' ∧ Own w' w.heap.size w'.heap.size v' n (genN n p base) ∧ Below w.heap.size w w':=by
  by_cases hpn:p < n
  · have hd1:decide ((p:Int) < (n:Int)) = true:=by simp;omega
    go_enter Tryz.func150,Tryz.ntmps150
    have HG:Hid (∀ i,i < n → genN n p base i = if i = p then 1 else 0):=fun i hi => by simp [genN,show ¬ n ≤ p by omega]
    go_wp2_with (at_make;refine wp_makeB _ rfl _ _ rfl _ _ n rfl rfl rfl rfl (by omega) ?_;intro w1 hown1 hb1 hz1;have hco:w1.cell? ⟨w.heap.size,p,none⟩ = some (.int .u8 (0:Nat)):=(by have:=hown1.1.cellAt p (by omega);rw [this,cellsOf_get _ _ _ hpn]);have hfo:w1.frozen? ⟨w.heap.size,p,none⟩ = false:=hown1.1.frozenAt p)
    have R:=hown1.store p 1 hpn (g':=genN n p base) (fun i hi => HG.out i hi);have RB:Below w.heap.size w (w1.setCell ⟨w.heap.size,p,none⟩ (.int .u8 (1:Nat))):=hb1.setCell (Nat.le_refl _) _;go_ret;exact ⟨_,rfl,R.mono (by simp),RB⟩
  · have hd1:decide ((p:Int) < (n:Int)) = false:=by simp;omega
    have hd2:decide (p < n) = false:=by simp;omega
    obtain ⟨s,hs⟩:∃ s,p = n + s:=⟨p - n,by omega⟩
    have hs16:s < 16:=by omega
    obtain ⟨Q,hQ⟩:∃ Q,Q = F + s:=⟨_,rfl⟩
    have hQ2:Q ≤ 128 + 80:=by omega
    have HG:Hid (∀ i,genN n p base i = powN (Q ^^^ i) 254):=fun i => by
      simp only [genN,if_pos (show n ≤ p by omega)]
      rw [show 128 + (base + p - n) = Q by omega]
    have hadd:IntKind.i64.wrap ((F:Int) + (p:Int)) = (F:Int) + (p:Int):=by rw [IntKind.wrap_i64];omega
    have hsub:(F:Int) + (p:Int) - (n:Int) = (Q:Int):=by omega
    have HPS:Hid (p = n + s):=hs;clear hpn hs hF hQ
    go_enter Tryz.func150,Tryz.ntmps150
    go_wp2_with (at_make;refine wp_makeB _ rfl _ _ rfl _ _ n rfl rfl rfl rfl (by omega) ?_;intro w1 hown1 hb1 hz1)
    go_loopw [8,19] (fun _ i wr => ∃ k:Nat,k ≤ n ∧ i = .int .i64 k ∧ Own wr w.heap.size w1.heap.size (.slice (some ⟨w.heap.size,0,none⟩) n n) n (fun i => if i < k then genN n p base i else 0) ∧ Below w.heap.size w wr ∧ w1.heap.size ≤ wr.heap.size) (fun _ i _ => n - (intOf i).toNat)
    case atStart => exact ⟨0,Nat.zero_le _,rfl,hown1,hb1,Nat.le_refl _⟩
    case round =>
      clear hown1 hb1;obtain ⟨k,hk,rfl,hown,hbel,hz2⟩:=hrel
      by_cases hlt:k < n
      · obtain ⟨y,hy⟩:∃ y,y = Q ^^^ k:=⟨_,rfl⟩
        have hx:bits .xor .i64 (Q:Int) (k:Int) = (y:Int):=by rw [hy];exact i64_xor_nat Q k (by omega) (by omega)
        have hl:y < 256:=by rw [hy];exact xor_lt (by omega) (by omega)
        have HV:Hid (powN y 254 = genN n p base k):=by show powN y 254 = genN n p base k;rw [HG.out,hy]
        have HO:Hid (Own wr w.heap.size w1.heap.size (.slice (some ⟨w.heap.size,0,none⟩) n n) n (fun i => if i < k then genN n p base i else 0)):=hown;have szr:=hbel.size;have HBL:Hid (Below w.heap.size w wr):=hbel;clear hy hown hbel
        go_wp2_with fail
        refine (implInv_any y hl _).mono ?_;rintro e w2 ⟨rfl,hb2⟩;have hz3:=hb2.size;have hown2:=HO.out.below hb2 (by omega)
        have hco:w2.cell? ⟨w.heap.size,k,none⟩ = some (.int .u8 (0:Nat)):=by
          have:=hown2.1.cellAt k (by omega);rw [this,cellsOf_get _ _ _ hlt,if_neg (Nat.lt_irrefl k)]
        have hfo:w2.frozen? ⟨w.heap.size,k,none⟩ = false:=hown2.1.frozenAt k
        have RW:Own (w2.setCell ⟨w.heap.size,k,none⟩ (.int .u8 (powN y 254))) w.heap.size w1.heap.size (.slice (some ⟨w.heap.size,0,none⟩) n n) n (fun i => if i < k + 1 then genN n p base i else 0) :=
          hown2.store k _ hlt (fun i _ => by
            by_cases c1:i = k
            · subst c1;simp [HV.out]
            · by_cases c2:i < k
              · have c3:i < k + 1:=by omega
                simp [c1,c2,c3]
              · have c3:¬ i < k + 1:=by omega
                simp [c1,c2,c3])
        have RB:Below w.heap.size w (w2.setCell ⟨w.heap.size,k,none⟩ (.int .u8 (powN y 254))):=(HBL.out.trans (hb2.mono szr)).setCell (Nat.le_refl _) _
        have RS:w1.heap.size ≤ (w2.setCell ⟨w.heap.size,k,none⟩ (.int .u8 (powN y 254))).heap.size:=by simp;omega
        clear hown2 hb2 HO HBL;go_wp2
        go_roundw
        case rel => exact ⟨k + 1,by omega,by go_num,RW,RB,RS⟩
        case measure => simp [intOf];omega
      · have hkn:k = n:=by omega
        subst hkn;have h6:=hown.congr (g:=genN k p base) (fun i hi => by simp [hi]);clear hown;go_wp2;go_ret;exact ⟨_,rfl,h6.weaken (Nat.le_refl _) hz2,hbel⟩
end Go.Proofs.YtfodlpnkllolnaaGreat
namespace Go.Proofs.YtfodlpnkllolnaaGreat
open Go.RowKit F256
theorem ownE_made {w:World} {lo hi g R:Nat} {f:Mat} {n:Nat → Nat} (h:w.ownsRow lo 30 1 (.slice (some ⟨g,0,none⟩) R R) R (valsOf R fun _ => nilS)) (h1:lo ≤ g) (h2:g < hi) (hn:∀ i,i < R → n i = 0) :
    OwnE w lo hi (.slice (some ⟨g,0,none⟩) R R) R n f g R (fun _ => nilS) :=
  ⟨rfl,h1,h2,h,fun i hi => by rw [hn i hi];exact own_nil _ _ _ _,⟨fun i hi h => by simp [Value.ownBlock] at h,fun i j hi hj hne k hk => by simp [Value.ownBlock] at hk⟩⟩
def lenN (N k:Nat):Nat → Nat:=fun i => if i < k then N else 0
end Go.Proofs.YtfodlpnkllolnaaGreat
namespace Go.Proofs.YtfodlpnkllolnaaGreat
open Go.RowKit F256
set_option maxHeartbeats 1000000 in
theorem firstLeading_any (v:Value) (R C:Nat) (M:Mat) (hi:Nat) (r c:Nat) (hr:r ≤ R) (hc:c < C) (hR:R ≤ 1000000) (hC:C ≤ 1000000) (w:World) (h:RdM w hi v R (fun _ => C) M) :
    Calls Tryz.prog 167 #[v,.int .i64 r,.int .i64 c] w fun e w' => e = .returned (.int .i64 (lead M c R r)) ∧ w' = w:=by
  obtain ⟨ao,cap,e,rfl,hm,hcc,he⟩:=h
  go_enter Tryz.func167,Tryz.ntmps167
  go_wp2
  go_loop [7] (fun i => ∃ k:Nat,r ≤ k ∧ k ≤ R ∧ i = .int .i64 k ∧ ∀ j,r ≤ j → j < k → M j c = 0) (fun i => R - (intOf i).toNat)
  case atStart => exact ⟨r,Nat.le_refl _,hr,rfl,fun j h1 h2 => by omega⟩
  case round =>
    obtain ⟨k,hk1,hk,rfl,hz⟩:=hrel
    by_cases hlt:k < R
    · obtain ⟨b,off,rfl,hblt,hcell⟩:=hcc (by omega)
      obtain ⟨aok,capk,hsk,hmk,hqk⟩:=he k hlt;obtain ⟨b2,off2,rfl,hlt2,hcell2⟩:=hqk (by omega)
      have hck:w.cell? ⟨b,off + k,none⟩ = some (.slice (some ⟨b2,off2,none⟩) C capk):=by rw [← hsk];exact hcell k hlt
      have hcc2:w.cell? ⟨b2,off2 + c,none⟩ = some (.int .u8 (M k c)):=hcell2 c hc;have HZ:Hid (∀ j,r ≤ j → j < k → M j c = 0):=hz;obtain ⟨x,hx⟩:∃ x,x = M k c:=⟨_,rfl⟩;have HX:Hid (x = M k c):=hx;rw [← hx] at hcc2;clear hcc he hcell hsk hcell2 hz hx
      by_cases h0:x = 0
      · subst h0
        go_wp2
        go_round
        case rel => exact ⟨k + 1,by omega,by omega,by go_num,fun j h1 h2 => by
                      by_cases ej:j = k
                      · rw [ej,← HX.out]
                      · exact HZ.out j h1 (by omega)⟩
        case measure => simp [intOf];omega
      · have ht:((x:Int) != 0) = true:=by simp;omega
        go_wp2;go_ret;exact ⟨ret_eq (by rw [lead_eq (a:=k) ⟨hk1,by omega,HZ.out,fun _ => by rw [← HX.out];exact h0⟩]),rfl⟩
    · have hkn:k = R:=by omega
      subst hkn;have HZ:Hid (∀ j,r ≤ j → j < k → M j c = 0):=hz;clear hz;go_wp2;go_ret;exact ⟨ret_eq (by rw [lead_eq (a:=k) ⟨hk1,Nat.le_refl _,HZ.out,fun h => by omega⟩]),rfl⟩
theorem addScaled_two (v1 v2:Value) (n:Nat) (f l g:Nat → Nat) (c:Nat) (lo hi:Nat) (w:World) (hs:Own w lo hi v1 n f) (hr:Own w lo hi v2 n l) (hne:∀ k,v1.ownBlock = some k → v2.ownBlock ≠ some k) (hlh:lo ≤ hi) (hhi:hi ≤ w.heap.size)
    (kf:∀ i,f i < 256) (kl:∀ i,l i < 256) (hc:c < 256) (hg:∀ i,i < n → g i = f i ^^^ mulN c (l i)) (hn:n ≤ 1000000000) :
    Calls Tryz.prog 151 #[v1,v2,.int .u8 c] w fun e w' => e = .returned (.tuple #[]) ∧ Own w' lo hi v1 n g ∧ Chg (tlo v1 lo) (thi v1 lo) w w':=by
  by_cases h0:n = 0
  · subst h0
    refine (addScaled_nil v1 v2 f l c hi hi w hs.rd hr.rd hc).mono fun e w' ⟨he,hb⟩ => ⟨he,(hs.below hb hhi).congr (fun i hi => by omega),Below.chg hb _ _⟩
  · obtain ⟨g0,cap0,rfl,h1,h2,h3,h4⟩:=hs.form h0
    obtain ⟨b,cap,rfl,h1',h2',h3',h4'⟩:=hr.form h0;have hbg:b ≠ g0:=fun hh => hne g0 rfl (by simp [Value.ownBlock,hh]);have ht:tlo (.slice (some ⟨g0,0,none⟩) n cap0) lo = g0:=rfl;have ht2:thi (.slice (some ⟨g0,0,none⟩) n cap0) lo = g0 + 1:=rfl;have hst:=hs.tight;rw [ht,ht2] at hst ⊢
    have hcell:∀ i,i < n → w.cell? ⟨b,0 + i,none⟩ = some (.int .u8 (l i)):=fun i hi => by rw [Nat.zero_add,hr.1.cellAt i (by omega),cellsOf_get _ _ _ hi]
    refine (addScaled_core g0 cap0 n f l g c g0 (g0 + 1) b 0 cap w hst (by omega) h3' (by omega) hcell (Nat.le_refl _) (Nat.lt_succ_self _) kf kl hc hg hn).mono fun e w' ⟨he,ho,hch⟩ => ⟨he,?_,hch⟩;exact hs.untight ho
set_option maxHeartbeats 2000000 in
theorem clearColumn_any (v:Value) (R C:Nat) (M:Mat) (lo hi:Nat) (r c:Nat) (g cap:Nat) (e:Nat → Value) (hr:r < R) (hc:c < C) (hR:R ≤ 1000000) (hC:C ≤ 1000000) (kM:Byt M) (w:World) (h:OwnE w lo hi v R (fun _ => C) M g cap e) (hhi:hi ≤ w.heap.size) :
    Calls Tryz.prog 169 #[v,.int .i64 r,.int .i64 c] w fun ee w' => ee = .returned (.tuple #[]) ∧ OwnE w' lo hi v R (fun _ => C) (clearM M r c R) g cap e ∧ Chg lo hi w w':=by
  obtain rfl:=h.val;have hlh:lo ≤ hi:=Nat.le_trans h.low (Nat.le_of_lt h.high)
  go_enter Tryz.func169,Tryz.ntmps169
  go_wp2
  go_loopw [6,9] (fun _ i wr => ∃ k:Nat,k ≤ R ∧ i = .int .i64 k ∧ OwnE wr lo hi (.slice (some ⟨g,0,none⟩) R cap) R (fun _ => C) (clearM M r c k) g cap e ∧ Chg lo hi w wr) (fun _ i _ => R - (intOf i).toNat)
  case atStart => exact ⟨0,Nat.zero_le _,rfl,by rw [clearM_zero];exact h,Chg.refl' _ _ _⟩
  case round =>
    clear h;obtain ⟨k,hk,rfl,hE,hch⟩:=hrel
    by_cases hlt:k < R
    · by_cases hkr:k = r
      · subst hkr
        have E:Hid (OwnE wr lo hi (.slice (some ⟨g,0,none⟩) R cap) R (fun _ => C) (clearM M k c (k + 1)) g cap e):=by rw [clearM_skip];exact hE
        clear hE;go_wp2
        go_roundw
        case rel => exact ⟨k + 1,by omega,by go_num,E.out,hch⟩
        case measure => simp [intOf];omega
      · have ht:((k:Int) != (r:Int)) = true:=by simp;omega
        have kB:=clearM_byt kM r c k;have ck:=hE.cell k hlt;have cr:=hE.cell r hr;have ok:=hE.each k hlt;have or:=hE.each r hr;obtain ⟨gk,capk,hek,_,_,hgk,_⟩:=ok.form (by omega)
        have hcc:wr.cell? ⟨gk,c,none⟩ = some (.int .u8 (clearM M r c k k c)):=by
          have:=ok.1;rw [hek] at this;rw [this.cellAt c (by omega),cellsOf_get _ _ _ hc]
        have hcy:=kB k c;obtain ⟨y,hy⟩:∃ y,y = clearM M r c k k c:=⟨_,rfl⟩;have hsz:=hch.size
        have A:=addScaled_two (e k) (e r) C (clearM M r c k k) (clearM M r c k r) (clearM M r c (k + 1) k) y lo hi (wr.drewN 1) ok or (hE.apart.2 k r hlt hr hkr) hlh (by show hi ≤ wr.heap.size;omega) (kB k) (kB r) (by rw [hy];exact hcy)
          (fun j hj => by rw [clearM_next hkr,hy];simp) (by omega)
        rw [← hy] at hcc hcy;obtain ⟨ek,hek'⟩:∃ x,x = e k:=⟨_,rfl⟩;obtain ⟨er,her'⟩:∃ x,x = e r:=⟨_,rfl⟩;rw [← hek'] at ck A hek;rw [← her'] at cr A;have HEK:Hid (ek = e k):=hek';subst hek;have HE:Hid (OwnE wr lo hi (.slice (some ⟨g,0,none⟩) R cap) R (fun _ => C) (clearM M r c k) g cap e):=hE;have HTS:Hid (lo ≤ tlo (e k) lo ∧ thi (e k) lo ≤ hi):=tight_sub ok hlh;clear hy hek' her' ok or hE kB;go_wp2
        go_region_with (go_at_call 151;refine A.mono ?_;rintro ee w3 ⟨rfl,ho3,hc3⟩)
        all_goals
          have c3:Chg (tlo (e k) lo) (thi (e k) lo) wr w3:=by rw [← HEK.out];exact ⟨hc3.os,hc3.tape,hc3.output,hc3.size,hc3.block⟩
          have E3:OwnE w3 lo hi (.slice (some ⟨g,0,none⟩) R cap) R (fun _ => C) (clearM M r c (k + 1)) g cap e:=HE.out.upd k hlt c3 (by rw [← HEK.out];exact ho3) (fun j hj hne => by rw [clearM_next hkr];simp [hne]);have C3:Chg lo hi w w3:=hch.trans (c3.widen HTS.out.1 HTS.out.2);clear c3 hc3 ho3 HE A HEK HTS;go_wp2
          go_roundw
          case rel => exact ⟨k + 1,by omega,by go_num,E3,C3⟩
          case measure => simp [intOf];omega
    · have hkn:k = R:=by omega
      subst hkn;go_wp2
      go_end0
      exact ⟨rfl,hE,hch⟩
end Go.Proofs.YtfodlpnkllolnaaGreat
namespace Go.Proofs.YtfodlpnkllolnaaGreat
open Go.RowKit F256
theorem undrewN' {B:Nat} {w w2:World} {m:Nat} (h:Below B (w.drewN m) w2):Below B w w2:=⟨h.os,h.tape,h.output,h.size,h.block⟩
set_option maxHeartbeats 4000000 in
theorem reduceRows_any (v:Value) (R C n:Nat) (M:Mat) (lo:Nat) (g cap:Nat) (e:Nat → Value) (hn:n ≤ C) (hR:R ≤ 1000000) (hC:C ≤ 1000000) (kM:Byt M) (w:World) (h:OwnE w lo w.heap.size v R (fun _ => C) M g cap e) :
    Calls Tryz.prog 159 #[v,.int .i64 n] w fun ee w' => ee = .returned (.int .i64 ((gaussM R M n).2)) ∧ (∃ e',OwnE w' lo w'.heap.size v R (fun _ => C) (gaussM R M n).1 g cap e') ∧ Below lo w w':=by
  obtain rfl:=h.val
  go_enter Tryz.func159,Tryz.ntmps159
  go_wp2
  go_loopw [5,6,7,9] (fun d _ _ i wr => ∃ k:Nat,k ≤ n ∧ i = .int .i64 k ∧ d = .int .i64 ((gaussM R M k).2) ∧ (∃ e',OwnE wr lo wr.heap.size (.slice (some ⟨g,0,none⟩) R cap) R (fun _ => C) (gaussM R M k).1 g cap e') ∧ Below lo w wr) (fun _ _ _ i _ => n - (intOf i).toNat)
  case atStart => exact ⟨0,Nat.zero_le _,rfl,rfl,⟨e,h⟩,Below.refl _ _⟩
  case round =>
    clear h e;obtain ⟨k,hk,rfl,rfl,⟨e,hE⟩,hbel⟩:=hrel;have hle:=gaussM_le (R:=R) (M:=M) k;have kB:=gaussM_byt (R:=R) kM k;have hstep:gaussM R M (k + 1) = stepM R (gaussM R M k) k:=rfl;obtain ⟨S,hS⟩:∃ S,S = gaussM R M k:=⟨_,rfl⟩;rw [← hS] at hle kB hstep hE
    by_cases hlt:k < n
    · have L:=firstLeading_any _ R C S.1 _ S.2 k hle.1 (by omega) hR hC wr hE.rd
      have HS:Hid (S = gaussM R M k):=hS;have HST:Hid (gaussM R M (k + 1) = stepM R S k):=hstep;rw [← hS];clear hS hstep;obtain ⟨r,hr⟩:∃ r,r = S.2:=⟨_,rfl⟩;obtain ⟨a,hal⟩:∃ a,a = lead S.1 k R S.2:=⟨_,rfl⟩;have hlead:=lead_is S.1 k R S.2 hle.1;rw [← hal] at hlead L;rw [← hr] at hle hlead L ⊢;have HR:Hid (r = S.2):=hr;have HA:Hid (a = lead S.1 k R S.2):=hal;clear hr hal
      go_wp2_with fail
      refine L.mono ?_;rintro ee wx ⟨rfl,hwx⟩;obtain rfl:=hwx.symm;clear L;have ha:=hlead.2.1;have hra:=hlead.1
      by_cases haR:a = R
      · have N0:gaussM R M (k + 1) = S:=by
          rw [HST.out];unfold stepM;rw [if_pos (by rw [← HA.out];exact haR)]
        have N:Hid (gaussM R M (k + 1) = S):=N0;clear N0;subst haR;clear hlead;go_wp2
        go_roundw
        case rel => exact ⟨k + 1,by omega,by go_num,val_eq (by rw [N.out,HR.out]),⟨e,by rw [N.out];exact hE⟩,hbel⟩
        case measure => simp [intOf];omega
      · have haR':a < R:=by omega
        have hrR:r < R:=by omega
        have t1:((a:Int) == (R:Int)) = false:=by simp;omega
        have ca:=hE.cell a haR';have cr:=hE.cell r hrR;have fa:=hE.frozen a;have fr:=hE.frozen r;have hsw:=hE.swap r a hrR haR' (Nat.le_refl _);have oa:=hE.each a haR';have or:=hE.each r hrR;obtain ⟨ga,capa,hea,_,_,_,_⟩:=oa.form (by omega);obtain ⟨gr,capr,her,_,_,_,_⟩:=or.form (by omega);obtain ⟨ea,hea'⟩:∃ x,x = e a:=⟨_,rfl⟩;obtain ⟨er,her'⟩:∃ x,x = e r:=⟨_,rfl⟩;rw [← hea'] at ca hea hsw;rw [← her'] at cr her hsw;have HSW:Hid (OwnE ((wr.setCell ⟨g,r,none⟩ ea).setCell ⟨g,a,none⟩ er) lo wr.heap.size (.slice (some ⟨g,0,none⟩) R cap) R (fun _ => C) (swapM S.1 r a) g cap (fun j => if j = r then ea else if j = a then er else e j)):=hsw;clear hsw hE oa or hea' her';subst hea her;obtain ⟨va,hva⟩:=cell?_setCell_some (w:=wr) (p:=⟨g,r,none⟩) (x:=.slice (some ⟨ga,0,none⟩) C capa) (q:=⟨g,a,none⟩) ca;go_wp2
        go_region
        have hE1:=HSW.out.drewN 1;have hb1:Below lo w (((wr.setCell ⟨g,r,none⟩ (.slice (some ⟨ga,0,none⟩) C capa)).setCell ⟨g,a,none⟩ (.slice (some ⟨gr,0,none⟩) C capr)).drewN 1):=below_drewN ((hbel.setCell hE1.low _).setCell hE1.low _) 1
        have hz1:wr.heap.size = (((wr.setCell ⟨g,r,none⟩ (.slice (some ⟨ga,0,none⟩) C capa)).setCell ⟨g,a,none⟩ (.slice (some ⟨gr,0,none⟩) C capr)).drewN 1).heap.size:=by simp
        rw [hz1] at hE1;have kB1:Byt (swapM S.1 r a):=swapM_byt kB r a;rw [World.drew_is_drewN];clear HSW hbel hz1 ca cr fa fr hva kB
        generalize ((wr.setCell ⟨g,r,none⟩ (.slice (some ⟨ga,0,none⟩) C capa)).setCell ⟨g,a,none⟩ (.slice (some ⟨gr,0,none⟩) C capr)).drewN 1 = wq at hE1 hb1 ⊢
        generalize (fun j => if j = r then Value.slice (some ⟨ga,0,none⟩) C capa else if j = a then Value.slice (some ⟨gr,0,none⟩) C capr else e j) = e1 at hE1
        obtain ⟨M1,hM1⟩:∃ M1,M1 = swapM S.1 r a:=⟨_,rfl⟩;have HM1:Hid (M1 = swapM S.1 r a):=hM1;rw [← hM1] at hE1 kB1;clear hM1;have c1:=hE1.cell r hrR;have o1:=hE1.each r hrR;obtain ⟨gq,capq,heq,hq1,hq2,hq3,_⟩:=o1.form (by omega)
        have hcc:wq.cell? ⟨gq,k,none⟩ = some (.int .u8 (M1 r k)):=by
          have:=o1.1;rw [heq] at this;rw [this.cellAt k (by omega),cellsOf_get _ _ _ (by omega)]
        have hy:=kB1 r k;have fz:=hE1.frozen r;have hgl:=hE1.high;obtain ⟨y,hyd⟩:∃ y,y = M1 r k:=⟨_,rfl⟩;have HY:Hid (y = M1 r k):=hyd;rw [← hyd] at hcc hy;have I:=implInv_any y hy (wq.drewN 1)
        have SC:∀ w2,Below wq.heap.size wq w2 → Calls Tryz.prog 168 #[e1 r,.int .u8 (powN y 254)] w2 fun e w' => ∃ v',e = .returned v' ∧ Own w' w2.heap.size w'.heap.size v' C (fun j => mulN (powN y 254) (M1 r j)) ∧ Below w2.heap.size w2 w':=fun w2 hb2 =>
          scaled_any (e1 r) C (M1 r) (fun j => mulN (powN y 254) (M1 r j)) (powN y 254) wq.heap.size w2 (o1.rd.below hb2 (Nat.le_refl _)) hb2.size (kB1 r) (powN_lt _) (fun _ _ => rfl) (by omega)
        obtain ⟨er1,her1⟩:∃ x,x = e1 r:=⟨_,rfl⟩;rw [← her1] at c1 SC heq;have HO:Hid (OwnE wq lo wq.heap.size (.slice (some ⟨g,0,none⟩) R cap) R (fun _ => C) M1 g cap e1):=hE1;clear hyd her1 o1 hE1 hlead;subst heq;go_wp2
        go_region_with (first | (go_at_call 160;refine I.mono ?_;rintro ee w2 ⟨rfl,hb2⟩;have q0:w2.cell? ⟨g,r,none⟩ = some (.slice (some ⟨gq,0,none⟩) C capq):=((undrewN' hb2).cell (p:=⟨g,r,none⟩) hgl).trans c1) | (go_at_call 168;refine (SC _ (undrewN' hb2)).mono ?_;rintro ee w3 ⟨v3,rfl,ho3,hb3⟩;obtain ⟨ao3,cap3,rfl⟩:=ho3.slice;have q1:w3.cell? ⟨g,r,none⟩ = some (.slice (some ⟨gq,0,none⟩) C capq):=((bthen (w:=wq) (undrewN' hb2) hb3).cell (p:=⟨g,r,none⟩) hgl).trans c1;have q2:w3.frozen? ⟨g,r,none⟩ = false:=((bthen (w:=wq) (undrewN' hb2) hb3).frozen (p:=⟨g,r,none⟩) hgl).trans fz))
        all_goals
          have hb23:Below wq.heap.size wq w3:=bthen (w:=wq) (undrewN' hb2) hb3
          have hsr:scaleM M1 r k r = fun j => mulN (powN y 254) (M1 r j):=by simp only [scaleM,if_pos,HY.out]
          have ho4:Own w3 wq.heap.size w3.heap.size (.slice ao3 C cap3) C (scaleM M1 r k r):=by rw [hsr];exact ho3.weaken (by have:=(undrewN' hb2).size;omega) (Nat.le_refl _)
          have E4:=HO.out.put r hrR hb23 (Nat.le_refl _) ho4 (fun j hj hne => by simp only [scaleM,if_neg hne]);have B4:Below lo w (w3.setCell ⟨g,r,none⟩ (.slice ao3 C cap3)):=(hb1.trans (hb23.mono (by have:=HO.out.low;have:=HO.out.high;omega))).setCell HO.out.low _
          have Z4:w3.heap.size = (w3.setCell ⟨g,r,none⟩ (.slice ao3 C cap3)).heap.size:=by simp
          rw [Z4] at E4;have kB4:Byt (scaleM M1 r k):=scaleM_byt kB1 r k;clear hb23 hsr ho4 ho3 hb2 hb3 q0 q1 q2 Z4 HO c1 hcc fz I SC hgl hq1 hq2 hq3
          generalize w3.setCell ⟨g,r,none⟩ (.slice ao3 C cap3) = w4 at E4 B4 ⊢
          generalize (fun j => if j = r then Value.slice ao3 C cap3 else e1 j) = e4 at E4
          have CC:=clearColumn_any _ R C (scaleM M1 r k) lo w4.heap.size r k g cap e4 hrR (by omega) hR hC kB4 w4 E4 (Nat.le_refl _)
          go_wp2_with fail
          refine CC.mono ?_;rintro ee w5 ⟨rfl,E5,C5⟩
          have hlo:lo ≤ w4.heap.size:=by have:=E4.low;have:=E4.high;omega
          have E6:=E5.weaken C5.size;have B6:Below lo w w5:=B4.trans (C5.below (Nat.le_refl _) hlo)
          have N0:gaussM R M (k + 1) = (clearM (scaleM M1 r k) r k R,r + 1):=by
            rw [HST.out];unfold stepM;rw [if_neg (by rw [← HA.out];exact haR),← HA.out,← HR.out,← HM1.out]
          have N:Hid (gaussM R M (k + 1) = (clearM (scaleM M1 r k) r k R,r + 1)):=N0;clear N0 CC E4 E5 B4 C5 hlo;go_wp2
          go_roundw
          case rel => exact ⟨k + 1,by omega,by go_num,val_eq (by rw [N.out];show _ = ((r + 1:Nat):Int);omega),⟨e4,by rw [N.out];exact E6⟩,B6⟩
          case measure => simp [intOf];omega
    · have hkn:k = n:=by omega
      subst hkn;rw [hS] at hE;go_wp2;go_ret;exact ⟨rfl,⟨e,hE⟩,hbel⟩
end Go.Proofs.YtfodlpnkllolnaaGreat
namespace Go.Proofs.YtfodlpnkllolnaaGreat
open Go.RowKit F256
theorem OwnE.congrN {w:World} {lo hi:Nat} {v:Value} {R:Nat} {n n':Nat → Nat} {M:Mat} {g cap:Nat} {e:Nat → Value} (h:OwnE w lo hi v R n M g cap e) (hn:∀ i,i < R → n i = n' i):OwnE w lo hi v R n' M g cap e :=
  ⟨h.val,h.low,h.high,h.row,fun i hi => by rw [← hn i hi];exact h.each i hi,h.apart⟩
end Go.Proofs.YtfodlpnkllolnaaGreat
namespace Go.Proofs.YtfodlpnkllolnaaGreat
open Go.RowKit F256
theorem columnInBounds_any (d s:Int) (w:World) :
    Calls Tryz.prog 96 #[.int .i64 d,.int .i64 s] w (BoolP (Shp3 d s) w):=by
  by_cases h1:1 ≤ d
  · by_cases h2:d ≤ 4
    · by_cases h3:0 ≤ s
      · by_cases h4:s ≤ 2
        · go_enter Tryz.func96,Tryz.ntmps96
          go_wp2;go_ret;exact boolYes rfl ⟨by omega,by omega,by omega,by omega⟩ (Below.refl _ _)
        · have e4:decide (s ≤ 2) = false:=by simp;omega
          have H:Hid (¬ Shp3 d s):=fun h => h4 h.2.2.2;clear h4
          go_enter Tryz.func96,Tryz.ntmps96
          go_wp2;go_ret;exact boolNo rfl H.out (Below.refl _ _)
      · have e3:decide (0 ≤ s) = false:=by simp;omega
        have H:Hid (¬ Shp3 d s):=fun h => h3 h.2.2.1;clear h3
        go_enter Tryz.func96,Tryz.ntmps96
        go_wp2;go_ret;exact boolNo rfl H.out (Below.refl _ _)
    · have e2:decide (d ≤ 4) = false:=by simp;omega
      have H:Hid (¬ Shp3 d s):=fun h => h2 h.2.1;clear h2
      go_enter Tryz.func96,Tryz.ntmps96
      go_wp2;go_ret;exact boolNo rfl H.out (Below.refl _ _)
  · have e1:decide (1 ≤ d) = false:=by simp;omega
    have H:Hid (¬ Shp3 d s):=fun h => h1 h.1;clear h1
    go_enter Tryz.func96,Tryz.ntmps96
    go_wp2;go_ret;exact boolNo rfl H.out (Below.refl _ _)
theorem OwnE.updN {w w':World} {lo hi:Nat} {v:Value} {R:Nat} {n:Nat → Nat} {M M':Mat} {g cap:Nat} {e:Nat → Value} (h:OwnE w lo hi v R n M g cap e) (i:Nat) (hi':i < R) (hc:Chg (tlo (e i) lo) (thi (e i) lo) w w')
    (ho:Own w' lo hi (e i) (n i) (M' i)) (hM:∀ j,j < R → j ≠ i → M' j = M j):OwnE w' lo hi v R n M' g cap e:=by
  refine ⟨h.val,h.low,h.high,row_kept h.row fun k hk => ?_,fun j hj => ?_,h.apart⟩
  · have hlt:=(h.row.lt k hk).2
    rw [h.val] at hk
    simp [Value.ownBlock] at hk
    subst hk;exact hc.block g hlt (not_in_tight fun q hq hh => h.apart.1 i hi' (by rw [hq,hh]))
  · by_cases e1:j = i
    · subst e1;exact ho
    · rw [hM j hj e1]
      refine (h.each j hj).kept fun k hk => ?_;exact hc.block k ((h.each j hj).1.lt k hk).2 (not_in_tight fun q hq hh => h.apart.2 i j hi' hj (fun x => e1 x.symm) q hq (by rw [← hh];exact hk))
def sumM (P:Mat) (f:Mat) (G:Nat → Nat) (k m:Nat):Mat:=fun i => if i = k then mixN f G m else P i
end Go.Proofs.YtfodlpnkllolnaaGreat
namespace Go.Proofs.YtfodlpnkllolnaaGreat
open F256
theorem Sol.to_swap {R r a:Nat} {M:Mat} {x:Nat → Nat} (hr:r < R) (ha:a < R) (h:Sol R M x):Sol R (swapM M r a) x:=fun i hi => by
  unfold swapM
  split
  · exact h a ha
  · split
    · exact h r hr
    · exact h i hi
theorem Sol.to_scale {R r c:Nat} {M:Mat} {x:Nat → Nat} (kM:Byt M) (kx:∀ j,x j < 256) (h:Sol R M x):Sol R (scaleM M r c) x:=fun i hi => by
  by_cases e:i = r
  · subst e
    simp only [scaleM,if_pos]
    rw [dotN_scale (powN_lt _) (kM i) kx,h i hi]
  · simp only [scaleM,if_neg e]
    exact h i hi
theorem Sol.to_clear {R r c:Nat} {M:Mat} {x:Nat → Nat} (kM:Byt M) (kx:∀ j,x j < 256) (hr:r < R) (h:Sol R M x):Sol R (clearM M r c R) x:=fun i hi => by
  by_cases e:i < R ∧ i ≠ r
  · simp only [clearM,if_pos e]
    rw [dotN_add (kM i) (fun j => mulN_lt (kM i c)),dotN_scale (kM i c) (kM r) kx,h i hi,h r hr]
  · simp only [clearM,if_neg e]
    exact h i hi
theorem Sol.to_step {R c:Nat} {s:Mat × Nat} {x:Nat → Nat} (kM:Byt s.1) (kx:∀ j,x j < 256) (hr:s.2 ≤ R) (h:Sol R s.1 x):Sol R (stepM R s c).1 x:=by
  have hl:=lead_is s.1 c R s.2 hr;unfold stepM
  by_cases e:lead s.1 c R s.2 = R
  · rw [if_pos e];exact h
  · rw [if_neg e]
    have h1:=hl.1;have h2:=hl.2.1
    have hrR:s.2 < R:=by omega
    have k1:=swapM_byt kM s.2 (lead s.1 c R s.2);exact Sol.to_clear (scaleM_byt k1 s.2 c) kx hrR (Sol.to_scale k1 kx (Sol.to_swap hrR (by omega) h))
theorem Sol.to_gauss {R:Nat} {M:Mat} {x:Nat → Nat} (kM:Byt M) (kx:∀ j,x j < 256) (h:Sol R M x):∀ k,Sol R (gaussM R M k).1 x
  | 0 => h
  | k + 1 => Sol.to_step (gaussM_byt kM k) kx (gaussM_le k).1 (Sol.to_gauss kM kx h k)
theorem gaussM_only {R:Nat} {M:Mat} {x:Nat → Nat} (kM:Byt M) (kx:∀ j,x j < 256) (hf:(gaussM R M R).2 = R) (h:Sol R M x) (i:Nat) (hi:i < R):(gaussM R M R).1 i R = x i:=by
  have h1:=Sol.to_gauss kM kx h R i hi;have u:=gaussM_unit kM R (Nat.le_refl _) hf;rw [dotN_unit (i:=i) kx R (fun j hj => u i j hi hj),if_pos hi] at h1;exact h1.symm
end Go.Proofs.YtfodlpnkllolnaaGreat
namespace Go.Proofs.YtfodlpnkllolnaaGreat
open F256
def eyeM (n:Nat) (hv:Nat → Nat):Mat:=fun k j => if j < n then genN n (hv k) 8 j else if j = n + k then 1 else 0
theorem eyeM_byt (n:Nat) (hv:Nat → Nat):Byt (eyeM n hv):=fun k j => by
  unfold eyeM
  split
  · exact genN_lt n (hv k) 8 j
  · split <;> omega
def LinP (n:Nat) (F M:Mat):Prop:=∀ i j,i < n → j < n → M i j = dotN (fun k => M i (n + k)) (fun k => F k j) n
theorem LinP.swap {n r a:Nat} {F M:Mat} (hr:r < n) (ha:a < n) (h:LinP n F M):LinP n F (swapM M r a):=fun i j hi hj => by
  by_cases e:i = r
  · simp only [swapM,if_pos e]
    exact h a j ha hj
  · by_cases e2:i = a
    · simp only [swapM,if_neg e,if_pos e2]
      exact h r j hr hj
    · simp only [swapM,if_neg e,if_neg e2]
      exact h i j hi hj
theorem LinP.scale {n r c:Nat} {F M:Mat} (kF:Byt F) (kM:Byt M) (h:LinP n F M):LinP n F (scaleM M r c):=fun i j hi hj => by
  by_cases e:i = r
  · subst e
    simp only [scaleM,if_pos]
    rw [dotN_scale (powN_lt _) (fun k => kM i (n + k)) (fun k => kF k j),h i j hi hj]
  · simp only [scaleM,if_neg e]
    exact h i j hi hj
theorem LinP.clear {n r c:Nat} {F M:Mat} (kF:Byt F) (kM:Byt M) (hr:r < n) (h:LinP n F M):LinP n F (clearM M r c n):=fun i j hi hj => by
  by_cases e:i < n ∧ i ≠ r
  · simp only [clearM,if_pos e]
    rw [dotN_add (fun k => kM i (n + k)) (fun k => mulN_lt (kM i c)),dotN_scale (kM i c) (fun k => kM r (n + k)) (fun k => kF k j),← h i j hi hj,← h r j hr hj]
  · simp only [clearM,if_neg e]
    exact h i j hi hj
theorem LinP.step {n c:Nat} {F:Mat} {s:Mat × Nat} (kF:Byt F) (kM:Byt s.1) (hr:s.2 ≤ n) (h:LinP n F s.1):LinP n F (stepM n s c).1:=by
  have hl:=lead_is s.1 c n s.2 hr;unfold stepM
  by_cases e:lead s.1 c n s.2 = n
  · rw [if_pos e];exact h
  · rw [if_neg e]
    have h1:=hl.1;have h2:=hl.2.1
    have hrR:s.2 < n:=by omega
    have k1:=swapM_byt kM s.2 (lead s.1 c n s.2);exact LinP.clear kF (scaleM_byt k1 s.2 c) hrR (LinP.scale kF k1 (LinP.swap hrR (by omega) h))
theorem LinP.gauss {n:Nat} {F M:Mat} (kF:Byt F) (kM:Byt M) (h:LinP n F M):∀ k,LinP n F (gaussM n M k).1
  | 0 => h
  | k + 1 => LinP.step kF (gaussM_byt kM k) (gaussM_le k).1 (LinP.gauss kF kM h k)
def plM (n:Nat) (hv:Nat → Nat):Mat:=fun k j => genN n (hv k) 8 j
theorem plM_byt (n:Nat) (hv:Nat → Nat):Byt (plM n hv):=fun k j => genN_lt n (hv k) 8 j
theorem eyeM_lin (n:Nat) (hv:Nat → Nat):LinP n (plM n hv) (eyeM n hv):=fun i j hi hj => by
  rw [dotN_unit (i:=i) (fun k => plM_byt n hv k j) n (fun k hk => by
    have h1:¬ n + k < n:=by omega
    simp only [eyeM,if_neg h1]
    by_cases e:i = k
    · rw [if_pos e,if_pos (by omega)]
    · rw [if_neg e,if_neg (by omega)]),if_pos hi]
  simp only [eyeM,if_pos hj,plM]
theorem eye_full (n:Nat) (h1:1 ≤ n) (h2:n ≤ 4) (hv:Nat → Nat) (hlt:∀ j,j < n → hv j < n + 2) (hr:∀ j,j + 1 < n → hv j < hv (j + 1)):(gaussM n (eyeM n hv) n).2 = n:=by
  have hsame:Same n (eyeM n hv) (fun k j => if j < n then genN n (hv k) 8 j else 0):=fun i j hj => by simp only [eyeM,if_pos hj]
  rw [(gaussM_same (R:=n) hsame n (Nat.le_refl _)).2]
  have kc:∀ c i:Nat,(if i = c then 1 else 0:Nat) < 256:=fun c i => by split <;> omega
  have kB:Byt fun c k => (gaussM n (aug n (wtM n 8 hv) (fun i => if i = c then 1 else 0)) n).1 k n:=fun c k => gaussM_byt (aug_byt (wtM_byt n 8 hv) (kc c)) n k n
  have kA:Byt fun k j => if j < n then genN n (hv k) 8 j else 0:=fun k j => by
    show (if j < n then genN n (hv k) 8 j else 0) < 256
    split
    · exact genN_lt n (hv k) 8 j
    · omega
  refine full_of_inv kA kB (fun i => by simp) fun c j hc hj => ?_;have hs:=gaussM_solves (aug_byt (wtM_byt n 8 hv) (kc c)) (col_full n h1 h2 hv (fun i => if i = c then 1 else 0) hlt hr) j hj
  have e1:aug n (wtM n 8 hv) (fun i => if i = c then 1 else 0) j n = if j = c then 1 else 0:=by simp [aug]
  rw [e1] at hs
  show dotN (fun k => (gaussM n (aug n (wtM n 8 hv) (fun i => if i = c then 1 else 0)) n).1 k n) (fun k => if j < n then genN n (hv k) 8 j else 0) n = _
  rw [dotN_swap (kB c) (fun k => kA k j)]
  have e2:dotN (fun k => if j < n then genN n (hv k) 8 j else 0) (fun k => (gaussM n (aug n (wtM n 8 hv) (fun i => if i = c then 1 else 0)) n).1 k n) n = dotN (aug n (wtM n 8 hv) (fun i => if i = c then 1 else 0) j) (fun k => (gaussM n (aug n (wtM n 8 hv) (fun i => if i = c then 1 else 0)) n).1 k n) n :=
    dotN_congr fun k hk => by simp [aug,hk,hj,wtM]
  rw [e2,hs]
  by_cases e:c = j
  · rw [if_pos e,if_pos e.symm]
  · rw [if_neg e,if_neg (fun h => e h.symm)]
def dW (n:Nat) (hv:Nat → Nat):Mat:=fun i k => (gaussM n (eyeM n hv) n).1 i (n + k)
theorem dW_byt (n:Nat) (hv:Nat → Nat):Byt (dW n hv):=fun i k => gaussM_byt (eyeM_byt n hv) n i (n + k)
theorem dW_inv {n:Nat} {hv:Nat → Nat} (hf:(gaussM n (eyeM n hv) n).2 = n) (i j:Nat) (hi:i < n) (hj:j < n):dotN (dW n hv i) (fun k => genN n (hv k) 8 j) n = if i = j then 1 else 0:=by
  have h1:=LinP.gauss (plM_byt n hv) (eyeM_byt n hv) (eyeM_lin n hv) n i j hi hj;have h2:=gaussM_unit (eyeM_byt n hv) n (Nat.le_refl _) hf i j hi hj;exact h1.symm.trans h2
theorem weights_way {n want:Nat} (h1:1 ≤ n) (h2:n ≤ 4) {hv:Nat → Nat} (hlt:∀ j,j < n → hv j < n + 2) (hr:∀ j,j + 1 < n → hv j < hv (j + 1)) (k:Nat) (hk:k < n) :
    dotN (genN n want 8) (fun t => dW n hv t k) n = weightsN n 8 hv want k:=by
  have hf:=eye_full n h1 h2 hv hlt hr;have kg:=genN_lt n want 8;have kx:∀ k,(fun k => dotN (genN n want 8) (fun t => dW n hv t k) n) k < 256:=fun k => dotN_lt kg n;refine (gaussM_only (x:=fun k => dotN (genN n want 8) (fun t => dW n hv t k) n) (aug_byt (wtM_byt n 8 hv) kg) kx (col_full n h1 h2 hv (genN n want 8) hlt hr) (fun i hi => ?_) k hk).symm
  have e1:aug n (wtM n 8 hv) (genN n want 8) i n = genN n want 8 i:=by simp [aug]
  have kp:∀ k,(fun k => genN n (hv k) 8 i) k < 256:=fun k => genN_lt n (hv k) 8 i
  rw [e1,dotN_congr (s:=fun k => genN n (hv k) 8 i) (fun k hk => by simp [aug,hk,wtM]),dotN_swap kp kx,dotN_comb (R:=n) kg (dW_byt n hv) kp n (Nat.le_refl _) n,
    dotN_congr2 (y:=fun t => if i = t then 1 else 0) (fun t ht => by
      show dotN (dW n hv t) (fun k => genN n (hv k) 8 i) n = _
      rw [dW_inv hf t i ht hi]
      by_cases e:t = i
      · rw [if_pos e,if_pos e.symm]
      · rw [if_neg e,if_neg (fun h => e h.symm)]),
    dotN_swap kg (fun t => by show (if i = t then 1 else 0) < 256;split <;> omega),dotN_unit (i:=i) kg n (fun t _ => rfl),if_pos hi]
end Go.Proofs.YtfodlpnkllolnaaGreat
namespace Go.Proofs.YtfodlpnkllolnaaGreat
open Go.RowKit F256
theorem run_slice_tail (gr N cap d:Nat) (h1:d < N) (h2:N ≤ cap) (w:World) :
    (Instr.slice 30 (.slice (some ⟨gr,0,none⟩) N cap) (some (.int .i64 (d:Int))) none none).run Tryz.prog w = .ok (.slice (some ⟨gr,d,none⟩) (N - d) (cap - d)) w:=by
  have e1:(0:Int) ≤ (d:Int) ∧ (d:Int) ≤ (N:Int):=by omega
  have e4:¬ cap = d:=by omega
  have e5:d ≤ N:=by omega
  simp [Instr.slice,run_underlying Tryz.underlying30,Instr.sliceBounds,Instr.sliceBound,asIntOf,go_sem,e1,e4,e5]
set_option maxHeartbeats 4000000 in
theorem dataWeights_any (D:Nat) (vh:Value) (hv:Nat → Nat) (h1:Nat) (w:World) (rh:RdI w h1 vh D (fun i => (hv i:Int))) (hh:h1 ≤ w.heap.size) (hD1:1 ≤ D) (hD:D ≤ 4) (hb:∀ k,k < D → hv k < D + 2) :
    Calls Tryz.prog 149 #[.int .i64 D,vh] w fun e w' => ∃ v',e = .returned v' ∧ RdM w' w'.heap.size v' D (fun _ => D) (dW D hv) ∧ Below w.heap.size w w':=by
  obtain ⟨aoh,caph,rfl,hmm,hch⟩:=rh;obtain ⟨bh,oh,rfl,hbh,hcell⟩:=hch (by omega);have HC:Hid (∀ i,i < D → w.cell? ⟨bh,oh + i,none⟩ = some (.int .i64 (hv i:Int))):=hcell;have HBD:Hid (∀ k,k < D → hv k < D + 2):=hb
  have hbw:bh < w.heap.size:=by omega
  have e136:((136:Nat):Int) = 136:=rfl;clear hch hcell hb hmm
  go_enter Tryz.func149,Tryz.ntmps149
  go_wp2_with (at_make;refine wp_makeM _ rfl _ _ rfl _ _ D rfl rfl rfl rfl (by omega) ?_;intro w1 hown1 hb1 hz1)
  go_loopw [12] (fun i wr => ∃ k:Nat,k ≤ D ∧ i = .int .i64 k ∧ ∃ e',Cpy w wr D k (fun _ => D + D) (eyeM D hv) e') (fun i _ => D - (intOf i).toNat)
  case atStart => exact ⟨0,Nat.zero_le _,rfl,fun _ => nilS,⟨by rw [valsOf_eq (g:=fun _ => nilS) (fun i hi => by simp)];exact hown1,fun i hi => by omega,⟨fun i hi => by omega,fun i j hi => by omega⟩,hb1,hz1⟩⟩
  case round =>
    clear hown1 hb1 hz1;obtain ⟨k,hk,rfl,e',hcp⟩:=hrel
    by_cases hlt:k < D
    · have HCP:Hid (Cpy w wr D k (fun _ => D + D) (eyeM D hv) e'):=hcp
      have hl:=hcp.lt;have ck:wr.cell? ⟨bh,oh + k,none⟩ = some (.int .i64 (hv k:Int)):=(hcp.bel.cell (p:=⟨bh,oh + k,none⟩) hbw).trans (HC.out k hlt);obtain ⟨p,hp⟩:∃ p,p = hv k:=⟨_,rfl⟩;have HP:Hid (p = hv k):=hp
      have hp2:p < D + 2:=by rw [hp];exact HBD.out k hlt
      rw [← hp] at ck;have szr:=hcp.bel.size;clear hcp hp
      go_wp2_with (at_make;refine wp_makeB _ rfl _ _ rfl _ _ D rfl rfl rfl rfl (by omega) ?_;intro w2 ho2 hb2 hz2;have hco:w2.cell? ⟨wr.heap.size,k,none⟩ = some (.int .u8 (0:Nat)):=(by have:=ho2.1.cellAt k (by omega);rw [this,cellsOf_get _ _ _ hlt]);have hfo:w2.frozen? ⟨wr.heap.size,k,none⟩ = false:=ho2.1.frozenAt k;have ck2:(w2.setCell ⟨wr.heap.size,k,none⟩ (.int .u8 1)).cell? ⟨bh,oh + k,none⟩ = some (.int .i64 (p:Int)):=((hb2.setCell (Nat.le_refl _) _).cell (p:=⟨bh,oh + k,none⟩) (by show bh < wr.heap.size;omega)).trans ck)
      have oU:Own (w2.setCell ⟨wr.heap.size,k,none⟩ (.int .u8 (1:Nat))) wr.heap.size w2.heap.size (.slice (some ⟨wr.heap.size,0,none⟩) D D) D (fun i => if i = k then 1 else 0):=ho2.store k 1 hlt (fun i hi => rfl);have BU:Below wr.heap.size wr (w2.setCell ⟨wr.heap.size,k,none⟩ (.int .u8 (1:Nat))):=hb2.setCell (Nat.le_refl _) _;obtain ⟨wU,hwU⟩:∃ wU,wU = w2.setCell ⟨wr.heap.size,k,none⟩ (.int .u8 (1:Nat)):=⟨_,rfl⟩
      have hsU:wU.heap.size = w2.heap.size:=by rw [hwU];simp
      have CF:=factorsFrom_any 8 D p 136 rfl (by omega) (by omega) (by omega) wU;rw [e136] at CF;have e1:((1:Nat):Int) = 1:=rfl;rw [e1] at hwU oU BU;rw [← hwU] at oU BU ⊢;clear ho2 hb2 hco hfo ck2 ck hwU;refine CF.mono ?_;rintro ee w3 ⟨v3,rfl,o3,b3⟩;obtain ⟨ao3,cap3,rfl⟩:=o3.slice;have s3:=b3.size;have oU3:=(oU.below b3 (by omega)).rd;have B3:Below wr.heap.size wr w3:=BU.trans (b3.mono (by omega))
      have CJ:=joined_some (.slice ao3 D cap3) (.slice (some ⟨wr.heap.size,0,none⟩) D D) D D (genN D p 8) (fun i => if i = k then 1 else 0) (eyeM D hv k) w3.heap.size w2.heap.size w3 o3.rd oU3 (Nat.le_refl _) (by omega) (by omega) (by omega) (by omega) (fun i hi => by
        simp only [eyeM,HP.out]
        by_cases c:i < D
        · rw [if_pos c,if_pos c]
        · rw [if_neg c,if_neg c]
          by_cases c2:i = D + k
          · rw [if_pos c2,if_pos (by omega)]
          · rw [if_neg c2,if_neg (by omega)])
      clear CF o3 oU oU3 b3 BU
      go_wp2_with fail
      refine CJ.mono ?_;rintro ee w4 ⟨v4,rfl,o4,b4⟩;obtain ⟨ao4,cap4,rfl⟩:=o4.slice;have B4:Below wr.heap.size wr w4:=B3.trans (b4.mono (by omega))
      have q1:w4.cell? ⟨w.heap.size,k,none⟩ = some nilS:=by
        rw [B4.cell (p:=⟨w.heap.size,k,none⟩) hl,HCP.out.row.cellAt k (by omega),valsOf_get _ _ _ hlt,if_neg (Nat.lt_irrefl k)]
      have q2:w4.frozen? ⟨w.heap.size,k,none⟩ = false:=(B4.frozen (p:=⟨w.heap.size,k,none⟩) hl).trans (HCP.out.row.frozenAt k);have N1:=HCP.out.next hlt B4 (o4.weaken (by omega) (Nat.le_refl _));clear HCP CJ o4 b4 B4 B3;go_wp2
      go_roundw
      case rel => exact ⟨k + 1,by omega,by go_num,_,N1⟩
      case measure => simp [intOf];omega
    · obtain rfl:k = D:=by omega
      obtain ⟨gg,cc,e2,hE⟩:=hcp.done;have hval:=hE.val
      simp only [Value.slice.injEq,Option.some.injEq,Addr.mk.injEq,and_true,true_and] at hval
      obtain ⟨rfl,rfl⟩:=hval;have hbel:=hcp.bel;have RD:=reduceRows_any _ k (k + k) k (eyeM k hv) w.heap.size w.heap.size k e2 (by omega) (by omega) (by omega) (eyeM_byt k hv) wr hE;clear hE hcp
      go_wp2_with fail
      refine RD.mono ?_;rintro ee w4 ⟨rfl,⟨e4,hE4⟩,hb4⟩;have HE4:Hid (OwnE w4 w.heap.size w4.heap.size (.slice (some ⟨w.heap.size,0,none⟩) k k) k (fun _ => k + k) (gaussM k (eyeM k hv) k).1 w.heap.size k e4):=hE4;have B4:Below w.heap.size w w4:=hbel.trans hb4
      have hf4:∀ i,i < k → ∃ gi ci,e4 i = .slice (some ⟨gi,0,none⟩) (k + k) ci ∧ gi ≠ w.heap.size ∧ gi < w4.heap.size ∧ k + k ≤ ci:=fun i hi => by
        obtain ⟨gi,ci,h5,h6,h7,h8,h9⟩:=(hE4.each i hi).form (by omega);exact ⟨gi,ci,h5,fun hg => hE4.apart.1 i hi (by rw [h5,hg];rfl),h8,h9⟩
      have HF4:Hid (∀ i,i < k → ∃ gi ci,e4 i = .slice (some ⟨gi,0,none⟩) (k + k) ci ∧ gi ≠ w.heap.size ∧ gi < w4.heap.size ∧ k + k ≤ ci):=hf4;have hr4:=hE4.row;have hz4:=hE4.high;clear RD hb4 hbel hE4 hf4;go_wp2
      go_loopw [36] (fun i wr => ∃ q:Nat,q ≤ k ∧ i = .int .i64 q ∧ ∃ e5:Nat → Value,wr.ownsRow w.heap.size 30 1 (.slice (some ⟨w.heap.size,0,none⟩) k k) k (valsOf k e5) ∧ (∀ i,i < k → q ≤ i → e5 i = e4 i) ∧ (∀ i,i < q → ∃ gi ci cj,e4 i = .slice (some ⟨gi,0,none⟩) (k + k) ci ∧ e5 i = .slice (some ⟨gi,k,none⟩) k cj) ∧ (∀ b,b ≠ w.heap.size → wr.heap[b]? = w4.heap[b]?) ∧ Below w.heap.size w wr ∧ wr.heap.size = w4.heap.size) (fun i _ => k - (intOf i).toNat)
      case atStart => exact ⟨0,Nat.zero_le _,rfl,e4,hr4,fun _ _ _ => rfl,fun i hi => by omega,fun _ _ => rfl,B4,rfl⟩
      case round =>
        clear hr4 B4;obtain ⟨q,hq,rfl,e5,hr5,h51,h52,h53,h54,h55⟩:=hrel
        by_cases hqk:q < k
        · obtain ⟨gi,ci,h61,h62,h63,h64⟩:=HF4.out q hqk
          have c1:wr.cell? ⟨w.heap.size,q,none⟩ = some (.slice (some ⟨gi,0,none⟩) (k + k) ci):=by
            rw [hr5.cellAt q (by omega),valsOf_get k e5 q hqk,h51 q hqk (Nat.le_refl _),h61]
          have c2:wr.frozen? ⟨w.heap.size,q,none⟩ = false:=hr5.frozenAt q;obtain ⟨T,hT⟩:∃ T,T = k + k:=⟨_,rfl⟩;have HT:Hid (T = k + k):=hT;have hsl:=fun w => run_slice_tail gi T ci k (by omega) (by omega) w
          have hTk:T - k = k:=by omega
          rw [hTk] at hsl;rw [← hT] at c1
          have NR:(wr.setCell ⟨w.heap.size,q,none⟩ (.slice (some ⟨gi,k,none⟩) k (ci - k))).ownsRow w.heap.size 30 1 (.slice (some ⟨w.heap.size,0,none⟩) k k) k (valsOf k fun i => if i = q then .slice (some ⟨gi,k,none⟩) k (ci - k) else e5 i):=by
            have:=(hr5.stored q (.slice (some ⟨gi,k,none⟩) k (ci - k))).1;rw [valsOf_set k e5 (fun i => if i = q then .slice (some ⟨gi,k,none⟩) k (ci - k) else e5 i) q _ hqk (fun i _ => rfl)] at this;exact this
          have HX:Hid ((∀ i,i < k → q + 1 ≤ i → (if i = q then Value.slice (some ⟨gi,k,none⟩) k (ci - k) else e5 i) = e4 i) ∧ (∀ i,i < q + 1 → ∃ gi' ci' cj,e4 i = .slice (some ⟨gi',0,none⟩) (k + k) ci' ∧ (if i = q then Value.slice (some ⟨gi,k,none⟩) k (ci - k) else e5 i) = .slice (some ⟨gi',k,none⟩) k cj)) :=
            ⟨fun i hi hqi => by rw [if_neg (by omega)];exact h51 i hi (by omega),fun i hi => by
              by_cases c:i = q
              · exact ⟨gi,ci,ci - k,by rw [c];exact h61,by rw [if_pos c]⟩
              · rw [if_neg c];exact h52 i (by omega)⟩
          have N3:∀ b,b ≠ w.heap.size → (wr.setCell ⟨w.heap.size,q,none⟩ (.slice (some ⟨gi,k,none⟩) k (ci - k))).heap[b]? = w4.heap[b]?:=fun b hb => (heap_setCell_other wr ⟨w.heap.size,q,none⟩ b _ hb).trans (h53 b hb);have N4:Below w.heap.size w (wr.setCell ⟨w.heap.size,q,none⟩ (.slice (some ⟨gi,k,none⟩) k (ci - k))):=h54.setCell (Nat.le_refl _) _
          have N5:(wr.setCell ⟨w.heap.size,q,none⟩ (.slice (some ⟨gi,k,none⟩) k (ci - k))).heap.size = w4.heap.size:=by simp [h55]
          clear hr5 h51 h52 h53 h54 h61 hT;go_wp2
          go_roundw
          case rel => exact ⟨q + 1,by omega,by go_num,_,NR,HX.out.1,HX.out.2,N3,N4,N5⟩
          case measure => simp [intOf];omega
        · obtain rfl:q = k:=by omega
          have HM:Hid (RdM wr wr.heap.size (.slice (some ⟨w.heap.size,0,none⟩) q q) q (fun _ => q) (dW q hv)):=by
            refine ⟨_,_,e5,rfl,by unfold maxLen;omega,fun _ => ⟨w.heap.size,0,rfl,by omega,fun i hi => ?_⟩,fun i hi => ?_⟩
            · rw [Nat.zero_add,hr5.cellAt i (by omega),valsOf_get q e5 i hi]
            · show Rd wr wr.heap.size (e5 i) q (dW q hv i)
              obtain ⟨gi,ci,cj,h61,h62⟩:=h52 i hi;obtain ⟨gi',ci',h63,h64,h65,h66⟩:=HF4.out i hi;rw [h61] at h63
              cases h63
              rw [h62];refine ⟨_,_,rfl,by unfold maxLen;omega,fun _ => ⟨gi,q,rfl,by omega,fun j hj => ?_⟩⟩;have o6:=HE4.out.each i hi;rw [h61] at o6;have c6:=o6.1.cellAt (q + j) (by omega);rw [cellsOf_get _ _ _ (by omega)] at c6;exact (World.cell?_of_block (h53 gi h64)).trans c6
          clear hr5 h51 h52 h53;go_wp2;go_ret;exact ⟨_,rfl,HM.out,h54⟩
end Go.Proofs.YtfodlpnkllolnaaGreat
namespace Go.Proofs.YtfodlpnkllolnaaGreat
open Go.RowKit F256
def colW (D:Nat) (hv:Nat → Nat):Mat:=fun p => mixN (dW D hv) (genN D p 8) D
set_option maxHeartbeats 4000000 in
theorem columnWeights_any (D C:Nat) (vh:Value) (hv:Nat → Nat) (h1:Nat) (w:World) (rh:RdI w h1 vh D (fun i => (hv i:Int))) (hh:h1 ≤ w.heap.size) (hD1:1 ≤ D) (hD:D ≤ 4) (hC:C ≤ 2) (hbd:∀ k,k < D → hv k < D + 2) :
    Calls Tryz.prog 131 #[.int .i64 D,.int .i64 C,vh] w fun e w' => ∃ v',e = .returned v' ∧ OwnM w' w.heap.size w'.heap.size v' (D + C) (fun _ => D) (colW D hv) ∧ Below w.heap.size w w':=by
  have CD:=dataWeights_any D vh hv h1 w rh hh hD1 hD hbd;obtain ⟨aoh,caph,rfl,hmm,hch⟩:=rh;have e136:((136:Nat):Int) = 136:=rfl;obtain ⟨Q,hQ⟩:∃ Q,Q = D + C:=⟨_,rfl⟩;have HQ:Hid (Q = D + C):=hQ
  have hQ6:Q ≤ 6:=by omega
  clear hch hmm hQ
  go_enter Tryz.func131,Tryz.ntmps131
  go_wp2_with fail
  refine CD.mono ?_;rintro e0 wD ⟨vD,rfl,rD,BD⟩;obtain ⟨ao,cap,e,rfl,hm,hc,he⟩:=rD;obtain ⟨b,off,rfl,hbw,hcell⟩:=hc (by omega);have HE:Hid (∀ i,i < D → Rd wD wD.heap.size (e i) D (dW D hv i)):=he;have HC:Hid (∀ i,i < D → wD.cell? ⟨b,off + i,none⟩ = some (e i)):=hcell;clear hc he hcell hm CD
  go_wp2_with (at_make;refine wp_makeM _ rfl _ _ rfl _ _ Q rfl rfl (by have:=HQ.out;omega) (by have:=HQ.out;omega) (by omega) ?_;intro w1 hown1 hb1 hz1)
  have E0:OwnE w1 wD.heap.size w1.heap.size (.slice (some ⟨wD.heap.size,0,none⟩) Q Q) Q (lenN D 0) (colW D hv) wD.heap.size Q (fun _ => nilS):=ownE_made hown1 (Nat.le_refl _) hz1 (fun i hi => by simp [lenN]);clear hown1
  go_loopw [22] (fun i wr => ∃ k:Nat,k ≤ Q ∧ i = .int .i64 k ∧ ∃ e',OwnE wr wD.heap.size wr.heap.size (.slice (some ⟨wD.heap.size,0,none⟩) Q Q) Q (lenN D k) (colW D hv) wD.heap.size Q e' ∧ Below wD.heap.size wD wr) (fun i _ => Q - (intOf i).toNat)
  case atStart => exact ⟨0,Nat.zero_le _,rfl,_,E0,hb1⟩
  case round =>
    clear E0 hb1 hz1;obtain ⟨k,hk,rfl,e',hE,hb⟩:=hrel
    by_cases hlt:k < Q
    · have HOE:Hid (OwnE wr wD.heap.size wr.heap.size (.slice (some ⟨wD.heap.size,0,none⟩) Q Q) Q (lenN D k) (colW D hv) wD.heap.size Q e'):=hE
      have HB:Hid (Below wD.heap.size wD wr):=hb
      have hlti:(k:Int) < (D:Int) + (C:Int):=by have:=HQ.out;omega
      have szr:=hb.size;have hgr:=hE.high;clear hE hb
      go_wp2_with (at_make;refine wp_makeB _ rfl _ _ rfl _ _ D rfl rfl rfl rfl (by omega) ?_;intro w2 ho2 hb2 hz2;have q1:w2.cell? ⟨wD.heap.size,k,none⟩ = some (e' k):=(HOE.out.below hb2 (Nat.le_refl _)).cell k hlt;have q2:w2.frozen? ⟨wD.heap.size,k,none⟩ = false:=(HOE.out.below hb2 (Nat.le_refl _)).frozen k)
      have e136:((136:Nat):Int) = 136:=rfl;obtain ⟨wk,hwk⟩:∃ wk,wk = wr:=⟨_,rfl⟩;rw [← hwk] at ho2 hb2 hz2 HOE HB szr hgr ⊢;obtain ⟨row,hrow⟩:∃ row:Value,row = .slice (some ⟨wk.heap.size,0,none⟩) D D:=⟨_,rfl⟩
      obtain ⟨E1,hE1k,ER⟩:∃ E1:Nat → Value,E1 k = row ∧ OwnE (w2.setCell ⟨wD.heap.size,k,none⟩ (.slice (some ⟨wk.heap.size,0,none⟩) D D)) wD.heap.size w2.heap.size (.slice (some ⟨wD.heap.size,0,none⟩) Q Q) Q (lenN D (k + 1)) (sumM (colW D hv) (dW D hv) (genN D k 8) k 0) wD.heap.size Q E1 :=
        ⟨_,by simp [hrow],(HOE.out.below hb2 (Nat.le_refl _)).lay k hlt (n':=lenN D (k + 1)) (M':=sumM (colW D hv) (dW D hv) (genN D k 8) k 0) (lo2:=wk.heap.size) (hi2:=w2.heap.size) (by
          rw [show lenN D (k + 1) k = D by simp [lenN]]
          exact ho2.congr (fun i _ => by simp [sumM,mixN])) (Nat.le_refl _) hb2.size (fun j hj hne => by
          unfold lenN
          by_cases c:j < k
          · rw [if_pos c,if_pos (by omega)]
          · rw [if_neg c,if_neg (by omega)]) (fun j hj hne => by simp [sumM,hne])⟩
      have BA:Below wD.heap.size wD (w2.setCell ⟨wD.heap.size,k,none⟩ (.slice (some ⟨wk.heap.size,0,none⟩) D D)):=(HB.out.trans (hb2.mono szr)).setCell (Nat.le_refl _) _;obtain ⟨wA,hwA⟩:∃ wA,wA = w2.setCell ⟨wD.heap.size,k,none⟩ (.slice (some ⟨wk.heap.size,0,none⟩) D D):=⟨_,rfl⟩
      have hsA:wA.heap.size = w2.heap.size:=by rw [hwA];simp
      have CF:=factorsFrom_any 8 D k 136 rfl (by omega) (by omega) (by have:=HQ.out;omega) wA;rw [e136] at CF;rw [← hwA] at ER BA ⊢;clear ho2 hb2 q1 q2 HOE HB hwk hwA;refine CF.mono ?_;rintro ee w3 ⟨v3,rfl,o3,b3⟩;obtain ⟨gv,capv,hgv,h31,h32,h33,h34⟩:=o3.form (by omega);subst hgv;have s3:=b3.size;rw [hsA] at o3 h31 s3;have E3:=ER.below b3 (by omega);have B3:Below wD.heap.size wD w3:=BA.trans (b3.mono (by omega));clear CF b3 ER BA;go_wp2
      go_loopw [34] (fun i wr => ∃ m:Nat,m ≤ D ∧ i = .int .i64 m ∧ OwnE wr wD.heap.size w2.heap.size (.slice (some ⟨wD.heap.size,0,none⟩) Q Q) Q (lenN D (k + 1)) (sumM (colW D hv) (dW D hv) (genN D k 8) k m) wD.heap.size Q E1 ∧ Own wr w2.heap.size w3.heap.size (.slice (some ⟨gv,0,none⟩) D capv) D (genN D k 8) ∧ Below wD.heap.size wD wr ∧ w3.heap.size ≤ wr.heap.size) (fun i _ => D - (intOf i).toNat)
      case atStart => exact ⟨0,Nat.zero_le _,rfl,E3,o3,B3,Nat.le_refl _⟩
      case round =>
        clear E3 o3 B3;obtain ⟨m,hm',rfl,hE,ho,hb,hsz⟩:=hrel
        by_cases hmR:m < D
        · obtain ⟨y,hy⟩:∃ y,y = genN D k 8 m:=⟨_,rfl⟩
          have hyl:y < 256:=by rw [hy];exact genN_lt D k 8 m
          have c1:wr.cell? ⟨wD.heap.size,k,none⟩ = some (.slice (some ⟨wk.heap.size,0,none⟩) D D):=by rw [← hrow,← hE1k];exact hE.cell k hlt
          have c2:wr.cell? ⟨b,off + m,none⟩ = some (e m):=(hb.cell (p:=⟨b,off + m,none⟩) hbw).trans (HC.out m hmR)
          have c3:wr.cell? ⟨gv,m,none⟩ = some (.int .u8 y):=by rw [hy];exact (ho.1.cellAt m (by omega)).trans (cellsOf_get _ _ _ hmR)
          have ok:Own wr wD.heap.size w2.heap.size (.slice (some ⟨wk.heap.size,0,none⟩) D D) D (mixN (dW D hv) (genN D k 8) m):=by
            have:=hE.each k hlt;rw [hE1k,hrow,show lenN D (k + 1) k = D by simp [lenN],show sumM (colW D hv) (dW D hv) (genN D k 8) k m k = mixN (dW D hv) (genN D k 8) m by simp [sumM]] at this;exact this
          have rm:Rd wr wD.heap.size (e m) D (dW D hv m):=(HE.out m hmR).below hb (Nat.le_refl _);have CA:=addScaled_any (.slice (some ⟨wk.heap.size,0,none⟩) D D) (e m) D (mixN (dW D hv) (genN D k 8) m) (dW D hv m) (mixN (dW D hv) (genN D k 8) (m + 1)) y wk.heap.size (wk.heap.size + 1) wD.heap.size (wr.drewN 1) (ok.tight.drewN 1) (by show wk.heap.size + 1 ≤ wr.heap.size;omega) rm (by omega) (by show wD.heap.size ≤ wr.heap.size;omega) (mixN_lt (dW D hv) _ (genN_lt D k 8) m) (dW_byt D hv m) hyl (fun i _ => by rw [hy];rfl) (by omega);have HOE:Hid (OwnE wr wD.heap.size w2.heap.size (.slice (some ⟨wD.heap.size,0,none⟩) Q Q) Q (lenN D (k + 1)) (sumM (colW D hv) (dW D hv) (genN D k 8) k m) wD.heap.size Q E1):=hE;have HO:Hid (Own wr w2.heap.size w3.heap.size (.slice (some ⟨gv,0,none⟩) D capv) D (genN D k 8)):=ho;have HOK:Hid (Own wr wD.heap.size w2.heap.size (.slice (some ⟨wk.heap.size,0,none⟩) D D) D (mixN (dW D hv) (genN D k 8) m)):=ok;have HBL:Hid (Below wD.heap.size wD wr):=hb;obtain ⟨x,hx⟩:∃ x,x = e m:=⟨_,rfl⟩;rw [← hx] at c2 CA rm;obtain ⟨aox,capx,hsx,_,_⟩:=rm;subst hsx;have HE1:Hid (E1 k = row):=hE1k;have HRW:Hid (row = .slice (some ⟨wk.heap.size,0,none⟩) D D):=hrow;clear hE ho hb ok hx hy hE1k hrow;go_wp2
          go_region_with (go_at_call 151;refine CA.mono ?_;rintro ee w7 ⟨rfl,o7,ch7⟩)
          all_goals
            have E7:=(HOE.out.drewN 1).updN (M':=sumM (colW D hv) (dW D hv) (genN D k 8) k (m + 1)) k hlt (by rw [HE1.out,HRW.out];exact ch7) (by
              rw [HE1.out,HRW.out,show lenN D (k + 1) k = D by simp [lenN],show sumM (colW D hv) (dW D hv) (genN D k 8) k (m + 1) k = mixN (dW D hv) (genN D k 8) (m + 1) by simp [sumM]]
              exact HOK.out.untight o7) (fun j hj hne => by simp [sumM,hne])
            have O7:Own w7 w2.heap.size w3.heap.size (.slice (some ⟨gv,0,none⟩) D capv) D (genN D k 8):=(HO.out.drewN 1).chg ch7 (.inr (by omega));have B7:Below wD.heap.size wD w7:=(below_drewN HBL.out 1).trans (ch7.below (by omega) HBL.out.size);have S7:w3.heap.size ≤ w7.heap.size:=Nat.le_trans hsz ch7.size;have q5:=HE1.out;have q6:=HRW.out;clear o7 ch7 HOE HO HBL HOK CA c1 c2 c3;go_wp2
            go_roundw
            case rel => exact ⟨m + 1,by omega,by go_num,E7,O7,B7,S7⟩
            case measure => simp [intOf];omega
        · obtain rfl:m = D:=by omega
          have E8:OwnE wr wD.heap.size wr.heap.size (.slice (some ⟨wD.heap.size,0,none⟩) Q Q) Q (lenN m (k + 1)) (colW m hv) wD.heap.size Q E1:=by
            have h9:=hE.weaken (hi':=wr.heap.size) (by omega)
            have e9:sumM (colW m hv) (dW m hv) (genN m k 8) k m = colW m hv:=by
              funext i
              unfold sumM
              by_cases c:i = k
              · rw [if_pos c,c];rfl
              · rw [if_neg c]
            rw [e9] at h9;exact h9
          clear hE ho;go_wp2
          go_roundw
          case rel => exact ⟨k + 1,by omega,by go_num,E1,E8,hb⟩
          case measure => simp [intOf];omega
    · have hlti:¬ ((k:Int) < (D:Int) + (C:Int)):=by have:=HQ.out;omega
      obtain rfl:k = Q:=by omega
      have E9:=hE.congrN (n':=fun _ => D) (fun i hi => by simp [lenN,hi]);clear hE;go_wp2;go_ret;refine ⟨_,rfl,?_,BD.trans (hb.mono BD.size)⟩;rw [← HQ.out];exact OwnM.weaken ⟨_,_,_,E9⟩ BD.size (Nat.le_refl _)
end Go.Proofs.YtfodlpnkllolnaaGreat
namespace Go.Proofs.YtfodlpnkllolnaaGreat
open Go.RowKit F256
def arr6 (f:Nat → Nat):Value:=.agg #[.int .u8 (f 0),.int .u8 (f 1),.int .u8 (f 2),.int .u8 (f 3),.int .u8 (f 4),.int .u8 (f 5)]
theorem arr6_cells (f:Nat → Nat) (h:∀ j,f j < 256):arr6 f = .agg (([UInt8.ofNat (f 0),UInt8.ofNat (f 1),UInt8.ofNat (f 2),UInt8.ofNat (f 3),UInt8.ofNat (f 4),UInt8.ofNat (f 5)]:List UInt8).map Extern.Stop.cell).toArray:=by
  have e:∀ j,Extern.Stop.cell (UInt8.ofNat (f j)) = Value.int .u8 (f j):=fun j => by
    have:(UInt8.ofNat (f j)).toNat = f j:=by simp [UInt8.toNat_ofNat,Nat.mod_eq_of_lt (h j)]
    simp [Extern.Stop.cell,this]
  simp [arr6,e]
theorem eq6_run (f:Nat → Nat) (hf:∀ j,f j < 256) (w:World):(Op.equalIn 10000 155 (arr6 f) (arr6 f)).run Tryz.prog w = .ok true w:=by
  rw [arr6_cells f hf,run_equalIn_bytes w 9998 155 5 6 Tryz.underlying155 Tryz.underlying5 (fun w => by kernel_rfl) _ _ rfl rfl]
  simp
theorem check6 (em:Bool) (f:Nat → Nat) (w:World):(Instr.checkKey em 10000 155 (arr6 f)).run Tryz.prog w = .ok () w:=by kernel_rfl
theorem find6_none (f:Nat → Nat) (w:World):(Instr.findKey 155 (arr6 f) []).run Tryz.prog w = .ok none w:=by kernel_rfl
theorem find6_one (f:Nat → Nat) (hf:∀ j,f j < 256) (val:Value) (t:Nat) (w:World):(Instr.findKey 155 (arr6 f) [⟨arr6 f,val,t⟩]).run Tryz.prog w = .ok (some (0,val)) w:=by
  have h:=eq6_run f hf w;have hn:Instr.findNow (.array 6 5) (arr6 f) [⟨arr6 f,val,t⟩] 0 = none:=rfl
  simp [Instr.findKey,run_underlying Tryz.underlying155,hn,Instr.findAsking,Op.equal,Op.maxDepth,h,Result.andThen]
theorem zero_lists (w:World):(zeroValue 107).run Tryz.prog w = .ok nilS w:=by kernel_rfl
def MapAt (w:World) (b:Nat) (es:Array MapEntry) (t:Nat):Prop:=w.heap[b]? = some (.map es t)
theorem MapAt.lt {w:World} {b:Nat} {es:Array MapEntry} {t:Nat} (h:MapAt w b es t):b < w.heap.size:=(Array.getElem?_eq_some_iff.1 h).1
theorem MapAt.below {w w':World} {b B:Nat} {es:Array MapEntry} {t:Nat} (h:MapAt w b es t) (hb:Below B w w') (hB:b < B):MapAt w' b es t:=(hb.block b hB).trans h
theorem mapAt_new (w:World):MapAt (w.alloc (.map #[] 0)) w.heap.size #[] 0:=heap_alloc_new w _
theorem look6_none {w:World} {b:Nat} (h:MapAt w b #[] 0) (f:Nat → Nat):(Instr.lookup 130 (.map (some b)) (arr6 f) true).run Tryz.prog w = .ok (.tuple #[nilS,.bool false]) w:=by
  simp [Instr.lookup,run_underlying Tryz.underlying130,MapKept.run_getObj_map h,check6,find6_none,zero_lists,Result.andThen]
theorem look6_one {w:World} {b:Nat} {f:Nat → Nat} (hf:∀ j,f j < 256) {val:Value} {t u:Nat} (h:MapAt w b #[⟨arr6 f,val,t⟩] u) (c:Bool):(Instr.lookup 130 (.map (some b)) (arr6 f) c).run Tryz.prog w = .ok (if c then .tuple #[val,.bool true] else val) w:=by
  simp [Instr.lookup,run_underlying Tryz.underlying130,MapKept.run_getObj_map h,check6,find6_one f hf,Result.andThen]
theorem put6_none {w:World} {b:Nat} (h:MapAt w b #[] 0) (f:Nat → Nat) (val:Value):(Instr.mapUpdate 130 (.map (some b)) (arr6 f) val).run Tryz.prog w = .ok () (ChangeMaps.setBlock w b (.map #[⟨arr6 f,val,0⟩] 1)):=by
  simp [Instr.mapUpdate,run_underlying Tryz.underlying130,MapKept.run_getObj_map h,check6,find6_none,Result.andThen]
  exact MapKept.run_setObj_map _ h
theorem setB_same {w:World} {b:Nat} {es:Array MapEntry} {t:Nat} (h:MapAt w b es t) (o:Obj):(ChangeMaps.setBlock w b o).heap[b]? = some o:=ChangeMaps.heap_setBlock_same h o
theorem setB_other {w:World} {b:Nat} {es:Array MapEntry} {t:Nat} (h:MapAt w b es t) (o:Obj) {i:Nat} (hi:i ≠ b):(ChangeMaps.setBlock w b o).heap[i]? = w.heap[i]?:=ChangeMaps.heap_setBlock_other h o hi
theorem setB_size (w:World) (b:Nat) (o:Obj):(ChangeMaps.setBlock w b o).heap.size = w.heap.size:=by simp [ChangeMaps.setBlock]
theorem setB_chg {w:World} {b:Nat} {es:Array MapEntry} {t:Nat} (h:MapAt w b es t) (o:Obj):Chg b (b + 1) w (ChangeMaps.setBlock w b o) :=
  ⟨rfl,rfl,rfl,Nat.le_of_eq (setB_size w b o).symm,fun k _ hk => setB_other h o (by omega)⟩
theorem below_chg {lo hi B:Nat} {w w':World} (h:Below B w w') (hB:w.heap.size ≤ B):Chg lo hi w w':=⟨h.os,h.tape,h.output,h.size,fun k hk _ => h.block k (by omega)⟩
end Go.Proofs.YtfodlpnkllolnaaGreat
namespace Go.Proofs.YtfodlpnkllolnaaGreat
open Go.RowKit F256
def keyN (hv:Nat → Nat):Nat → Nat → Nat
  | 0,_ => 0
  | k + 1,i => if i = hv k then 1 else keyN hv k i
theorem keyN_lt (hv:Nat → Nat):∀ k i,keyN hv k i < 256
  | 0,_ => by simp [keyN]
  | k + 1,i => by
    simp only [keyN]
    split
    · omega
    · exact keyN_lt hv k i
def keyA (hv:Nat → Nat) (k:Nat):Array Value:=#[.int .u8 (keyN hv k 0),.int .u8 (keyN hv k 1),.int .u8 (keyN hv k 2),.int .u8 (keyN hv k 3),.int .u8 (keyN hv k 4),.int .u8 (keyN hv k 5)]
theorem keyA_size (hv:Nat → Nat) (k:Nat):(keyA hv k).size = 6:=rfl
theorem keyA_set (hv:Nat → Nat) (k p:Nat) (hp:p = hv k) (h6:p < 6):(keyA hv k).setIfInBounds p (.int .u8 1) = keyA hv (k + 1):=by
  have:p = 0 ∨ p = 1 ∨ p = 2 ∨ p = 3 ∨ p = 4 ∨ p = 5:=by omega
  rcases this with rfl | rfl | rfl | rfl | rfl | rfl <;> simp [keyA,keyN,← hp]
set_option maxRecDepth 20000 in
set_option maxHeartbeats 4000000 in
theorem weights_new (B D C:Nat) (vh:Value) (hv:Nat → Nat) (h1:Nat) (w:World) (hM:MapAt w B #[] 0) (rh:RdI w h1 vh D (fun i => (hv i:Int))) (hh:h1 ≤ w.heap.size) (hD1:1 ≤ D) (hD:D ≤ 4) (hC:C ≤ 2) (hbd:∀ k,k < D → hv k < D + 2) :
    Calls Tryz.prog 99 #[.map (some B),.int .i64 D,.int .i64 C,vh] w fun e w' => ∃ v',e = .returned v' ∧ OwnM w' w.heap.size w'.heap.size v' (D + C) (fun _ => D) (colW D hv) ∧ MapAt w' B #[⟨arr6 (keyN hv D),v',0⟩] 1 ∧ Chg B (B + 1) w w':=by
  have HRH:Hid (RdI w h1 vh D (fun i => (hv i:Int))):=rh;obtain ⟨aoh,caph,rfl,hmm,hch⟩:=rh;obtain ⟨bh,oh,rfl,hbh,hcell⟩:=hch (by omega);have HC:Hid (∀ i,i < D → w.cell? ⟨bh,oh + i,none⟩ = some (.int .i64 (hv i:Int))):=hcell;have HBD:Hid (∀ k,k < D → hv k < D + 2):=hbd
  have hbw:bh < w.heap.size:=by omega
  have hBw:=hM.lt;have HM:Hid (MapAt w B #[] 0):=hM;clear hch hcell hbd hmm hM
  go_enter Tryz.func99,Tryz.ntmps99
  go_wp2
  go_loopw [16] (fun i wr => ∃ k:Nat,k ≤ D ∧ i = .int .i64 k ∧ wr = w.alloc (.cells (keyA hv k) 155)) (fun i _ => D - (intOf i).toNat)
  case atStart => exact ⟨0,Nat.zero_le _,rfl,rfl⟩
  case round =>
    obtain ⟨k,hk,rfl,rfl⟩:=hrel
    by_cases hlt:k < D
    · obtain ⟨p,hp⟩:∃ p,p = hv k:=⟨_,rfl⟩
      have ck:(w.alloc (.cells (keyA hv k) 155)).cell? ⟨bh,oh + k,none⟩ = some (.int .i64 (p:Int)):=by
        rw [cell_alloc_old _ _ _ _ hbw,hp];exact HC.out k hlt
      have hp6:p < 6:=by have:=HBD.out k hlt;omega
      have hT:=keyA_size hv k;have HP:Hid (p = hv k):=hp;clear hp;go_wp2
      go_roundw
      case rel => exact ⟨k + 1,by omega,by go_num,by rw [keyA_set hv k p HP.out hp6]⟩
      case measure => simp [intOf];omega
    · obtain rfl:k = D:=by omega
      obtain ⟨k0,hk0⟩:∃ x,x = keyN hv k 0:=⟨_,rfl⟩;obtain ⟨k1,hk1⟩:∃ x,x = keyN hv k 1:=⟨_,rfl⟩;obtain ⟨k2,hk2⟩:∃ x,x = keyN hv k 2:=⟨_,rfl⟩;obtain ⟨k3,hk3⟩:∃ x,x = keyN hv k 3:=⟨_,rfl⟩;obtain ⟨k4,hk4⟩:∃ x,x = keyN hv k 4:=⟨_,rfl⟩;obtain ⟨k5,hk5⟩:∃ x,x = keyN hv k 5:=⟨_,rfl⟩
      have HKA:Hid (arr6 (keyN hv k) = .agg #[.int .u8 k0,.int .u8 k1,.int .u8 k2,.int .u8 k3,.int .u8 k4,.int .u8 k5]):=by
        show arr6 (keyN hv k) = _
        rw [hk0,hk1,hk2,hk3,hk4,hk5];rfl
      have ha:keyA hv k = #[.int .u8 k0,.int .u8 k1,.int .u8 k2,.int .u8 k3,.int .u8 k4,.int .u8 k5]:=by
        rw [hk0,hk1,hk2,hk3,hk4,hk5];rfl
      obtain ⟨wK,hwK⟩:∃ wK,wK = w.alloc (.cells (keyA hv k) 155):=⟨_,rfl⟩
      have BK:Below w.heap.size w wK:=by rw [hwK];exact (Below.refl _ _).alloc (Nat.le_refl _) _
      have XK:Box wK w.heap.size #[.int .u8 k0,.int .u8 k1,.int .u8 k2,.int .u8 k3,.int .u8 k4,.int .u8 k5] 155:=by rw [hwK,← ha];exact box_new w _ _
      have MK:MapAt wK B #[] 0:=HM.out.below BK hBw;have L1:=look6_none MK (keyN hv k);rw [HKA.out] at L1;rw [← hwK];have d0:=XK.cell 0;have d1:=XK.cell 1;have d2:=XK.cell 2;have d3:=XK.cell 3;have d4:=XK.cell 4;have d5:=XK.cell 5
      simp only [List.getElem?_toArray,List.getElem?_cons_zero,List.getElem?_cons_succ] at d0 d1 d2 d3 d4 d5
      clear ha hwK hk0 hk1 hk2 hk3 hk4 hk5;go_wp2;have CW:=columnWeights_any k C (.slice (some ⟨bh,oh,none⟩) k caph) hv h1 (wK.drewN 1) (HRH.out.below (below_drewN BK 1) hh) (Nat.le_trans hh BK.size) hD1 hD hC HBD.out;clear L1 HC
      go_region_with (go_at_call 131;refine CW.mono ?_;rintro ee w3 ⟨v3,rfl,o3,b3⟩;obtain ⟨gW,cW,eW,hW⟩:=o3;have hval:=hW.val;subst hval;have b4:Below wK.heap.size wK w3:=undrewN' b3;have M3:MapAt w3 B #[] 0:=MK.below b4 (by show B < wK.heap.size;have:=BK.size;omega);have PU:=put6_none M3 (keyN hv k) (.slice (some ⟨gW,0,none⟩) (k + C) cW);rw [HKA.out] at PU;have X3:Box w3 w.heap.size #[.int .u8 k0,.int .u8 k1,.int .u8 k2,.int .u8 k3,.int .u8 k4,.int .u8 k5] 155:=XK.below b4 XK.lt;have f0:w3.cell? ⟨w.heap.size,0,none⟩ = some (.int .u8 k0):=X3.cell 0;have f1:w3.cell? ⟨w.heap.size,1,none⟩ = some (.int .u8 k1):=X3.cell 1;have f2:w3.cell? ⟨w.heap.size,2,none⟩ = some (.int .u8 k2):=X3.cell 2;have f3:w3.cell? ⟨w.heap.size,3,none⟩ = some (.int .u8 k3):=X3.cell 3;have f4:w3.cell? ⟨w.heap.size,4,none⟩ = some (.int .u8 k4):=X3.cell 4;have f5:w3.cell? ⟨w.heap.size,5,none⟩ = some (.int .u8 k5):=X3.cell 5)
      all_goals
        obtain ⟨w5,hw5⟩:∃ w5,w5 = ChangeMaps.setBlock w3 B (.map #[⟨.agg #[.int .u8 k0,.int .u8 k1,.int .u8 k2,.int .u8 k3,.int .u8 k4,.int .u8 k5],.slice (some ⟨gW,0,none⟩) (k + C) cW,0⟩] 1):=⟨_,rfl⟩;have sK:=BK.size;have s4:=b4.size
        have hs5:w5.heap.size = w3.heap.size:=by rw [hw5];exact setB_size _ _ _
        have M5:MapAt w5 B #[⟨arr6 (keyN hv k),.slice (some ⟨gW,0,none⟩) (k + C) cW,0⟩] 1:=by rw [hw5,HKA.out];exact setB_same M3 _
        have C5:Chg B (B + 1) w w5:=by
          have h5:=setB_chg M3 (.map #[⟨.agg #[.int .u8 k0,.int .u8 k1,.int .u8 k2,.int .u8 k3,.int .u8 k4,.int .u8 k5],.slice (some ⟨gW,0,none⟩) (k + C) cW,0⟩] 1);rw [← hw5] at h5;exact ((below_chg (lo:=B) (hi:=B + 1) BK (Nat.le_refl _)).trans (below_chg b4 (Nat.le_refl _))).trans h5
        have oth:∀ b,b ≠ B → w5.heap[b]? = w3.heap[b]?:=fun b hb => by rw [hw5];exact setB_other M3 _ hb
        have OM:OwnM w5 w.heap.size w5.heap.size (.slice (some ⟨gW,0,none⟩) (k + C) cW) (k + C) (fun _ => k) (colW k hv):=by
          have h6:=hW.keep (w2:=w5) (fun b hb1 _ => oth b (by have hb2:wK.heap.size ≤ b:=hb1;omega));have h7:OwnM w5 wK.heap.size w3.heap.size (.slice (some ⟨gW,0,none⟩) (k + C) cW) (k + C) (fun _ => k) (colW k hv):=⟨_,_,_,h6⟩;exact h7.weaken sK (by omega)
        have L5:=look6_one (keyN_lt hv k) M5 false;rw [HKA.out] at L5
        simp only [Bool.false_eq_true,if_false] at L5
        have X5:Box w5 w.heap.size #[.int .u8 k0,.int .u8 k1,.int .u8 k2,.int .u8 k3,.int .u8 k4,.int .u8 k5] 155:=(oth _ (by omega)).trans X3;have g0:w5.cell? ⟨w.heap.size,0,none⟩ = some (.int .u8 k0):=X5.cell 0;have g1:w5.cell? ⟨w.heap.size,1,none⟩ = some (.int .u8 k1):=X5.cell 1;have g2:w5.cell? ⟨w.heap.size,2,none⟩ = some (.int .u8 k2):=X5.cell 2;have g3:w5.cell? ⟨w.heap.size,3,none⟩ = some (.int .u8 k3):=X5.cell 3;have g4:w5.cell? ⟨w.heap.size,4,none⟩ = some (.int .u8 k4):=X5.cell 4;have g5:w5.cell? ⟨w.heap.size,5,none⟩ = some (.int .u8 k5):=X5.cell 5;have HOM:Hid (OwnM w5 w.heap.size w5.heap.size (.slice (some ⟨gW,0,none⟩) (k + C) cW) (k + C) (fun _ => k) (colW k hv)):=OM;have HM5:Hid (MapAt w5 B #[⟨arr6 (keyN hv k),.slice (some ⟨gW,0,none⟩) (k + C) cW,0⟩] 1):=M5;rw [← hw5];clear hw5 oth PU M3 X3 f0 f1 f2 f3 f4 f5 b3 b4 hW CW MK BK XK d0 d1 d2 d3 d4 d5 OM M5;go_wp2;go_ret;exact ⟨_,rfl,HOM.out,HM5.out,C5⟩
end Go.Proofs.YtfodlpnkllolnaaGreat
namespace Go.Proofs.YtfodlpnkllolnaaGreat
open Go.RowKit F256
end Go.Proofs.YtfodlpnkllolnaaGreat
namespace Go.Proofs.YtfodlpnkllolnaaGreat
open Go.RowKit F256
end Go.Proofs.YtfodlpnkllolnaaGreat
namespace Go.Proofs.YtfodlpnkllolnaaGreat
open Go.RowKit F256
theorem colW_share {D:Nat} {hv:Nat → Nat} (h1:1 ≤ D) (h2:D ≤ 4) (hlt:∀ j,j < D → hv j < D + 2) (hr:∀ j,j + 1 < D → hv j < hv (j + 1)) (p i:Nat):(if i < D then colW D hv p i else 0) = shareN D hv p i:=by
  unfold shareN
  by_cases c:i < D
  · rw [if_pos c,if_pos c]
    show mixN (dW D hv) (genN D p 8) D i = _
    rw [mixN_dotC];exact weights_way h1 h2 hlt hr i c
  · rw [if_neg c,if_neg c]
set_option maxHeartbeats 8000000 in
theorem implShare_any (g c want:Int) (v:Value) (m:Nat) (h:Nat → Int) (l1 h1:Nat) (w:World) (o:OwnI w l1 h1 v m h) (hh:h1 ≤ w.heap.size) (hm9:m ≤ 1000000000) :
    Calls Tryz.prog 66 #[.int .i64 g,.int .i64 c,v,.int .i64 want] w fun ee w' => ∃ x v',ee = .returned (bytesR x v') ∧ ShAns g c m h want x ∧ Own w' w.heap.size w'.heap.size v' (if x = 0 then m else 0) (shareN g.toNat (fun k => (h k).toNat) want.toNat) ∧ Below w.heap.size w w':=by
  have HO:Hid (OwnI w l1 h1 v m h):=o;obtain ⟨ao,cap,rfl⟩:=o.slice;clear o
  go_enter Tryz.func66,Tryz.ntmps66
  go_wp2_with fail
  refine (columnInBounds_any g c _).mono ?_;rintro e w1 ⟨b1,rfl,hb1,b1'⟩;have HS:Hid (b1 = true ↔ Shp3 g c):=hb1;have B1:Below w.heap.size w w1:=bnew b1';have X1:Box w1 w.heap.size #[.int .i64 0,.slice none 0 0] 32:=(box_new w _ _).below b1' (by simp);have z1:w.heap.size < w1.heap.size:=X1.lt;obtain ⟨x0,x1,y0,y1⟩:=res_cells X1;clear hb1 b1'
  cases b1 with
  | false =>
    have HNO:Hid (¬ Shp3 g c):=fun h => by have:=HS.out.mpr h;cases this
    clear HS;go_wp2;exact bodyPost_ret (v:=bytesR 3 (.slice none 0 0)) (by simp [results,Tryz.results66,go_sem,bytesR,x0,x1]) rfl ⟨3,_,rfl,.inl ⟨rfl,HNO.out⟩,own_nil _ _ _ _,(B1.setCell (Nat.le_refl _) _).setCell (Nat.le_refl _) _⟩
  | true =>
    have hsh:=HS.out.mp rfl;have HSH:Hid (Shp3 g c):=hsh;obtain ⟨q1,q2,q3,q4⟩:=hsh;obtain ⟨D,rfl⟩:∃ D:Nat,g = D:=⟨g.toNat,by omega⟩;obtain ⟨S,rfl⟩:∃ S:Nat,c = S:=⟨c.toNat,by omega⟩;have CR:=risesWithin_any (.slice ao m cap) m h h1 ((D:Int) + (S:Int)) (by omega) w1 (HO.out.below B1 hh).rd;clear HS x0 x1 y0 y1
    go_wp2_with fail
    refine CR.mono ?_;rintro e w2 ⟨b2,rfl,hb2,b2'⟩;have HRI:Hid (b2 = true ↔ RiseP m h ((D:Int) + (S:Int) - 1)):=hb2;have B2:Below w.heap.size w w2:=B1.trans (b2'.mono B1.size);have X2:Box w2 w.heap.size #[.int .i64 0,.slice none 0 0] 32:=X1.below b2' z1;have z2:w.heap.size < w2.heap.size:=X2.lt;obtain ⟨x0,x1,y0,y1⟩:=res_cells X2;clear hb2 b2' X1 B1 z1 CR
    cases b2 with
    | false =>
      have HNO:Hid (¬ RiseP m h ((D:Int) + (S:Int) - 1)):=fun hh => by have:=HRI.out.mpr hh;cases this
      clear HRI;go_wp2;exact bodyPost_ret (v:=bytesR 1 (.slice none 0 0)) (by simp [results,Tryz.results66,go_sem,bytesR,x0,x1]) rfl ⟨1,_,rfl,.inr (.inl ⟨rfl,HSH.out,HNO.out⟩),own_nil _ _ _ _,(B2.setCell (Nat.le_refl _) _).setCell (Nat.le_refl _) _⟩
    | true =>
      have HRP:Hid (RiseP m h ((D:Int) + (S:Int) - 1)):=HRI.out.mp rfl;clear HRI
      by_cases hw0:want < 0
      · have HNW:Hid (¬ (0 ≤ want ∧ want ≤ (D:Int) + (S:Int) - 1)):=fun h => by omega
        go_wp2;exact bodyPost_ret (v:=bytesR 3 (.slice none 0 0)) (by simp [results,Tryz.results66,go_sem,bytesR,x0,x1]) rfl ⟨3,_,rfl,.inr (.inr (.inl ⟨rfl,HSH.out,HRP.out,HNW.out⟩)),own_nil _ _ _ _,(B2.setCell (Nat.le_refl _) _).setCell (Nat.le_refl _) _⟩
      · have tw0:decide (want < 0) = false:=by simp;omega
        by_cases hw1:(D:Int) + (S:Int) ≤ want
        · have HNW:Hid (¬ (0 ≤ want ∧ want ≤ (D:Int) + (S:Int) - 1)):=fun h => by omega
          clear hw0;go_wp2;exact bodyPost_ret (v:=bytesR 3 (.slice none 0 0)) (by simp [results,Tryz.results66,go_sem,bytesR,x0,x1]) rfl ⟨3,_,rfl,.inr (.inr (.inl ⟨rfl,HSH.out,HRP.out,HNW.out⟩)),own_nil _ _ _ _,(B2.setCell (Nat.le_refl _) _).setCell (Nat.le_refl _) _⟩
        · obtain ⟨W,rfl⟩:∃ W:Nat,want = W:=⟨want.toNat,by omega⟩
          have tw1:decide ((D:Int) + (S:Int) ≤ (W:Int)) = false:=by simp;omega
          have HW:Hid (0 ≤ (W:Int) ∧ (W:Int) ≤ (D:Int) + (S:Int) - 1):=⟨by omega,by omega⟩
          have hWDS:W < D + S:=by omega
          have hWi:(W:Int) < (D:Int) + (S:Int):=by omega
          have CH:=contains_any (.slice ao m cap) m h h1 (W:Int) w2 (HO.out.below B2 hh).rd;clear hw0 hw1 x0 x1 y0 y1
          go_wp2_with fail
          refine CH.mono ?_;rintro e w3 ⟨b3,rfl,hb3,b3'⟩;have HHA:Hid (b3 = true ↔ HasP m h (W:Int)):=hb3;have B3:Below w.heap.size w w3:=B2.trans (b3'.mono B2.size);have X3:Box w3 w.heap.size #[.int .i64 0,.slice none 0 0] 32:=X2.below b3' z2;have z3:w.heap.size < w3.heap.size:=X3.lt;obtain ⟨x0,x1,y0,y1⟩:=res_cells X3;clear hb3 b3' X2 B2 z2 CH
          cases b3 with
          | true =>
            have HA:Hid (HasP m h (W:Int)):=HHA.out.mp rfl;clear HHA;go_wp2;exact bodyPost_ret (v:=bytesR 7 (.slice none 0 0)) (by simp [results,Tryz.results66,go_sem,bytesR,x0,x1]) rfl ⟨7,_,rfl,.inr (.inr (.inr (.inl ⟨rfl,HSH.out,HRP.out,HW.out,HA.out⟩))),own_nil _ _ _ _,(B3.setCell (Nat.le_refl _) _).setCell (Nat.le_refl _) _⟩
          | false =>
            have HNA:Hid (¬ HasP m h (W:Int)):=fun h => by have:=HHA.out.mpr h;cases this
            clear HHA
            by_cases hmD:m < D
            · have hmi:(m:Int) < (D:Int):=by omega
              go_wp2;exact bodyPost_ret (v:=bytesR 10 (.slice none 0 0)) (by simp [results,Tryz.results66,go_sem,bytesR,x0,x1]) rfl ⟨10,_,rfl,.inr (.inr (.inr (.inr (.inl ⟨rfl,HSH.out,HRP.out,HW.out,HNA.out,hmi⟩)))),own_nil _ _ _ _,(B3.setCell (Nat.le_refl _) _).setCell (Nat.le_refl _) _⟩
            · have tm:decide ((m:Int) < (D:Int)) = false:=by simp;omega
              have tmn:decide (m < D) = false:=by simp;omega
              have HGM:Hid ((D:Int) ≤ (m:Int)):=by show (D:Int) ≤ (m:Int);omega
              obtain ⟨gh,caph,hgh,g1,g2,g3,g4⟩:=(HO.out.below B3 hh).form (by omega)
              simp only [Value.slice.injEq,true_and] at hgh
              obtain ⟨rfl,rfl⟩:=hgh;obtain ⟨n1,n2,n3⟩:=rise_nat' HRP.out (show D ≤ m by omega)
              have HRN:Hid (∀ w5,Below w3.heap.size w3 w5 → RdI w5 w3.heap.size (.slice (some ⟨gh,0,none⟩) D cap) D (fun i => (((h i).toNat:Nat):Int))):=fun w5 b5 => by
                obtain ⟨ao',cap',hv',hm',hc'⟩:=(HO.out.below B3 hh).rd;obtain ⟨b,off,h1',h2',h3'⟩:=hc' (by omega)
                simp only [Value.slice.injEq,true_and] at hv'
                obtain ⟨rfl,rfl⟩:=hv'
                simp only [Option.some.injEq,Addr.mk.injEq,and_true] at h1'
                obtain ⟨rfl,rfl⟩:=h1';have hs3:=B3.size;refine ⟨_,_,rfl,by unfold maxLen;omega,fun _ => ⟨gh,0,rfl,by omega,fun i hi => ?_⟩⟩;rw [b5.cell (p:=⟨gh,0 + i,none⟩) (by show gh < w3.heap.size;omega),h3' i (by omega)]
                show some (Value.int .i64 (h i)) = some (Value.int .i64 (((h i).toNat:Nat):Int))
                rw [← n1 i hi]
              have HBD:Hid (∀ k,k < D → (fun i => (h i).toNat) k < D + 2):=fun k hk => by have:=n2 k hk;show (h k).toNat < D + 2;omega
              have HRS:Hid (∀ k,k + 1 < D → (fun i => (h i).toNat) k < (fun i => (h i).toNat) (k + 1)):=n3
              have hDc:(D:Int) ≤ (cap:Int):=by omega
              have hmm:=@run_makeMap Tryz.prog
              have hD0:D ≠ 0:=by omega
              clear n1 n2 n3 x0 x1 y0 y1 hmD
              go_wp2_with (at_make;refine wp_makeB _ rfl _ _ rfl _ _ m rfl rfl rfl rfl (by omega) ?_;intro w4 ho4 hb4 hz4)
              have hsA:(w4.alloc (.map #[] 0)).heap.size = w4.heap.size + 1:=by simp
              have BA:Below w3.heap.size w3 (w4.alloc (.map #[] 0)):=hb4.trans (((Below.refl _ _).alloc (Nat.le_refl _) _).mono hb4.size);have CW:=weights_new w4.heap.size D S (.slice (some ⟨gh,0,none⟩) D cap) (fun i => (h i).toNat) w3.heap.size (w4.alloc (.map #[] 0)) (mapAt_new w4) (HRN.out _ BA) (by omega) (by omega) (by omega) (by omega) HBD.out;have HO4:Hid (Own (w4.alloc (.map #[] 0)) w3.heap.size w4.heap.size (.slice (some ⟨w3.heap.size,0,none⟩) m m) m (fun _ => 0)):=ho4.alloc _;have HBA:Hid (Below w3.heap.size w3 (w4.alloc (.map #[] 0))):=BA;have s3:=B3.size;have s4:=hb4.size;clear ho4 hb4 hmm BA;refine CW.mono ?_;rintro e w5 ⟨v5,rfl,⟨gW,cW,eW,hW⟩,m5,ch5⟩;have hval:=hW.val;subst hval;have c1:w5.cell? ⟨gW,W,none⟩ = some (eW W):=hW.cell W hWDS;have rk:Rd w5 w5.heap.size (eW W) D (colW D (fun i => (h i).toNat) W):=(hW.each W hWDS).rd;obtain ⟨x,hx⟩:∃ x,x = eW W:=⟨_,rfl⟩;rw [← hx] at c1 rk;have HRK:Hid (Rd w5 w5.heap.size x D (colW D (fun i => (h i).toNat) W)):=rk;obtain ⟨aok,capk,hsx,_,_⟩:=rk;subst hsx;have O5:Own w5 w3.heap.size w4.heap.size (.slice (some ⟨w3.heap.size,0,none⟩) m m) m (fun _ => 0):=HO4.out.chg ch5 (.inl (Nat.le_refl _));have HF5:Hid (w5.heap[w3.heap.size]? = some (.cells (cellsOf m fun _ => 0).toArray 5 (0,0))):=O5.full;have HB5:Hid (Below w3.heap.size w3 w5):=HBA.out.trans (ch5.below s4 (by rw [hsA];omega))
              have HL1:Hid ((cellsOf D (colW D (fun i => (h i).toNat) W)).length = Nat.min D m):=by
                show (cellsOf D (colW D (fun i => (h i).toNat) W)).length = Nat.min D m
                rw [cellsOf_length];exact (Nat.min_eq_left (by have:=HGM.out;omega)).symm
              have HL2:Hid (0 + (cellsOf D (colW D (fun i => (h i).toNat) W)).length ≤ (cellsOf m fun _ => 0).length):=by
                show 0 + (cellsOf D (colW D (fun i => (h i).toNat) W)).length ≤ (cellsOf m fun _ => 0).length
                rw [cellsOf_length,cellsOf_length];have:=HGM.out;omega
              have HSP:Hid (splice (cellsOf m fun _ => 0) 0 (cellsOf D (colW D (fun i => (h i).toNat) W)) = cellsOf m (shareN D (fun i => (h i).toNat) W)):=by
                refine splice_cells m 0 D _ _ _ (by have:=HGM.out;omega) (fun i hi => ?_);rw [← colW_share (by omega) (by omega) HBD.out HRS.out W i]
                by_cases c:i < D
                · rw [if_pos c,if_pos ⟨by omega,by omega⟩,Nat.sub_zero]
                · rw [if_neg c,if_neg (by omega)]
              clear CW hW m5 ch5 hx O5 HO4 HBA
              go_wp2_with (refine wpList_copy_splice rfl (.tmp 44) (.tmp 54) 30 30 rfl 5 Tryz.underlying30 size_u8 (some ⟨w3.heap.size,0,none⟩) aok m m D capk rfl rfl w3.heap.size 0 (cellsOf m fun _ => 0) 5 HF5.out (cellsOf D (colW D (fun i => (h i).toNat) W)) HL1.out (fun hp => ⟨rfl,copy_src HRK.out hp⟩) HL2.out (cellsOf_one D _) w3.heap.size w3 HB5.out (Nat.le_refl _) ?_;intro w6 hF6 hb6;have X6:Box w6 w.heap.size #[.int .i64 0,.slice none 0 0] 32:=X3.below hb6 z3;obtain ⟨x0,x1,y0,y1⟩:=res_cells X6)
              have B6:Below w.heap.size w w6:=B3.trans (hb6.mono s3);have F6:=hF6.out;rw [HSP.out] at F6;have O6:Own w6 w3.heap.size w6.heap.size (.slice (some ⟨w3.heap.size,0,none⟩) m m) m (shareN D (fun i => (h i).toNat) W):=own_of_full F6 (Nat.le_refl _) (by unfold maxLen;omega);refine bodyPost_ret (v:=bytesR 0 (.slice (some ⟨w3.heap.size,0,none⟩) m m)) (by simp [results,Tryz.results66,go_sem,bytesR,x0,x1]) rfl ⟨0,_,rfl,.inr (.inr (.inr (.inr (.inr ⟨rfl,HSH.out,HRP.out,HW.out,HNA.out,HGM.out⟩)))),?_,(B6.setCell (Nat.le_refl _) _).setCell (Nat.le_refl _) _⟩;have o1:=out_store w6 w.heap.size (w.heap.size + 1) w.heap.size 0 (.int .i64 0) (Nat.le_refl _) (by omega);have o2:=out_store (w6.setCell ⟨w.heap.size,0,none⟩ (.int .i64 0)) w.heap.size (w.heap.size + 1) w.heap.size 1 (.slice (some ⟨w3.heap.size,0,none⟩) m m) (Nat.le_refl _) (by omega)
              simp only [if_pos]
              rw [Int.toNat_natCast,Int.toNat_natCast];exact (O6.out (o1.trans o2) (.inr (by omega))).weaken (by omega) (by rw [(o1.trans o2).size];exact Nat.le_refl _)
end Go.Proofs.YtfodlpnkllolnaaGreat