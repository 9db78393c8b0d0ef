/- The results of later chapters as laid data. -/
import Derived.Test.YtaldlfoochmfcaaGreatZPoldbyaa
import Derived.Test.YtaldlfoochmfcaaGreatZPoldbyad
import Derived.Test.YtaldlfoochmfcaaGreatZPoldbyab
import Derived.OrdersHeld
import Derived.Deep.RegionHeld
import Derived.Deep.MidRow
import Derived.Test.YtaldlfoochmfcaaGreatZPoldbyae
import Derived.Test.YtaldlfoochmfcaaGreatZPoldbyaf
import Derived.Deep.DeepCutAuto
import Derived.Test.YtaldlfoochmfcaaGreatZPoldbyac
set_option linter.unusedVariables false
set_option linter.unusedSimpArgs false
namespace Go.Proofs.YtaldlfoochmfcaaGreat
open Go.RowKit F256
structure RecsResultD where
  code:Int
  recs:Nat × (Nat → RecD)
structure BytesResultD where
  code:Int
  bytes:Nat × (Nat → Nat)
def layBytesResult:Lay BytesResultD:=(layI.two layBytes).as fun d => (d.code,d.bytes)
theorem BytesResult_rd {w:World} {hi:Nat} {d:BytesResultD} {cs:List Value} (h:layBytesResult.rd w hi d cs):∃ ao1 cap1,cs = [.int .i64 d.code,.slice ao1 d.bytes.1 cap1] ∧ layBytes.rd w hi d.bytes [.slice ao1 d.bytes.1 cap1] ∧ (-9223372036854775808 ≤ d.code ∧ d.code ≤ 9223372036854775807):=by
  obtain ⟨c0,r0,rfl,h0,h1⟩:=h;obtain ⟨rfl,k0⟩:=h0;obtain ⟨ao1,cap1,rfl⟩:=bytes_form h1;exact ⟨ao1,cap1,rfl,h1,k0⟩
theorem BytesResult_own {w:World} {d:BytesResultD} {cs:List Value} {L:List Nat} (h:layBytesResult.own w d cs L):∃ ao1 cap1 K1,cs = [.int .i64 d.code,.slice ao1 d.bytes.1 cap1] ∧ L = K1 ∧ layBytes.own w d.bytes [.slice ao1 d.bytes.1 cap1] K1 ∧ (-9223372036854775808 ≤ d.code ∧ d.code ≤ 9223372036854775807):=by
  obtain ⟨c0,r0,L0,M0,rfl,rfl,h0,h1⟩:=h;obtain ⟨rfl,k0,rfl⟩:=h0;obtain ⟨ao1,cap1,rfl⟩:=bytes_formO h1;exact ⟨ao1,cap1,_,rfl,rfl,h1,k0⟩
theorem BytesResult_mk {w:World} (d:BytesResultD) {ao1:Option Addr} {cap1:Nat} {K1:List Nat} (h1:layBytes.own w d.bytes [.slice ao1 d.bytes.1 cap1] K1) (k0:(-9223372036854775808 ≤ d.code ∧ d.code ≤ 9223372036854775807)):layBytesResult.own w d [.int .i64 d.code,.slice ao1 d.bytes.1 cap1] (K1):=⟨_,_,[],K1,rfl,rfl,⟨rfl,k0,rfl⟩,h1⟩
def cvBytesResultD (d:BytesResultD):Nat:=lenD d.bytes
def mkvBytesResultD (j:Nat) (d:BytesResultD):BytesResultD:=⟨d.code,mkBytes (j) d.bytes⟩
structure IntsResultD where
  code:Int
  list:Nat × (Nat → Int)
structure GroupsResultD where
  code:Int
  groups:Nat × (Nat → Int)
end Go.Proofs.YtaldlfoochmfcaaGreat
namespace Go.Proofs.YtaldlfoochmfcaaGreat
open Go.RowKit F256
theorem size_Yr:(Tryz.prog.info? 32).map (·.size) = some 2:=by kernel_rfl
theorem yres_own {w:World} {lo hi n cap:Nat} {ao:Option Addr} {f:Nat → Nat} (h:Own w lo hi (.slice ao n cap) n f) (hhi:hi ≤ w.heap.size) (hb:∀ i,f i < 256) (c:Int) (hc:-9223372036854775808 ≤ c ∧ c ≤ 9223372036854775807):OwnT layBytesResult w lo hi ⟨c,(n,f)⟩ [.int .i64 c,.slice ao n cap] :=
  ⟨(Value.slice ao n cap).ownBlock.toList,BytesResult_mk ⟨c,(n,f)⟩ ⟨_,rfl,rfl,h.weaken (Nat.zero_le _) hhi,hb⟩ hc,by cases (Value.slice ao n cap).ownBlock <;> simp,fun b hb => by
    have e:(Value.slice ao n cap).ownBlock = some b:=by simpa using hb
    exact ⟨(h.1.lt b e).1,h.2 b e⟩⟩
theorem ycode_own (w:World) (c:Int) (hc:-9223372036854775808 ≤ c ∧ c ≤ 9223372036854775807) (lo hi:Nat) (hhi:hi ≤ w.heap.size):OwnT layBytesResult w lo hi ⟨c,(0,fun _ => 0)⟩ [.int .i64 c,.slice none 0 0]:=yres_own (own_nil w lo hi _) hhi (fun _ => Nat.zero_lt_succ _) c hc
def YPost (P:BytesResultD → Prop) (w:World) (e:Ending) (w':World):Prop:=∃ q cs,e = .returned (.agg cs.toArray) ∧ P q ∧ OwnT layBytesResult w' w.heap.size w'.heap.size q cs ∧ Below w.heap.size w w'
end Go.Proofs.YtaldlfoochmfcaaGreat
namespace Go.Proofs.YtaldlfoochmfcaaGreat
open Go.RowKit F256
theorem implAdd_many (v1 v2:Value) (n:Nat) (f1 f2:Nat → Nat) (h1 h2:Nat) (w:World) (r1:Rd w h1 v1 n f1) (r2:Rd w h2 v2 n f2) (hn:4000 < n) :
    Calls Tryz.prog 30 #[v1,v2] w fun e w' => ∃ v',e = .returned (bytesR 2 v') ∧ Own w' w.heap.size w'.heap.size v' 0 (fun _ => 0) ∧ Below w.heap.size w w':=by
  obtain ⟨ao,cap,rfl,hm,hc⟩:=r1;obtain ⟨ao2,cap2,rfl,hm2,hc2⟩:=r2;clear hc hc2;unfold maxLen at hm hm2
  go_enter Tryz.func30,Tryz.ntmps30
  go_wp2;exact bodyPost_ret (v:=bytesR 2 (.slice none 0 0)) (by simp [results,Tryz.results30,go_sem,bytesR]) rfl ⟨_,rfl,own_nil _ _ _ _,(Below.refl _ _).alloc (Nat.le_refl _) _⟩
set_option maxHeartbeats 1000000 in
theorem implAdd_ok (v1 v2:Value) (n:Nat) (f1 f2 g:Nat → Nat) (h1 h2:Nat) (w:World) (r1:Rd w h1 v1 n f1) (r2:Rd w h2 v2 n f2) (b1:h1 ≤ w.heap.size) (b2:h2 ≤ w.heap.size)
    (k1:∀ i,f1 i < 256) (k2:∀ i,f2 i < 256) (hg:∀ i,i < n → g i = f1 i ^^^ f2 i) (hn:n ≤ 4000) :
    Calls Tryz.prog 30 #[v1,v2] w fun e w' => ∃ v',e = .returned (bytesR 0 v') ∧ Own w' w.heap.size w'.heap.size v' n g ∧ Below w.heap.size w w':=by
  obtain ⟨ao,cap,rfl,hm,hc⟩:=r1;obtain ⟨ao2,cap2,rfl,hm2,hc2⟩:=r2;unfold maxLen at hm hm2;have HG:Hid (∀ i,i < n → g i = f1 i ^^^ f2 i):=hg;have HC:Hid (n ≠ 0 → ∃ b off,ao = some ⟨b,off,none⟩ ∧ b < h1 ∧ ∀ i,i < n → w.cell? ⟨b,off + i,none⟩ = some (.int .u8 (f1 i))):=hc;have HC2:Hid (n ≠ 0 → ∃ b off,ao2 = some ⟨b,off,none⟩ ∧ b < h2 ∧ ∀ i,i < n → w.cell? ⟨b,off + i,none⟩ = some (.int .u8 (f2 i))):=hc2;clear hg hc hc2
  go_enter Tryz.func30,Tryz.ntmps30
  go_wp2_with (at_make;refine wp_makeB _ rfl _ _ rfl _ _ n rfl rfl rfl rfl (by omega) ?_;intro w1 hown1 hb1 hz1)
  have hown2:Own w1 (w.heap.size + 1) w1.heap.size (.slice (some ⟨w.heap.size + 1,0,none⟩) n n) n (fun _ => 0):=by simpa using hown1
  have hz2:w.heap.size + 1 < w1.heap.size:=by simpa using hz1
  have HB1:Hid (Below _ _ _):=hb1;clear hown1 hz1 hb1
  go_loopw [6,22] (fun _ i wr => ∃ k:Nat,k ≤ n ∧ i = .int .i64 k ∧ Own wr (w.heap.size + 1) w1.heap.size (.slice (some ⟨w.heap.size + 1,0,none⟩) n n) n (fun i => if i < k then g i else 0) ∧ Out (w.heap.size + 1) w1.heap.size w1 wr) (fun _ i _ => n - (intOf i).toNat)
  case atStart => exact ⟨0,Nat.zero_le _,rfl,hown2,Out.refl _ _ _⟩
  case round =>
    obtain ⟨k,hk,rfl,hown,hout⟩:=hrel;have hbw:Below w.heap.size w wr:=(bnew HB1.out).trans (hout.below.mono (by omega))
    by_cases hlt:k < n
    · obtain ⟨b,off,rfl,hblt,hcell⟩:=HC.out (by omega)
      obtain ⟨b',off2,rfl,hblt2,hcell2⟩:=HC2.out (by omega);have hck:wr.cell? ⟨b,off + k,none⟩ = some (.int .u8 (f1 k)):=(hbw.cell (p:=⟨b,off + k,none⟩) (by show b < w.heap.size;omega)).trans (hcell k hlt);have hck2:wr.cell? ⟨b',off2 + k,none⟩ = some (.int .u8 (f2 k)):=(hbw.cell (p:=⟨b',off2 + k,none⟩) (by show b' < w.heap.size;omega)).trans (hcell2 k hlt)
      have hx:bits .xor .u8 (f1 k:Int) (f2 k:Int) = ((g k:Nat):Int):=by rw [u8_xor_cast (k1 k) (k2 k),HG.out k hlt]
      have hco:wr.cell? ⟨w.heap.size + 1,k,none⟩ = some (.int .u8 (0:Nat)):=by
        have:=hown.1.cellAt k (by omega);rw [this,cellsOf_get _ _ _ hlt,if_neg (Nat.lt_irrefl k)]
      have hfo:wr.frozen? ⟨w.heap.size + 1,k,none⟩ = false:=hown.1.frozenAt k
      have R:Own (wr.setCell ⟨w.heap.size + 1,k,none⟩ (.int .u8 (g k))) (w.heap.size + 1) w1.heap.size (.slice (some ⟨w.heap.size + 1,0,none⟩) n n) n (fun i => if i < k + 1 then g i else 0) :=
        hown.store k (g k) hlt (fun i _ => by by_cases e:i = k <;> simp [e] <;> by_cases e':i < k <;> simp [e'] <;> omega)
      have R2:Out (w.heap.size + 1) w1.heap.size w1 (wr.setCell ⟨w.heap.size + 1,k,none⟩ (.int .u8 (g k))):=hout.trans (out_store wr _ _ _ k _ (Nat.le_refl _) hz2);clear hown hout hbw hcell hcell2;go_wp2
      go_region
      all_goals
        go_wp2
        go_roundw
        case rel => exact ⟨k + 1,by omega,by go_num,R.drew,R2.drew⟩
        case measure => simp [intOf];omega
    · have hkn:k = n:=by omega
      subst hkn;obtain ⟨c0,c1,z0,z1⟩:=res_cells (res_row HB1.out hout);go_wp2
      exact bodyPost_ret (v:=bytesR 0 (.slice (some ⟨w.heap.size + 1,0,none⟩) k k)) (by simp [results,Tryz.results30,go_sem,bytesR,c0,c1]) rfl
        ⟨_,rfl,own_set2 (o:=.cells #[.int .i64 0,.slice none 0 0] 32) (by simpa using (hown.congr (g:=g) (fun i hi => by simp [hi])).mono (Nat.le_of_eq hout.size.symm)),(hbw.setCell (Nat.le_refl _) _).setCell (Nat.le_refl _) _⟩
end Go.Proofs.YtaldlfoochmfcaaGreat
namespace Go.Proofs.YtaldlfoochmfcaaGreat
open Go.RowKit
section
variable {P:Program} {ops:Array Oper} {Q:Exit → Act → World → Prop} {md:Region.Mode} {S:World → Prop} {L:Nat}
def wpAnyL (P:Program) (md:Region.Mode) (ops:Array Oper) (Q:Exit → Act → World → Prop) (S:World → Prop) (L:Nat):Nat → Array Bool → Act → World → Prop
  | 0,listed,a,w => Region.ready md ops listed = [] ∧ Q .normal a w
  | fuel + 1,listed,a,w =>
    (Region.ready md ops listed = [] → Q .normal a w) ∧
    ∀ i ∈ Region.ready md ops listed,wpOp P ops Q i (fun a' w' => (i ≠ L → S w') ∧ wpAnyL P md ops Q S L fuel (listed.setIfInBounds i true) a' w') a w
theorem wpAny_of_L:∀ (fuel:Nat) (listed:Array Bool) (a:Act) (w:World),wpAnyL P md ops Q S L fuel listed a w → wpAny P md ops Q fuel listed a w
  | 0,_,_,_,h => h
  | fuel + 1,_,_,_,h => ⟨h.1,fun i hi => wpOp_mono (fun a' w' h' => wpAny_of_L fuel _ a' w' h'.2) (h.2 i hi)⟩
def ClosedP (md:Region.Mode) (ops:Array Oper) (listed:Array Bool):Prop :=
  ∀ j oj,ops[j]? = some oj → listed.getD j false = true → ∀ e ∈ oj.after,Region.binds md e = true → listed.getD e.on false = true
def closedB (md:Region.Mode) (ops:Array Oper) (listed:Array Bool):Bool :=
  (List.range ops.size).all fun j => !listed.getD j false || ((ops[j]?).map (·.after.all fun e => !Region.binds md e || listed.getD e.on false)).getD false
theorem closed_of {listed:Array Bool} (h:closedB md ops listed = true):ClosedP md ops listed:=fun j oj hj hl e he hb => by
  unfold closedB at h;have hlt:j < ops.size:=(Array.getElem?_eq_some_iff.1 hj).1;have h1:=List.all_eq_true.1 h j (List.mem_range.2 hlt);rw [hl,hj] at h1
  simp only [Bool.not_true,Bool.false_or,Option.map_some,Option.getD_some,Array.all_eq_true_iff_forall_mem] at h1
  have h2:=h1 e he;rw [hb] at h2
  simpa using h2
theorem closed_step {listed:Array Bool} {j:Nat} (h:ClosedP md ops listed) (hj:j ∈ Region.ready md ops listed):ClosedP md ops (listed.setIfInBounds j true):=fun k ok hk hl e he hb => by
  obtain ⟨_,o,ho,hall⟩:=mem_ready.1 hj
  by_cases c:j = k
  · subst c
    rw [hk] at ho
    cases ho
    exact getD_set_true (hall e he hb)
  · rw [getD_set_ne false c] at hl
    exact getD_set_true (h k ok hk hl e he hb)
def depB (md:Region.Mode) (ops:Array Oper):Nat → Nat → Nat → Bool
  | 0,l,i => l == i
  | n + 1,l,i => l == i || ((ops[l]?).map (·.after.any fun e => Region.binds md e && depB md ops n e.on i)).getD false
theorem dep_listed {listed:Array Bool} (hc:ClosedP md ops listed):∀ (n l i:Nat),depB md ops n l i = true → listed.getD l false = true → listed.getD i false = true
  | 0,l,i,h,hl => by
    unfold depB at h
    have:l = i:=by simpa using h
    rw [← this];exact hl
  | n + 1,l,i,h,hl => by
    unfold depB at h
    rcases Bool.or_eq_true _ _ ▸ h with h1 | h1
    · have:l = i:=by simpa using h1
      rw [← this];exact hl
    · cases ho:ops[l]? with
      | none => rw [ho] at h1;simp at h1
      | some o =>
        rw [ho] at h1
        simp only [Option.map_some,Option.getD_some] at h1
        obtain ⟨k,hk,hbk⟩:=Array.any_eq_true.1 h1;obtain ⟨hb,hd⟩:=Bool.and_eq_true _ _ ▸ hbk;exact dep_listed hc n _ i hd (hc l o ho hl _ (Array.getElem_mem hk) hb)
theorem dep_waits {listed:Array Bool} (hc:ClosedP md ops listed) {n i:Nat} (hne:L ≠ i) (hd:depB md ops n L i = true) (hi:listed.getD i false = false):L ∉ Region.ready md ops listed:=fun hL => by
  obtain ⟨_,o,ho,hall⟩:=mem_ready.1 hL
  cases n with
  | zero => unfold depB at hd;exact hne (by simpa using hd)
  | succ n =>
    unfold depB at hd
    rcases Bool.or_eq_true _ _ ▸ hd with h1 | h1
    · exact hne (by simpa using h1)
    · rw [ho] at h1
      simp only [Option.map_some,Option.getD_some] at h1
      obtain ⟨k,hk,hbk⟩:=Array.any_eq_true.1 h1;obtain ⟨hb,hd'⟩:=Bool.and_eq_true _ _ ▸ hbk;have:=dep_listed hc n _ i hd' (hall _ (Array.getElem_mem hk) hb);rw [hi] at this
      cases this
theorem unlisted_false {listed:Array Bool} {i:Nat} (h:listed.getD i true = false):listed.getD i false = false:=by
  rcases Nat.lt_or_ge i listed.size with h' | h'
  · simpa [h'] using h
  · simp [Array.getElem?_eq_none h'] at h
theorem wpAnyL_first {i:Nat} {oi:Oper} {v:Value} (hi:ops[i]? = some oi) (hsel:∀ (j:Nat) (o:Oper) cs b,ops[j]? = some o → o.op ≠ .select cs b)
    (hQ:∀ c a w,Q (.panic c) (a.put oi.dst v) w → Q (.panic c) a w) (hLi:L ≠ i) {n:Nat} (hd:depB md ops n L i = true) :
    ∀ (fuel:Nat) (listed:Array Bool) (a:Act) (w:World),ClosedP md ops listed →
      (∀ j oj,ops[j]? = some oj → j ≠ i → listed.getD j true = false → (∀ e ∈ oj.after,Region.binds md e = true → e.on ≠ i) → oi.apart ops oj = true) →
      i ∈ Region.ready md ops listed → YieldsIf P ops S oi v a → S w →
      wpAnyL P md ops Q S L fuel (listed.setIfInBounds i true) (a.put oi.dst v) w → wpAnyL P md ops Q S L (fuel + 1) listed a w:=by
  intro fuel
  induction fuel with
  | zero =>
    intro listed a w _ _ hr hy hS H;refine ⟨fun h => (by rw [h] at hr;cases hr),fun j hj => ?_⟩
    by_cases hji:j = i
    · subst hji;exact hy.wpOp hi hS ⟨fun _ => hS,H⟩
    · have:=ready_mono hj hji
      rw [H.1] at this
      cases this
  | succ fuel ih =>
    intro listed a w hcl hfree hr hy hS H;refine ⟨fun h => (by rw [h] at hr;cases hr),fun j hj => ?_⟩
    by_cases hji:j = i
    · subst hji;exact hy.wpOp hi hS ⟨fun _ => hS,H⟩
    · have hjL:j ≠ L:=fun h => by
        subst h;exact dep_waits hcl hLi hd (unlisted_false (mem_ready.1 hr).1) hj
      have h1:=H.2 j (ready_mono hj hji);obtain ⟨hjun,oj,hoj,hall⟩:=mem_ready.1 hj
      have hnot:∀ e ∈ oj.after,Region.binds md e = true → e.on ≠ i:=fun e he hb heq => by
        have h1:=hall e he hb;have h0:=unlisted_false (mem_ready.1 hr).1;rw [heq,h0] at h1
        cases h1
      have h2:=wpOp_putIf hoj (hfree j oj hoj hji hjun hnot) (fun cs b => hsel i oi cs b hi) (fun cs b => hsel j oj cs b hoj) hQ hy h1
      have hfree':∀ k ok,ops[k]? = some ok → k ≠ i → (listed.setIfInBounds j true).getD k true = false →
          (∀ e ∈ ok.after,Region.binds md e = true → e.on ≠ i) → oi.apart ops ok = true:=fun k ok hk hki hun hno => by
        refine hfree k ok hk hki ?_ hno
        by_cases hjk:j = k
        · subst hjk;exact hjun
        · rw [getD_set_ne true hjk] at hun;exact hun
      refine wpOp_mono (fun a' w' h3 => ⟨h3.2.1,ih (listed.setIfInBounds j true) a' w' (closed_step hcl hj) hfree' (ready_mono hr (Ne.symm hji)) h3.1 (h3.2.1 hjL) ?_⟩) h2;rw [Array.setIfInBounds_comm _ _ hji];exact h3.2.2
theorem wpAnyL_take {i:Nat} {oi:Oper} {v:Value} {fuel:Nat} {listed:Array Bool} {a:Act} {w:World} (n:Nat) (hi:ops[i]? = some oi)
    (hs:(Region.noSelect ops && Region.free md ops listed i && (Region.ready md ops listed).contains i && !(L == i) && depB md ops n L i && closedB md ops listed) = true)
    (hQ:∀ c a w,Q (.panic c) (a.put oi.dst v) w → Q (.panic c) a w) (hy:YieldsIf P ops S oi v a) (hS:S w)
    (h:wpAnyL P md ops Q S L fuel (listed.setIfInBounds i true) (a.put oi.dst v) w):wpAnyL P md ops Q S L (fuel + 1) listed a w:=by
  simp only [Bool.and_eq_true,Bool.not_eq_true',beq_eq_false_iff_ne] at hs
  obtain ⟨⟨⟨⟨⟨h1,h2⟩,h3⟩,h4⟩,h5⟩,h6⟩:=hs;exact wpAnyL_first hi (Region.noSelect_spec h1) hQ h4 h5 fuel listed a w (closed_of h6) (Region.free_spec hi h2) (by simpa using h3) hy hS h
theorem wpAnyL_one {i:Nat} {o:Oper} {fuel:Nat} {listed:Array Bool} {a:Act} {w:World} (ho:ops[i]? = some o) (hr:Region.ready md ops listed = [i])
    (h:∀ K':Act → World → Prop,Shut (∀ a w,S w → (S w → wpAnyL P md ops Q S L fuel (listed.setIfInBounds i true) a w) → K' a w) → if Region.wanted o (yielded ops a.tmps) = true then Oper.wp P o a w K' Q else K' (a.put o.dst undef) w):wpAnyL P md ops Q S L (fuel + 1) listed a w:=by
  refine ⟨fun h0 => (by rw [hr] at h0;cases h0),fun j hj => ?_⟩;rw [hr] at hj
  obtain rfl:j = i:=by simpa using hj
  exact wpOp_step ho (fun K' hK => h K' (fun a w hS hW => hK a w ⟨fun _ => hS,hW hS⟩))
theorem wpAnyL_last {o:Oper} {fuel:Nat} {listed:Array Bool} {a:Act} {w:World} (ho:ops[L]? = some o) (hr:Region.ready md ops listed = [L])
    (h:∀ K':Act → World → Prop,Shut (∀ a w,wpAnyL P md ops Q S L fuel (listed.setIfInBounds L true) a w → K' a w) → if Region.wanted o (yielded ops a.tmps) = true then Oper.wp P o a w K' Q else K' (a.put o.dst undef) w):wpAnyL P md ops Q S L (fuel + 1) listed a w:=by
  refine ⟨fun h0 => (by rw [hr] at h0;cases h0),fun j hj => ?_⟩;rw [hr] at hj
  obtain rfl:j = L:=by simpa using hj
  exact wpOp_step ho (fun K' hK => h K' (fun a w hW => hK a w ⟨fun hn => absurd rfl hn,hW⟩))
theorem wpAnyL_done {listed:Array Bool} {a:Act} {w:World} (hr:Region.ready md ops listed = []) (h:Q .normal a w):∀ fuel,wpAnyL P md ops Q S L fuel listed a w
  | 0 => ⟨hr,h⟩
  | _ + 1 => ⟨fun _ => h,by rw [hr];simp⟩
theorem wp_region_L {id:Nat} {a:Act} {w:World} (L:Nat) (S:World → Prop) (hm:P.follows .mixedOrders = true) (hS:S w.drew)
    (h:S w.drew → wpAnyL P .any ops Q S L ops.size (Array.replicate ops.size false) a w.drew):(Code.region id ops true).wp P Q a w :=
  wp_region_any hm (wpAny_of_L _ _ _ _ (h hS))
end
end Go.Proofs.YtaldlfoochmfcaaGreat
namespace Go.Proofs.YtaldlfoochmfcaaGreat
open Go.RowKit
theorem SL {α : Type} : (∀ (l : List α) (i : Nat) (v : α), l.toArray.setIfInBounds i v = (l.set i v).toArray) ∧ (∀ (a : α) (l : List α) (b : α), (a :: l).set 0 b = b :: l) ∧ (∀ (a : α) (l : List α) (n : Nat) (b : α), (a :: l).set (n + 1) b = a :: l.set n b) ∧ (∀ (l : List α) (i : Nat) (h : i < l.toArray.size), l.toArray[i] = l[i]'(by simpa using h)) ∧ (∀ (a : α) (l : List α) (n : Nat) (h : n + 1 < (a :: l).length), (a :: l)[n + 1] = l[n]'(by simpa using h)) ∧ ∀ (a : α) (l : List α) (h : 0 < (a :: l).length), (a :: l)[0] = a := ⟨fun _ _ _ => List.setIfInBounds_toArray .., fun _ _ _ => rfl, fun _ _ _ _ => rfl, fun _ _ _ => rfl, fun _ _ _ _ => rfl, fun _ _ _ => rfl⟩
section
variable {P:Program} {ops:Array Oper} {Q:Exit → Act → World → Prop} {md:Region.Mode} {S:World → Prop} {L:Nat}
def wpAnyM (P:Program) (md:Region.Mode) (ops:Array Oper) (Q:Exit → Act → World → Prop) (S:World → Prop) (L:Nat):Nat → Array Bool → Act → World → Prop
  | 0,listed,a,w => Region.ready md ops listed = [] ∧ Q .normal a w
  | fuel + 1,listed,a,w =>
    (Region.ready md ops listed = [] → Q .normal a w) ∧
    ∀ i ∈ Region.ready md ops listed,wpOp P ops Q i (fun a' w' => ((listed.setIfInBounds i true).getD L false = false → S w') ∧ wpAnyM P md ops Q S L fuel (listed.setIfInBounds i true) a' w') a w
theorem wpAny_of_M:∀ (fuel:Nat) (listed:Array Bool) (a:Act) (w:World),wpAnyM P md ops Q S L fuel listed a w → wpAny P md ops Q fuel listed a w
  | 0,_,_,_,h => h
  | fuel + 1,_,_,_,h => ⟨h.1,fun i hi => wpOp_mono (fun a' w' h' => wpAny_of_M fuel _ a' w' h'.2) (h.2 i hi)⟩
theorem wpAnyM_first {i:Nat} {oi:Oper} {v:Value} (hi:ops[i]? = some oi) (hsel:∀ (j:Nat) (o:Oper) cs b,ops[j]? = some o → o.op ≠ .select cs b)
    (hQ:∀ c a w,Q (.panic c) (a.put oi.dst v) w → Q (.panic c) a w) (hLi:L ≠ i) {n:Nat} (hd:depB md ops n L i = true) :
    ∀ (fuel:Nat) (listed:Array Bool) (a:Act) (w:World),ClosedP md ops listed →
      (∀ j oj,ops[j]? = some oj → j ≠ i → listed.getD j true = false → (∀ e ∈ oj.after,Region.binds md e = true → e.on ≠ i) → oi.apart ops oj = true) →
      i ∈ Region.ready md ops listed → YieldsIf P ops S oi v a → S w →
      wpAnyM P md ops Q S L fuel (listed.setIfInBounds i true) (a.put oi.dst v) w → wpAnyM P md ops Q S L (fuel + 1) listed a w:=by
  intro fuel
  induction fuel with
  | zero =>
    intro listed a w _ _ hr hy hS H;refine ⟨fun h => (by rw [h] at hr;cases hr),fun j hj => ?_⟩
    by_cases hji:j = i
    · subst hji;exact hy.wpOp hi hS ⟨fun _ => hS,H⟩
    · have:=ready_mono hj hji
      rw [H.1] at this
      cases this
  | succ fuel ih =>
    intro listed a w hcl hfree hr hy hS H;refine ⟨fun h => (by rw [h] at hr;cases hr),fun j hj => ?_⟩
    by_cases hji:j = i
    · subst hji;exact hy.wpOp hi hS ⟨fun _ => hS,H⟩
    · have hjL:j ≠ L:=fun h => by
        subst h;exact dep_waits hcl hLi hd (unlisted_false (mem_ready.1 hr).1) hj
      have h1:=H.2 j (ready_mono hj hji);obtain ⟨hjun,oj,hoj,hall⟩:=mem_ready.1 hj
      have hnot:∀ e ∈ oj.after,Region.binds md e = true → e.on ≠ i:=fun e he hb heq => by
        have h1:=hall e he hb;have h0:=unlisted_false (mem_ready.1 hr).1;rw [heq,h0] at h1
        cases h1
      have h2:=wpOp_putIf hoj (hfree j oj hoj hji hjun hnot) (fun cs b => hsel i oi cs b hi) (fun cs b => hsel j oj cs b hoj) hQ hy h1
      have hfree':∀ k ok,ops[k]? = some ok → k ≠ i → (listed.setIfInBounds j true).getD k true = false →
          (∀ e ∈ ok.after,Region.binds md e = true → e.on ≠ i) → oi.apart ops ok = true:=fun k ok hk hki hun hno => by
        refine hfree k ok hk hki ?_ hno
        by_cases hjk:j = k
        · subst hjk;exact hjun
        · rw [getD_set_ne true hjk] at hun;exact hun
      have hLn:(listed.setIfInBounds j true).getD L false = false:=by
        rw [getD_set_ne false hjL]
        cases hg:listed.getD L false with
        | false => rfl
        | true => have:=dep_listed hcl n L i hd hg;rw [unlisted_false (mem_ready.1 hr).1] at this;cases this
      have hLn2:((listed.setIfInBounds i true).setIfInBounds j true).getD L false = false:=by
        rw [← Array.setIfInBounds_comm _ _ hji,getD_set_ne false (Ne.symm hLi)];exact hLn
      refine wpOp_mono (fun a' w' h3 => ⟨fun _ => h3.2.1 hLn2,ih (listed.setIfInBounds j true) a' w' (closed_step hcl hj) hfree' (ready_mono hr (Ne.symm hji)) h3.1 (h3.2.1 hLn2) ?_⟩) h2;rw [Array.setIfInBounds_comm _ _ hji];exact h3.2.2
theorem wpAnyM_pure0 {i:Nat} {oi:Oper} {v:Value} (hi:ops[i]? = some oi) (hsel:∀ (j:Nat) (o:Oper) cs b,ops[j]? = some o → o.op ≠ .select cs b)
    (hQ:∀ c a w,Q (.panic c) (a.put oi.dst v) w → Q (.panic c) a w) (hLi:L ≠ i) :
    ∀ (fuel:Nat) (listed:Array Bool) (a:Act) (w:World),ClosedP md ops listed →
      (∀ j oj,ops[j]? = some oj → j ≠ i → listed.getD j true = false → (∀ e ∈ oj.after,Region.binds md e = true → e.on ≠ i) → oi.apart ops oj = true) →
      i ∈ Region.ready md ops listed → YieldsIf P ops (fun _ => True) oi v a → ((listed.setIfInBounds i true).getD L false = false → S w) →
      wpAnyM P md ops Q S L fuel (listed.setIfInBounds i true) (a.put oi.dst v) w → wpAnyM P md ops Q S L (fuel + 1) listed a w:=by
  intro fuel
  induction fuel with
  | zero =>
    intro listed a w _ _ hr hy hS H;refine ⟨fun h => (by rw [h] at hr;cases hr),fun j hj => ?_⟩
    by_cases hji:j = i
    · subst hji;exact hy.wpOp hi trivial ⟨hS,H⟩
    · have:=ready_mono hj hji
      rw [H.1] at this
      cases this
  | succ fuel ih =>
    intro listed a w hcl hfree hr hy hS H;refine ⟨fun h => (by rw [h] at hr;cases hr),fun j hj => ?_⟩
    by_cases hji:j = i
    · subst hji;exact hy.wpOp hi trivial ⟨hS,H⟩
    · skip
      have h1:=H.2 j (ready_mono hj hji);obtain ⟨hjun,oj,hoj,hall⟩:=mem_ready.1 hj
      have hnot:∀ e ∈ oj.after,Region.binds md e = true → e.on ≠ i:=fun e he hb heq => by
        have h1:=hall e he hb;have h0:=unlisted_false (mem_ready.1 hr).1;rw [heq,h0] at h1
        cases h1
      have h2:=wpOp_putIf hoj (hfree j oj hoj hji hjun hnot) (fun cs b => hsel i oi cs b hi) (fun cs b => hsel j oj cs b hoj) hQ hy h1
      have hfree':∀ k ok,ops[k]? = some ok → k ≠ i → (listed.setIfInBounds j true).getD k true = false →
          (∀ e ∈ ok.after,Region.binds md e = true → e.on ≠ i) → oi.apart ops ok = true:=fun k ok hk hki hun hno => by
        refine hfree k ok hk hki ?_ hno
        by_cases hjk:j = k
        · subst hjk;exact hjun
        · rw [getD_set_ne true hjk] at hun;exact hun
      refine wpOp_mono (fun a' w' h3 => ?_) h2;have hk:((listed.setIfInBounds j true).setIfInBounds i true).getD L false = false → S w':=fun hn => h3.2.1 (by rw [Array.setIfInBounds_comm _ _ (Ne.symm hji)];exact hn);refine ⟨fun hn => ?_,ih (listed.setIfInBounds j true) a' w' (closed_step hcl hj) hfree' (ready_mono hr (Ne.symm hji)) h3.1 hk ?_⟩
      · exact hk (by rw [getD_set_ne false (Ne.symm hLi)];exact hn)
      · rw [Array.setIfInBounds_comm _ _ hji]
        exact h3.2.2
theorem wpAnyM_pure {i:Nat} {oi:Oper} {v:Value} {fuel:Nat} {listed:Array Bool} {a:Act} {w:World} (hi:ops[i]? = some oi)
    (hs:(Region.noSelect ops && Region.free md ops listed i && (Region.ready md ops listed).contains i && !(L == i) && closedB md ops listed) = true)
    (hQ:∀ c a w,Q (.panic c) (a.put oi.dst v) w → Q (.panic c) a w) (hy:YieldsIf P ops (fun _ => True) oi v a) (hS:S w)
    (h:wpAnyM P md ops Q S L fuel (listed.setIfInBounds i true) (a.put oi.dst v) w):wpAnyM P md ops Q S L (fuel + 1) listed a w:=by
  simp only [Bool.and_eq_true,Bool.not_eq_true',beq_eq_false_iff_ne] at hs
  obtain ⟨⟨⟨⟨h1,h2⟩,h3⟩,h4⟩,h6⟩:=hs;exact wpAnyM_pure0 hi (Region.noSelect_spec h1) hQ h4 fuel listed a w (closed_of h6) (Region.free_spec hi h2) (by simpa using h3) hy (fun _ => hS) h
theorem wpAnyM_pureL {i:Nat} {oi:Oper} {v:Value} {fuel:Nat} {listed:Array Bool} {a:Act} {w:World} (hi:ops[i]? = some oi)
    (hs:(Region.noSelect ops && Region.free md ops listed i && (Region.ready md ops listed).contains i && !(L == i) && closedB md ops listed && listed.getD L false) = true)
    (hQ:∀ c a w,Q (.panic c) (a.put oi.dst v) w → Q (.panic c) a w) (hy:YieldsIf P ops (fun _ => True) oi v a)
    (h:wpAnyM P md ops Q S L fuel (listed.setIfInBounds i true) (a.put oi.dst v) w):wpAnyM P md ops Q S L (fuel + 1) listed a w:=by
  simp only [Bool.and_eq_true,Bool.not_eq_true',beq_eq_false_iff_ne] at hs
  obtain ⟨⟨⟨⟨⟨h1,h2⟩,h3⟩,h4⟩,h6⟩,h7⟩:=hs;exact wpAnyM_pure0 hi (Region.noSelect_spec h1) hQ h4 fuel listed a w (closed_of h6) (Region.free_spec hi h2) (by simpa using h3) hy (fun hn => by rw [getD_set_ne false (Ne.symm h4),h7] at hn;cases hn) h
theorem wpAnyM_take {i:Nat} {oi:Oper} {v:Value} {fuel:Nat} {listed:Array Bool} {a:Act} {w:World} (n:Nat) (hi:ops[i]? = some oi)
    (hs:(Region.noSelect ops && Region.free md ops listed i && (Region.ready md ops listed).contains i && !(L == i) && depB md ops n L i && closedB md ops listed) = true)
    (hQ:∀ c a w,Q (.panic c) (a.put oi.dst v) w → Q (.panic c) a w) (hy:YieldsIf P ops S oi v a) (hS:S w)
    (h:wpAnyM P md ops Q S L fuel (listed.setIfInBounds i true) (a.put oi.dst v) w):wpAnyM P md ops Q S L (fuel + 1) listed a w:=by
  simp only [Bool.and_eq_true,Bool.not_eq_true',beq_eq_false_iff_ne] at hs
  obtain ⟨⟨⟨⟨⟨h1,h2⟩,h3⟩,h4⟩,h5⟩,h6⟩:=hs;exact wpAnyM_first hi (Region.noSelect_spec h1) hQ h4 h5 fuel listed a w (closed_of h6) (Region.free_spec hi h2) (by simpa using h3) hy hS h
theorem wpAnyM_one {i:Nat} {o:Oper} {fuel:Nat} {listed:Array Bool} {a:Act} {w:World} (ho:ops[i]? = some o) (hr:Region.ready md ops listed = [i]) (hL:(listed.setIfInBounds i true).getD L false = true)
    (h:∀ K':Act → World → Prop,Shut (∀ a w,wpAnyM P md ops Q S L fuel (listed.setIfInBounds i true) a w → K' a w) → if Region.wanted o (yielded ops a.tmps) = true then Oper.wp P o a w K' Q else K' (a.put o.dst undef) w):wpAnyM P md ops Q S L (fuel + 1) listed a w:=by
  refine ⟨fun h0 => (by rw [hr] at h0;cases h0),fun j hj => ?_⟩;rw [hr] at hj
  obtain rfl:j = i:=by simpa using hj
  exact wpOp_step ho (fun K' hK => h K' (fun a w hW => hK a w ⟨fun hn => (by rw [hL] at hn;cases hn),hW⟩))
theorem wpAnyM_done {listed:Array Bool} {a:Act} {w:World} (hr:Region.ready md ops listed = []) (h:Q .normal a w):∀ fuel,wpAnyM P md ops Q S L fuel listed a w
  | 0 => ⟨hr,h⟩
  | _ + 1 => ⟨fun _ => h,by rw [hr];simp⟩
theorem wp_region_M {id:Nat} {a:Act} {w:World} (L:Nat) (S:World → Prop) (hm:P.follows .mixedOrders = true) (hS:S w.drew)
    (h:S w.drew → wpAnyM P .any ops Q S L ops.size (Array.replicate ops.size false) a w.drew):(Code.region id ops true).wp P Q a w :=
  wp_region_any hm (wpAny_of_M _ _ _ _ (h hS))
end
end Go.Proofs.YtaldlfoochmfcaaGreat
namespace Go.Proofs.YtaldlfoochmfcaaGreat
open Go.RowKit F256
section
variable {α:Type} {E:Lay α} {t:TypeId} {w:World} {lo hi n g cap:Nat} {x:Nat → α} {ce:Nat → List Value}
end
end Go.Proofs.YtaldlfoochmfcaaGreat
namespace Go.Proofs.YtaldlfoochmfcaaGreat
open Go.RowKit
theorem step_callv {ops:Array Oper} {o:Oper} {a:Act} {w:World} {K:Act → World → Prop} {Q:Exit → Act → World → Prop} {E:Prop}
    (hw:Region.wanted o (yielded ops a.tmps) = true) (x:Operand) (n:Nat) (caps:Array Value) (args:Array Operand) (ty:Array TypeId) (hop:o.op = Op.call { callee:=Callee.value x,args:=args,argTypes:=ty }) (hx:a.eval x = .func (.func n) #[] caps) (vals:Array Value) (hv:args.map a.eval = vals)
    {fn : Func} (hfn : Tryz.prog.funcs[n]? = some fn) (hnm : (fn.name == "runtime.NumGoroutine") = false) (hbd : fn.body.isSome = true)
    {R:Ending → World → Prop} (hc:Calls Tryz.prog n (vals ++ caps) w R) (hK:∀ e w',R e w' → ∃ v,e = .returned v ∧ K (a.put o.dst v) w') :
    if Region.wanted o (yielded ops a.tmps) = true then Oper.wp Tryz.prog o a w K Q else E:=by
  have hn' : ¬ fn.name = "runtime.NumGoroutine" := by simpa using hnm
  have hb':¬ fn.body = none:=by intro h;rw [h] at hbd;cases hbd
  rw [if_pos hw];unfold Oper.wp
  simp [execOp,hop,hx,resolve,invoke,Result.andThen,Deferred.ofValue,callFunc,Oper.upon,hv,hfn,hn',hb']
  refine hc.mono fun e w' h => ?_;obtain ⟨v,rfl,hk⟩:=hK e w' h;exact hk
end Go.Proofs.YtaldlfoochmfcaaGreat
namespace Go.Proofs.YtaldlfoochmfcaaGreat
open Go.RowKit F256
def OldC (d:WorldD) (g r:Int) (n:Nat) (x:Int):Prop:=(x ≠ 0 ∧ AskAns d x) ∨ (AskAns d 0 ∧ ((¬ WhP d.shape g r ∧ x = 3) ∨ (WhP d.shape g r ∧ ((¬ (n:Int) = d.shape 2 * 4 ∧ x = 1) ∨ ((n:Int) = d.shape 2 * 4 ∧ ((¬ HasP d.on.1 d.on.2 g ∧ x = 8) ∨ (HasP d.on.1 d.on.2 g ∧ ((DeadP d g.toNat ∧ x = 10) ∨ (¬ DeadP d g.toNat ∧ x = 0)))))))))
theorem OldC.one {d:WorldD} {g r:Int} {n:Nat} {x y:Int} (h:OldC d g r n x) (k:OldC d g r n y):x = y:=by
  have key:∀ z,OldC d g r n z → AskAns d 0 → ((¬ WhP d.shape g r ∧ z = 3) ∨ (WhP d.shape g r ∧ ((¬ (n:Int) = d.shape 2 * 4 ∧ z = 1) ∨ ((n:Int) = d.shape 2 * 4 ∧ ((¬ HasP d.on.1 d.on.2 g ∧ z = 8) ∨ (HasP d.on.1 d.on.2 g ∧ ((DeadP d g.toNat ∧ z = 10) ∨ (¬ DeadP d g.toNat ∧ z = 0)))))))):=fun z hz h0 => by
    rcases hz with ⟨h1,h2⟩ | ⟨_,h2⟩
    · exact absurd (h2.one h0) h1
    · exact h2
  by_cases h0:AskAns d 0
  · have a:=key x h h0
    have b:=key y k h0
    by_cases c1:WhP d.shape g r
    · by_cases c2:(n:Int) = d.shape 2 * 4
      · by_cases c3:HasP d.on.1 d.on.2 g
        · by_cases c4:DeadP d g.toNat
          · simp only [c1,c2,c3,c4,not_true,not_false_eq_true,true_and,false_and,false_or,or_false] at a b
            rw [a,b]
          · simp only [c1,c2,c3,c4,not_true,not_false_eq_true,true_and,false_and,false_or,or_false] at a b
            rw [a,b]
        · simp only [c1,c2,c3,not_true,not_false_eq_true,true_and,false_and,false_or,or_false] at a b
          rw [a,b]
      · simp only [c1,c2,not_true,not_false_eq_true,true_and,false_and,false_or,or_false] at a b
        rw [a,b]
    · simp only [c1,not_true,not_false_eq_true,true_and,false_and,false_or,or_false] at a b
      rw [a,b]
  · rcases h with ⟨_,h2⟩ | ⟨h1,_⟩
    · rcases k with ⟨_,k2⟩ | ⟨k1,_⟩
      · exact h2.one k2
      · exact absurd k1 h0
    · exact absurd h1 h0
theorem old_small {d:WorldD} {g r:Int} {n:Nat} {x:Int} (h:OldC d g r n x):-9223372036854775808 ≤ x ∧ x ≤ 9223372036854775807:=by
  rcases h with ⟨h1,h2⟩ | ⟨_,⟨_,rfl⟩ | ⟨_,⟨_,rfl⟩ | ⟨_,⟨_,rfl⟩ | ⟨_,⟨_,rfl⟩ | ⟨_,rfl⟩⟩⟩⟩⟩
  · exact where_small (d:=d) (g:=0) (r:=0) (.inl ⟨h1,h2⟩)
  all_goals decide
theorem old_zero {d:WorldD} {g r:Int} {n:Nat} (h:OldC d g r n 0):AskAns d 0 ∧ WhP d.shape g r ∧ (n:Int) = d.shape 2 * 4 ∧ ¬ DeadP d g.toNat:=by
  rcases h with ⟨h1,_⟩ | ⟨h0,⟨_,h⟩ | ⟨h1,⟨_,h⟩ | ⟨h2,⟨_,h⟩ | ⟨_,⟨_,h⟩ | ⟨h3,_⟩⟩⟩⟩⟩
  · exact absurd rfl h1
  · cases h
  · cases h
  · cases h
  · cases h
  · exact ⟨h0,h1,h2,h3⟩
def OldAns (d:WorldD) (g r:Int) (n:Nat) (f:Nat → Nat) (q:BytesResultD):Prop :=
  (∃ x,x ≠ 0 ∧ OldC d g r n x ∧ q = ⟨x,(0,fun _ => 0)⟩) ∨ (OldC d g r n 0 ∧ q = ⟨0,(4 * (d.shape 2).toNat,fun i => rowB d g.toNat r.toNat i ^^^ f i)⟩)
theorem OldAns.one {d:WorldD} {g r:Int} {n:Nat} {f:Nat → Nat} {p q:BytesResultD} (h:OldAns d g r n f p) (k:OldAns d g r n f q):p = q:=by
  rcases h with ⟨x,h1,h2,rfl⟩ | ⟨h1,rfl⟩ <;> rcases k with ⟨y,k1,k2,rfl⟩ | ⟨k1,rfl⟩
  · rw [h2.one k2]
  · exact absurd (h2.one k1) h1
  · exact absurd (k2.one h1) k1
  · rfl
theorem range_boxO {w:World} {b:Nat} {t:TypeId} {c:List Value} (h:Box w b c.toArray t):w.rangeAt b 0 c:=fun j v hv => by
  rw [Nat.zero_add,h.cell j]
  simpa using hv
theorem rowB_lt9 (d:WorldD) (G R:Nat) (i:Nat):rowB d G R i < 256:=by
  unfold rowB decN blockN;exact mixN_lt _ _ (weightsN_lt _ _ _ _) _ _
set_option maxHeartbeats 8000000 in
set_option maxRecDepth 20000 in
theorem isPlace_any (s:Nat → Int) (hok:OkShape s) (g r:Int) (w:World):Calls Tryz.prog 28 #[shapeV s,.int .i64 g,.int .i64 r] w (BoolP (WhP s g r) w):=by
  obtain ⟨t1,ht1⟩:=exB (InP g 0 (s 0 + s 1 - 1));obtain ⟨t2,ht2⟩:=exB (InP r 0 (s 4 - 1));have C1:=fun w' => isGroup_b (w:=w') hok ht1;have C2:=fun w' => isRow_b (w:=w') hok ht2;have T0:=one_new w #[.int .i64 (s 0),.int .i64 (s 1),.int .i64 (s 2),.int .i64 (s 3),.int .i64 (s 4),.int .i64 (s 5),.int .i64 (s 6),.int .i64 (s 7),.int .i64 (s 8)] 34;have HT1:Hid (t1 = true ↔ InP g 0 (s 0 + s 1 - 1)):=ht1;have HT2:Hid (t2 = true ↔ InP r 0 (s 4 - 1)):=ht2;unfold shapeV at C1 C2 ⊢;clear ht1 ht2
  go_enter Tryz.func28,Tryz.ntmps28
  go_wp2_with (refine wp_loadBox 34 (.tmp 3) rfl rfl (w.heap.size) rfl (cs:=[.int .i64 (s 0),.int .i64 (s 1),.int .i64 (s 2),.int .i64 (s 3),.int .i64 (s 4),.int .i64 (s 5),.int .i64 (s 6),.int .i64 (s 7),.int .i64 (s 8)]) (T0.b1) Tryz.underlying34 size_S rfl ?_)
  refine (C1 _).mono ?_;rintro e w1 ⟨rfl,b1⟩;have HO1:Hid (One w w1 #[.int .i64 (s 0),.int .i64 (s 1),.int .i64 (s 2),.int .i64 (s 3),.int .i64 (s 4),.int .i64 (s 5),.int .i64 (s 6),.int .i64 (s 7),.int .i64 (s 8)] 34):=T0.call b1;clear b1 T0
  cases t1 with
  | false =>
    go_wp2;go_ret;exact boolNo rfl (fun h => by have:=HT1.out.2 h.1;simp at this) HO1.out.bel
  | true =>
  have x_0:w1.cell? ⟨w.heap.size,0,none⟩ = some (.int .i64 (s 0)):=HO1.out.b1.cell 0;have x_1:w1.cell? ⟨w.heap.size,1,none⟩ = some (.int .i64 (s 1)):=HO1.out.b1.cell 1;have x_2:w1.cell? ⟨w.heap.size,2,none⟩ = some (.int .i64 (s 2)):=HO1.out.b1.cell 2;have x_3:w1.cell? ⟨w.heap.size,3,none⟩ = some (.int .i64 (s 3)):=HO1.out.b1.cell 3;have x_4:w1.cell? ⟨w.heap.size,4,none⟩ = some (.int .i64 (s 4)):=HO1.out.b1.cell 4;have x_5:w1.cell? ⟨w.heap.size,5,none⟩ = some (.int .i64 (s 5)):=HO1.out.b1.cell 5;have x_6:w1.cell? ⟨w.heap.size,6,none⟩ = some (.int .i64 (s 6)):=HO1.out.b1.cell 6;have x_7:w1.cell? ⟨w.heap.size,7,none⟩ = some (.int .i64 (s 7)):=HO1.out.b1.cell 7;have x_8:w1.cell? ⟨w.heap.size,8,none⟩ = some (.int .i64 (s 8)):=HO1.out.b1.cell 8
  go_wp2_with fail
  refine (C2 _).mono ?_;rintro e w2 ⟨rfl,b2⟩;have HB:Hid (Below w.heap.size w w2):=(HO1.out.call b2).bel;clear b2 x_0 x_1 x_2 x_3 x_4 x_5 x_6 x_7 x_8;go_wp2;go_ret;exact ⟨t2,rfl,⟨fun h => ⟨HT1.out.1 (by simp),HT2.out.1 h⟩,fun h => HT2.out.2 h.2⟩,HB.out⟩
def LivC (d:WorldD) (g:Int) (x:Int):Prop:=(¬ HasP d.on.1 d.on.2 g ∧ x = 8) ∨ (HasP d.on.1 d.on.2 g ∧ ((DeadP d g.toNat ∧ x = 10) ∨ (¬ DeadP d g.toNat ∧ x = 0)))
set_option maxHeartbeats 8000000 in
set_option maxRecDepth 20000 in
theorem livingFault_any (d:WorldD) (G:Nat) (cs:List Value) (hi:Nat) (w:World) (h:layWorld.rd w hi d cs) (hhi:hi ≤ w.heap.size) (hok:OkShape d.shape) (hG:G < d.groups.1) (hin:InP (G:Int) 0 (d.shape 0 + d.shape 1 - 1)) :
    Calls Tryz.prog 55 #[.agg cs.toArray,.int .i64 (G:Int)] w (CodeP (LivC d G) w):=by
  have h':=h;obtain ⟨ao1,cap1,ao2,cap2,ao3,cap3,rfl,g1,g2,g3,k0,k4,k5⟩:=World_rd h';have HRD:Hid (layWorld.rd w hi d [.int .i64 (d.shape 0),.int .i64 (d.shape 1),.int .i64 (d.shape 2),.int .i64 (d.shape 3),.int .i64 (d.shape 4),.int .i64 (d.shape 5),.int .i64 (d.shape 6),.int .i64 (d.shape 7),.int .i64 (d.shape 8),.slice ao1 d.groups.1 cap1,.slice ao2 d.on.1 cap2,.slice ao3 d.tapes.1 cap3,.int .i64 d.writes,.int .i64 d.stop,.bool d.down]):=h;have HIN:Hid (InP (G:Int) 0 (d.shape 0 + d.shape 1 - 1)):=hin;clear h h' g1 g2 g3 k0 k4 k5 hin;have T0:=one_new w #[.int .i64 (d.shape 0),.int .i64 (d.shape 1),.int .i64 (d.shape 2),.int .i64 (d.shape 3),.int .i64 (d.shape 4),.int .i64 (d.shape 5),.int .i64 (d.shape 6),.int .i64 (d.shape 7),.int .i64 (d.shape 8),.slice ao1 d.groups.1 cap1,.slice ao2 d.on.1 cap2,.slice ao3 d.tapes.1 cap3,.int .i64 d.writes,.int .i64 d.stop,.bool d.down] 38
  go_enter Tryz.func55,Tryz.ntmps55
  go_wp2_with (refine wp_loadBox 38 (.tmp 2) rfl rfl (w.heap.size) rfl (cs:=[.int .i64 (d.shape 0),.int .i64 (d.shape 1),.int .i64 (d.shape 2),.int .i64 (d.shape 3),.int .i64 (d.shape 4),.int .i64 (d.shape 5),.int .i64 (d.shape 6),.int .i64 (d.shape 7),.int .i64 (d.shape 8),.slice ao1 d.groups.1 cap1,.slice ao2 d.on.1 cap2,.slice ao3 d.tapes.1 cap3,.int .i64 d.writes,.int .i64 d.stop,.bool d.down]) (T0.b1) Tryz.underlying38 size_W rfl ?_)
  refine (onFault_any d G _ hi _ (layWorld.rd_below HRD.out T0.bel hhi) (Nat.le_trans hhi T0.bel.size) hok).mono ?_;rintro e w1 ⟨x,rfl,hx,b1⟩;have HT1:Hid (One w w1 #[.int .i64 (d.shape 0),.int .i64 (d.shape 1),.int .i64 (d.shape 2),.int .i64 (d.shape 3),.int .i64 (d.shape 4),.int .i64 (d.shape 5),.int .i64 (d.shape 6),.int .i64 (d.shape 7),.int .i64 (d.shape 8),.slice ao1 d.groups.1 cap1,.slice ao2 d.on.1 cap2,.slice ao3 d.tapes.1 cap3,.int .i64 d.writes,.int .i64 d.stop,.bool d.down] 38):=T0.call b1
  have HX:Hid ((¬ HasP d.on.1 d.on.2 (G:Int) ∧ x = 8) ∨ (HasP d.on.1 d.on.2 (G:Int) ∧ x = 0)):=by
    rcases hx with ⟨h1,_⟩ | ⟨_,h⟩
    · exact absurd HIN.out h1
    · exact h
  clear b1 T0 hx
  rcases HX.out with ⟨h1,rfl⟩ | ⟨h1,rfl⟩
  · have H1:Hid (¬ HasP d.on.1 d.on.2 (G:Int)):=h1
    clear h1;go_wp2;go_ret;exact ⟨8,rfl,.inl ⟨H1.out,rfl⟩,HT1.out.bel⟩
  have H1:Hid (HasP d.on.1 d.on.2 (G:Int)):=h1;have T1:=HT1.out;clear h1
  go_wp2_with (refine wp_loadBox 38 (.tmp 2) rfl rfl (w.heap.size) rfl (cs:=[.int .i64 (d.shape 0),.int .i64 (d.shape 1),.int .i64 (d.shape 2),.int .i64 (d.shape 3),.int .i64 (d.shape 4),.int .i64 (d.shape 5),.int .i64 (d.shape 6),.int .i64 (d.shape 7),.int .i64 (d.shape 8),.slice ao1 d.groups.1 cap1,.slice ao2 d.on.1 cap2,.slice ao3 d.tapes.1 cap3,.int .i64 d.writes,.int .i64 d.stop,.bool d.down]) (T1.b1) Tryz.underlying38 size_W rfl ?_)
  refine (isDead_any d _ hi G w1 (layWorld.rd_below HRD.out HT1.out.bel hhi) (Nat.le_trans hhi HT1.out.bel.size) hG).mono ?_;rintro e w2 ⟨t,rfl,ht,b2⟩;have HB:Hid (Below w.heap.size w w2):=(HT1.out.call b2).bel;have HT:Hid (t = true ↔ DeadP d G):=ht;clear b2 ht T1
  cases t with
  | true =>
    go_wp2;go_ret;exact ⟨10,rfl,.inr ⟨H1.out,.inl ⟨HT.out.1 (by simp),rfl⟩⟩,HB.out⟩
  | false =>
    go_wp2;go_ret;exact ⟨0,rfl,.inr ⟨H1.out,.inr ⟨fun h => (by have:=HT.out.2 h;cases this),rfl⟩⟩,HB.out⟩
def RmC (d:WorldD) (g:Int) (n:Nat) (x:Int):Prop:=(¬ (n:Int) = d.shape 2 * 4 ∧ x = 1) ∨ ((n:Int) = d.shape 2 * 4 ∧ LivC d g x)
set_option maxHeartbeats 8000000 in
set_option maxRecDepth 20000 in
theorem rowMoveFault_any (d:WorldD) (G:Nat) (n cap:Nat) (ao:Option Addr) (hn:n ≤ 1048576) (cs:List Value) (hi:Nat) (w:World) (h:layWorld.rd w hi d cs) (hhi:hi ≤ w.heap.size) (hok:OkShape d.shape) (hG:G < d.groups.1) (hin:InP (G:Int) 0 (d.shape 0 + d.shape 1 - 1)) :
    Calls Tryz.prog 29 #[.agg cs.toArray,.int .i64 (G:Int),.slice ao n cap] w (CodeP (RmC d G n) w):=by
  have h':=h;obtain ⟨ao1,cap1,ao2,cap2,ao3,cap3,rfl,g1,g2,g3,k0,k4,k5⟩:=World_rd h';have HRD:Hid (layWorld.rd w hi d [.int .i64 (d.shape 0),.int .i64 (d.shape 1),.int .i64 (d.shape 2),.int .i64 (d.shape 3),.int .i64 (d.shape 4),.int .i64 (d.shape 5),.int .i64 (d.shape 6),.int .i64 (d.shape 7),.int .i64 (d.shape 8),.slice ao1 d.groups.1 cap1,.slice ao2 d.on.1 cap2,.slice ao3 d.tapes.1 cap3,.int .i64 d.writes,.int .i64 d.stop,.bool d.down]):=h;clear h h' g1 g2 g3 k0 k4 k5;have T0:=one_new w #[.int .i64 (d.shape 0),.int .i64 (d.shape 1),.int .i64 (d.shape 2),.int .i64 (d.shape 3),.int .i64 (d.shape 4),.int .i64 (d.shape 5),.int .i64 (d.shape 6),.int .i64 (d.shape 7),.int .i64 (d.shape 8),.slice ao1 d.groups.1 cap1,.slice ao2 d.on.1 cap2,.slice ao3 d.tapes.1 cap3,.int .i64 d.writes,.int .i64 d.stop,.bool d.down] 38;obtain ⟨t,ht⟩:∃ t,((n:Int) == d.shape 2 * 4) = t:=⟨_,rfl⟩
  have HT:Hid (t = true ↔ (n:Int) = d.shape 2 * 4):=by show _ ↔ _;rw [← ht];exact beq_iff_eq
  have CI:=rowLong_b (ao:=ao) (cap:=cap) hok (show n ≤ 9223372036854775807 by omega) ht (w.alloc (.cells #[.int .i64 (d.shape 0),.int .i64 (d.shape 1),.int .i64 (d.shape 2),.int .i64 (d.shape 3),.int .i64 (d.shape 4),.int .i64 (d.shape 5),.int .i64 (d.shape 6),.int .i64 (d.shape 7),.int .i64 (d.shape 8),.slice ao1 d.groups.1 cap1,.slice ao2 d.on.1 cap2,.slice ao3 d.tapes.1 cap3,.int .i64 d.writes,.int .i64 d.stop,.bool d.down] 38));unfold shapeV at CI;clear ht
  go_enter Tryz.func29,Tryz.ntmps29
  have x_0:(w.alloc (.cells #[.int .i64 (d.shape 0),.int .i64 (d.shape 1),.int .i64 (d.shape 2),.int .i64 (d.shape 3),.int .i64 (d.shape 4),.int .i64 (d.shape 5),.int .i64 (d.shape 6),.int .i64 (d.shape 7),.int .i64 (d.shape 8),.slice ao1 d.groups.1 cap1,.slice ao2 d.on.1 cap2,.slice ao3 d.tapes.1 cap3,.int .i64 d.writes,.int .i64 d.stop,.bool d.down] 38)).cell? ⟨w.heap.size,0,none⟩ = some (.int .i64 (d.shape 0)):=T0.b1.cell 0;have x_1:(w.alloc (.cells #[.int .i64 (d.shape 0),.int .i64 (d.shape 1),.int .i64 (d.shape 2),.int .i64 (d.shape 3),.int .i64 (d.shape 4),.int .i64 (d.shape 5),.int .i64 (d.shape 6),.int .i64 (d.shape 7),.int .i64 (d.shape 8),.slice ao1 d.groups.1 cap1,.slice ao2 d.on.1 cap2,.slice ao3 d.tapes.1 cap3,.int .i64 d.writes,.int .i64 d.stop,.bool d.down] 38)).cell? ⟨w.heap.size,1,none⟩ = some (.int .i64 (d.shape 1)):=T0.b1.cell 1;have x_2:(w.alloc (.cells #[.int .i64 (d.shape 0),.int .i64 (d.shape 1),.int .i64 (d.shape 2),.int .i64 (d.shape 3),.int .i64 (d.shape 4),.int .i64 (d.shape 5),.int .i64 (d.shape 6),.int .i64 (d.shape 7),.int .i64 (d.shape 8),.slice ao1 d.groups.1 cap1,.slice ao2 d.on.1 cap2,.slice ao3 d.tapes.1 cap3,.int .i64 d.writes,.int .i64 d.stop,.bool d.down] 38)).cell? ⟨w.heap.size,2,none⟩ = some (.int .i64 (d.shape 2)):=T0.b1.cell 2;have x_3:(w.alloc (.cells #[.int .i64 (d.shape 0),.int .i64 (d.shape 1),.int .i64 (d.shape 2),.int .i64 (d.shape 3),.int .i64 (d.shape 4),.int .i64 (d.shape 5),.int .i64 (d.shape 6),.int .i64 (d.shape 7),.int .i64 (d.shape 8),.slice ao1 d.groups.1 cap1,.slice ao2 d.on.1 cap2,.slice ao3 d.tapes.1 cap3,.int .i64 d.writes,.int .i64 d.stop,.bool d.down] 38)).cell? ⟨w.heap.size,3,none⟩ = some (.int .i64 (d.shape 3)):=T0.b1.cell 3;have x_4:(w.alloc (.cells #[.int .i64 (d.shape 0),.int .i64 (d.shape 1),.int .i64 (d.shape 2),.int .i64 (d.shape 3),.int .i64 (d.shape 4),.int .i64 (d.shape 5),.int .i64 (d.shape 6),.int .i64 (d.shape 7),.int .i64 (d.shape 8),.slice ao1 d.groups.1 cap1,.slice ao2 d.on.1 cap2,.slice ao3 d.tapes.1 cap3,.int .i64 d.writes,.int .i64 d.stop,.bool d.down] 38)).cell? ⟨w.heap.size,4,none⟩ = some (.int .i64 (d.shape 4)):=T0.b1.cell 4;have x_5:(w.alloc (.cells #[.int .i64 (d.shape 0),.int .i64 (d.shape 1),.int .i64 (d.shape 2),.int .i64 (d.shape 3),.int .i64 (d.shape 4),.int .i64 (d.shape 5),.int .i64 (d.shape 6),.int .i64 (d.shape 7),.int .i64 (d.shape 8),.slice ao1 d.groups.1 cap1,.slice ao2 d.on.1 cap2,.slice ao3 d.tapes.1 cap3,.int .i64 d.writes,.int .i64 d.stop,.bool d.down] 38)).cell? ⟨w.heap.size,5,none⟩ = some (.int .i64 (d.shape 5)):=T0.b1.cell 5;have x_6:(w.alloc (.cells #[.int .i64 (d.shape 0),.int .i64 (d.shape 1),.int .i64 (d.shape 2),.int .i64 (d.shape 3),.int .i64 (d.shape 4),.int .i64 (d.shape 5),.int .i64 (d.shape 6),.int .i64 (d.shape 7),.int .i64 (d.shape 8),.slice ao1 d.groups.1 cap1,.slice ao2 d.on.1 cap2,.slice ao3 d.tapes.1 cap3,.int .i64 d.writes,.int .i64 d.stop,.bool d.down] 38)).cell? ⟨w.heap.size,6,none⟩ = some (.int .i64 (d.shape 6)):=T0.b1.cell 6
  have x_7:(w.alloc (.cells #[.int .i64 (d.shape 0),.int .i64 (d.shape 1),.int .i64 (d.shape 2),.int .i64 (d.shape 3),.int .i64 (d.shape 4),.int .i64 (d.shape 5),.int .i64 (d.shape 6),.int .i64 (d.shape 7),.int .i64 (d.shape 8),.slice ao1 d.groups.1 cap1,.slice ao2 d.on.1 cap2,.slice ao3 d.tapes.1 cap3,.int .i64 d.writes,.int .i64 d.stop,.bool d.down] 38)).cell? ⟨w.heap.size,7,none⟩ = some (.int .i64 (d.shape 7)):=T0.b1.cell 7;have x_8:(w.alloc (.cells #[.int .i64 (d.shape 0),.int .i64 (d.shape 1),.int .i64 (d.shape 2),.int .i64 (d.shape 3),.int .i64 (d.shape 4),.int .i64 (d.shape 5),.int .i64 (d.shape 6),.int .i64 (d.shape 7),.int .i64 (d.shape 8),.slice ao1 d.groups.1 cap1,.slice ao2 d.on.1 cap2,.slice ao3 d.tapes.1 cap3,.int .i64 d.writes,.int .i64 d.stop,.bool d.down] 38)).cell? ⟨w.heap.size,8,none⟩ = some (.int .i64 (d.shape 8)):=T0.b1.cell 8
  go_wp2_with fail
  refine CI.mono ?_;rintro e w1 ⟨rfl,b1⟩;have HT1:Hid (One w w1 #[.int .i64 (d.shape 0),.int .i64 (d.shape 1),.int .i64 (d.shape 2),.int .i64 (d.shape 3),.int .i64 (d.shape 4),.int .i64 (d.shape 5),.int .i64 (d.shape 6),.int .i64 (d.shape 7),.int .i64 (d.shape 8),.slice ao1 d.groups.1 cap1,.slice ao2 d.on.1 cap2,.slice ao3 d.tapes.1 cap3,.int .i64 d.writes,.int .i64 d.stop,.bool d.down] 38):=T0.call b1;clear b1 T0 CI x_0 x_1 x_2 x_3 x_4 x_5 x_6 x_7 x_8
  cases t with
  | false =>
    go_wp2;go_ret;exact ⟨1,rfl,.inl ⟨fun h => (by have:=HT.out.2 h;simp at this),rfl⟩,HT1.out.bel⟩
  | true =>
  have T1:=HT1.out
  go_wp2_with (refine wp_loadBox 38 (.tmp 3) rfl rfl (w.heap.size) rfl (cs:=[.int .i64 (d.shape 0),.int .i64 (d.shape 1),.int .i64 (d.shape 2),.int .i64 (d.shape 3),.int .i64 (d.shape 4),.int .i64 (d.shape 5),.int .i64 (d.shape 6),.int .i64 (d.shape 7),.int .i64 (d.shape 8),.slice ao1 d.groups.1 cap1,.slice ao2 d.on.1 cap2,.slice ao3 d.tapes.1 cap3,.int .i64 d.writes,.int .i64 d.stop,.bool d.down]) (T1.b1) Tryz.underlying38 size_W rfl ?_)
  refine (livingFault_any d G _ hi w1 (layWorld.rd_below HRD.out HT1.out.bel hhi) (Nat.le_trans hhi HT1.out.bel.size) hok hG hin).mono ?_;rintro e w2 ⟨x,rfl,hx,b2⟩;have HB:Hid (Below w.heap.size w w2):=(HT1.out.call b2).bel;have HX:Hid (LivC d G x):=hx;clear b2 hx T1;go_wp2;go_ret;exact ⟨x,rfl,.inr ⟨HT.out.1 (by simp),HX.out⟩,HB.out⟩
set_option maxHeartbeats 8000000 in
set_option maxRecDepth 20000 in
theorem implOld_any (d:WorldD) (g r:Int) (n cap:Nat) (ao:Option Addr) (f:Nat → Nat) (cs:List Value) (hi h2:Nat) (w:World) (h:layWorld.rd w hi d cs) (hhi:hi ≤ w.heap.size) (rb:layBytes.rd w h2 (n,f) [.slice ao n cap]) (hh2:h2 ≤ w.heap.size) (hsz:szWorldD d ≤ 1048576) (hn:n ≤ 1048576) :
    Calls Tryz.prog 8 #[.agg cs.toArray,.int .i64 g,.int .i64 r,.slice ao n cap] w (YPost (OldAns d g r n f) w):=by
  have h':=h;obtain ⟨ao1,cap1,ao2,cap2,ao3,cap3,rfl,g1,g2,g3,k0,k4,k5⟩:=World_rd h';have HRD:Hid (layWorld.rd w hi d [.int .i64 (d.shape 0),.int .i64 (d.shape 1),.int .i64 (d.shape 2),.int .i64 (d.shape 3),.int .i64 (d.shape 4),.int .i64 (d.shape 5),.int .i64 (d.shape 6),.int .i64 (d.shape 7),.int .i64 (d.shape 8),.slice ao1 d.groups.1 cap1,.slice ao2 d.on.1 cap2,.slice ao3 d.tapes.1 cap3,.int .i64 d.writes,.int .i64 d.stop,.bool d.down]):=h;obtain ⟨_,e9,r9,kf⟩:=rb;have e9':=one_eq e9;subst e9';have HRB:Hid (Rd w h2 (.slice ao n cap) n f):=r9;have HKF:Hid (∀ i,f i < 256):=kf;clear h h' g1 g2 g3 k0 k4 k5 e9 r9 kf;have T0:=two_newb w #[.int .i64 (d.shape 0),.int .i64 (d.shape 1),.int .i64 (d.shape 2),.int .i64 (d.shape 3),.int .i64 (d.shape 4),.int .i64 (d.shape 5),.int .i64 (d.shape 6),.int .i64 (d.shape 7),.int .i64 (d.shape 8),.slice ao1 d.groups.1 cap1,.slice ao2 d.on.1 cap2,.slice ao3 d.tapes.1 cap3,.int .i64 d.writes,.int .i64 d.stop,.bool d.down] #[.int .i64 0,.slice none 0 0] 38 32
  go_enter Tryz.func8,Tryz.ntmps8
  go_wp2_with (refine wp_loadBox 38 (.tmp 4) rfl rfl (w.heap.size) rfl (cs:=[.int .i64 (d.shape 0),.int .i64 (d.shape 1),.int .i64 (d.shape 2),.int .i64 (d.shape 3),.int .i64 (d.shape 4),.int .i64 (d.shape 5),.int .i64 (d.shape 6),.int .i64 (d.shape 7),.int .i64 (d.shape 8),.slice ao1 d.groups.1 cap1,.slice ao2 d.on.1 cap2,.slice ao3 d.tapes.1 cap3,.int .i64 d.writes,.int .i64 d.stop,.bool d.down]) (T0.b1) Tryz.underlying38 size_W rfl ?_)
  refine (powered_any d _ hi _ (layWorld.rd_below HRD.out T0.bel hhi) (Nat.le_trans hhi T0.bel.size) hsz).mono ?_;rintro e w1 ⟨x,rfl,hx,b1⟩;have HT1:Hid (Two w w1 #[.int .i64 (d.shape 0),.int .i64 (d.shape 1),.int .i64 (d.shape 2),.int .i64 (d.shape 3),.int .i64 (d.shape 4),.int .i64 (d.shape 5),.int .i64 (d.shape 6),.int .i64 (d.shape 7),.int .i64 (d.shape 8),.slice ao1 d.groups.1 cap1,.slice ao2 d.on.1 cap2,.slice ao3 d.tapes.1 cap3,.int .i64 d.writes,.int .i64 d.stop,.bool d.down] #[.int .i64 0,.slice none 0 0] 38 32):=T0.call b1;have HX:Hid (AskAns d x):=hx;have z1:w.heap.size + 1 < w1.heap.size:=HT1.out.b2.lt;clear b1 T0 hx
  by_cases hx0:x = 0
  case neg =>
    have hne:(x != 0) = true:=by simp [hx0]
    have HC:Hid (OldC d g r n x):=.inl ⟨hx0,HX.out⟩
    go_wp2_with (refine wp_storeBox 32 _ _ rfl rfl (w.heap.size + 1) rfl (cs:=[.int .i64 x,.slice none 0 0]) (old:=[.int .i64 0,.slice none 0 0]) rfl (HT1.out.b2) size_Yr rfl rfl ((ycode_own w1 x (old_small HC.out) 0 0 (Nat.zero_le _)).one) ?_;intro w9 X9 C9 z9)
    refine ret_box Tryz.results8 rfl X9 Tryz.underlying32 size_Yr rfl rfl ?_;have zz:=C9.size;exact ⟨_,_,rfl,.inl ⟨x,hx0,HC.out,rfl⟩,ycode_own w9 x (old_small HC.out) _ _ (Nat.le_refl _),HT1.out.bel.trans (C9.bel (fun b hb => by simp at hb;omega) HT1.out.bel.size)⟩
  subst hx0;have HOK:Hid (OkWorld d):=ask_ok HX.out;have x_0:w1.cell? ⟨w.heap.size,0,none⟩ = some (.int .i64 (d.shape 0)):=HT1.out.b1.cell 0;have x_1:w1.cell? ⟨w.heap.size,1,none⟩ = some (.int .i64 (d.shape 1)):=HT1.out.b1.cell 1;have x_2:w1.cell? ⟨w.heap.size,2,none⟩ = some (.int .i64 (d.shape 2)):=HT1.out.b1.cell 2;have x_3:w1.cell? ⟨w.heap.size,3,none⟩ = some (.int .i64 (d.shape 3)):=HT1.out.b1.cell 3;have x_4:w1.cell? ⟨w.heap.size,4,none⟩ = some (.int .i64 (d.shape 4)):=HT1.out.b1.cell 4;have x_5:w1.cell? ⟨w.heap.size,5,none⟩ = some (.int .i64 (d.shape 5)):=HT1.out.b1.cell 5;have x_6:w1.cell? ⟨w.heap.size,6,none⟩ = some (.int .i64 (d.shape 6)):=HT1.out.b1.cell 6;have x_7:w1.cell? ⟨w.heap.size,7,none⟩ = some (.int .i64 (d.shape 7)):=HT1.out.b1.cell 7;have x_8:w1.cell? ⟨w.heap.size,8,none⟩ = some (.int .i64 (d.shape 8)):=HT1.out.b1.cell 8;have CP:=isPlace_any d.shape HOK.out.shape g r w1;unfold shapeV at CP
  go_wp2_with fail
  refine CP.mono ?_;rintro e w2 ⟨t,rfl,ht,b2⟩;have HT2:Hid (Two w w2 #[.int .i64 (d.shape 0),.int .i64 (d.shape 1),.int .i64 (d.shape 2),.int .i64 (d.shape 3),.int .i64 (d.shape 4),.int .i64 (d.shape 5),.int .i64 (d.shape 6),.int .i64 (d.shape 7),.int .i64 (d.shape 8),.slice ao1 d.groups.1 cap1,.slice ao2 d.on.1 cap2,.slice ao3 d.tapes.1 cap3,.int .i64 d.writes,.int .i64 d.stop,.bool d.down] #[.int .i64 0,.slice none 0 0] 38 32):=HT1.out.call b2;have HP:Hid (t = true ↔ WhP d.shape g r):=ht;have z2:=b2.size;clear CP ht b2 x_0 x_1 x_2 x_3 x_4 x_5 x_6 x_7 x_8 HT1
  cases t with
  | false =>
    have HC:Hid (OldC d g r n 3):=.inr ⟨HX.out,.inl ⟨fun h => (by have:=HP.out.2 h;cases this),rfl⟩⟩
    go_wp2_with (refine wp_storeBox 32 _ _ rfl rfl (w.heap.size + 1) rfl (cs:=[.int .i64 3,.slice none 0 0]) (old:=[.int .i64 0,.slice none 0 0]) rfl (HT2.out.b2) size_Yr rfl rfl ((ycode_own w2 3 (by decide) 0 0 (Nat.zero_le _)).one) ?_;intro w9 X9 C9 z9)
    refine ret_box Tryz.results8 rfl X9 Tryz.underlying32 size_Yr rfl rfl ?_;have zz:=C9.size;exact ⟨_,_,rfl,.inl ⟨3,by decide,HC.out,rfl⟩,ycode_own w9 3 (by decide) _ _ (Nat.le_refl _),HT2.out.bel.trans (C9.bel (fun b hb => by simp at hb;omega) HT2.out.bel.size)⟩
  | true =>
  have hwp:WhP d.shape g r:=HP.out.1 rfl;have HWP:Hid (WhP d.shape g r):=hwp;obtain ⟨G,R,rfl,rfl,hG,hR⟩:=wh_at HOK.out hwp;have HR:Hid (∀ k,k < (d.groups.2 G).1 → R < ((d.groups.2 G).2 k).blocks.1):=hR;clear hwp hR HP
  go_wp2_with (refine wp_loadBox 38 (.tmp 4) rfl rfl (w.heap.size) rfl (cs:=[.int .i64 (d.shape 0),.int .i64 (d.shape 1),.int .i64 (d.shape 2),.int .i64 (d.shape 3),.int .i64 (d.shape 4),.int .i64 (d.shape 5),.int .i64 (d.shape 6),.int .i64 (d.shape 7),.int .i64 (d.shape 8),.slice ao1 d.groups.1 cap1,.slice ao2 d.on.1 cap2,.slice ao3 d.tapes.1 cap3,.int .i64 d.writes,.int .i64 d.stop,.bool d.down]) (HT2.out.b1) Tryz.underlying38 size_W rfl ?_)
  refine (rowMoveFault_any d G n cap ao hn _ hi w2 (layWorld.rd_below HRD.out HT2.out.bel hhi) (Nat.le_trans hhi HT2.out.bel.size) HOK.out.shape hG HWP.out.1).mono ?_;rintro e w3 ⟨x,rfl,hx,b3⟩;have HT3:Hid (Two w w3 #[.int .i64 (d.shape 0),.int .i64 (d.shape 1),.int .i64 (d.shape 2),.int .i64 (d.shape 3),.int .i64 (d.shape 4),.int .i64 (d.shape 5),.int .i64 (d.shape 6),.int .i64 (d.shape 7),.int .i64 (d.shape 8),.slice ao1 d.groups.1 cap1,.slice ao2 d.on.1 cap2,.slice ao3 d.tapes.1 cap3,.int .i64 d.writes,.int .i64 d.stop,.bool d.down] #[.int .i64 0,.slice none 0 0] 38 32):=HT2.out.call b3;have z3:=b3.size;have HC:Hid (OldC d G R n x):=.inr ⟨HX.out,.inr ⟨HWP.out,hx⟩⟩;clear hx b3 HT2
  by_cases hx0:x = 0
  case neg =>
    have hne:(x != 0) = true:=by simp [hx0]
    go_wp2_with (refine wp_storeBox 32 _ _ rfl rfl (w.heap.size + 1) rfl (cs:=[.int .i64 x,.slice none 0 0]) (old:=[.int .i64 0,.slice none 0 0]) rfl (HT3.out.b2) size_Yr rfl rfl ((ycode_own w3 x (old_small HC.out) 0 0 (Nat.zero_le _)).one) ?_;intro w9 X9 C9 z9)
    refine ret_box Tryz.results8 rfl X9 Tryz.underlying32 size_Yr rfl rfl ?_;have zz:=C9.size;exact ⟨_,_,rfl,.inl ⟨x,hx0,HC.out,rfl⟩,ycode_own w9 x (old_small HC.out) _ _ (Nat.le_refl _),HT3.out.bel.trans (C9.bel (fun b hb => by simp at hb;omega) HT3.out.bel.size)⟩
  subst hx0;obtain ⟨_,_,hnn,hnd⟩:=old_zero HC.out;have hnd':¬ DeadP d G:=hnd;have CB:=bytesInRow_any d [.int .i64 (d.shape 0),.int .i64 (d.shape 1),.int .i64 (d.shape 2),.int .i64 (d.shape 3),.int .i64 (d.shape 4),.int .i64 (d.shape 5),.int .i64 (d.shape 6),.int .i64 (d.shape 7),.int .i64 (d.shape 8),.slice ao1 d.groups.1 cap1,.slice ao2 d.on.1 cap2,.slice ao3 d.tapes.1 cap3,.int .i64 d.writes,.int .i64 d.stop,.bool d.down] hi G R w3 (layWorld.rd_below HRD.out HT3.out.bel hhi) (Nat.le_trans hhi HT3.out.bel.size) hG HR.out HOK.out hnd'
  have hN:4 * (d.shape 2).toNat = n:=by have:=okB HOK.out.shape;omega
  have hN4:n ≤ 4000:=by
    obtain ⟨s1,s2,_⟩:=HOK.out.shape;unfold Shp at s2;omega
  have HN:Hid (4 * (d.shape 2).toNat = n):=hN;clear hnn hnd hnd' hN
  go_wp2_with (refine wp_loadBox 38 (.tmp 4) rfl rfl (w.heap.size) rfl (cs:=[.int .i64 (d.shape 0),.int .i64 (d.shape 1),.int .i64 (d.shape 2),.int .i64 (d.shape 3),.int .i64 (d.shape 4),.int .i64 (d.shape 5),.int .i64 (d.shape 6),.int .i64 (d.shape 7),.int .i64 (d.shape 8),.slice ao1 d.groups.1 cap1,.slice ao2 d.on.1 cap2,.slice ao3 d.tapes.1 cap3,.int .i64 d.writes,.int .i64 d.stop,.bool d.down]) (HT3.out.b1) Tryz.underlying38 size_W rfl ?_)
  refine CB.mono ?_;rintro e w4 ⟨v4,rfl,o4,b4⟩;have HT4:Hid (Two w w4 #[.int .i64 (d.shape 0),.int .i64 (d.shape 1),.int .i64 (d.shape 2),.int .i64 (d.shape 3),.int .i64 (d.shape 4),.int .i64 (d.shape 5),.int .i64 (d.shape 6),.int .i64 (d.shape 7),.int .i64 (d.shape 8),.slice ao1 d.groups.1 cap1,.slice ao2 d.on.1 cap2,.slice ao3 d.tapes.1 cap3,.int .i64 d.writes,.int .i64 d.stop,.bool d.down] #[.int .i64 0,.slice none 0 0] 38 32):=HT3.out.call b4;have z4:=b4.size;rw [HN.out] at o4;have CA:=implAdd_ok v4 (.slice ao n cap) n (rowB d G R) f (fun i => rowB d G R i ^^^ f i) w4.heap.size h2 w4 o4.rd (HRB.out.below HT4.out.bel hh2) (Nat.le_refl _) (by omega) (rowB_lt9 d G R) HKF.out (fun _ _ => rfl) hN4;obtain ⟨ao4,cap4,rfl⟩:=o4.slice;clear CB b4 HT3 o4
  go_wp2_with fail
  refine CA.mono ?_;rintro e w5 ⟨v5,rfl,o5,b5⟩;obtain ⟨ao5,cap5,rfl⟩:=o5.slice;have HT5:Hid (Two w w5 #[.int .i64 (d.shape 0),.int .i64 (d.shape 1),.int .i64 (d.shape 2),.int .i64 (d.shape 3),.int .i64 (d.shape 4),.int .i64 (d.shape 5),.int .i64 (d.shape 6),.int .i64 (d.shape 7),.int .i64 (d.shape 8),.slice ao1 d.groups.1 cap1,.slice ao2 d.on.1 cap2,.slice ao3 d.tapes.1 cap3,.int .i64 d.writes,.int .i64 d.stop,.bool d.down] #[.int .i64 0,.slice none 0 0] 38 32):=HT4.out.call b5;have z5:=b5.size;have OO:=yres_own o5 (Nat.le_refl _) (fun i => Nat.xor_lt_two_pow (n:=8) (rowB_lt9 d G R i) (HKF.out i)) 0 (by decide);clear CA o5 b5 HT4;unfold bytesR
  go_wp2_with (refine wp_storeBox 32 _ _ rfl rfl (w.heap.size + 1) rfl (cs:=[.int .i64 0,.slice ao5 n cap5]) (old:=[.int .i64 0,.slice none 0 0]) rfl (HT5.out.b2) size_Yr rfl rfl (OO.one) ?_;intro w9 X9 C9 z9)
  refine ret_box Tryz.results8 rfl X9 Tryz.underlying32 size_Yr rfl rfl ?_;have zz:=C9.size;refine ⟨⟨0,(n,fun i => rowB d G R i ^^^ f i)⟩,_,rfl,.inr ⟨HC.out,?_⟩,(OO.chgk C9 (fun b hb => by simp at hb;omega)).weaken (by omega) zz,HT5.out.bel.trans (C9.bel (fun b hb => by simp at hb;omega) HT5.out.bel.size)⟩
  show (⟨0,(n,fun i => rowB d G R i ^^^ f i)⟩:BytesResultD) = ⟨0,(4 * (d.shape 2).toNat,fun i => rowB d (G:Int).toNat (R:Int).toNat i ^^^ f i)⟩
  rw [HN.out];rfl
end Go.Proofs.YtaldlfoochmfcaaGreat
namespace Go.Proofs.YtaldlfoochmfcaaGreat
open Go.RowKit F256
set_option maxHeartbeats 8000000 in
set_option maxRecDepth 20000 in
theorem l9Row_any (d:WorldD) (g r:Int) (n cap:Nat) (ao:Option Addr) (cs:List Value) (hi:Nat) (w:World) (h:layWorld.rd w hi d cs) (hhi:hi ≤ w.heap.size) (hsz:szWorldD d ≤ 1048576) (hn:n ≤ 1048576) :
    Calls Tryz.prog 20 #[.agg cs.toArray,.int .i64 g,.int .i64 r,.slice ao n cap,.int .i64 (d.shape 0 + d.shape 1 - 1)] w (CodeP (OldC d g r n) w):=by
  have h':=h;obtain ⟨ao1,cap1,ao2,cap2,ao3,cap3,rfl,g1,g2,g3,k0,k4,k5⟩:=World_rd h';have HRD:Hid (layWorld.rd w hi d [.int .i64 (d.shape 0),.int .i64 (d.shape 1),.int .i64 (d.shape 2),.int .i64 (d.shape 3),.int .i64 (d.shape 4),.int .i64 (d.shape 5),.int .i64 (d.shape 6),.int .i64 (d.shape 7),.int .i64 (d.shape 8),.slice ao1 d.groups.1 cap1,.slice ao2 d.on.1 cap2,.slice ao3 d.tapes.1 cap3,.int .i64 d.writes,.int .i64 d.stop,.bool d.down]):=h
  have HG2:Hid (RdI w hi (.slice ao2 d.on.1 cap2) d.on.1 d.on.2):=by
    obtain ⟨_,e2,⟨h2,_⟩,_⟩:=g2
    cases e2
    exact h2
  clear h h' g1 g2 g3 k0 k4 k5;have T0:=one_new w #[.int .i64 (d.shape 0),.int .i64 (d.shape 1),.int .i64 (d.shape 2),.int .i64 (d.shape 3),.int .i64 (d.shape 4),.int .i64 (d.shape 5),.int .i64 (d.shape 6),.int .i64 (d.shape 7),.int .i64 (d.shape 8),.slice ao1 d.groups.1 cap1,.slice ao2 d.on.1 cap2,.slice ao3 d.tapes.1 cap3,.int .i64 d.writes,.int .i64 d.stop,.bool d.down] 38;obtain ⟨most,hmost⟩:∃ x,x = d.shape 0 + d.shape 1 - 1:=⟨_,rfl⟩;have HMO:Hid (most = d.shape 0 + d.shape 1 - 1):=hmost;rw [← hmost];clear hmost
  go_enter Tryz.func20,Tryz.ntmps20
  go_wp2_with (refine wp_loadBox 38 (.tmp 5) rfl rfl (w.heap.size) rfl (cs:=[.int .i64 (d.shape 0),.int .i64 (d.shape 1),.int .i64 (d.shape 2),.int .i64 (d.shape 3),.int .i64 (d.shape 4),.int .i64 (d.shape 5),.int .i64 (d.shape 6),.int .i64 (d.shape 7),.int .i64 (d.shape 8),.slice ao1 d.groups.1 cap1,.slice ao2 d.on.1 cap2,.slice ao3 d.tapes.1 cap3,.int .i64 d.writes,.int .i64 d.stop,.bool d.down]) (T0.b1) Tryz.underlying38 size_W rfl ?_)
  refine (l5Asked_any d _ hi _ (layWorld.rd_below HRD.out T0.bel hhi) (Nat.le_trans hhi T0.bel.size) hsz).mono ?_;rintro e w1 ⟨x,rfl,hx,b1⟩;have HT1:Hid (One w w1 #[.int .i64 (d.shape 0),.int .i64 (d.shape 1),.int .i64 (d.shape 2),.int .i64 (d.shape 3),.int .i64 (d.shape 4),.int .i64 (d.shape 5),.int .i64 (d.shape 6),.int .i64 (d.shape 7),.int .i64 (d.shape 8),.slice ao1 d.groups.1 cap1,.slice ao2 d.on.1 cap2,.slice ao3 d.tapes.1 cap3,.int .i64 d.writes,.int .i64 d.stop,.bool d.down] 38):=T0.call b1;have HX:Hid (AskAns d x):=hx;clear b1 T0 hx
  by_cases hx0:x = 0
  case neg =>
    have hne:(x != 0) = true:=by simp [hx0]
    go_wp2;go_ret;exact ⟨x,rfl,.inl ⟨hx0,HX.out⟩,HT1.out.bel⟩
  subst hx0;have HOK:Hid (OkWorld d):=ask_ok HX.out;obtain ⟨t1,ht1⟩:=exB (InP g 0 most);obtain ⟨t2,ht2⟩:=exB (InP r 0 (d.shape 4 - 1));have C1:=fun w' => l1In_b (w:=w') ht1;have C2:=fun w' => l1In_b (w:=w') ht2
  have H1:Hid (t1 = true ↔ InP g 0 (d.shape 0 + d.shape 1 - 1)):=by rw [← HMO.out];exact ht1
  have H2:Hid (t2 = true ↔ InP r 0 (d.shape 4 - 1)):=ht2
  have zw:IntKind.i64.wrap (d.shape 4 - 1) = d.shape 4 - 1:=by have:=okB HOK.out.shape;rw [IntKind.wrap_i64];omega
  clear ht1 ht2;have x4:w1.cell? ⟨w.heap.size,4,none⟩ = some (.int .i64 (d.shape 4)):=HT1.out.b1.cell 4
  go_wp2_with fail
  refine (C1 _).mono ?_;rintro e w2 ⟨rfl,hw2⟩;subst hw2
  cases t1 with
  | false =>
    go_wp2;go_ret;exact ⟨3,rfl,.inr ⟨HX.out,.inl ⟨fun h => (by have:=H1.out.2 h.1;simp at this),rfl⟩⟩,HT1.out.bel⟩
  | true =>
  go_wp2_with fail
  refine (C2 _).mono ?_;rintro e w2 ⟨rfl,hw2⟩;subst hw2
  cases t2 with
  | false =>
    go_wp2;go_ret;exact ⟨3,rfl,.inr ⟨HX.out,.inl ⟨fun h => (by have:=H2.out.2 h.2;simp at this),rfl⟩⟩,HT1.out.bel⟩
  | true =>
  have HWP:Hid (WhP d.shape g r):=⟨H1.out.1 (by simp),H2.out.1 (by simp)⟩;clear x4 C1 C2 zw;have x_0:w2.cell? ⟨w.heap.size,0,none⟩ = some (.int .i64 (d.shape 0)):=HT1.out.b1.cell 0;have x_1:w2.cell? ⟨w.heap.size,1,none⟩ = some (.int .i64 (d.shape 1)):=HT1.out.b1.cell 1;have x_2:w2.cell? ⟨w.heap.size,2,none⟩ = some (.int .i64 (d.shape 2)):=HT1.out.b1.cell 2;have x_3:w2.cell? ⟨w.heap.size,3,none⟩ = some (.int .i64 (d.shape 3)):=HT1.out.b1.cell 3;have x_4:w2.cell? ⟨w.heap.size,4,none⟩ = some (.int .i64 (d.shape 4)):=HT1.out.b1.cell 4;have x_5:w2.cell? ⟨w.heap.size,5,none⟩ = some (.int .i64 (d.shape 5)):=HT1.out.b1.cell 5;have x_6:w2.cell? ⟨w.heap.size,6,none⟩ = some (.int .i64 (d.shape 6)):=HT1.out.b1.cell 6;have x_7:w2.cell? ⟨w.heap.size,7,none⟩ = some (.int .i64 (d.shape 7)):=HT1.out.b1.cell 7;have x_8:w2.cell? ⟨w.heap.size,8,none⟩ = some (.int .i64 (d.shape 8)):=HT1.out.b1.cell 8;have CW:=l4Wide_any d.shape (by have:=okB HOK.out.shape;omega) (by have:=okB HOK.out.shape;omega) w2;unfold shapeV at CW
  go_wp2_with fail
  refine CW.mono ?_;rintro e w3 ⟨rfl,b3⟩;have HT3:Hid (One w w3 #[.int .i64 (d.shape 0),.int .i64 (d.shape 1),.int .i64 (d.shape 2),.int .i64 (d.shape 3),.int .i64 (d.shape 4),.int .i64 (d.shape 5),.int .i64 (d.shape 6),.int .i64 (d.shape 7),.int .i64 (d.shape 8),.slice ao1 d.groups.1 cap1,.slice ao2 d.on.1 cap2,.slice ao3 d.tapes.1 cap3,.int .i64 d.writes,.int .i64 d.stop,.bool d.down] 38):=HT1.out.call b3;clear CW b3 x_0 x_1 x_2 x_3 x_4 x_5 x_6 x_7 x_8 HT1
  by_cases hne:(n:Int) = d.shape 2 * 4
  case neg =>
    have hq:((n:Int) != d.shape 2 * 4) = true:=by simp [hne]
    have HNE:Hid (¬ (n:Int) = d.shape 2 * 4):=hne;clear hne;go_wp2;go_ret;exact ⟨1,rfl,.inr ⟨HX.out,.inr ⟨HWP.out,.inl ⟨HNE.out,rfl⟩⟩⟩,HT3.out.bel⟩
  have hq:((n:Int) != d.shape 2 * 4) = false:=by simp [hne]
  have HNE:Hid ((n:Int) = d.shape 2 * 4):=hne;clear hne;have x10:w3.cell? ⟨w.heap.size,10,none⟩ = some (.slice ao2 d.on.1 cap2):=HT3.out.b1.cell 10;obtain ⟨t3,ht3⟩:=exB (HasP d.on.1 d.on.2 g);have CH:=det_b (l1Has_any _ d.on.1 d.on.2 hi g w3 (HG2.out.below HT3.out.bel hhi)) ht3;have H3:Hid (t3 = true ↔ HasP d.on.1 d.on.2 g):=ht3;clear ht3
  go_wp2_with fail
  refine CH.mono ?_;rintro e w4 ⟨rfl,b4⟩;have HT4:Hid (One w w4 #[.int .i64 (d.shape 0),.int .i64 (d.shape 1),.int .i64 (d.shape 2),.int .i64 (d.shape 3),.int .i64 (d.shape 4),.int .i64 (d.shape 5),.int .i64 (d.shape 6),.int .i64 (d.shape 7),.int .i64 (d.shape 8),.slice ao1 d.groups.1 cap1,.slice ao2 d.on.1 cap2,.slice ao3 d.tapes.1 cap3,.int .i64 d.writes,.int .i64 d.stop,.bool d.down] 38):=HT3.out.call b4;clear CH b4 x10 HT3
  cases t3 with
  | false =>
    go_wp2;go_ret;exact ⟨8,rfl,.inr ⟨HX.out,.inr ⟨HWP.out,.inr ⟨HNE.out,.inl ⟨fun h => (by have:=H3.out.2 h;simp at this),rfl⟩⟩⟩⟩,HT4.out.bel⟩
  | true =>
  obtain ⟨G,R,rfl,rfl,hG,-⟩:=wh_at HOK.out HWP.out;have CD:=l7Dead_any d [.int .i64 (d.shape 0),.int .i64 (d.shape 1),.int .i64 (d.shape 2),.int .i64 (d.shape 3),.int .i64 (d.shape 4),.int .i64 (d.shape 5),.int .i64 (d.shape 6),.int .i64 (d.shape 7),.int .i64 (d.shape 8),.slice ao1 d.groups.1 cap1,.slice ao2 d.on.1 cap2,.slice ao3 d.tapes.1 cap3,.int .i64 d.writes,.int .i64 d.stop,.bool d.down] hi w.heap.size G w4 (layWorld.rd_below HRD.out HT4.out.bel hhi) (Nat.le_trans hhi HT4.out.bel.size) HT4.out.b1 hG
  go_wp2_with fail
  refine CD.mono ?_;rintro e w5 ⟨t5,rfl,ht5,b5⟩;have HB:Hid (Below w.heap.size w w5):=(HT4.out.call b5).bel;have H5:Hid (t5 = true ↔ DeadP d G):=ht5;clear CD b5 ht5
  cases t5 with
  | true =>
    go_wp2;go_ret;exact ⟨10,rfl,.inr ⟨HX.out,.inr ⟨HWP.out,.inr ⟨HNE.out,.inr ⟨H3.out.1 (by simp),.inl ⟨H5.out.1 (by simp),rfl⟩⟩⟩⟩⟩,HB.out⟩
  | false =>
    go_wp2;go_ret;exact ⟨0,rfl,.inr ⟨HX.out,.inr ⟨HWP.out,.inr ⟨HNE.out,.inr ⟨H3.out.1 (by simp),.inr ⟨fun h => (by have:=H5.out.2 h;simp at this),rfl⟩⟩⟩⟩⟩,HB.out⟩
set_option maxHeartbeats 8000000 in
set_option maxRecDepth 20000 in
theorem l9Old_any (d:WorldD) (G R n cap:Nat) (ao:Option Addr) (f:Nat → Nat) (cs:List Value) (hi h2 B:Nat) (w:World) (h:layWorld.rd w hi d cs) (hhi:hi ≤ w.heap.size) (hB:Box w B cs.toArray 38) (rb:Rd w h2 (.slice ao n cap) n f) (kf:∀ i,f i < 256) (hh2:h2 ≤ w.heap.size) (hok:OkWorld d) (hG:G < d.groups.1) (hR:∀ k,k < (d.groups.2 G).1 → R < ((d.groups.2 G).2 k).blocks.1) (hnd:¬ DeadP d G) (hN:4 * (d.shape 2).toNat = n) (hn4:n ≤ 4000) :
    Calls Tryz.prog 22 #[.pointer (some ⟨B,0,none⟩),.int .i64 (G:Int),.int .i64 (R:Int),.slice ao n cap] w fun e w' => ∃ v',e = .returned v' ∧ Own w' w.heap.size w'.heap.size v' n (fun i => rowB d G R i ^^^ f i) ∧ Below w.heap.size w w':=by
  have CB:=l7Bytes_any d cs hi B G R w h hhi hB hG hR hok;have HRB:Hid (Rd w h2 (.slice ao n cap) n f):=rb;have HND:Hid (¬ DeadP d G):=hnd;have HN:Hid (4 * (d.shape 2).toNat = n):=hN;clear h hB rb hnd hR hN
  go_enter Tryz.func22,Tryz.ntmps22
  go_wp2_with fail
  refine CB.mono ?_;rintro e w1 ⟨v1,t,rfl,ht,o1,b1⟩;obtain rfl:t = true:=ht.2 HND.out
  simp only [if_true] at o1
  rw [HN.out] at o1;have z1:=b1.size;have CA:=l1Add_any v1 (.slice ao n cap) n (rowB d G R) f (fun i => rowB d G R i ^^^ f i) w1.heap.size h2 w1 o1.rd (HRB.out.below b1 hh2) (Nat.le_refl _) (by omega) (rowB_lt9 d G R) kf (fun _ _ => rfl) (by omega);obtain ⟨ao1,cap1,rfl⟩:=o1.slice;have HB1:Hid (Below w.heap.size w w1):=b1;clear CB ht o1 b1
  go_wp2_with fail
  refine CA.mono ?_;rintro e w2 ⟨v2,rfl,o2,b2⟩;have HO:Hid (Own w2 w.heap.size w2.heap.size v2 n (fun i => rowB d G R i ^^^ f i)):=o2.weaken z1 (Nat.le_refl _);have HB2:Hid (Below w.heap.size w w2):=HB1.out.trans (b2.mono z1);obtain ⟨ao2,cap2,rfl⟩:=o2.slice;clear CA o2 b2;go_wp2;go_ret;exact ⟨_,rfl,HO.out,HB2.out⟩
section
variable {P:Program} {ops:Array Oper} {Q:Exit → Act → World → Prop} {md:Region.Mode} {S:World → Prop} {L:Nat}
theorem wpAnyM_oneO {i:Nat} {o:Oper} {fuel:Nat} {listed:Array Bool} {a:Act} {w:World} (ho:ops[i]? = some o) (hr:Region.ready md ops listed = [i])
    (h:∀ K':Act → World → Prop,Shut (∀ a w,S w → wpAnyM P md ops Q S L fuel (listed.setIfInBounds i true) a w → K' a w) → if Region.wanted o (yielded ops a.tmps) = true then Oper.wp P o a w K' Q else K' (a.put o.dst undef) w):wpAnyM P md ops Q S L (fuel + 1) listed a w:=by
  refine ⟨fun h0 => (by rw [hr] at h0;cases h0),fun j hj => ?_⟩;rw [hr] at hj
  obtain rfl:j = i:=by simpa using hj
  exact wpOp_step ho (fun K' hK => h K' (fun a w hS hW => hK a w ⟨fun _ => hS,hW⟩))
end
theorem calls_appO {f:Nat} {args:Array Value} {w:World} {R:Ending → World → Prop} (h:Calls Tryz.prog f args w R):Calls Tryz.prog f (args ++ #[]) w R:=by simpa using h
theorem mixedOl:Tryz.prog.follows Departure.mixedOrders = true:=by kernel_rfl
theorem info_Wl {cs:List Value} (h:cs.length = 15):(Tryz.prog.info? 38).map (·.size) = some cs.length:=by rw [h];kernel_rfl
theorem info_Sl {cs:List Value} (h:cs.length = 9):(Tryz.prog.info? 34).map (·.size) = some cs.length:=by rw [h];kernel_rfl
theorem range_nine {w:World} {b:Nat} {t:TypeId} {c:List Value} (h:Box w b c.toArray t) (k:Nat):w.rangeAt b 0 (c.take k):=fun j v hv => by
  rw [Nat.zero_add,h.cell j];rw [List.getElem?_take] at hv
  split at hv
  · simpa using hv
  · cases hv
set_option maxHeartbeats 8000000 in
set_option maxRecDepth 20000 in
theorem specOld_any (d:WorldD) (g r:Int) (n cap:Nat) (ao:Option Addr) (f:Nat → Nat) (cs:List Value) (hi h2:Nat) (w:World) (h:layWorld.rd w hi d cs) (hhi:hi ≤ w.heap.size) (rb:layBytes.rd w h2 (n,f) [.slice ao n cap]) (hh2:h2 ≤ w.heap.size) (hsz:szWorldD d ≤ 1048576) (hn:n ≤ 1048576) :
    Calls Tryz.prog 5 #[.agg cs.toArray,.int .i64 g,.int .i64 r,.slice ao n cap] w (YPost (OldAns d g r n f) w):=by
  have h':=h;obtain ⟨ao1,cap1,ao2,cap2,ao3,cap3,rfl,g1,g2,g3,k0,k4,k5⟩:=World_rd h';have HRD:Hid (layWorld.rd w hi d [.int .i64 (d.shape 0),.int .i64 (d.shape 1),.int .i64 (d.shape 2),.int .i64 (d.shape 3),.int .i64 (d.shape 4),.int .i64 (d.shape 5),.int .i64 (d.shape 6),.int .i64 (d.shape 7),.int .i64 (d.shape 8),.slice ao1 d.groups.1 cap1,.slice ao2 d.on.1 cap2,.slice ao3 d.tapes.1 cap3,.int .i64 d.writes,.int .i64 d.stop,.bool d.down]):=h;obtain ⟨_,e9,r9,kf⟩:=rb;have e9':=one_eq e9;subst e9';have HRB:Hid (Rd w h2 (.slice ao n cap) n f):=r9;have HKF:Hid (∀ i,f i < 256):=kf;clear h h' g1 g2 g3 k0 k4 k5 e9 r9 kf;have T0:=two_newb w #[.int .i64 (d.shape 0),.int .i64 (d.shape 1),.int .i64 (d.shape 2),.int .i64 (d.shape 3),.int .i64 (d.shape 4),.int .i64 (d.shape 5),.int .i64 (d.shape 6),.int .i64 (d.shape 7),.int .i64 (d.shape 8),.slice ao1 d.groups.1 cap1,.slice ao2 d.on.1 cap2,.slice ao3 d.tapes.1 cap3,.int .i64 d.writes,.int .i64 d.stop,.bool d.down] #[.int .i64 0,.slice none 0 0] 38 32
  go_enter Tryz.func5,Tryz.ntmps5
  go_wp2_with (refine wp_loadBox 38 (.tmp 4) rfl rfl (w.heap.size) rfl (cs:=[.int .i64 (d.shape 0),.int .i64 (d.shape 1),.int .i64 (d.shape 2),.int .i64 (d.shape 3),.int .i64 (d.shape 4),.int .i64 (d.shape 5),.int .i64 (d.shape 6),.int .i64 (d.shape 7),.int .i64 (d.shape 8),.slice ao1 d.groups.1 cap1,.slice ao2 d.on.1 cap2,.slice ao3 d.tapes.1 cap3,.int .i64 d.writes,.int .i64 d.stop,.bool d.down]) (T0.b1) Tryz.underlying38 size_W rfl ?_)
  refine (l5Asked_any d _ hi _ (layWorld.rd_below HRD.out T0.bel hhi) (Nat.le_trans hhi T0.bel.size) hsz).mono ?_;rintro e w1 ⟨x,rfl,hx,b1⟩;have HT1:Hid (Two w w1 #[.int .i64 (d.shape 0),.int .i64 (d.shape 1),.int .i64 (d.shape 2),.int .i64 (d.shape 3),.int .i64 (d.shape 4),.int .i64 (d.shape 5),.int .i64 (d.shape 6),.int .i64 (d.shape 7),.int .i64 (d.shape 8),.slice ao1 d.groups.1 cap1,.slice ao2 d.on.1 cap2,.slice ao3 d.tapes.1 cap3,.int .i64 d.writes,.int .i64 d.stop,.bool d.down] #[.int .i64 0,.slice none 0 0] 38 32):=T0.call b1;have HX:Hid (AskAns d x):=hx;have z1:w.heap.size + 1 < w1.heap.size:=HT1.out.b2.lt;clear b1 T0 hx
  by_cases hx0:x = 0
  case neg =>
    have hne:(x != 0) = true:=by simp [hx0]
    have HC:Hid (OldC d g r n x):=.inl ⟨hx0,HX.out⟩
    go_wp2_with (refine wp_storeBox 32 _ _ rfl rfl (w.heap.size + 1) rfl (cs:=[.int .i64 x,.slice none 0 0]) (old:=[.int .i64 0,.slice none 0 0]) rfl (HT1.out.b2) size_Yr rfl rfl ((ycode_own w1 x (old_small HC.out) 0 0 (Nat.zero_le _)).one) ?_;intro w9 X9 C9 z9)
    refine ret_box Tryz.results5 rfl X9 Tryz.underlying32 size_Yr rfl rfl ?_;have zz:=C9.size;exact ⟨_,_,rfl,.inl ⟨x,hx0,HC.out,rfl⟩,ycode_own w9 x (old_small HC.out) _ _ (Nat.le_refl _),HT1.out.bel.trans (C9.bel (fun b hb => by simp at hb;omega) HT1.out.bel.size)⟩
  subst hx0;have HOK:Hid (OkWorld d):=ask_ok HX.out;have HTD:Hid (Two w w1.drew #[.int .i64 (d.shape 0),.int .i64 (d.shape 1),.int .i64 (d.shape 2),.int .i64 (d.shape 3),.int .i64 (d.shape 4),.int .i64 (d.shape 5),.int .i64 (d.shape 6),.int .i64 (d.shape 7),.int .i64 (d.shape 8),.slice ao1 d.groups.1 cap1,.slice ao2 d.on.1 cap2,.slice ao3 d.tapes.1 cap3,.int .i64 d.writes,.int .i64 d.stop,.bool d.down] #[.int .i64 0,.slice none 0 0] 38 32):=HT1.out.call ⟨rfl,rfl,rfl,Nat.le_refl _,fun _ _ => rfl⟩;obtain ⟨D,hD⟩:∃ D,D = w1.drew:=⟨_,rfl⟩;have HD:Hid (D = w1.drew):=hD;rw [← hD] at HTD
  have zD:D.heap.size = w1.heap.size:=by rw [hD];rfl
  have rW:D.rangeAt w.heap.size 0 [.int .i64 (d.shape 0),.int .i64 (d.shape 1),.int .i64 (d.shape 2),.int .i64 (d.shape 3),.int .i64 (d.shape 4),.int .i64 (d.shape 5),.int .i64 (d.shape 6),.int .i64 (d.shape 7),.int .i64 (d.shape 8),.slice ao1 d.groups.1 cap1,.slice ao2 d.on.1 cap2,.slice ao3 d.tapes.1 cap3,.int .i64 d.writes,.int .i64 d.stop,.bool d.down]:=range_boxO (c:=[.int .i64 (d.shape 0),.int .i64 (d.shape 1),.int .i64 (d.shape 2),.int .i64 (d.shape 3),.int .i64 (d.shape 4),.int .i64 (d.shape 5),.int .i64 (d.shape 6),.int .i64 (d.shape 7),.int .i64 (d.shape 8),.slice ao1 d.groups.1 cap1,.slice ao2 d.on.1 cap2,.slice ao3 d.tapes.1 cap3,.int .i64 d.writes,.int .i64 d.stop,.bool d.down]) HTD.out.b1;have rS:D.rangeAt w.heap.size 0 [.int .i64 (d.shape 0),.int .i64 (d.shape 1),.int .i64 (d.shape 2),.int .i64 (d.shape 3),.int .i64 (d.shape 4),.int .i64 (d.shape 5),.int .i64 (d.shape 6),.int .i64 (d.shape 7),.int .i64 (d.shape 8)]:=range_nine (c:=[.int .i64 (d.shape 0),.int .i64 (d.shape 1),.int .i64 (d.shape 2),.int .i64 (d.shape 3),.int .i64 (d.shape 4),.int .i64 (d.shape 5),.int .i64 (d.shape 6),.int .i64 (d.shape 7),.int .i64 (d.shape 8),.slice ao1 d.groups.1 cap1,.slice ao2 d.on.1 cap2,.slice ao3 d.tapes.1 cap3,.int .i64 d.writes,.int .i64 d.stop,.bool d.down]) HTD.out.b1 9;have CA0:=l5All_any d.shape HOK.out.shape D;unfold shapeV at CA0
  have zw:IntKind.i64.wrap (d.shape 0 + d.shape 1 - 1) = d.shape 0 + d.shape 1 - 1:=by have:=okB HOK.out.shape;rw [IntKind.wrap_i64];omega
  obtain ⟨cW,hcW⟩:∃ c:List Value,c = [.int .i64 (d.shape 0),.int .i64 (d.shape 1),.int .i64 (d.shape 2),.int .i64 (d.shape 3),.int .i64 (d.shape 4),.int .i64 (d.shape 5),.int .i64 (d.shape 6),.int .i64 (d.shape 7),.int .i64 (d.shape 8),.slice ao1 d.groups.1 cap1,.slice ao2 d.on.1 cap2,.slice ao3 d.tapes.1 cap3,.int .i64 d.writes,.int .i64 d.stop,.bool d.down]:=⟨_,rfl⟩;obtain ⟨cS,hcS⟩:∃ c:List Value,c = [.int .i64 (d.shape 0),.int .i64 (d.shape 1),.int .i64 (d.shape 2),.int .i64 (d.shape 3),.int .i64 (d.shape 4),.int .i64 (d.shape 5),.int .i64 (d.shape 6),.int .i64 (d.shape 7),.int .i64 (d.shape 8)]:=⟨_,rfl⟩
  have hlW:cW.length = 15:=by rw [hcW];rfl
  have hlS:cS.length = 9:=by rw [hcS];rfl
  have HRW:Hid (∀ w',Box w' w.heap.size #[.int .i64 (d.shape 0),.int .i64 (d.shape 1),.int .i64 (d.shape 2),.int .i64 (d.shape 3),.int .i64 (d.shape 4),.int .i64 (d.shape 5),.int .i64 (d.shape 6),.int .i64 (d.shape 7),.int .i64 (d.shape 8),.slice ao1 d.groups.1 cap1,.slice ao2 d.on.1 cap2,.slice ao3 d.tapes.1 cap3,.int .i64 d.writes,.int .i64 d.stop,.bool d.down] 38 → w'.rangeAt w.heap.size 0 cW ∧ w'.rangeAt w.heap.size 0 cS):=fun w' hb => by rw [hcW,hcS];exact ⟨range_boxO (c:=[.int .i64 (d.shape 0),.int .i64 (d.shape 1),.int .i64 (d.shape 2),.int .i64 (d.shape 3),.int .i64 (d.shape 4),.int .i64 (d.shape 5),.int .i64 (d.shape 6),.int .i64 (d.shape 7),.int .i64 (d.shape 8),.slice ao1 d.groups.1 cap1,.slice ao2 d.on.1 cap2,.slice ao3 d.tapes.1 cap3,.int .i64 d.writes,.int .i64 d.stop,.bool d.down]) hb,range_nine (c:=[.int .i64 (d.shape 0),.int .i64 (d.shape 1),.int .i64 (d.shape 2),.int .i64 (d.shape 3),.int .i64 (d.shape 4),.int .i64 (d.shape 5),.int .i64 (d.shape 6),.int .i64 (d.shape 7),.int .i64 (d.shape 8),.slice ao1 d.groups.1 cap1,.slice ao2 d.on.1 cap2,.slice ao3 d.tapes.1 cap3,.int .i64 d.writes,.int .i64 d.stop,.bool d.down]) hb 9⟩
  have CA:Calls Tryz.prog 21 #[.agg cS.toArray] D fun e w' => e = .returned (.int .i64 (d.shape 0 + d.shape 1)) ∧ Below D.heap.size D w':=by rw [hcS];exact CA0
  have HCW:Hid (cW = [.int .i64 (d.shape 0),.int .i64 (d.shape 1),.int .i64 (d.shape 2),.int .i64 (d.shape 3),.int .i64 (d.shape 4),.int .i64 (d.shape 5),.int .i64 (d.shape 6),.int .i64 (d.shape 7),.int .i64 (d.shape 8),.slice ao1 d.groups.1 cap1,.slice ao2 d.on.1 cap2,.slice ao3 d.tapes.1 cap3,.int .i64 d.writes,.int .i64 d.stop,.bool d.down]):=hcW;clear hD CA0 rW rS hcW hcS HT1
  go_upto_region 4 with fail
  refine wp_region_M 8 (fun w' => w'.rangeAt w.heap.size 0 cW ∧ w'.rangeAt w.heap.size 0 cS) mixedOl (by rw [← HD.out];exact HRW.out _ HTD.out.b1) (fun hHeld => ?_);rw [← HD.out] at hHeld ⊢;refine wpAnyM_take (i:=0) (oi:=_) (v:=.agg cW.toArray) 16 rfl (by kernel_rfl) (fun _ _ _ h => h) (yieldsIf_load_mid (by kernel_rfl) 38 (.tmp 4) rfl w.heap.size (0) (by simp [Act.eval,Act.put]) cW _ (fun w h => h.1) Tryz.underlying38 rfl (info_Wl hlW)) (by assumption) ?_
  try simp only [Act.put,SL]
  refine wpAnyM_pure (i:=1) (oi:=_) (v:=?_) rfl (by kernel_rfl) (fun _ _ _ h => h) (Or.inl ⟨by kernel_rfl,?_⟩) (by assumption) ?_
  rotate_left
  · intro w' hSw;go_simp;try with_reducible rfl
  try simp only [Act.put,SL]
  refine wpAnyM_pure (i:=2) (oi:=_) (v:=?_) rfl (by kernel_rfl) (fun _ _ _ h => h) (Or.inl ⟨by kernel_rfl,?_⟩) (by assumption) ?_
  rotate_left
  · intro w' hSw;go_simp;try with_reducible rfl
  try simp only [Act.put,SL]
  refine wpAnyM_pure (i:=3) (oi:=_) (v:=?_) rfl (by kernel_rfl) (fun _ _ _ h => h) (Or.inl ⟨by kernel_rfl,?_⟩) (by assumption) ?_
  rotate_left
  · intro w' hSw;go_simp;try with_reducible rfl
  try simp only [Act.put,SL]
  refine wpAnyM_pure (i:=4) (oi:=_) (v:=?_) rfl (by kernel_rfl) (fun _ _ _ h => h) (Or.inl ⟨by kernel_rfl,?_⟩) (by assumption) ?_
  rotate_left
  · intro w' hSw;go_simp;try with_reducible rfl
  try simp only [Act.put,SL]
  refine wpAnyM_take (i:=5) (oi:=_) (v:=.agg cS.toArray) 16 rfl (by kernel_rfl) (fun _ _ _ h => h) (yieldsIf_load_mid (by kernel_rfl) 34 (.tmp 21) rfl w.heap.size (0) (by simp [Act.eval,Act.put]) cS _ (fun w h => h.2) Tryz.underlying34 rfl (info_Sl hlS)) (by assumption) ?_
  try simp only [Act.put,SL]
  refine wpAnyM_oneO (i:=6) (o:=_) rfl (by kernel_rfl) (fun KC hKC => ?_);refine step_callv (by kernel_rfl) (.func 21) 21 #[] _ _ rfl (by simp [Act.eval,Act.put]) #[.agg cS.toArray] (by simp [Act.eval,Act.put]) Tryz.func21 (by kernel_rfl) (by kernel_rfl) (calls_appO (CA)) ?_;rintro e w2 ⟨rfl,b2⟩;refine ⟨_,rfl,?_⟩;have HT2:Hid (Two w w2 #[.int .i64 (d.shape 0),.int .i64 (d.shape 1),.int .i64 (d.shape 2),.int .i64 (d.shape 3),.int .i64 (d.shape 4),.int .i64 (d.shape 5),.int .i64 (d.shape 6),.int .i64 (d.shape 7),.int .i64 (d.shape 8),.slice ao1 d.groups.1 cap1,.slice ao2 d.on.1 cap2,.slice ao3 d.tapes.1 cap3,.int .i64 d.writes,.int .i64 d.stop,.bool d.down] #[.int .i64 0,.slice none 0 0] 38 32):=HTD.out.call b2;have hHeld2:=HRW.out _ HT2.out.b1;refine hKC _ _ (HRW.out _ HT2.out.b1) ?_;clear hKC KC
  try simp only [Act.put,SL]
  refine wpAnyM_pure (i:=7) (oi:=_) (v:=?_) rfl (by kernel_rfl) (fun _ _ _ h => h) (Or.inl ⟨by kernel_rfl,?_⟩) (by assumption) ?_
  rotate_left
  · intro w' hSw;go_simp;try with_reducible rfl
  try simp only [Act.put,SL]
  have z2:=b2.size;have CR:=l9Row_any d g r n cap ao [.int .i64 (d.shape 0),.int .i64 (d.shape 1),.int .i64 (d.shape 2),.int .i64 (d.shape 3),.int .i64 (d.shape 4),.int .i64 (d.shape 5),.int .i64 (d.shape 6),.int .i64 (d.shape 7),.int .i64 (d.shape 8),.slice ao1 d.groups.1 cap1,.slice ao2 d.on.1 cap2,.slice ao3 d.tapes.1 cap3,.int .i64 d.writes,.int .i64 d.stop,.bool d.down] hi w2 (layWorld.rd_below HRD.out HT2.out.bel hhi) (Nat.le_trans hhi HT2.out.bel.size) hsz hn;rw [← HCW.out] at CR;clear b2;refine wpAnyM_one (i:=8) (o:=_) rfl (by kernel_rfl) (by kernel_rfl) (fun KC hKC => ?_);refine step_callv (by kernel_rfl) (.func 20) 20 #[] _ _ rfl (by simp [Act.eval,Act.put]) #[.agg cW.toArray,.int .i64 g,.int .i64 r,.slice ao n cap,.int .i64 (d.shape 0 + d.shape 1 - 1)] (by simp [Act.eval,Act.put]) Tryz.func20 (by kernel_rfl) (by kernel_rfl) (calls_appO (CR)) ?_;rintro e w3 ⟨x,rfl,hx,b3⟩;refine ⟨_,rfl,?_⟩;have HT3:Hid (Two w w3 #[.int .i64 (d.shape 0),.int .i64 (d.shape 1),.int .i64 (d.shape 2),.int .i64 (d.shape 3),.int .i64 (d.shape 4),.int .i64 (d.shape 5),.int .i64 (d.shape 6),.int .i64 (d.shape 7),.int .i64 (d.shape 8),.slice ao1 d.groups.1 cap1,.slice ao2 d.on.1 cap2,.slice ao3 d.tapes.1 cap3,.int .i64 d.writes,.int .i64 d.stop,.bool d.down] #[.int .i64 0,.slice none 0 0] 38 32):=HT2.out.call b3;refine hKC _ _ ?_;clear hKC KC
  try simp only [Act.put,SL]
  refine wpAnyM_pureL (i:=9) (oi:=_) (v:=?_) rfl (by kernel_rfl) (fun _ _ _ h => h) (Or.inl ⟨by kernel_rfl,?_⟩) ?_
  rotate_left
  · intro w' hSw;go_simp;try with_reducible rfl
  try simp only [Act.put,SL]
  refine wpAnyM_done (by kernel_rfl) ?_ _;have z3:=b3.size;have HC:Hid (OldC d g r n x):=hx;have z3':w.heap.size + 1 < w3.heap.size:=HT3.out.b2.lt;clear hx b3 CR HT2 HTD hHeld hHeld2 CA
  by_cases hx0:x = 0
  case neg =>
    have hne:(x != 0) = true:=by simp [hx0]
    go_wp2_with (refine wp_storeBox 32 _ _ rfl rfl (w.heap.size + 1) rfl (cs:=[.int .i64 x,.slice none 0 0]) (old:=[.int .i64 0,.slice none 0 0]) rfl (HT3.out.b2) size_Yr rfl rfl ((ycode_own w3 x (old_small HC.out) 0 0 (Nat.zero_le _)).one) ?_;intro w9 X9 C9 z9)
    refine ret_box Tryz.results5 rfl X9 Tryz.underlying32 size_Yr rfl rfl ?_;have zz:=C9.size;exact ⟨_,_,rfl,.inl ⟨x,hx0,HC.out,rfl⟩,ycode_own w9 x (old_small HC.out) _ _ (Nat.le_refl _),HT3.out.bel.trans (C9.bel (fun b hb => by simp at hb;omega) HT3.out.bel.size)⟩
  subst hx0;obtain ⟨_,hwp,hnn,hnd⟩:=old_zero HC.out;obtain ⟨G,R,rfl,rfl,hG,hR⟩:=wh_at HOK.out hwp
  have hN:4 * (d.shape 2).toNat = n:=by have:=okB HOK.out.shape;omega
  have hN4:n ≤ 4000:=by
    obtain ⟨s1,s2,_⟩:=HOK.out.shape;unfold Shp at s2;omega
  have HN:Hid (4 * (d.shape 2).toNat = n):=hN;have CO:=l9Old_any d G R n cap ao f [.int .i64 (d.shape 0),.int .i64 (d.shape 1),.int .i64 (d.shape 2),.int .i64 (d.shape 3),.int .i64 (d.shape 4),.int .i64 (d.shape 5),.int .i64 (d.shape 6),.int .i64 (d.shape 7),.int .i64 (d.shape 8),.slice ao1 d.groups.1 cap1,.slice ao2 d.on.1 cap2,.slice ao3 d.tapes.1 cap3,.int .i64 d.writes,.int .i64 d.stop,.bool d.down] hi h2 w.heap.size w3 (layWorld.rd_below HRD.out HT3.out.bel hhi) (Nat.le_trans hhi HT3.out.bel.size) HT3.out.b1 (HRB.out.below HT3.out.bel hh2) HKF.out (by omega) HOK.out hG hR hnd hN hN4;clear hwp hnn hnd hR hN
  go_wp2_with fail
  refine CO.mono ?_;rintro e w5 ⟨v5,rfl,o5,b5⟩;obtain ⟨ao5,cap5,rfl⟩:=o5.slice;have HT5:Hid (Two w w5 #[.int .i64 (d.shape 0),.int .i64 (d.shape 1),.int .i64 (d.shape 2),.int .i64 (d.shape 3),.int .i64 (d.shape 4),.int .i64 (d.shape 5),.int .i64 (d.shape 6),.int .i64 (d.shape 7),.int .i64 (d.shape 8),.slice ao1 d.groups.1 cap1,.slice ao2 d.on.1 cap2,.slice ao3 d.tapes.1 cap3,.int .i64 d.writes,.int .i64 d.stop,.bool d.down] #[.int .i64 0,.slice none 0 0] 38 32):=HT3.out.call b5;have z5:=b5.size;have OO:=yres_own o5 (Nat.le_refl _) (fun i => Nat.xor_lt_two_pow (n:=8) (rowB_lt9 d G R i) (HKF.out i)) 0 (by decide);clear CO o5 b5 HT3
  go_wp2_with (refine wp_storeBox 32 _ _ rfl rfl (w.heap.size + 1) rfl (cs:=[.int .i64 0,.slice ao5 n cap5]) (old:=[.int .i64 0,.slice none 0 0]) rfl (HT5.out.b2) size_Yr rfl rfl (OO.one) ?_;intro w9 X9 C9 z9)
  refine ret_box Tryz.results5 rfl X9 Tryz.underlying32 size_Yr rfl rfl ?_;have zz:=C9.size;refine ⟨⟨0,(n,fun i => rowB d G R i ^^^ f i)⟩,_,rfl,.inr ⟨HC.out,?_⟩,(OO.chgk C9 (fun b hb => by simp at hb;omega)).weaken (by omega) zz,HT5.out.bel.trans (C9.bel (fun b hb => by simp at hb;omega) HT5.out.bel.size)⟩
  show (⟨0,(n,fun i => rowB d G R i ^^^ f i)⟩:BytesResultD) = ⟨0,(4 * (d.shape 2).toNat,fun i => rowB d (G:Int).toNat (R:Int).toNat i ^^^ f i)⟩
  rw [HN.out];rfl
end Go.Proofs.YtaldlfoochmfcaaGreat
namespace Go.Proofs.YtaldlfoochmfcaaGreat
open Go.RowKit F256
theorem ask_ex (d:WorldD):∃ x,AskAns d x:=by
  obtain ⟨x,hx⟩:=world_ex d
  by_cases h:x = 0
  · subst h
    cases hd:d.down with
    | true => exact ⟨9,.inr ⟨hx,.inl ⟨hd,rfl⟩⟩⟩
    | false => exact ⟨0,.inr ⟨hx,.inr ⟨hd,rfl⟩⟩⟩
  · exact ⟨x,.inl ⟨h,hx⟩⟩
end Go.Proofs.YtaldlfoochmfcaaGreat
namespace Go.Proofs.YtaldlfoochmfcaaGreat
open Go.RowKit
section
variable {ops:Array Oper} {Q:Exit → Act → World → Prop} {md:Region.Mode} {S:World → Prop} {L:Nat}
theorem load_yield {o:Oper} {a:Act} (T:TypeId) (x:Operand) (ho:o.op = .load T x) (hg:o.guard = none) (b:Nat) (hx:a.eval x = .pointer (some ⟨b,0,none⟩)) {cs:List Value} (hB:∀ w,S w → Box w b cs.toArray T) {fs:Array Field} (hu:Tryz.prog.underlying T = some (.struct fs)) {n:Nat} (hi:(Tryz.prog.info? T).map (·.size) = some n) (hl:cs.length = n):YieldsIf Tryz.prog ops S o (.agg cs.toArray) a:=by
  refine .inl ⟨by simp [Region.wanted,hg],fun w hS => ?_⟩;unfold execOp
  simp only [ho,hx,Instr.loadAt,Instr.sureAddr,Sem.run_bind,Sem.run_pure,Result.andThen_ok,run_loadVar_row w b T T cs.toArray (0,0) (.struct fs) (hB w hS) hu rfl (by rw [hi];simp [hl])]
end
theorem below_drew (w:World):Below w.heap.size w w.drew:=⟨rfl,rfl,rfl,Nat.le_refl _,fun _ _ => rfl⟩
end Go.Proofs.YtaldlfoochmfcaaGreat
namespace Go.Proofs.YtaldlfoochmfcaaGreat
open Go.RowKit F256
set_option maxHeartbeats 8000000 in
set_option maxRecDepth 20000 in
theorem eqBytesResult_is:EqV layBytesResult 9:=fun c1 c2 d h1 h2 w r1 r2 u1 u2 => by
  obtain ⟨ao1,cap1,rfl,g1,-⟩:=BytesResult_rd r1;obtain ⟨bao1,bcap1,rfl,q1,-⟩:=BytesResult_rd r2;clear r1 r2;have G1:Hid (layBytes.rd w h1 d.bytes [.slice ao1 d.bytes.1 cap1]):=g1;have E1:Hid (layBytes.rd w h2 d.bytes [.slice bao1 d.bytes.1 bcap1]):=q1;clear g1 q1
  go_enter Tryz.func9,Tryz.ntmps9
  go_wp2_with fail
  have T0:=two_newb w #[.int .i64 d.code,.slice ao1 d.bytes.1 cap1] #[.int .i64 d.code,.slice bao1 d.bytes.1 bcap1] 32 32;refine (eqBytes_is _ _ d.bytes h1 h2 _ (layBytes.rd_below G1.out T0.bel u1) (layBytes.rd_below E1.out T0.bel u2) (Nat.le_trans u1 T0.bel.size) (Nat.le_trans u2 T0.bel.size)).mono ?_;rintro e w1 ⟨rfl,b1⟩;have T1:Two w w1 #[.int .i64 d.code,.slice ao1 d.bytes.1 cap1] #[.int .i64 d.code,.slice bao1 d.bytes.1 bcap1] 32 32:=T0.call b1;clear T0 b1;have B:Hid (Below w.heap.size w w1):=T1.bel;clear T1;go_wp2;go_ret;exact ⟨rfl,B.out⟩
end Go.Proofs.YtaldlfoochmfcaaGreat
namespace Go.Proofs.YtaldlfoochmfcaaGreat
open Go.RowKit F256
set_option maxHeartbeats 4000000 in
theorem markBytesResult_is:MkV layBytesResult cvBytesResultD mkvBytesResultD 14:=fun cs d L j w h nd hj => by
  obtain ⟨ao1,cap1,K1,rfl,hLL,o1,k0⟩:=BytesResult_own h;clear h;have hLM:=hLL.symm;subst hLM;unfold cvBytesResultD at hj ⊢;have Z1:=layBytes.own_lt o1;have bz:Below w.heap.size w (w.alloc (.cells #[.int .i64 d.code,.slice ao1 d.bytes.1 cap1] 32)):=(Below.refl _ _).alloc (Nat.le_refl _) _;have B0:Hid (Box (w.alloc (.cells #[.int .i64 d.code,.slice ao1 d.bytes.1 cap1] 32)) w.heap.size #[.int .i64 d.code,.slice ao1 d.bytes.1 cap1] 32):=box_new _ _ _;have CH0:Hid (ChgL (K1) w (w.alloc (.cells #[.int .i64 d.code,.slice ao1 d.bytes.1 cap1] 32))):=ChgL.of_below bz;have O0_1:Hid (layBytes.own (w.alloc (.cells #[.int .i64 d.code,.slice ao1 d.bytes.1 cap1] 32)) d.bytes [.slice ao1 d.bytes.1 cap1] K1):=layBytes.own_kept o1 (fun b hb => bz.block b (Z1 b hb));clear bz o1
  go_enter Tryz.func14,Tryz.ntmps14
  go_wp2_with fail
  refine (markBytes_is _ d.bytes K1 (j) _ O0_1.out nd (by omega)).mono ?_;rintro e w1 ⟨rfl,p1,q1⟩;have O1_1:Hid (layBytes.own w1 (mkBytes (j) d.bytes) [.slice ao1 d.bytes.1 cap1] K1):=p1;have B1:Hid (Box w1 w.heap.size #[.int .i64 d.code,.slice ao1 d.bytes.1 cap1] 32):=(q1.block w.heap.size B0.out.lt (fun hb => by have:=Z1 _ hb;omega)).trans B0.out;have CH1:Hid (ChgL (K1) w w1):=CH0.out.sub q1 (fun b hb => hb);clear p1 q1;go_wp2;go_ret;exact ⟨ret_eq (by omega),BytesResult_mk (mkvBytesResultD j d) O1_1.out k0,CH1.out⟩
end Go.Proofs.YtaldlfoochmfcaaGreat
namespace Go.Proofs.YtaldlfoochmfcaaGreat
open Go.RowKit F256
set_option maxHeartbeats 4000000 in
theorem heldBytesResult_is:HdV layBytesResult cvBytesResultD mkvBytesResultD 15:=fun cs d hi j w h hhi hj => by
  obtain ⟨ao1,cap1,rfl,r1,-⟩:=BytesResult_rd h;clear h;unfold cvBytesResultD at hj ⊢;have R1:Hid (layBytes.rd w hi (mkBytes (j) d.bytes) [.slice ao1 d.bytes.1 cap1]):=r1;clear r1
  change Calls Tryz.prog 15 #[.agg #[.int .i64 d.code,.slice ao1 d.bytes.1 cap1],.int .i64 j] w _
  go_enter Tryz.func15,Tryz.ntmps15
  go_wp2_with fail
  have T0:=one_new w #[.int .i64 d.code,.slice ao1 d.bytes.1 cap1] 32;refine (heldBytes_is _ d.bytes hi (j) _ (layBytes.rd_below R1.out T0.bel hhi) (Nat.le_trans hhi T0.bel.size) (by omega)).mono ?_;rintro e w1 ⟨rfl,b1⟩;have T1:One w w1 #[.int .i64 d.code,.slice ao1 d.bytes.1 cap1] 32:=T0.call b1
  have hz1:¬ (((j + lenD d.bytes:Nat):Int) < 0):=by omega
  have HB:Hid (Below w.heap.size w w1):=T1.bel;clear b1 T1;go_wp2;go_ret;exact ⟨ret_eq (by omega),HB.out⟩
end Go.Proofs.YtaldlfoochmfcaaGreat