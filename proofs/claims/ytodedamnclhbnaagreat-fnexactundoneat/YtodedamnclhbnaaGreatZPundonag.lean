/- A region that draws its order and ends with two stores into what it has read: loads are taken first, whatever comes up; the condition on the world need not hold from the first of these stores on, since that one waits for all that is taken first. -/
import Derived.Test.YtodedamnclhbnaaGreatZPundonaf
import Derived.Deep.MidRow
import Derived.Test.YtodedamnclhbnaaGreatZPundonac
import Derived.Laws.CopyOwn
import Derived.Maps.AppendAt
import Derived.Test.YtodedamnclhbnaaGreatZPundonaa
import Derived.Test.YtodedamnclhbnaaGreatZPundonab
import Derived.StillTailTactics
import Derived.Deep.DeepCutAuto
import Derived.Test.YtodedamnclhbnaaGreatProg
set_option linter.unusedVariables false
set_option linter.unusedSimpArgs false
namespace Go.Proofs.YtodedamnclhbnaaGreat
open Go.RowKit
theorem SL {α : Type} : (∀ (l : List α) (i : Nat) (v : α), l.toArray.setIfInBounds i v = (l.set i v).toArray) ∧ (∀ (a : α) (l : List α) (b : α), (a :: l).set 0 b = b :: l) ∧ (∀ (a : α) (l : List α) (n : Nat) (b : α), (a :: l).set (n + 1) b = a :: l.set n b) ∧ (∀ (l : List α) (i : Nat) (h : i < l.toArray.size), l.toArray[i] = l[i]'(by simpa using h)) ∧ (∀ (a : α) (l : List α) (n : Nat) (h : n + 1 < (a :: l).length), (a :: l)[n + 1] = l[n]'(by simpa using h)) ∧ ∀ (a : α) (l : List α) (h : 0 < (a :: l).length), (a :: l)[0] = a := ⟨fun _ _ _ => List.setIfInBounds_toArray .., fun _ _ _ => rfl, fun _ _ _ _ => rfl, fun _ _ _ => rfl, fun _ _ _ _ => rfl, fun _ _ _ => rfl⟩
section
variable {P:Program} {ops:Array Oper} {Q:Exit → Act → World → Prop} {md:Region.Mode} {S:World → Prop} {L:Nat}
def wpAnyM (P:Program) (md:Region.Mode) (ops:Array Oper) (Q:Exit → Act → World → Prop) (S:World → Prop) (L:Nat):Nat → Array Bool → Act → World → Prop
  | 0,listed,a,w => Region.ready md ops listed = [] ∧ Q .normal a w
  | fuel + 1,listed,a,w =>
    (Region.ready md ops listed = [] → Q .normal a w) ∧
    ∀ i ∈ Region.ready md ops listed,wpOp P ops Q i (fun a' w' => ((listed.setIfInBounds i true).getD L false = false → S w') ∧ wpAnyM P md ops Q S L fuel (listed.setIfInBounds i true) a' w') a w
theorem wpAny_of_M:∀ (fuel:Nat) (listed:Array Bool) (a:Act) (w:World),wpAnyM P md ops Q S L fuel listed a w → wpAny P md ops Q fuel listed a w
  | 0,_,_,_,h => h
  | fuel + 1,_,_,_,h => ⟨h.1,fun i hi => wpOp_mono (fun a' w' h' => wpAny_of_M fuel _ a' w' h'.2) (h.2 i hi)⟩
theorem wpAnyM_first {i:Nat} {oi:Oper} {v:Value} (hi:ops[i]? = some oi) (hsel:∀ (j:Nat) (o:Oper) cs b,ops[j]? = some o → o.op ≠ .select cs b)
    (hQ:∀ c a w,Q (.panic c) (a.put oi.dst v) w → Q (.panic c) a w) (hLi:L ≠ i) {n:Nat} (hd:depB md ops n L i = true) :
    ∀ (fuel:Nat) (listed:Array Bool) (a:Act) (w:World),ClosedP md ops listed →
      (∀ j oj,ops[j]? = some oj → j ≠ i → listed.getD j true = false → (∀ e ∈ oj.after,Region.binds md e = true → e.on ≠ i) → oi.apart ops oj = true) →
      i ∈ Region.ready md ops listed → YieldsIf P ops S oi v a → S w →
      wpAnyM P md ops Q S L fuel (listed.setIfInBounds i true) (a.put oi.dst v) w → wpAnyM P md ops Q S L (fuel + 1) listed a w:=by
  intro fuel
  induction fuel with
  | zero =>
    intro listed a w _ _ hr hy hS H;refine ⟨fun h => (by rw [h] at hr;cases hr),fun j hj => ?_⟩
    by_cases hji:j = i
    · subst hji;exact hy.wpOp hi hS ⟨fun _ => hS,H⟩
    · have:=ready_mono hj hji
      rw [H.1] at this
      cases this
  | succ fuel ih =>
    intro listed a w hcl hfree hr hy hS H;refine ⟨fun h => (by rw [h] at hr;cases hr),fun j hj => ?_⟩
    by_cases hji:j = i
    · subst hji;exact hy.wpOp hi hS ⟨fun _ => hS,H⟩
    · have hjL:j ≠ L:=fun h => by
        subst h;exact dep_waits hcl hLi hd (unlisted_false (mem_ready.1 hr).1) hj
      have h1:=H.2 j (ready_mono hj hji);obtain ⟨hjun,oj,hoj,hall⟩:=mem_ready.1 hj
      have hnot:∀ e ∈ oj.after,Region.binds md e = true → e.on ≠ i:=fun e he hb heq => by
        have h1:=hall e he hb;have h0:=unlisted_false (mem_ready.1 hr).1;rw [heq,h0] at h1
        cases h1
      have h2:=wpOp_putIf hoj (hfree j oj hoj hji hjun hnot) (fun cs b => hsel i oi cs b hi) (fun cs b => hsel j oj cs b hoj) hQ hy h1
      have hfree':∀ k ok,ops[k]? = some ok → k ≠ i → (listed.setIfInBounds j true).getD k true = false →
          (∀ e ∈ ok.after,Region.binds md e = true → e.on ≠ i) → oi.apart ops ok = true:=fun k ok hk hki hun hno => by
        refine hfree k ok hk hki ?_ hno
        by_cases hjk:j = k
        · subst hjk;exact hjun
        · rw [getD_set_ne true hjk] at hun;exact hun
      have hLn:(listed.setIfInBounds j true).getD L false = false:=by
        rw [getD_set_ne false hjL]
        cases hg:listed.getD L false with
        | false => rfl
        | true => have:=dep_listed hcl n L i hd hg;rw [unlisted_false (mem_ready.1 hr).1] at this;cases this
      have hLn2:((listed.setIfInBounds i true).setIfInBounds j true).getD L false = false:=by
        rw [← Array.setIfInBounds_comm _ _ hji,getD_set_ne false (Ne.symm hLi)];exact hLn
      refine wpOp_mono (fun a' w' h3 => ⟨fun _ => h3.2.1 hLn2,ih (listed.setIfInBounds j true) a' w' (closed_step hcl hj) hfree' (ready_mono hr (Ne.symm hji)) h3.1 (h3.2.1 hLn2) ?_⟩) h2;rw [Array.setIfInBounds_comm _ _ hji];exact h3.2.2
theorem wpAnyM_pure0 {i:Nat} {oi:Oper} {v:Value} (hi:ops[i]? = some oi) (hsel:∀ (j:Nat) (o:Oper) cs b,ops[j]? = some o → o.op ≠ .select cs b)
    (hQ:∀ c a w,Q (.panic c) (a.put oi.dst v) w → Q (.panic c) a w) (hLi:L ≠ i) :
    ∀ (fuel:Nat) (listed:Array Bool) (a:Act) (w:World),ClosedP md ops listed →
      (∀ j oj,ops[j]? = some oj → j ≠ i → listed.getD j true = false → (∀ e ∈ oj.after,Region.binds md e = true → e.on ≠ i) → oi.apart ops oj = true) →
      i ∈ Region.ready md ops listed → YieldsIf P ops (fun _ => True) oi v a → ((listed.setIfInBounds i true).getD L false = false → S w) →
      wpAnyM P md ops Q S L fuel (listed.setIfInBounds i true) (a.put oi.dst v) w → wpAnyM P md ops Q S L (fuel + 1) listed a w:=by
  intro fuel
  induction fuel with
  | zero =>
    intro listed a w _ _ hr hy hS H;refine ⟨fun h => (by rw [h] at hr;cases hr),fun j hj => ?_⟩
    by_cases hji:j = i
    · subst hji;exact hy.wpOp hi trivial ⟨hS,H⟩
    · have:=ready_mono hj hji
      rw [H.1] at this
      cases this
  | succ fuel ih =>
    intro listed a w hcl hfree hr hy hS H;refine ⟨fun h => (by rw [h] at hr;cases hr),fun j hj => ?_⟩
    by_cases hji:j = i
    · subst hji;exact hy.wpOp hi trivial ⟨hS,H⟩
    · skip
      have h1:=H.2 j (ready_mono hj hji);obtain ⟨hjun,oj,hoj,hall⟩:=mem_ready.1 hj
      have hnot:∀ e ∈ oj.after,Region.binds md e = true → e.on ≠ i:=fun e he hb heq => by
        have h1:=hall e he hb;have h0:=unlisted_false (mem_ready.1 hr).1;rw [heq,h0] at h1
        cases h1
      have h2:=wpOp_putIf hoj (hfree j oj hoj hji hjun hnot) (fun cs b => hsel i oi cs b hi) (fun cs b => hsel j oj cs b hoj) hQ hy h1
      have hfree':∀ k ok,ops[k]? = some ok → k ≠ i → (listed.setIfInBounds j true).getD k true = false →
          (∀ e ∈ ok.after,Region.binds md e = true → e.on ≠ i) → oi.apart ops ok = true:=fun k ok hk hki hun hno => by
        refine hfree k ok hk hki ?_ hno
        by_cases hjk:j = k
        · subst hjk;exact hjun
        · rw [getD_set_ne true hjk] at hun;exact hun
      refine wpOp_mono (fun a' w' h3 => ?_) h2;have hk:((listed.setIfInBounds j true).setIfInBounds i true).getD L false = false → S w':=fun hn => h3.2.1 (by rw [Array.setIfInBounds_comm _ _ (Ne.symm hji)];exact hn);refine ⟨fun hn => ?_,ih (listed.setIfInBounds j true) a' w' (closed_step hcl hj) hfree' (ready_mono hr (Ne.symm hji)) h3.1 hk ?_⟩
      · exact hk (by rw [getD_set_ne false (Ne.symm hLi)];exact hn)
      · rw [Array.setIfInBounds_comm _ _ hji]
        exact h3.2.2
theorem wpAnyM_pure {i:Nat} {oi:Oper} {v:Value} {fuel:Nat} {listed:Array Bool} {a:Act} {w:World} (hi:ops[i]? = some oi)
    (hs:(Region.noSelect ops && Region.free md ops listed i && (Region.ready md ops listed).contains i && !(L == i) && closedB md ops listed) = true)
    (hQ:∀ c a w,Q (.panic c) (a.put oi.dst v) w → Q (.panic c) a w) (hy:YieldsIf P ops (fun _ => True) oi v a) (hS:S w)
    (h:wpAnyM P md ops Q S L fuel (listed.setIfInBounds i true) (a.put oi.dst v) w):wpAnyM P md ops Q S L (fuel + 1) listed a w:=by
  simp only [Bool.and_eq_true,Bool.not_eq_true',beq_eq_false_iff_ne] at hs
  obtain ⟨⟨⟨⟨h1,h2⟩,h3⟩,h4⟩,h6⟩:=hs;exact wpAnyM_pure0 hi (Region.noSelect_spec h1) hQ h4 fuel listed a w (closed_of h6) (Region.free_spec hi h2) (by simpa using h3) hy (fun _ => hS) h
theorem wpAnyM_pureL {i:Nat} {oi:Oper} {v:Value} {fuel:Nat} {listed:Array Bool} {a:Act} {w:World} (hi:ops[i]? = some oi)
    (hs:(Region.noSelect ops && Region.free md ops listed i && (Region.ready md ops listed).contains i && !(L == i) && closedB md ops listed && listed.getD L false) = true)
    (hQ:∀ c a w,Q (.panic c) (a.put oi.dst v) w → Q (.panic c) a w) (hy:YieldsIf P ops (fun _ => True) oi v a)
    (h:wpAnyM P md ops Q S L fuel (listed.setIfInBounds i true) (a.put oi.dst v) w):wpAnyM P md ops Q S L (fuel + 1) listed a w:=by
  simp only [Bool.and_eq_true,Bool.not_eq_true',beq_eq_false_iff_ne] at hs
  obtain ⟨⟨⟨⟨⟨h1,h2⟩,h3⟩,h4⟩,h6⟩,h7⟩:=hs;exact wpAnyM_pure0 hi (Region.noSelect_spec h1) hQ h4 fuel listed a w (closed_of h6) (Region.free_spec hi h2) (by simpa using h3) hy (fun hn => by rw [getD_set_ne false (Ne.symm h4),h7] at hn;cases hn) h
theorem wpAnyM_take {i:Nat} {oi:Oper} {v:Value} {fuel:Nat} {listed:Array Bool} {a:Act} {w:World} (n:Nat) (hi:ops[i]? = some oi)
    (hs:(Region.noSelect ops && Region.free md ops listed i && (Region.ready md ops listed).contains i && !(L == i) && depB md ops n L i && closedB md ops listed) = true)
    (hQ:∀ c a w,Q (.panic c) (a.put oi.dst v) w → Q (.panic c) a w) (hy:YieldsIf P ops S oi v a) (hS:S w)
    (h:wpAnyM P md ops Q S L fuel (listed.setIfInBounds i true) (a.put oi.dst v) w):wpAnyM P md ops Q S L (fuel + 1) listed a w:=by
  simp only [Bool.and_eq_true,Bool.not_eq_true',beq_eq_false_iff_ne] at hs
  obtain ⟨⟨⟨⟨⟨h1,h2⟩,h3⟩,h4⟩,h5⟩,h6⟩:=hs;exact wpAnyM_first hi (Region.noSelect_spec h1) hQ h4 h5 fuel listed a w (closed_of h6) (Region.free_spec hi h2) (by simpa using h3) hy hS h
theorem wpAnyM_one {i:Nat} {o:Oper} {fuel:Nat} {listed:Array Bool} {a:Act} {w:World} (ho:ops[i]? = some o) (hr:Region.ready md ops listed = [i]) (hL:(listed.setIfInBounds i true).getD L false = true)
    (h:∀ K':Act → World → Prop,Shut (∀ a w,wpAnyM P md ops Q S L fuel (listed.setIfInBounds i true) a w → K' a w) → if Region.wanted o (yielded ops a.tmps) = true then Oper.wp P o a w K' Q else K' (a.put o.dst undef) w):wpAnyM P md ops Q S L (fuel + 1) listed a w:=by
  refine ⟨fun h0 => (by rw [hr] at h0;cases h0),fun j hj => ?_⟩;rw [hr] at hj
  obtain rfl:j = i:=by simpa using hj
  exact wpOp_step ho (fun K' hK => h K' (fun a w hW => hK a w ⟨fun hn => (by rw [hL] at hn;cases hn),hW⟩))
theorem wpAnyM_done {listed:Array Bool} {a:Act} {w:World} (hr:Region.ready md ops listed = []) (h:Q .normal a w):∀ fuel,wpAnyM P md ops Q S L fuel listed a w
  | 0 => ⟨hr,h⟩
  | _ + 1 => ⟨fun _ => h,by rw [hr];simp⟩
theorem wp_region_M {id:Nat} {a:Act} {w:World} (L:Nat) (S:World → Prop) (hm:P.follows .mixedOrders = true) (hS:S w.drew)
    (h:S w.drew → wpAnyM P .any ops Q S L ops.size (Array.replicate ops.size false) a w.drew):(Code.region id ops true).wp P Q a w :=
  wp_region_any hm (wpAny_of_M _ _ _ _ (h hS))
theorem wpAnyM_store {i:Nat} {o:Oper} {fuel:Nat} {listed:Array Bool} {a:Act} {w:World} (ho:ops[i]? = some o) (hr:Region.ready md ops listed = [i]) (hL:(listed.setIfInBounds i true).getD L false = true) (hg:o.guard = none) (hd:o.dst = none) (T:TypeId) (x y:Operand) (hop:o.op = .store T x y)
    (b off:Nat) (cells:List Value) (hx:a.eval x = .pointer (some ⟨b,off,none⟩)) (hy:a.eval y = .agg cells.toArray) (ht:w.there b off cells.length) (hi:(P.info? T).map (·.size) = some cells.length) (h1:∀ v,v ∈ cells → v.oneCell' = true)
    (h:wpAnyM P md ops Q S L fuel (listed.setIfInBounds i true) a (w.setCells b off cells)):wpAnyM P md ops Q S L (fuel + 1) listed a w:=by
  refine wpAnyM_one ho hr hL (fun KC hKC => ?_)
  have hw:Region.wanted o (yielded ops a.tmps) = true:=by simp [Region.wanted,hg]
  rw [if_pos hw];refine wp_store_mid T x y hop b off cells.toArray hx hy (by simpa using ht) (by simpa using hi) (by simpa using h1) ?_
  have e:a.put o.dst undef = a:=by rw [hd];rfl
  rw [e];exact hKC _ _ h
end
end Go.Proofs.YtodedamnclhbnaaGreat
namespace Go.Proofs.YtodedamnclhbnaaGreat
open Go.RowKit F256
theorem OwnI.full {w:World} {lo hi g n:Nat} {f:Nat → Int} (h:OwnI w lo hi (.slice (some ⟨g,0,none⟩) n n) n f):w.heap[g]? = some (.cells (intsOf n f).toArray 2 (0,0)):=by
  rcases h.1.2 with ⟨h',_⟩ | ⟨g',cap',cur,h',_,hg,_,_,hcs,htake⟩
  · simp at h'
  · simp only [Value.slice.injEq,Option.some.injEq,Addr.mk.injEq,and_true,true_and] at h'
    obtain ⟨rfl,rfl⟩:=h'
    have:cur = (intsOf n f).toArray:=by
      rw [← htake,List.take_of_length_le (by simp;omega)]
    rw [← this];exact hg
theorem ownI_of_full {w:World} {lo g n:Nat} {f:Nat → Int} (hg:w.heap[g]? = some (.cells (intsOf n f).toArray 2 (0,0))) (hlo:lo ≤ g) (hm:n ≤ maxLen):OwnI w lo w.heap.size (.slice (some ⟨g,0,none⟩) n n) n f :=
  ⟨⟨by rw [intsOf_length];omega,.inr ⟨g,n,_,rfl,hlo,hg,Nat.le_refl _,hm,by simp [intsOf_length],by simp [List.take_of_length_le,intsOf_length]⟩⟩,fun k hk => by
    simp [Value.ownBlock] at hk
    subst hk
    exact (Array.getElem?_eq_some_iff.1 hg).1⟩
theorem splice_ints (N off m:Nat) (f t h:Nat → Int) (hm:off + m ≤ N) (hh:∀ i,i < N → h i = if off ≤ i ∧ i < off + m then t (i - off) else f i):splice (intsOf N f) off (intsOf m t) = intsOf N h:=by
  unfold splice
  apply List.ext_getElem?
  intro i
  by_cases hi:i < N
  · rw [intsOf_get N h i hi,hh i hi]
    by_cases h1:i < off
    · have e1:¬ (off ≤ i ∧ i < off + m):=by omega
      rw [if_neg e1,List.getElem?_append_left (by rw [List.length_take,intsOf_length];omega),List.getElem?_take,if_pos h1,intsOf_get N f i hi]
    · rw [List.getElem?_append_right (by rw [List.length_take,intsOf_length];omega)]
      have e0:(List.take off (intsOf N f)).length = off:=by rw [List.length_take,intsOf_length];omega
      rw [e0]
      by_cases h2:i < off + m
      · rw [if_pos ⟨by omega,h2⟩,List.getElem?_append_left (by rw [intsOf_length];omega),intsOf_get m t _ (by omega)]
      · have e1:¬ (off ≤ i ∧ i < off + m):=by omega
        rw [if_neg e1,List.getElem?_append_right (by rw [intsOf_length];omega),intsOf_length,List.getElem?_drop,show off + m + (i - off - m) = i by omega,intsOf_get N f i hi]
  · rw [List.getElem?_eq_none (by simp [intsOf_length];omega),List.getElem?_eq_none (by rw [intsOf_length];omega)]
theorem copy_srcI {w:World} {hi n cap:Nat} {ao:Option Addr} {f:Nat → Int} (r:RdI w hi (.slice ao n cap) n f) (h:0 < (intsOf n f).length):∃ ad,ao = some ad ∧ ∀ j v,(intsOf n f)[j]? = some v → w.cell? (ad.add j) = some v:=by
  rw [intsOf_length] at h;obtain ⟨ao',cap',he,_,hc⟩:=r
  simp only [Value.slice.injEq,true_and] at he
  obtain ⟨rfl,rfl⟩:=he;obtain ⟨b,off,rfl,_,hcell⟩:=hc (by omega);refine ⟨_,rfl,fun j v hj => ?_⟩
  by_cases hjn:j < n
  · rw [intsOf_get n f j hjn] at hj
    rw [add_none',hcell j hjn];exact hj
  · rw [List.getElem?_eq_none (by rw [intsOf_length];omega)] at hj
    cases hj
theorem intsOf_one (n:Nat) (f:Nat → Int):∀ v ∈ intsOf n f,v.oneCell' = true:=fun v hv => by
  simp only [intsOf,List.mem_map] at hv
  obtain ⟨i,_,rfl⟩:=hv;rfl
theorem size_i64:(Tryz.prog.info? 2).map (·.size) = some 1:=by kernel_rfl
theorem ownI_T {w:World} {lo hi n:Nat} {v:Value} {f:Nat → Int} (h:OwnI w lo hi v n f) (hh:hi ≤ w.heap.size) (kf:∀ i,-9223372036854775808 ≤ f i ∧ f i ≤ 9223372036854775807):OwnT layInts w lo hi (n,f) [v]:=by
  refine ⟨v.ownBlock.toList,⟨v,rfl,rfl,h.weaken (Nat.zero_le _) hh,kf⟩,?_,fun b hb => ?_⟩
  · cases v.ownBlock <;> simp
  · have hb':v.ownBlock = some b:=by simpa using hb
    exact ⟨(h.1.lt b hb').1,h.2 b hb'⟩
def ToF {α:Type} (A:Lay α) (sz:α → Nat) (fn g:Nat):Prop:=∀ (v:Value) (d:α) (hi:Nat) (w:World),A.rd w hi d [v] → hi ≤ w.heap.size → sz d ≤ 1048576 →
  Calls Tryz.prog fn #[v,.func (.func g) #[] #[]] w fun e w' => ∃ v',e = .returned v' ∧ OwnT A w' w.heap.size w'.heap.size d [v'] ∧ Below w.heap.size w w'
set_option maxHeartbeats 1000000 in
theorem copyBytes_is:ToS layBytes lenD 117:=fun v d hi w h hhi hn => by
  obtain ⟨n,f⟩:=d;obtain ⟨v',e1,r1,kf⟩:=h
  cases e1
  simp only at r1 kf
  skip
  have hn':n ≤ 1048576:=hn;clear hn;have R1:=fun (w1:World) (hb:Below w.heap.size w w1) => r1.below hb hhi;obtain ⟨ao,cap,rfl,hm1,hc1⟩:=r1;clear hc1;have HS:Hid (splice (cellsOf n fun _ => 0) 0 (cellsOf n f) = cellsOf n f):=splice_cells n 0 n _ f f (by omega) (fun i hi => by simp [hi])
  have L1:(cellsOf n f).length = Nat.min n n:=by rw [cellsOf_length];exact (Nat.min_self n).symm
  have L2:0 + (cellsOf n f).length ≤ (cellsOf n fun _ => 0).length:=by simp [cellsOf_length]
  have HL1:Hid ((cellsOf n f).length = Nat.min n n):=L1;have HL2:Hid (0 + (cellsOf n f).length ≤ (cellsOf n fun _ => 0).length):=L2;clear L1 L2
  go_enter Tryz.func117,Tryz.ntmps117
  go_wp2_with (first | (at_make;refine wp_makeB _ rfl _ _ rfl _ _ n rfl rfl (by simp) (by simp) (by omega) ?_;intro w1 hown1 hb1 hz1) | (refine wpList_copy_splice rfl (.tmp 7) (.tmp 8) 56 56 rfl 5 Tryz.underlying56 size_u8 (some ⟨w.heap.size,0,none⟩) ao n n n cap rfl rfl w.heap.size 0 (cellsOf n fun _ => 0) 5 hown1.full (cellsOf n f) HL1.out (fun hp => ⟨rfl,copy_src (R1 w1 hb1) hp⟩) HL2.out (cellsOf_one n f) w.heap.size w hb1 (Nat.le_refl _) ?_;intro w2 hF2 hb2))
  go_ret;have F2:=hF2.out;rw [HS.out] at F2;exact ⟨_,rfl,ownB_T (own_of_full F2 (Nat.le_refl _) (by unfold maxLen;omega)) (Nat.le_refl _) kf,hb2⟩
set_option maxHeartbeats 1000000 in
theorem copyInts_is:ToS layInts lenD 116:=fun v d hi w h hhi hn => by
  obtain ⟨n,f⟩:=d;obtain ⟨v',e1,r1,kf⟩:=h
  cases e1
  simp only at r1 kf
  replace r1:=r1.1;have hn':n ≤ 1048576:=hn;clear hn;have R1:=fun (w1:World) (hb:Below w.heap.size w w1) => r1.below hb hhi;obtain ⟨ao,cap,rfl,hm1,hc1⟩:=r1;clear hc1;have HS:Hid (splice (intsOf n fun _ => 0) 0 (intsOf n f) = intsOf n f):=splice_ints n 0 n _ f f (by omega) (fun i hi => by simp [hi])
  have L1:(intsOf n f).length = Nat.min n n:=by rw [intsOf_length];exact (Nat.min_self n).symm
  have L2:0 + (intsOf n f).length ≤ (intsOf n fun _ => 0).length:=by simp [intsOf_length]
  have HL1:Hid ((intsOf n f).length = Nat.min n n):=L1;have HL2:Hid (0 + (intsOf n f).length ≤ (intsOf n fun _ => 0).length):=L2;clear L1 L2
  go_enter Tryz.func116,Tryz.ntmps116
  go_wp2_with (first | (at_make;refine wp_makeI _ rfl _ _ rfl _ _ n rfl rfl (by simp) (by simp) (by omega) ?_;intro w1 hown1 hb1 hz1) | (refine wpList_copy_splice rfl (.tmp 7) (.tmp 8) 25 25 rfl 2 Tryz.underlying25 size_i64 (some ⟨w.heap.size,0,none⟩) ao n n n cap rfl rfl w.heap.size 0 (intsOf n fun _ => 0) 2 hown1.full (intsOf n f) HL1.out (fun hp => ⟨rfl,copy_srcI (R1 w1 hb1) hp⟩) HL2.out (intsOf_one n f) w.heap.size w hb1 (Nat.le_refl _) ?_;intro w2 hF2 hb2))
  go_ret;have F2:=hF2.out;rw [HS.out] at F2;exact ⟨_,rfl,ownI_T (ownI_of_full F2 (Nat.le_refl _) (by unfold maxLen;omega)) (Nat.le_refl _) kf,hb2⟩
end Go.Proofs.YtodedamnclhbnaaGreat
namespace Go.Proofs.YtodedamnclhbnaaGreat
open Go.RowKit F256
theorem run_append_none' {P:Program} (w:World) (base:Nat) (t ty e:TypeId) (i:TypeInfo) (size:Nat) (ht:P.underlying t = some (.slice e)) (hi:P.info? e = some i) (v:Value) (n c:Nat) (xs:List Value) (hown:w.ownsRow base e size v n xs) :
    (Builtin.append_ #[t,t] ty #[v,.slice none 0 c]).run P w = .ok v w:=by
  rcases hown.2 with ⟨rfl,rfl⟩ | ⟨g,cap,cur,rfl,_,_,hnc,_⟩
  · simp [Builtin.append_,run_underlying ht,sizeOf,typeInfo,hi,Builtin.lenOf,Builtin.firstCells]
  · simp [Builtin.append_,run_underlying ht,sizeOf,typeInfo,hi,Builtin.lenOf,Builtin.firstCells,hnc,storeCells]
theorem lit_row (w:World) (e:TypeId):(w.alloc (.cells #[] e)).ownsRow w.heap.size e 1 (.slice (some ⟨w.heap.size,0,none⟩) 0 0) 0 []:=World.ownsRow_lit (base:=w.heap.size) (e:=e) (size:=1) w #[] 0 (Nat.le_refl _) (Nat.zero_le _) rfl
theorem run_appendR {T e:TypeId} {z:Value} {by_:Nat} (hu:Tryz.prog.underlying T = some (.slice e)) (hi:(Tryz.prog.info? e).map (fun i => (i.zero,i.size,i.bytes)) = some (some z,1,by_)) (hz:z.cells.size = 1) (hby:by_ ≤ 100) (ty:TypeId) (W:World) (p:Nat) (hown:W.ownsRow p e 1 (.slice (some ⟨p,0,none⟩) 0 0) 0 [])
    (ao:Option Addr) (m cap:Nat) (cs:List Value) (hl:cs.length = m) (hsrc:0 < cs.length → ∃ ad,ao = some ad ∧ ∀ j v,cs[j]? = some v → W.cell? (ad.add j) = some v) (h1:∀ v ∈ cs,v.oneCell' = true) (hm:m ≤ 10000000) :
    ∃ v' w',(Builtin.append_ #[T,T] ty #[.slice (some ⟨p,0,none⟩) 0 0,.slice ao m cap]).run Tryz.prog W = .ok v' w' ∧ w'.ownsRow p e 1 v' m cs ∧ Below p W w':=by
  obtain ⟨i0,hi0,hz0,hz1,hz2⟩:=info_parts hi;have hlo:p ≤ W.heap.size:=Nat.le_of_lt (hown.lt p rfl).2
  have big:∀ ad,ao = some ad → (∀ j v,cs[j]? = some v → W.cell? (ad.add j) = some v) → ∃ v' w',(Builtin.append_ #[T,T] ty #[.slice (some ⟨p,0,none⟩) 0 0,.slice ao m cap]).run Tryz.prog W = .ok v' w' ∧ w'.ownsRow p e 1 v' m cs ∧ Below p W w':=fun ad ha hc => by
    subst ha
    have hb2:(0 + m) * by_ ≤ 140737488355328:=by
      have:(0 + m) * by_ ≤ 10000000 * 100:=Nat.mul_le_mul (by omega) hby;omega
    obtain ⟨v',w',hr,r1,r2,_⟩:=run_append_own_at (P:=Tryz.prog) W p T ty e i0 z 1 by_ hu hi0 hz0 hz1 hz2 hz (by decide) _ 0 [] hown ad m cap cs (by omega) hc h1 (by unfold maxLen;omega) hb2 hlo;refine ⟨v',w',hr,?_,(Below.refl _ _).grown r2 hlo (fun k hk => (hown.lt k hk).1)⟩;rw [Nat.zero_add,List.nil_append] at r1;exact r1
  by_cases h0:0 < cs.length
  · obtain ⟨ad,ha,hc⟩:=hsrc h0
    exact big ad ha hc
  · have hcs:cs = []:=List.eq_nil_of_length_eq_zero (by omega)
    subst hcs
    cases ao with
    | some ad => exact big ad rfl (fun j v hj => by simp at hj)
    | none =>
      have hm0:m = 0:=by simpa using hl.symm
      subst hm0;exact ⟨_,W,run_append_none' W p T ty e i0 1 hu hi0 _ 0 cap _ hown,hown,Below.refl _ _⟩
theorem one_i:(Value.int .i64 0).cells.size = 1:=rfl
theorem one_b:(Value.int .u8 0).cells.size = 1:=rfl
theorem run_appendRI (ty:TypeId) (W:World) (p:Nat) (hown:W.ownsRow p 2 1 (.slice (some ⟨p,0,none⟩) 0 0) 0 []) {hi m cap:Nat} {ao:Option Addr} {f:Nat → Int} (r:layInts.rd W hi (m,f) [.slice ao m cap]) (hm:m ≤ 10000000) :
    ∃ v' w',(Builtin.append_ #[25,25] ty #[.slice (some ⟨p,0,none⟩) 0 0,.slice ao m cap]).run Tryz.prog W = .ok v' w' ∧ OwnT layInts w' p w'.heap.size (m,f) [v'] ∧ Below p W w':=by
  obtain ⟨v,e,⟨r1,_⟩,kf⟩:=r
  cases e
  obtain ⟨v',w',hr,h2,h3⟩:=run_appendR Tryz.underlying25 info_i64 one_i (by decide) ty W p hown ao m cap (intsOf m f) (intsOf_length m f) (fun hp => copy_srcI r1 hp) (intsOf_one m f) hm;exact ⟨v',w',hr,ownI_T ⟨h2,fun k hk => (h2.lt k hk).2⟩ (Nat.le_refl _) kf,h3⟩
theorem run_appendRB (ty:TypeId) (W:World) (p:Nat) (hown:W.ownsRow p 5 1 (.slice (some ⟨p,0,none⟩) 0 0) 0 []) {hi m cap:Nat} {ao:Option Addr} {f:Nat → Nat} (r:layBytes.rd W hi (m,f) [.slice ao m cap]) (hm:m ≤ 10000000) :
    ∃ v' w',(Builtin.append_ #[56,56] ty #[.slice (some ⟨p,0,none⟩) 0 0,.slice ao m cap]).run Tryz.prog W = .ok v' w' ∧ OwnT layBytes w' p w'.heap.size (m,f) [v'] ∧ Below p W w':=by
  obtain ⟨v,e,r1,kf⟩:=r
  cases e
  obtain ⟨v',w',hr,h2,h3⟩:=run_appendR Tryz.underlying56 info_u8 one_b (by decide) ty W p hown ao m cap (cellsOf m f) (cellsOf_length m f) (fun hp => copy_src r1 hp) (cellsOf_one m f) hm;exact ⟨v',w',hr,ownB_T ⟨h2,fun k hk => (h2.lt k hk).2⟩ (Nat.le_refl _) kf,h3⟩
theorem wp_run2 {ops:Array Oper} {rest:List Oper} {o:Oper} {a:Act} {W w':World} {Q:Exit → Act → World → Prop} {T:TypeId} {v' x1 x2:Value} (hg:o.guard = none) (s y:Operand) (hop:o.op = Op.call { callee:=Callee.builtin Builtin.append,args:=#[s,y],argTypes:=#[T,T] })
    (h1:a.eval s = x1) (h2:a.eval y = x2) (hrun:(Builtin.append_ #[T,T] o.type #[x1,x2]).run Tryz.prog W = .ok v' w') (hK:wpList Tryz.prog ops Q rest (a.put o.dst v') w'):wpList Tryz.prog ops Q (o :: rest) a W:=by
  refine wpList_plain hg fun K hK' => ?_;unfold Oper.wp
  simp [execOp,hop,resolve,invoke,builtin,h1,h2,hrun,Result.andThen]
  exact hK' _ _ hK
theorem step_run2 {ops:Array Oper} {o:Oper} {a:Act} {W w':World} {K:Act → World → Prop} {Q:Exit → Act → World → Prop} {F:Prop} {T:TypeId} {v' x1 x2:Value} (hg:o.guard = none) (s y:Operand) (hop:o.op = Op.call { callee:=Callee.builtin Builtin.append,args:=#[s,y],argTypes:=#[T,T] })
    (h1:a.eval s = x1) (h2:a.eval y = x2) (hrun:(Builtin.append_ #[T,T] o.type #[x1,x2]).run Tryz.prog W = .ok v' w') (hK:K (a.put o.dst v') w'):if Region.wanted o (yielded ops a.tmps) = true then Oper.wp Tryz.prog o a W K Q else F:=by
  have hw:Region.wanted o (yielded ops a.tmps) = true:=by simp [Region.wanted,hg]
  rw [if_pos hw];unfold Oper.wp
  simp [execOp,hop,resolve,invoke,builtin,h1,h2,hrun,Result.andThen]
  exact hK
end Go.Proofs.YtodedamnclhbnaaGreat
namespace Go.Proofs.YtodedamnclhbnaaGreat
open Go.RowKit
section
variable {P:Program} {ops:Array Oper} {Q:Exit → Act → World → Prop} {md:Region.Mode} {S:World → Prop} {L:Nat}
theorem wpAnyM_oneS {i:Nat} {o:Oper} {fuel:Nat} {listed:Array Bool} {a:Act} {w:World} (ho:ops[i]? = some o) (hr:Region.ready md ops listed = [i])
    (h:∀ K':Act → World → Prop,Shut (∀ a w,S w → wpAnyM P md ops Q S L fuel (listed.setIfInBounds i true) a w → K' a w) → if Region.wanted o (yielded ops a.tmps) = true then Oper.wp P o a w K' Q else K' (a.put o.dst undef) w):wpAnyM P md ops Q S L (fuel + 1) listed a w:=by
  refine ⟨fun h0 => (by rw [hr] at h0;cases h0),fun j hj => ?_⟩;rw [hr] at hj
  obtain rfl:j = i:=by simpa using hj
  exact wpOp_step ho (fun K' hK => h K' (fun a w hS hW => hK a w ⟨fun _ => hS,hW⟩))
theorem wpAnyM_twoS {i j:Nat} {o o':Oper} {fuel:Nat} {listed:Array Bool} {a:Act} {w:World} (ho:ops[i]? = some o) (ho':ops[j]? = some o') (hr:Region.ready md ops listed = [i,j])
    (h:∀ K':Act → World → Prop,Shut (∀ a w,S w → wpAnyM P md ops Q S L fuel (listed.setIfInBounds i true) a w → K' a w) → if Region.wanted o (yielded ops a.tmps) = true then Oper.wp P o a w K' Q else K' (a.put o.dst undef) w)
    (h':∀ K':Act → World → Prop,Shut (∀ a w,S w → wpAnyM P md ops Q S L fuel (listed.setIfInBounds j true) a w → K' a w) → if Region.wanted o' (yielded ops a.tmps) = true then Oper.wp P o' a w K' Q else K' (a.put o'.dst undef) w):wpAnyM P md ops Q S L (fuel + 1) listed a w:=by
  refine ⟨fun h0 => (by rw [hr] at h0;cases h0),fun k hk => ?_⟩;rw [hr] at hk
  simp only [List.mem_cons,List.not_mem_nil,or_false] at hk
  rcases hk with rfl | rfl
  · exact wpOp_step ho (fun K' hK => h K' (fun a w hS hW => hK a w ⟨fun _ => hS,hW⟩))
  · exact wpOp_step ho' (fun K' hK => h' K' (fun a w hS hW => hK a w ⟨fun _ => hS,hW⟩))
end
theorem step_build0 {ops:Array Oper} {o:Oper} {a:Act} {W:World} {K:Act → World → Prop} {Q:Exit → Act → World → Prop} {F:Prop} (hg:o.guard = none) (hop:o.op = Op.buildSlice 30 0 #[])
    (hK:K (a.put o.dst (.slice (some ⟨W.heap.size,0,none⟩) 0 0)) (W.alloc (.cells #[] 58))):if Region.wanted o (yielded ops a.tmps) = true then Oper.wp Tryz.prog o a W K Q else F:=by
  have hw:Region.wanted o (yielded ops a.tmps) = true:=by simp [Region.wanted,hg]
  rw [if_pos hw];unfold Oper.wp execOp
  simp only [hop]
  go_simp;exact hK
theorem step_build1 {ops:Array Oper} {o:Oper} {a:Act} {W:World} {K:Act → World → Prop} {Q:Exit → Act → World → Prop} {F:Prop} (hg:o.guard = none) (x:Operand) (hop:o.op = Op.buildSlice 30 1 #[(0,x)]) (r:RecD) (b6 b7 b8:Option Addr) (bk6 bk7 bk8:Nat) (hx:a.eval x = .agg #[.int .i64 r.kind,.int .i64 r.seq,.string r.name,.int .i64 r.length,.int .i64 r.group,.int .i64 r.row,.slice b6 r.rows.1 bk6,.slice b7 r.data.1 bk7,.slice b8 r.delta.1 bk8])
    (hK:K (a.put o.dst (.slice (some ⟨W.heap.size,0,none⟩) 1 1)) (W.alloc (.cells #[.int .i64 r.kind,.int .i64 r.seq,.string r.name,.int .i64 r.length,.int .i64 r.group,.int .i64 r.row,.slice b6 r.rows.1 bk6,.slice b7 r.data.1 bk7,.slice b8 r.delta.1 bk8] 58))):if Region.wanted o (yielded ops a.tmps) = true then Oper.wp Tryz.prog o a W K Q else F:=by
  have hw:Region.wanted o (yielded ops a.tmps) = true:=by simp [Region.wanted,hg]
  rw [if_pos hw];unfold Oper.wp execOp
  simp only [hop,List.map_toArray,List.map_cons,List.map_nil,hx]
  go_simp;exact hK
theorem step_build1R {ops:Array Oper} {o:Oper} {a:Act} {W:World} {K:Act → World → Prop} {Q:Exit → Act → World → Prop} {F:Prop} (hg:o.guard = none) (x:Operand) (hop:o.op = Op.buildSlice 30 1 #[(0,x)]) {w0:World} {hi0:Nat} {r:RecD} {cs:List Value} (hr:layRec.rd w0 hi0 r cs) (hx:a.eval x = .agg cs.toArray)
    (hK:K (a.put o.dst (.slice (some ⟨W.heap.size,0,none⟩) 1 1)) (W.alloc (.cells cs.toArray 58))):if Region.wanted o (yielded ops a.tmps) = true then Oper.wp Tryz.prog o a W K Q else F:=by
  obtain ⟨b6,bk6,b7,bk7,b8,bk8,rfl,-⟩:=Rec_rd hr;exact step_build1 hg x hop r b6 b7 b8 bk6 bk7 bk8 hx hK
end Go.Proofs.YtodedamnclhbnaaGreat
namespace Go.Proofs.YtodedamnclhbnaaGreat
open Go.RowKit F256
open Go.Maps (Keyed)
set_option maxHeartbeats 8000000 in
set_option maxRecDepth 20000 in
theorem enter_item {w:World} {lo B:Nat} {s:Nat → Int} {k:Nat} {x:Nat → RecD} {ce:Nat → List Value} {v:Value} {b1 b2 b3 b4 b5:Nat} (h:Ldg w lo B s k k x ce v b1 b2 b3 b4 b5) (hk:k ≤ 1000000) (hlo:lo ≤ w.heap.size)
    {r:RecD} {ao6 ao7 ao8:Option Addr} {cap6 cap7 cap8:Nat} (hx:x k = r) (hc:ce k = [.int .i64 r.kind,.int .i64 r.seq,.string r.name,.int .i64 r.length,.int .i64 r.group,.int .i64 r.row,.slice ao6 r.rows.1 cap6,.slice ao7 r.data.1 cap7,.slice ao8 r.delta.1 cap8]) (hkd:r.kind = 1) (hn:r.name.size ≤ maxLen) (hs:-9223372036854775808 ≤ r.seq ∧ r.seq ≤ 9223372036854775807) (hg:-9223372036854775808 ≤ r.group ∧ r.group ≤ 9223372036854775807) (hw:-9223372036854775808 ≤ r.row ∧ r.row ≤ 9223372036854775807) :
    Calls Tryz.prog 70 #[.pointer (some ⟨B,0,none⟩),.iface 67 (.agg #[.int .i64 r.kind,.int .i64 r.seq,.string r.name,.int .i64 r.length,.int .i64 r.group,.int .i64 r.row,.slice ao6 r.rows.1 cap6,.slice ao7 r.data.1 cap7,.slice ao8 r.delta.1 cap8])] w fun e w' => e = .returned (.tuple #[]) ∧ (∃ v',Ldg w' lo B s (k + 1) (k + 1) x ce v' b1 b2 b3 b4 b5 ∧ EntQ w w' v v' [B,b1,b2,b3,b4,b5]) ∧ Below lo w w':=by
  have HX:Hid (x k = r):=hx;have HC:Hid (ce k = [.int .i64 r.kind,.int .i64 r.seq,.string r.name,.int .i64 r.length,.int .i64 r.group,.int .i64 r.row,.slice ao6 r.rows.1 cap6,.slice ao7 r.data.1 cap7,.slice ao8 r.delta.1 cap8]):=hc;have HKD:Hid (r.kind = 1):=hkd
  have HEV:Hid (entV (x k).kind (ce k) = .iface 67 (.agg #[.int .i64 r.kind,.int .i64 r.seq,.string r.name,.int .i64 r.length,.int .i64 r.group,.int .i64 r.row,.slice ao6 r.rows.1 cap6,.slice ao7 r.data.1 cap7,.slice ao8 r.delta.1 cap8])):=by
    show entV (x k).kind (ce k) = .iface 67 (.agg #[.int .i64 r.kind,.int .i64 r.seq,.string r.name,.int .i64 r.length,.int .i64 r.group,.int .i64 r.row,.slice ao6 r.rows.1 cap6,.slice ao7 r.data.1 cap7,.slice ao8 r.delta.1 cap8])
    unfold entV entT;rw [hx,hc]
    simp [hkd]
  clear hx hc hkd;obtain ⟨i0,hi,hz0,hz1,hz2⟩:=info_parts info_entry;have HL:Hid (Ldg w lo B s k k x ce v b1 b2 b3 b4 b5):=h;obtain ⟨ao,cap,hv⟩:=rowE_slice h.row;subst hv;have x9:w.cell? ⟨B,9,none⟩ = some (.slice ao k cap):=h.box.cell 9;have O0:=h.row;clear h;have TA:=ta00;have bA:w.grownBy (w.alloc (.cells #[.iface 67 (.agg #[.int .i64 r.kind,.int .i64 r.seq,.string r.name,.int .i64 r.length,.int .i64 r.group,.int .i64 r.row,.slice ao6 r.rows.1 cap6,.slice ao7 r.data.1 cap7,.slice ao8 r.delta.1 cap8])] 117)) none:=World.grownBy_alloc _ _ _
  go_enter Tryz.func70,Tryz.ntmps70
  go_upto_region 4 with (at_builtin;refine wpList_append_own_at _ rfl _ _ 69 rfl lo 117 i0 .nilIface 1 16 Tryz.underlying69 hi hz0 hz1 hz2 rfl (by decide) _ _ _ rfl (O0.alloc _) ⟨w.heap.size,0,none⟩ 1 1 [.iface 67 (.agg #[.int .i64 r.kind,.int .i64 r.seq,.string r.name,.int .i64 r.length,.int .i64 r.group,.int .i64 r.row,.slice ao6 r.rows.1 cap6,.slice ao7 r.data.1 cap7,.slice ao8 r.delta.1 cap8])] rfl rfl (cell_one_new _ _ _) (fun u hu => by simp at hu;subst hu;rfl) (by unfold maxLen;omega) (by omega) (by simp;omega) ?_;intro v' w1 O1 g1 hnil hloc;obtain ⟨ao',cap',rfl⟩:=rowE_slice O1;have L1:=HL.out.grown bA g1;have z9:=L1.cell 9;have z9f:=L1.frozen 9;clear hnil)
  have L2:Ldg ((w1.setCell ⟨B,9,none⟩ (.slice ao' (k + 1) cap')).alloc (.cells #[.int .i64 r.kind,.int .i64 r.seq,.string r.name,.int .i64 r.length,.int .i64 r.group,.int .i64 r.row,.slice ao6 r.rows.1 cap6,.slice ao7 r.data.1 cap7,.slice ao8 r.delta.1 cap8] 67)) lo B s (k + 1) k x ce (.slice ao' (k + 1) cap') b1 b2 b3 b4 b5:=HL.out.laid g1 (by rw [HEV.out];exact O1) hloc
  have X2:Box ((w1.setCell ⟨B,9,none⟩ (.slice ao' (k + 1) cap')).alloc (.cells #[.int .i64 r.kind,.int .i64 r.seq,.string r.name,.int .i64 r.length,.int .i64 r.group,.int .i64 r.row,.slice ao6 r.rows.1 cap6,.slice ao7 r.data.1 cap7,.slice ao8 r.delta.1 cap8] 67)) w1.heap.size #[.int .i64 r.kind,.int .i64 r.seq,.string r.name,.int .i64 r.length,.int .i64 r.group,.int .i64 r.row,.slice ao6 r.rows.1 cap6,.slice ao7 r.data.1 cap7,.slice ao8 r.delta.1 cap8] 67:=by
    have:=box_new (w1.setCell ⟨B,9,none⟩ (.slice ao' (k + 1) cap')) #[.int .i64 r.kind,.int .i64 r.seq,.string r.name,.int .i64 r.length,.int .i64 r.group,.int .i64 r.row,.slice ao6 r.rows.1 cap6,.slice ao7 r.data.1 cap7,.slice ao8 r.delta.1 cap8] 67;rw [show (w1.setCell ⟨B,9,none⟩ (.slice ao' (k + 1) cap')).heap.size = w1.heap.size by simp] at this;exact this
  have B2:Below lo w ((w1.setCell ⟨B,9,none⟩ (.slice ao' (k + 1) cap')).alloc (.cells #[.int .i64 r.kind,.int .i64 r.seq,.string r.name,.int .i64 r.length,.int .i64 r.group,.int .i64 r.row,.slice ao6 r.rows.1 cap6,.slice ao7 r.data.1 cap7,.slice ao8 r.delta.1 cap8] 67)):=by
    have q1:Below lo w w1:=below_grown HL.out g1 hlo;exact (q1.setCell HL.out.low.1 _).alloc (by have:=q1.size;simp;omega) _
  have A2:∀ b,b < w.heap.size → b ≠ B → (Value.slice ao k cap).ownBlock ≠ some b → ((w1.setCell ⟨B,9,none⟩ (.slice ao' (k + 1) cap')).alloc (.cells #[.int .i64 r.kind,.int .i64 r.seq,.string r.name,.int .i64 r.length,.int .i64 r.group,.int .i64 r.row,.slice ao6 r.rows.1 cap6,.slice ao7 r.data.1 cap7,.slice ao8 r.delta.1 cap8] 67)).heap[b]? = w.heap[b]?:=fun b hb hB hv => by
    have sz:w.heap.size + 1 ≤ w1.heap.size:=by have:=g1.size;simp at this;omega
    rw [Below.heap_alloc _ _ b (by simp;omega),heap_setCell_other w1 ⟨B,9,none⟩ b _ hB];exact grown2 bA g1 hb (fun e => hv e.symm)
  have HLO:Hid ((Value.slice ao' (k + 1) cap').ownBlock = (Value.slice ao k cap).ownBlock ∨ ∃ g,w.heap.size ≤ g ∧ (Value.slice ao' (k + 1) cap').ownBlock = some g):=hloc.imp id (fun e => ⟨_,by simp,e⟩);obtain ⟨W2,hW2⟩:∃ y,y = ((w1.setCell ⟨B,9,none⟩ (.slice ao' (k + 1) cap')).alloc (.cells #[.int .i64 r.kind,.int .i64 r.seq,.string r.name,.int .i64 r.length,.int .i64 r.group,.int .i64 r.row,.slice ao6 r.rows.1 cap6,.slice ao7 r.data.1 cap7,.slice ao8 r.delta.1 cap8] 67)):=⟨_,rfl⟩;rw [← hW2] at L2 X2 B2 A2 ⊢;clear hW2 TA  O0 O1 g1 hloc bA x9 z9 z9f L1 hi hz0 hz1 hz2;refine wp_region_still_tail 9 (by kernel_rfl) (by kernel_rfl) ?_;obtain ⟨WB,hWB⟩:∃ y:World,y = { W2 with drawn:=W2.drawn + 1 }:=⟨_,rfl⟩
  have L3:Ldg WB lo B s (k + 1) k x ce (.slice ao' (k + 1) cap') b1 b2 b3 b4 b5:=by rw [hWB];exact L2.drawn _
  have X3:Box WB w1.heap.size #[.int .i64 r.kind,.int .i64 r.seq,.string r.name,.int .i64 r.length,.int .i64 r.group,.int .i64 r.row,.slice ao6 r.rows.1 cap6,.slice ao7 r.data.1 cap7,.slice ao8 r.delta.1 cap8] 67:=by rw [hWB];exact X2
  have B3:Below lo w WB:=by rw [hWB];exact ⟨B2.os,B2.tape,B2.output,B2.size,B2.block⟩
  have HA3:Hid (∀ b,b < w.heap.size → b ≠ B → (Value.slice ao k cap).ownBlock ≠ some b → WB.heap[b]? = w.heap[b]?):=by rw [hWB];exact A2
  rw [← hWB];clear hWB L2 X2 B2 A2;have HL3:Hid (Ldg WB lo B s (k + 1) k x ce (.slice ao' (k + 1) cap') b1 b2 b3 b4 b5):=L3;have HZ3:Hid (w.heap.size ≤ WB.heap.size):=B3.size;have HB3:Hid (Below lo w WB):=B3;have c0:WB.cell? ⟨w1.heap.size,0,none⟩ = some (.int .i64 r.kind):=X3.cell 0;have c1:WB.cell? ⟨w1.heap.size,1,none⟩ = some (.int .i64 r.seq):=X3.cell 1;have c2:WB.cell? ⟨w1.heap.size,2,none⟩ = some (.string r.name):=X3.cell 2;have c3:WB.cell? ⟨w1.heap.size,3,none⟩ = some (.int .i64 r.length):=X3.cell 3;have c4:WB.cell? ⟨w1.heap.size,4,none⟩ = some (.int .i64 r.group):=X3.cell 4;have c5:WB.cell? ⟨w1.heap.size,5,none⟩ = some (.int .i64 r.row):=X3.cell 5;have c6:WB.cell? ⟨w1.heap.size,6,none⟩ = some (.slice ao6 r.rows.1 cap6):=X3.cell 6;have c7:WB.cell? ⟨w1.heap.size,7,none⟩ = some (.slice ao7 r.data.1 cap7):=X3.cell 7;have c8:WB.cell? ⟨w1.heap.size,8,none⟩ = some (.slice ao8 r.delta.1 cap8):=X3.cell 8;have d1:WB.cell? ⟨B,10,none⟩ = some (.map (some b1)):=L3.box.cell 10;obtain ⟨kl,hkl⟩:=keyOf_S hn;obtain ⟨w',hrun,M,G,S⟩:=L3.m1.put keyS Tryz.underlying70 (by unfold maxLen;omega) hkl (.agg #[.int .i64 r.kind,.int .i64 r.seq,.string r.name,.int .i64 r.length,.int .i64 r.group,.int .i64 r.row,.slice ao6 r.rows.1 cap6,.slice ao7 r.data.1 cap7,.slice ao8 r.delta.1 cap8]);have HM:Hid (MapV w' 9 b1 (k + 1) (putF (newF x ce k) (.string r.name) (.agg #[.int .i64 r.kind,.int .i64 r.seq,.string r.name,.int .i64 r.length,.int .i64 r.group,.int .i64 r.row,.slice ao6 r.rows.1 cap6,.slice ao7 r.data.1 cap7,.slice ao8 r.delta.1 cap8]))):=M;have HE:Hid (∀ b,b < WB.heap.size → b ∉ [b1] → w'.heap[b]? = WB.heap[b]?):=fun b hb hn => G.block b hb (fun e => by cases e;simp at hn);have HBE:Hid (Below lo w w'):=B3.trans ⟨G.os,G.tape,G.output,G.size,fun b hb => G.block b (by have:=B3.size;omega) (fun e => by cases e;have:=L3.low;omega)⟩;clear M G L3 X3 B3 hkl
  simp only [List.take_succ_cons,List.take_zero,List.drop_succ_cons,List.drop_zero]
  repeat still_step
  refine wpStill_nil ?_;go_wp2;refine bodyPost_end (v:=.tuple #[]) (by simp [results,Tryz.results70]) rfl ?_
  exact ⟨rfl,⟨_,HL3.out.next (T:=[b1]) HE.out (fun b hb => by simp at hb ⊢;omega) (by rw [show newF x ce (k + 1) = putF (newF x ce k) (.string (x k).name) (.agg (ce k).toArray) from lastF_put (show (x k).kind = 1 by rw [HX.out,HKD.out]),HX.out,HC.out];exact HM.out)
    (by rw [show movF x (k + 1) = movF x k from cntF_skip (show ¬ (x k).kind = 2 by rw [HX.out,HKD.out];decide)];exact (HL3.out.m2.block (HE.out b2 HL3.out.m2.lt (by have:=HL3.out.nd;simp at this ⊢;omega))).mono (Nat.le_succ k))
    (by rw [show donF x (k + 1) = donF x k from cntF_skip (show ¬ (x k).kind = 3 by rw [HX.out,HKD.out];decide)];exact (HL3.out.m3.block (HE.out b3 HL3.out.m3.lt (by have:=HL3.out.nd;simp at this ⊢;omega))).mono (Nat.le_succ k))
    (by rw [show endF x (k + 1) = endF x k from cntF_skip (show ¬ (x k).kind = 3 by rw [HX.out,HKD.out];decide)];exact (HL3.out.m4.block (HE.out b4 HL3.out.m4.lt (by have:=HL3.out.nd;simp at this ⊢;omega))).mono (Nat.le_succ k))
    (by rw [show shaF x (k + 1) = shaF x k from lastF_skip (show ¬ (x k).kind = 4 by rw [HX.out,HKD.out];decide)];exact (HL3.out.m5.block (HE.out b5 HL3.out.m5.lt (by have:=HL3.out.nd;simp at this ⊢;omega))).mono (Nat.le_succ k)),⟨HLO.out,fun b hb hT hv => (HE.out b (Nat.lt_of_lt_of_le hb HZ3.out) (fun q => hT (by simp at q ⊢;omega))).trans (HA3.out b hb (fun e => hT (by rw [e];simp)) hv)⟩⟩,HBE.out⟩
set_option maxHeartbeats 8000000 in
set_option maxRecDepth 20000 in
theorem enter_move {w:World} {lo B:Nat} {s:Nat → Int} {k:Nat} {x:Nat → RecD} {ce:Nat → List Value} {v:Value} {b1 b2 b3 b4 b5:Nat} (h:Ldg w lo B s k k x ce v b1 b2 b3 b4 b5) (hk:k ≤ 1000000) (hlo:lo ≤ w.heap.size)
    {r:RecD} {ao6 ao7 ao8:Option Addr} {cap6 cap7 cap8:Nat} (hx:x k = r) (hc:ce k = [.int .i64 r.kind,.int .i64 r.seq,.string r.name,.int .i64 r.length,.int .i64 r.group,.int .i64 r.row,.slice ao6 r.rows.1 cap6,.slice ao7 r.data.1 cap7,.slice ao8 r.delta.1 cap8]) (hkd:r.kind = 2) (hn:r.name.size ≤ maxLen) (hs:-9223372036854775808 ≤ r.seq ∧ r.seq ≤ 9223372036854775807) (hg:-9223372036854775808 ≤ r.group ∧ r.group ≤ 9223372036854775807) (hw:-9223372036854775808 ≤ r.row ∧ r.row ≤ 9223372036854775807) :
    Calls Tryz.prog 70 #[.pointer (some ⟨B,0,none⟩),.iface 126 (.agg #[.int .i64 r.kind,.int .i64 r.seq,.string r.name,.int .i64 r.length,.int .i64 r.group,.int .i64 r.row,.slice ao6 r.rows.1 cap6,.slice ao7 r.data.1 cap7,.slice ao8 r.delta.1 cap8])] w fun e w' => e = .returned (.tuple #[]) ∧ (∃ v',Ldg w' lo B s (k + 1) (k + 1) x ce v' b1 b2 b3 b4 b5 ∧ EntQ w w' v v' [B,b1,b2,b3,b4,b5]) ∧ Below lo w w':=by
  have HX:Hid (x k = r):=hx;have HC:Hid (ce k = [.int .i64 r.kind,.int .i64 r.seq,.string r.name,.int .i64 r.length,.int .i64 r.group,.int .i64 r.row,.slice ao6 r.rows.1 cap6,.slice ao7 r.data.1 cap7,.slice ao8 r.delta.1 cap8]):=hc;have HKD:Hid (r.kind = 2):=hkd
  have HEV:Hid (entV (x k).kind (ce k) = .iface 126 (.agg #[.int .i64 r.kind,.int .i64 r.seq,.string r.name,.int .i64 r.length,.int .i64 r.group,.int .i64 r.row,.slice ao6 r.rows.1 cap6,.slice ao7 r.data.1 cap7,.slice ao8 r.delta.1 cap8])):=by
    show entV (x k).kind (ce k) = .iface 126 (.agg #[.int .i64 r.kind,.int .i64 r.seq,.string r.name,.int .i64 r.length,.int .i64 r.group,.int .i64 r.row,.slice ao6 r.rows.1 cap6,.slice ao7 r.data.1 cap7,.slice ao8 r.delta.1 cap8])
    unfold entV entT;rw [hx,hc]
    simp [hkd]
  clear hx hc hkd;obtain ⟨i0,hi,hz0,hz1,hz2⟩:=info_parts info_entry;have HL:Hid (Ldg w lo B s k k x ce v b1 b2 b3 b4 b5):=h;obtain ⟨ao,cap,hv⟩:=rowE_slice h.row;subst hv;have x9:w.cell? ⟨B,9,none⟩ = some (.slice ao k cap):=h.box.cell 9;have O0:=h.row;clear h;have TA:=ta11;have TA0:=ta10;have bA:w.grownBy (w.alloc (.cells #[.iface 126 (.agg #[.int .i64 r.kind,.int .i64 r.seq,.string r.name,.int .i64 r.length,.int .i64 r.group,.int .i64 r.row,.slice ao6 r.rows.1 cap6,.slice ao7 r.data.1 cap7,.slice ao8 r.delta.1 cap8])] 117)) none:=World.grownBy_alloc _ _ _
  go_enter Tryz.func70,Tryz.ntmps70
  go_upto_region 7 with (at_builtin;refine wpList_append_own_at _ rfl _ _ 69 rfl lo 117 i0 .nilIface 1 16 Tryz.underlying69 hi hz0 hz1 hz2 rfl (by decide) _ _ _ rfl (O0.alloc _) ⟨w.heap.size,0,none⟩ 1 1 [.iface 126 (.agg #[.int .i64 r.kind,.int .i64 r.seq,.string r.name,.int .i64 r.length,.int .i64 r.group,.int .i64 r.row,.slice ao6 r.rows.1 cap6,.slice ao7 r.data.1 cap7,.slice ao8 r.delta.1 cap8])] rfl rfl (cell_one_new _ _ _) (fun u hu => by simp at hu;subst hu;rfl) (by unfold maxLen;omega) (by omega) (by simp;omega) ?_;intro v' w1 O1 g1 hnil hloc;obtain ⟨ao',cap',rfl⟩:=rowE_slice O1;have L1:=HL.out.grown bA g1;have z9:=L1.cell 9;have z9f:=L1.frozen 9;clear hnil)
  have L2:Ldg ((w1.setCell ⟨B,9,none⟩ (.slice ao' (k + 1) cap')).alloc (.cells #[.int .i64 r.kind,.int .i64 r.seq,.string r.name,.int .i64 r.length,.int .i64 r.group,.int .i64 r.row,.slice ao6 r.rows.1 cap6,.slice ao7 r.data.1 cap7,.slice ao8 r.delta.1 cap8] 126)) lo B s (k + 1) k x ce (.slice ao' (k + 1) cap') b1 b2 b3 b4 b5:=HL.out.laid g1 (by rw [HEV.out];exact O1) hloc
  have X2:Box ((w1.setCell ⟨B,9,none⟩ (.slice ao' (k + 1) cap')).alloc (.cells #[.int .i64 r.kind,.int .i64 r.seq,.string r.name,.int .i64 r.length,.int .i64 r.group,.int .i64 r.row,.slice ao6 r.rows.1 cap6,.slice ao7 r.data.1 cap7,.slice ao8 r.delta.1 cap8] 126)) w1.heap.size #[.int .i64 r.kind,.int .i64 r.seq,.string r.name,.int .i64 r.length,.int .i64 r.group,.int .i64 r.row,.slice ao6 r.rows.1 cap6,.slice ao7 r.data.1 cap7,.slice ao8 r.delta.1 cap8] 126:=by
    have:=box_new (w1.setCell ⟨B,9,none⟩ (.slice ao' (k + 1) cap')) #[.int .i64 r.kind,.int .i64 r.seq,.string r.name,.int .i64 r.length,.int .i64 r.group,.int .i64 r.row,.slice ao6 r.rows.1 cap6,.slice ao7 r.data.1 cap7,.slice ao8 r.delta.1 cap8] 126;rw [show (w1.setCell ⟨B,9,none⟩ (.slice ao' (k + 1) cap')).heap.size = w1.heap.size by simp] at this;exact this
  have B2:Below lo w ((w1.setCell ⟨B,9,none⟩ (.slice ao' (k + 1) cap')).alloc (.cells #[.int .i64 r.kind,.int .i64 r.seq,.string r.name,.int .i64 r.length,.int .i64 r.group,.int .i64 r.row,.slice ao6 r.rows.1 cap6,.slice ao7 r.data.1 cap7,.slice ao8 r.delta.1 cap8] 126)):=by
    have q1:Below lo w w1:=below_grown HL.out g1 hlo;exact (q1.setCell HL.out.low.1 _).alloc (by have:=q1.size;simp;omega) _
  have A2:∀ b,b < w.heap.size → b ≠ B → (Value.slice ao k cap).ownBlock ≠ some b → ((w1.setCell ⟨B,9,none⟩ (.slice ao' (k + 1) cap')).alloc (.cells #[.int .i64 r.kind,.int .i64 r.seq,.string r.name,.int .i64 r.length,.int .i64 r.group,.int .i64 r.row,.slice ao6 r.rows.1 cap6,.slice ao7 r.data.1 cap7,.slice ao8 r.delta.1 cap8] 126)).heap[b]? = w.heap[b]?:=fun b hb hB hv => by
    have sz:w.heap.size + 1 ≤ w1.heap.size:=by have:=g1.size;simp at this;omega
    rw [Below.heap_alloc _ _ b (by simp;omega),heap_setCell_other w1 ⟨B,9,none⟩ b _ hB];exact grown2 bA g1 hb (fun e => hv e.symm)
  have HLO:Hid ((Value.slice ao' (k + 1) cap').ownBlock = (Value.slice ao k cap).ownBlock ∨ ∃ g,w.heap.size ≤ g ∧ (Value.slice ao' (k + 1) cap').ownBlock = some g):=hloc.imp id (fun e => ⟨_,by simp,e⟩);obtain ⟨W2,hW2⟩:∃ y,y = ((w1.setCell ⟨B,9,none⟩ (.slice ao' (k + 1) cap')).alloc (.cells #[.int .i64 r.kind,.int .i64 r.seq,.string r.name,.int .i64 r.length,.int .i64 r.group,.int .i64 r.row,.slice ao6 r.rows.1 cap6,.slice ao7 r.data.1 cap7,.slice ao8 r.delta.1 cap8] 126)):=⟨_,rfl⟩;rw [← hW2] at L2 X2 B2 A2 ⊢;clear hW2 TA TA0 O0 O1 g1 hloc bA x9 z9 z9f L1 hi hz0 hz1 hz2;refine wp_region_still_tail 10 (by kernel_rfl) (by kernel_rfl) ?_;obtain ⟨WB,hWB⟩:∃ y:World,y = { W2 with drawn:=W2.drawn + 1 }:=⟨_,rfl⟩
  have L3:Ldg WB lo B s (k + 1) k x ce (.slice ao' (k + 1) cap') b1 b2 b3 b4 b5:=by rw [hWB];exact L2.drawn _
  have X3:Box WB w1.heap.size #[.int .i64 r.kind,.int .i64 r.seq,.string r.name,.int .i64 r.length,.int .i64 r.group,.int .i64 r.row,.slice ao6 r.rows.1 cap6,.slice ao7 r.data.1 cap7,.slice ao8 r.delta.1 cap8] 126:=by rw [hWB];exact X2
  have B3:Below lo w WB:=by rw [hWB];exact ⟨B2.os,B2.tape,B2.output,B2.size,B2.block⟩
  have HA3:Hid (∀ b,b < w.heap.size → b ≠ B → (Value.slice ao k cap).ownBlock ≠ some b → WB.heap[b]? = w.heap[b]?):=by rw [hWB];exact A2
  rw [← hWB];clear hWB L2 X2 B2 A2;have HL3:Hid (Ldg WB lo B s (k + 1) k x ce (.slice ao' (k + 1) cap') b1 b2 b3 b4 b5):=L3;have HZ3:Hid (w.heap.size ≤ WB.heap.size):=B3.size;have HB3:Hid (Below lo w WB):=B3;have c0:WB.cell? ⟨w1.heap.size,0,none⟩ = some (.int .i64 r.kind):=X3.cell 0;have c1:WB.cell? ⟨w1.heap.size,1,none⟩ = some (.int .i64 r.seq):=X3.cell 1;have c2:WB.cell? ⟨w1.heap.size,2,none⟩ = some (.string r.name):=X3.cell 2;have c3:WB.cell? ⟨w1.heap.size,3,none⟩ = some (.int .i64 r.length):=X3.cell 3;have c4:WB.cell? ⟨w1.heap.size,4,none⟩ = some (.int .i64 r.group):=X3.cell 4;have c5:WB.cell? ⟨w1.heap.size,5,none⟩ = some (.int .i64 r.row):=X3.cell 5;have c6:WB.cell? ⟨w1.heap.size,6,none⟩ = some (.slice ao6 r.rows.1 cap6):=X3.cell 6;have c7:WB.cell? ⟨w1.heap.size,7,none⟩ = some (.slice ao7 r.data.1 cap7):=X3.cell 7;have c8:WB.cell? ⟨w1.heap.size,8,none⟩ = some (.slice ao8 r.delta.1 cap8):=X3.cell 8;have d2:WB.cell? ⟨B,11,none⟩ = some (.map (some b2)):=L3.box.cell 11;obtain ⟨kl,hkl⟩:=keyOf_I hs;have hlook:=L3.m2.look keyI Tryz.underlying71 (zero64 _) hkl;have hcn:=cN_le (fun i => (x i).kind = 2) (fun i => .int .i64 (x i).seq) (.int .i64 r.seq) k;rw [show movF x k (.int .i64 r.seq) = cntF (fun i => (x i).kind = 2) (fun i => .int .i64 (x i).seq) k (.int .i64 r.seq) from rfl,cntF_get] at hlook;obtain ⟨cn,hcn2⟩:∃ cn,cn = cN (fun i => (x i).kind = 2) (fun i => .int .i64 (x i).seq) (.int .i64 r.seq) k:=⟨_,rfl⟩;have HCN:Hid (cn = cN (fun i => (x i).kind = 2) (fun i => .int .i64 (x i).seq) (.int .i64 r.seq) k):=hcn2;rw [← hcn2] at hlook hcn
  have hwr:IntKind.i64.wrap ((cn:Int) + 1) = (cn:Int) + 1:=by rw [IntKind.wrap_i64];omega
  obtain ⟨w',hrun,M,G,S⟩:=L3.m2.put keyI Tryz.underlying71 (by unfold maxLen;omega) hkl (.int .i64 ((cn:Int) + 1));have HM:Hid (MapV w' 2 b2 (k + 1) (putF (movF x k) (.int .i64 r.seq) (.int .i64 ((cn:Int) + 1)))):=M;have HE:Hid (∀ b,b < WB.heap.size → b ∉ [b2] → w'.heap[b]? = WB.heap[b]?):=fun b hb hn => G.block b hb (fun e => by cases e;simp at hn);have HBE:Hid (Below lo w w'):=B3.trans ⟨G.os,G.tape,G.output,G.size,fun b hb => G.block b (by have:=B3.size;omega) (fun e => by cases e;have:=L3.low;omega)⟩;clear M G L3 X3 B3 hkl hcn2
  simp only [List.take_succ_cons,List.take_zero,List.drop_succ_cons,List.drop_zero]
  repeat still_step
  refine wpStill_nil ?_;go_wp2;refine bodyPost_end (v:=.tuple #[]) (by simp [results,Tryz.results70]) rfl ?_
  exact ⟨rfl,⟨_,HL3.out.next (T:=[b2]) HE.out (fun b hb => by simp at hb ⊢;omega) (by rw [show newF x ce (k + 1) = newF x ce k from lastF_skip (show ¬ (x k).kind = 1 by rw [HX.out,HKD.out];decide)];exact (HL3.out.m1.block (HE.out b1 HL3.out.m1.lt (by have:=HL3.out.nd;simp at this ⊢;omega))).mono (Nat.le_succ k))
    (by rw [show movF x (k + 1) = putF (movF x k) (.int .i64 (x k).seq) (.int .i64 ((cN (fun i => (x i).kind = 2) (fun i => .int .i64 (x i).seq) (.int .i64 (x k).seq) k:Int) + 1)) from cntF_put (show (x k).kind = 2 by rw [HX.out,HKD.out]),HX.out,← HCN.out];exact HM.out)
    (by rw [show donF x (k + 1) = donF x k from cntF_skip (show ¬ (x k).kind = 3 by rw [HX.out,HKD.out];decide)];exact (HL3.out.m3.block (HE.out b3 HL3.out.m3.lt (by have:=HL3.out.nd;simp at this ⊢;omega))).mono (Nat.le_succ k))
    (by rw [show endF x (k + 1) = endF x k from cntF_skip (show ¬ (x k).kind = 3 by rw [HX.out,HKD.out];decide)];exact (HL3.out.m4.block (HE.out b4 HL3.out.m4.lt (by have:=HL3.out.nd;simp at this ⊢;omega))).mono (Nat.le_succ k))
    (by rw [show shaF x (k + 1) = shaF x k from lastF_skip (show ¬ (x k).kind = 4 by rw [HX.out,HKD.out];decide)];exact (HL3.out.m5.block (HE.out b5 HL3.out.m5.lt (by have:=HL3.out.nd;simp at this ⊢;omega))).mono (Nat.le_succ k)),⟨HLO.out,fun b hb hT hv => (HE.out b (Nat.lt_of_lt_of_le hb HZ3.out) (fun q => hT (by simp at q ⊢;omega))).trans (HA3.out b hb (fun e => hT (by rw [e];simp)) hv)⟩⟩,HBE.out⟩
set_option maxHeartbeats 8000000 in
set_option maxRecDepth 20000 in
theorem enter_share {w:World} {lo B:Nat} {s:Nat → Int} {k:Nat} {x:Nat → RecD} {ce:Nat → List Value} {v:Value} {b1 b2 b3 b4 b5:Nat} (h:Ldg w lo B s k k x ce v b1 b2 b3 b4 b5) (hk:k ≤ 1000000) (hlo:lo ≤ w.heap.size)
    {r:RecD} {ao6 ao7 ao8:Option Addr} {cap6 cap7 cap8:Nat} (hx:x k = r) (hc:ce k = [.int .i64 r.kind,.int .i64 r.seq,.string r.name,.int .i64 r.length,.int .i64 r.group,.int .i64 r.row,.slice ao6 r.rows.1 cap6,.slice ao7 r.data.1 cap7,.slice ao8 r.delta.1 cap8]) (hkd:r.kind = 4) (hn:r.name.size ≤ maxLen) (hs:-9223372036854775808 ≤ r.seq ∧ r.seq ≤ 9223372036854775807) (hg:-9223372036854775808 ≤ r.group ∧ r.group ≤ 9223372036854775807) (hw:-9223372036854775808 ≤ r.row ∧ r.row ≤ 9223372036854775807) :
    Calls Tryz.prog 70 #[.pointer (some ⟨B,0,none⟩),.iface 160 (.agg #[.int .i64 r.kind,.int .i64 r.seq,.string r.name,.int .i64 r.length,.int .i64 r.group,.int .i64 r.row,.slice ao6 r.rows.1 cap6,.slice ao7 r.data.1 cap7,.slice ao8 r.delta.1 cap8])] w fun e w' => e = .returned (.tuple #[]) ∧ (∃ v',Ldg w' lo B s (k + 1) (k + 1) x ce v' b1 b2 b3 b4 b5 ∧ EntQ w w' v v' [B,b1,b2,b3,b4,b5]) ∧ Below lo w w':=by
  have HX:Hid (x k = r):=hx;have HC:Hid (ce k = [.int .i64 r.kind,.int .i64 r.seq,.string r.name,.int .i64 r.length,.int .i64 r.group,.int .i64 r.row,.slice ao6 r.rows.1 cap6,.slice ao7 r.data.1 cap7,.slice ao8 r.delta.1 cap8]):=hc;have HKD:Hid (r.kind = 4):=hkd
  have HEV:Hid (entV (x k).kind (ce k) = .iface 160 (.agg #[.int .i64 r.kind,.int .i64 r.seq,.string r.name,.int .i64 r.length,.int .i64 r.group,.int .i64 r.row,.slice ao6 r.rows.1 cap6,.slice ao7 r.data.1 cap7,.slice ao8 r.delta.1 cap8])):=by
    show entV (x k).kind (ce k) = .iface 160 (.agg #[.int .i64 r.kind,.int .i64 r.seq,.string r.name,.int .i64 r.length,.int .i64 r.group,.int .i64 r.row,.slice ao6 r.rows.1 cap6,.slice ao7 r.data.1 cap7,.slice ao8 r.delta.1 cap8])
    unfold entV entT;rw [hx,hc]
    simp [hkd]
  clear hx hc hkd;obtain ⟨i0,hi,hz0,hz1,hz2⟩:=info_parts info_entry;have HL:Hid (Ldg w lo B s k k x ce v b1 b2 b3 b4 b5):=h;obtain ⟨ao,cap,hv⟩:=rowE_slice h.row;subst hv;have x9:w.cell? ⟨B,9,none⟩ = some (.slice ao k cap):=h.box.cell 9;have O0:=h.row;clear h;have TA:=ta33;have TA0:=ta30;have TA1:=ta31;have TA2:=ta32;have bA:w.grownBy (w.alloc (.cells #[.iface 160 (.agg #[.int .i64 r.kind,.int .i64 r.seq,.string r.name,.int .i64 r.length,.int .i64 r.group,.int .i64 r.row,.slice ao6 r.rows.1 cap6,.slice ao7 r.data.1 cap7,.slice ao8 r.delta.1 cap8])] 117)) none:=World.grownBy_alloc _ _ _
  go_enter Tryz.func70,Tryz.ntmps70
  go_upto_region 14 with (at_builtin;refine wpList_append_own_at _ rfl _ _ 69 rfl lo 117 i0 .nilIface 1 16 Tryz.underlying69 hi hz0 hz1 hz2 rfl (by decide) _ _ _ rfl (O0.alloc _) ⟨w.heap.size,0,none⟩ 1 1 [.iface 160 (.agg #[.int .i64 r.kind,.int .i64 r.seq,.string r.name,.int .i64 r.length,.int .i64 r.group,.int .i64 r.row,.slice ao6 r.rows.1 cap6,.slice ao7 r.data.1 cap7,.slice ao8 r.delta.1 cap8])] rfl rfl (cell_one_new _ _ _) (fun u hu => by simp at hu;subst hu;rfl) (by unfold maxLen;omega) (by omega) (by simp;omega) ?_;intro v' w1 O1 g1 hnil hloc;obtain ⟨ao',cap',rfl⟩:=rowE_slice O1;have L1:=HL.out.grown bA g1;have z9:=L1.cell 9;have z9f:=L1.frozen 9;clear hnil)
  have L2:Ldg ((w1.setCell ⟨B,9,none⟩ (.slice ao' (k + 1) cap')).alloc (.cells #[.int .i64 r.kind,.int .i64 r.seq,.string r.name,.int .i64 r.length,.int .i64 r.group,.int .i64 r.row,.slice ao6 r.rows.1 cap6,.slice ao7 r.data.1 cap7,.slice ao8 r.delta.1 cap8] 160)) lo B s (k + 1) k x ce (.slice ao' (k + 1) cap') b1 b2 b3 b4 b5:=HL.out.laid g1 (by rw [HEV.out];exact O1) hloc
  have X2:Box ((w1.setCell ⟨B,9,none⟩ (.slice ao' (k + 1) cap')).alloc (.cells #[.int .i64 r.kind,.int .i64 r.seq,.string r.name,.int .i64 r.length,.int .i64 r.group,.int .i64 r.row,.slice ao6 r.rows.1 cap6,.slice ao7 r.data.1 cap7,.slice ao8 r.delta.1 cap8] 160)) w1.heap.size #[.int .i64 r.kind,.int .i64 r.seq,.string r.name,.int .i64 r.length,.int .i64 r.group,.int .i64 r.row,.slice ao6 r.rows.1 cap6,.slice ao7 r.data.1 cap7,.slice ao8 r.delta.1 cap8] 160:=by
    have:=box_new (w1.setCell ⟨B,9,none⟩ (.slice ao' (k + 1) cap')) #[.int .i64 r.kind,.int .i64 r.seq,.string r.name,.int .i64 r.length,.int .i64 r.group,.int .i64 r.row,.slice ao6 r.rows.1 cap6,.slice ao7 r.data.1 cap7,.slice ao8 r.delta.1 cap8] 160;rw [show (w1.setCell ⟨B,9,none⟩ (.slice ao' (k + 1) cap')).heap.size = w1.heap.size by simp] at this;exact this
  have B2:Below lo w ((w1.setCell ⟨B,9,none⟩ (.slice ao' (k + 1) cap')).alloc (.cells #[.int .i64 r.kind,.int .i64 r.seq,.string r.name,.int .i64 r.length,.int .i64 r.group,.int .i64 r.row,.slice ao6 r.rows.1 cap6,.slice ao7 r.data.1 cap7,.slice ao8 r.delta.1 cap8] 160)):=by
    have q1:Below lo w w1:=below_grown HL.out g1 hlo;exact (q1.setCell HL.out.low.1 _).alloc (by have:=q1.size;simp;omega) _
  have A2:∀ b,b < w.heap.size → b ≠ B → (Value.slice ao k cap).ownBlock ≠ some b → ((w1.setCell ⟨B,9,none⟩ (.slice ao' (k + 1) cap')).alloc (.cells #[.int .i64 r.kind,.int .i64 r.seq,.string r.name,.int .i64 r.length,.int .i64 r.group,.int .i64 r.row,.slice ao6 r.rows.1 cap6,.slice ao7 r.data.1 cap7,.slice ao8 r.delta.1 cap8] 160)).heap[b]? = w.heap[b]?:=fun b hb hB hv => by
    have sz:w.heap.size + 1 ≤ w1.heap.size:=by have:=g1.size;simp at this;omega
    rw [Below.heap_alloc _ _ b (by simp;omega),heap_setCell_other w1 ⟨B,9,none⟩ b _ hB];exact grown2 bA g1 hb (fun e => hv e.symm)
  have HLO:Hid ((Value.slice ao' (k + 1) cap').ownBlock = (Value.slice ao k cap).ownBlock ∨ ∃ g,w.heap.size ≤ g ∧ (Value.slice ao' (k + 1) cap').ownBlock = some g):=hloc.imp id (fun e => ⟨_,by simp,e⟩);obtain ⟨W2,hW2⟩:∃ y,y = ((w1.setCell ⟨B,9,none⟩ (.slice ao' (k + 1) cap')).alloc (.cells #[.int .i64 r.kind,.int .i64 r.seq,.string r.name,.int .i64 r.length,.int .i64 r.group,.int .i64 r.row,.slice ao6 r.rows.1 cap6,.slice ao7 r.data.1 cap7,.slice ao8 r.delta.1 cap8] 160)):=⟨_,rfl⟩;rw [← hW2] at L2 X2 B2 A2 ⊢;clear hW2 TA TA0 TA1 TA2 O0 O1 g1 hloc bA x9 z9 z9f L1 hi hz0 hz1 hz2;refine wp_region_still_tail 17 (by kernel_rfl) (by kernel_rfl) ?_;obtain ⟨WB,hWB⟩:∃ y:World,y = { W2 with drawn:=W2.drawn + 1 }:=⟨_,rfl⟩
  have L3:Ldg WB lo B s (k + 1) k x ce (.slice ao' (k + 1) cap') b1 b2 b3 b4 b5:=by rw [hWB];exact L2.drawn _
  have X3:Box WB w1.heap.size #[.int .i64 r.kind,.int .i64 r.seq,.string r.name,.int .i64 r.length,.int .i64 r.group,.int .i64 r.row,.slice ao6 r.rows.1 cap6,.slice ao7 r.data.1 cap7,.slice ao8 r.delta.1 cap8] 160:=by rw [hWB];exact X2
  have B3:Below lo w WB:=by rw [hWB];exact ⟨B2.os,B2.tape,B2.output,B2.size,B2.block⟩
  have HA3:Hid (∀ b,b < w.heap.size → b ≠ B → (Value.slice ao k cap).ownBlock ≠ some b → WB.heap[b]? = w.heap[b]?):=by rw [hWB];exact A2
  rw [← hWB];clear hWB L2 X2 B2 A2;have HL3:Hid (Ldg WB lo B s (k + 1) k x ce (.slice ao' (k + 1) cap') b1 b2 b3 b4 b5):=L3;have HZ3:Hid (w.heap.size ≤ WB.heap.size):=B3.size;have HB3:Hid (Below lo w WB):=B3;have c0:WB.cell? ⟨w1.heap.size,0,none⟩ = some (.int .i64 r.kind):=X3.cell 0;have c1:WB.cell? ⟨w1.heap.size,1,none⟩ = some (.int .i64 r.seq):=X3.cell 1;have c2:WB.cell? ⟨w1.heap.size,2,none⟩ = some (.string r.name):=X3.cell 2;have c3:WB.cell? ⟨w1.heap.size,3,none⟩ = some (.int .i64 r.length):=X3.cell 3;have c4:WB.cell? ⟨w1.heap.size,4,none⟩ = some (.int .i64 r.group):=X3.cell 4;have c5:WB.cell? ⟨w1.heap.size,5,none⟩ = some (.int .i64 r.row):=X3.cell 5;have c6:WB.cell? ⟨w1.heap.size,6,none⟩ = some (.slice ao6 r.rows.1 cap6):=X3.cell 6;have c7:WB.cell? ⟨w1.heap.size,7,none⟩ = some (.slice ao7 r.data.1 cap7):=X3.cell 7;have c8:WB.cell? ⟨w1.heap.size,8,none⟩ = some (.slice ao8 r.delta.1 cap8):=X3.cell 8;have d5:WB.cell? ⟨B,14,none⟩ = some (.map (some b5)):=L3.box.cell 14;obtain ⟨kl,hkl⟩:=keyOf_place hg hw;obtain ⟨w',hrun,M,G,S⟩:=L3.m5.put keyPlace Tryz.underlying73 (by unfold maxLen;omega) hkl (.int .i64 r.seq);have HM:Hid (MapV w' 162 b5 (k + 1) (putF (shaF x k) (.agg #[.int .i64 r.group,.int .i64 r.row]) (.int .i64 r.seq))):=M;have HE:Hid (∀ b,b < WB.heap.size → b ∉ [b5] → w'.heap[b]? = WB.heap[b]?):=fun b hb hn => G.block b hb (fun e => by cases e;simp at hn);have HBE:Hid (Below lo w w'):=B3.trans ⟨G.os,G.tape,G.output,G.size,fun b hb => G.block b (by have:=B3.size;omega) (fun e => by cases e;have:=L3.low;omega)⟩;clear M G L3 X3 B3 hkl
  simp only [List.take_succ_cons,List.take_zero,List.drop_succ_cons,List.drop_zero]
  repeat still_step
  refine wpStill_nil ?_;go_wp2;refine bodyPost_end (v:=.tuple #[]) (by simp [results,Tryz.results70]) rfl ?_
  exact ⟨rfl,⟨_,HL3.out.next (T:=[b5]) HE.out (fun b hb => by simp at hb ⊢;omega) (by rw [show newF x ce (k + 1) = newF x ce k from lastF_skip (show ¬ (x k).kind = 1 by rw [HX.out,HKD.out];decide)];exact (HL3.out.m1.block (HE.out b1 HL3.out.m1.lt (by have:=HL3.out.nd;simp at this ⊢;omega))).mono (Nat.le_succ k))
    (by rw [show movF x (k + 1) = movF x k from cntF_skip (show ¬ (x k).kind = 2 by rw [HX.out,HKD.out];decide)];exact (HL3.out.m2.block (HE.out b2 HL3.out.m2.lt (by have:=HL3.out.nd;simp at this ⊢;omega))).mono (Nat.le_succ k))
    (by rw [show donF x (k + 1) = donF x k from cntF_skip (show ¬ (x k).kind = 3 by rw [HX.out,HKD.out];decide)];exact (HL3.out.m3.block (HE.out b3 HL3.out.m3.lt (by have:=HL3.out.nd;simp at this ⊢;omega))).mono (Nat.le_succ k))
    (by rw [show endF x (k + 1) = endF x k from cntF_skip (show ¬ (x k).kind = 3 by rw [HX.out,HKD.out];decide)];exact (HL3.out.m4.block (HE.out b4 HL3.out.m4.lt (by have:=HL3.out.nd;simp at this ⊢;omega))).mono (Nat.le_succ k))
    (by rw [show shaF x (k + 1) = putF (shaF x k) (.agg #[.int .i64 (x k).group,.int .i64 (x k).row]) (.int .i64 (x k).seq) from lastF_put (show (x k).kind = 4 by rw [HX.out,HKD.out]),HX.out];exact HM.out),⟨HLO.out,fun b hb hT hv => (HE.out b (Nat.lt_of_lt_of_le hb HZ3.out) (fun q => hT (by simp at q ⊢;omega))).trans (HA3.out b hb (fun e => hT (by rw [e];simp)) hv)⟩⟩,HBE.out⟩
set_option maxHeartbeats 8000000 in
set_option maxRecDepth 20000 in
theorem enter_done {w:World} {lo B:Nat} {s:Nat → Int} {k:Nat} {x:Nat → RecD} {ce:Nat → List Value} {v:Value} {b1 b2 b3 b4 b5:Nat} (h:Ldg w lo B s k k x ce v b1 b2 b3 b4 b5) (hk:k ≤ 1000000) (hlo:lo ≤ w.heap.size)
    {r:RecD} {ao6 ao7 ao8:Option Addr} {cap6 cap7 cap8:Nat} (hx:x k = r) (hc:ce k = [.int .i64 r.kind,.int .i64 r.seq,.string r.name,.int .i64 r.length,.int .i64 r.group,.int .i64 r.row,.slice ao6 r.rows.1 cap6,.slice ao7 r.data.1 cap7,.slice ao8 r.delta.1 cap8]) (hkd:r.kind = 3) (hn:r.name.size ≤ maxLen) (hs:-9223372036854775808 ≤ r.seq ∧ r.seq ≤ 9223372036854775807) (hg:-9223372036854775808 ≤ r.group ∧ r.group ≤ 9223372036854775807) (hw:-9223372036854775808 ≤ r.row ∧ r.row ≤ 9223372036854775807) :
    Calls Tryz.prog 70 #[.pointer (some ⟨B,0,none⟩),.iface 157 (.agg #[.int .i64 r.kind,.int .i64 r.seq,.string r.name,.int .i64 r.length,.int .i64 r.group,.int .i64 r.row,.slice ao6 r.rows.1 cap6,.slice ao7 r.data.1 cap7,.slice ao8 r.delta.1 cap8])] w fun e w' => e = .returned (.tuple #[]) ∧ (∃ v',Ldg w' lo B s (k + 1) (k + 1) x ce v' b1 b2 b3 b4 b5 ∧ EntQ w w' v v' [B,b1,b2,b3,b4,b5]) ∧ Below lo w w':=by
  have HX:Hid (x k = r):=hx;have HC:Hid (ce k = [.int .i64 r.kind,.int .i64 r.seq,.string r.name,.int .i64 r.length,.int .i64 r.group,.int .i64 r.row,.slice ao6 r.rows.1 cap6,.slice ao7 r.data.1 cap7,.slice ao8 r.delta.1 cap8]):=hc;have HKD:Hid (r.kind = 3):=hkd
  have HEV:Hid (entV (x k).kind (ce k) = .iface 157 (.agg #[.int .i64 r.kind,.int .i64 r.seq,.string r.name,.int .i64 r.length,.int .i64 r.group,.int .i64 r.row,.slice ao6 r.rows.1 cap6,.slice ao7 r.data.1 cap7,.slice ao8 r.delta.1 cap8])):=by
    show entV (x k).kind (ce k) = .iface 157 (.agg #[.int .i64 r.kind,.int .i64 r.seq,.string r.name,.int .i64 r.length,.int .i64 r.group,.int .i64 r.row,.slice ao6 r.rows.1 cap6,.slice ao7 r.data.1 cap7,.slice ao8 r.delta.1 cap8])
    unfold entV entT;rw [hx,hc]
    simp [hkd]
  clear hx hc hkd;obtain ⟨i0,hi,hz0,hz1,hz2⟩:=info_parts info_entry;have HL:Hid (Ldg w lo B s k k x ce v b1 b2 b3 b4 b5):=h;obtain ⟨ao,cap,hv⟩:=rowE_slice h.row;subst hv;have x9:w.cell? ⟨B,9,none⟩ = some (.slice ao k cap):=h.box.cell 9;have O0:=h.row;clear h;have TA:=ta22;have TA0:=ta20;have TA1:=ta21;have bA:w.grownBy (w.alloc (.cells #[.iface 157 (.agg #[.int .i64 r.kind,.int .i64 r.seq,.string r.name,.int .i64 r.length,.int .i64 r.group,.int .i64 r.row,.slice ao6 r.rows.1 cap6,.slice ao7 r.data.1 cap7,.slice ao8 r.delta.1 cap8])] 117)) none:=World.grownBy_alloc _ _ _
  go_enter Tryz.func70,Tryz.ntmps70
  go_upto_region 10 with (at_builtin;refine wpList_append_own_at _ rfl _ _ 69 rfl lo 117 i0 .nilIface 1 16 Tryz.underlying69 hi hz0 hz1 hz2 rfl (by decide) _ _ _ rfl (O0.alloc _) ⟨w.heap.size,0,none⟩ 1 1 [.iface 157 (.agg #[.int .i64 r.kind,.int .i64 r.seq,.string r.name,.int .i64 r.length,.int .i64 r.group,.int .i64 r.row,.slice ao6 r.rows.1 cap6,.slice ao7 r.data.1 cap7,.slice ao8 r.delta.1 cap8])] rfl rfl (cell_one_new _ _ _) (fun u hu => by simp at hu;subst hu;rfl) (by unfold maxLen;omega) (by omega) (by simp;omega) ?_;intro v' w1 O1 g1 hnil hloc;obtain ⟨ao',cap',rfl⟩:=rowE_slice O1;have L1:=HL.out.grown bA g1;have z9:=L1.cell 9;have z9f:=L1.frozen 9;clear hnil)
  have L2:Ldg ((w1.setCell ⟨B,9,none⟩ (.slice ao' (k + 1) cap')).alloc (.cells #[.int .i64 r.kind,.int .i64 r.seq,.string r.name,.int .i64 r.length,.int .i64 r.group,.int .i64 r.row,.slice ao6 r.rows.1 cap6,.slice ao7 r.data.1 cap7,.slice ao8 r.delta.1 cap8] 157)) lo B s (k + 1) k x ce (.slice ao' (k + 1) cap') b1 b2 b3 b4 b5:=HL.out.laid g1 (by rw [HEV.out];exact O1) hloc
  have X2:Box ((w1.setCell ⟨B,9,none⟩ (.slice ao' (k + 1) cap')).alloc (.cells #[.int .i64 r.kind,.int .i64 r.seq,.string r.name,.int .i64 r.length,.int .i64 r.group,.int .i64 r.row,.slice ao6 r.rows.1 cap6,.slice ao7 r.data.1 cap7,.slice ao8 r.delta.1 cap8] 157)) w1.heap.size #[.int .i64 r.kind,.int .i64 r.seq,.string r.name,.int .i64 r.length,.int .i64 r.group,.int .i64 r.row,.slice ao6 r.rows.1 cap6,.slice ao7 r.data.1 cap7,.slice ao8 r.delta.1 cap8] 157:=by
    have:=box_new (w1.setCell ⟨B,9,none⟩ (.slice ao' (k + 1) cap')) #[.int .i64 r.kind,.int .i64 r.seq,.string r.name,.int .i64 r.length,.int .i64 r.group,.int .i64 r.row,.slice ao6 r.rows.1 cap6,.slice ao7 r.data.1 cap7,.slice ao8 r.delta.1 cap8] 157;rw [show (w1.setCell ⟨B,9,none⟩ (.slice ao' (k + 1) cap')).heap.size = w1.heap.size by simp] at this;exact this
  have B2:Below lo w ((w1.setCell ⟨B,9,none⟩ (.slice ao' (k + 1) cap')).alloc (.cells #[.int .i64 r.kind,.int .i64 r.seq,.string r.name,.int .i64 r.length,.int .i64 r.group,.int .i64 r.row,.slice ao6 r.rows.1 cap6,.slice ao7 r.data.1 cap7,.slice ao8 r.delta.1 cap8] 157)):=by
    have q1:Below lo w w1:=below_grown HL.out g1 hlo;exact (q1.setCell HL.out.low.1 _).alloc (by have:=q1.size;simp;omega) _
  have A2:∀ b,b < w.heap.size → b ≠ B → (Value.slice ao k cap).ownBlock ≠ some b → ((w1.setCell ⟨B,9,none⟩ (.slice ao' (k + 1) cap')).alloc (.cells #[.int .i64 r.kind,.int .i64 r.seq,.string r.name,.int .i64 r.length,.int .i64 r.group,.int .i64 r.row,.slice ao6 r.rows.1 cap6,.slice ao7 r.data.1 cap7,.slice ao8 r.delta.1 cap8] 157)).heap[b]? = w.heap[b]?:=fun b hb hB hv => by
    have sz:w.heap.size + 1 ≤ w1.heap.size:=by have:=g1.size;simp at this;omega
    rw [Below.heap_alloc _ _ b (by simp;omega),heap_setCell_other w1 ⟨B,9,none⟩ b _ hB];exact grown2 bA g1 hb (fun e => hv e.symm)
  have HLO:Hid ((Value.slice ao' (k + 1) cap').ownBlock = (Value.slice ao k cap).ownBlock ∨ ∃ g,w.heap.size ≤ g ∧ (Value.slice ao' (k + 1) cap').ownBlock = some g):=hloc.imp id (fun e => ⟨_,by simp,e⟩);obtain ⟨W2,hW2⟩:∃ y,y = ((w1.setCell ⟨B,9,none⟩ (.slice ao' (k + 1) cap')).alloc (.cells #[.int .i64 r.kind,.int .i64 r.seq,.string r.name,.int .i64 r.length,.int .i64 r.group,.int .i64 r.row,.slice ao6 r.rows.1 cap6,.slice ao7 r.data.1 cap7,.slice ao8 r.delta.1 cap8] 157)):=⟨_,rfl⟩;rw [← hW2] at L2 X2 B2 A2 ⊢;clear hW2 TA TA0 TA1 O0 O1 g1 hloc bA x9 z9 z9f L1 hi hz0 hz1 hz2;have L3:Ldg W2.drew lo B s (k + 1) k x ce (.slice ao' (k + 1) cap') b1 b2 b3 b4 b5:=L2.drawn _;have X3:Box W2.drew w1.heap.size #[.int .i64 r.kind,.int .i64 r.seq,.string r.name,.int .i64 r.length,.int .i64 r.group,.int .i64 r.row,.slice ao6 r.rows.1 cap6,.slice ao7 r.data.1 cap7,.slice ao8 r.delta.1 cap8] 157:=X2;have B3:Below lo w W2.drew:=⟨B2.os,B2.tape,B2.output,B2.size,B2.block⟩;have HA3:Hid (∀ b,b < w.heap.size → b ≠ B → (Value.slice ao k cap).ownBlock ≠ some b → W2.drew.heap[b]? = w.heap[b]?):=A2;obtain ⟨kl,hkl⟩:=keyOf_step hs hg;have hcn:=cN_le (fun i => (x i).kind = 3) (fun i => .agg #[.int .i64 (x i).seq,.int .i64 (x i).group]) (.agg #[.int .i64 r.seq,.int .i64 r.group]) k;have hget:(donF x k (.agg #[.int .i64 r.seq,.int .i64 r.group])).getD (.int .i64 0) = .int .i64 (cN (fun i => (x i).kind = 3) (fun i => .agg #[.int .i64 (x i).seq,.int .i64 (x i).group]) (.agg #[.int .i64 r.seq,.int .i64 r.group]) k:Int):=cntF_get _ _ _ _;obtain ⟨cn,hcn2⟩:∃ cn,cn = cN (fun i => (x i).kind = 3) (fun i => .agg #[.int .i64 (x i).seq,.int .i64 (x i).group]) (.agg #[.int .i64 r.seq,.int .i64 r.group]) k:=⟨_,rfl⟩;have HCN:Hid (cn = cN (fun i => (x i).kind = 3) (fun i => .agg #[.int .i64 (x i).seq,.int .i64 (x i).group]) (.agg #[.int .i64 r.seq,.int .i64 r.group]) k):=hcn2;rw [← hcn2] at hcn hget;have hlook:=L3.m3.look keyStep Tryz.underlying72 (zero64 _) hkl;obtain ⟨st,w5,hent,z5,G5,hlk5,hst⟩:=L3.m3.entry lawStep Tryz.underlying72 (by unfold maxLen;omega) zero64 hkl;rw [hget] at hlook hent hlk5
  have hwr:IntKind.i64.wrap ((cn:Int) + 1) = (cn:Int) + 1:=by rw [IntKind.wrap_i64];omega
  obtain ⟨w6,hrun6,M6,G6,S6⟩:=hst (.int .i64 ((cn:Int) + 1));have S3:(fun w' => w'.cell? ⟨B,12,none⟩ = some (.map (some b3)) ∧ w'.cell? ⟨w1.heap.size,1,none⟩ = some (.int .i64 r.seq) ∧ w'.cell? ⟨w1.heap.size,4,none⟩ = some (.int .i64 r.group) ∧ (Instr.lookup 72 (.map (some b3)) (.agg #[.int .i64 r.seq,.int .i64 r.group]) false).run Tryz.prog w' = .ok (.int .i64 (cn:Int)) w') W2.drew:=⟨L3.box.cell 12,X3.cell 1,X3.cell 4,hlook⟩;have nb:∀ b,b < W2.drew.heap.size → b ≠ b3 → w5.heap[b]? = W2.drew.heap[b]?:=fun b hb hn => G5.block b hb (fun e => hn (by cases e;rfl))
  have nB:B ≠ b3:=fun e => by have:=L3.nd;simp at this;omega
  have nX:w1.heap.size ≠ b3:=fun e => by
    obtain ⟨D,⟨es,clock,q1,_⟩,_⟩:=L3.m3;have:=X3;unfold Box at this;rw [e,q1] at this
    cases this
  have S5:(fun w' => w'.cell? ⟨B,12,none⟩ = some (.map (some b3)) ∧ w'.cell? ⟨w1.heap.size,1,none⟩ = some (.int .i64 r.seq) ∧ w'.cell? ⟨w1.heap.size,4,none⟩ = some (.int .i64 r.group) ∧ (Instr.lookup 72 (.map (some b3)) (.agg #[.int .i64 r.seq,.int .i64 r.group]) false).run Tryz.prog w' = .ok (.int .i64 (cn:Int)) w') w5:=⟨(World.cell?_of_block (w:=W2.drew) (nb B L3.box.lt nB)).trans (L3.box.cell 12),(World.cell?_of_block (w:=W2.drew) (nb _ X3.lt nX)).trans (X3.cell 1),(World.cell?_of_block (w:=W2.drew) (nb _ X3.lt nX)).trans (X3.cell 4),hlk5⟩;have HM3:Hid (MapV w6 159 b3 (k + 1) (putF (donF x k) (.agg #[.int .i64 r.seq,.int .i64 r.group]) (.int .i64 ((cn:Int) + 1)))):=M6;have HE6:Hid (∀ b,b < W2.drew.heap.size → b ≠ b3 → w6.heap[b]? = W2.drew.heap[b]?):=fun b hb hn => G6.block b hb (fun e => hn (by cases e;rfl));have HB6:Hid (Below lo w w6):=B3.trans ⟨G6.os,G6.tape,G6.output,G6.size,fun b hb => G6.block b (by have:=B3.size;omega) (fun e => by cases e;have:=L3.low;omega)⟩;have HX6:Hid (Box w6 w1.heap.size #[.int .i64 r.kind,.int .i64 r.seq,.string r.name,.int .i64 r.length,.int .i64 r.group,.int .i64 r.row,.slice ao6 r.rows.1 cap6,.slice ao7 r.data.1 cap7,.slice ao8 r.delta.1 cap8] 157):=(HE6.out _ X3.lt nX).trans X3;have HY6:Hid (w6.cell? ⟨B,13,none⟩ = some (.map (some b4))):=(World.cell?_of_block (w:=W2.drew) (HE6.out B L3.box.lt nB)).trans (L3.box.cell 13);have HM4:Hid (MapV w6 2 b4 k (endF x k)):=L3.m4.block (HE6.out b4 L3.m4.lt (fun e => by have:=L3.nd;simp at this;omega));have HL3:Hid (Ldg W2.drew lo B s (k + 1) k x ce (.slice ao' (k + 1) cap') b1 b2 b3 b4 b5):=L3;have HZ3:Hid (w.heap.size ≤ W2.drew.heap.size):=B3.size;clear M6 G6 G5 hst X3 B3 L3 hkl hcn2 hget nb nB nX L2 X2 B2 A2 hlook hlk5;refine wp_region_M 17 (fun w' => w'.cell? ⟨B,12,none⟩ = some (.map (some b3)) ∧ w'.cell? ⟨w1.heap.size,1,none⟩ = some (.int .i64 r.seq) ∧ w'.cell? ⟨w1.heap.size,4,none⟩ = some (.int .i64 r.group) ∧ (Instr.lookup 72 (.map (some b3)) (.agg #[.int .i64 r.seq,.int .i64 r.group]) false).run Tryz.prog w' = .ok (.int .i64 (cn:Int)) w') mixedL S3 (fun hHeld => ?_);refine wpAnyM_pure (i:=0) (oi:=_) (v:=?_) rfl (by kernel_rfl) (fun _ _ _ h => h) (Or.inl ⟨by kernel_rfl,?_⟩) (by assumption) ?_
  rotate_left
  · intro w' hSw;go_simp;try with_reducible rfl
  try simp only [Act.put,SL]
  refine wpAnyM_pure (i:=1) (oi:=_) (v:=?_) rfl (by kernel_rfl) (fun _ _ _ h => h) (Or.inl ⟨by kernel_rfl,?_⟩) (by assumption) ?_
  rotate_left
  · intro w' hSw;go_simp;try with_reducible rfl
  try simp only [Act.put,SL]
  refine wpAnyM_pure (i:=2) (oi:=_) (v:=?_) rfl (by kernel_rfl) (fun _ _ _ h => h) (Or.inl ⟨by kernel_rfl,?_⟩) (by assumption) ?_
  rotate_left
  · intro w' hSw;go_simp;try with_reducible rfl
  try simp only [Act.put,SL]
  refine wpAnyM_take (i:=3) (oi:=_) (v:=?_) 16 rfl (by kernel_rfl) (fun _ _ _ h => h) (Or.inl ⟨by kernel_rfl,?_⟩) (by assumption) ?_
  rotate_left
  · intro w' hSw
    try dsimp only at hSw
    obtain ⟨y1,y2,y3,y4⟩:=hSw;go_simp
    try with_reducible rfl
  try simp only [Act.put,SL]
  refine wpAnyM_pure (i:=4) (oi:=_) (v:=?_) rfl (by kernel_rfl) (fun _ _ _ h => h) (Or.inl ⟨by kernel_rfl,?_⟩) (by assumption) ?_
  rotate_left
  · intro w' hSw;go_simp;try with_reducible rfl
  try simp only [Act.put,SL]
  refine wpAnyM_pure (i:=5) (oi:=_) (v:=?_) rfl (by kernel_rfl) (fun _ _ _ h => h) (Or.inl ⟨by kernel_rfl,?_⟩) (by assumption) ?_
  rotate_left
  · intro w' hSw;go_simp;try with_reducible rfl
  try simp only [Act.put,SL]
  refine wpAnyM_pure (i:=6) (oi:=_) (v:=?_) rfl (by kernel_rfl) (fun _ _ _ h => h) (Or.inl ⟨by kernel_rfl,?_⟩) (by assumption) ?_
  rotate_left
  · intro w' hSw;go_simp;try with_reducible rfl
  try simp only [Act.put,SL]
  refine wpAnyM_take (i:=7) (oi:=_) (v:=?_) 16 rfl (by kernel_rfl) (fun _ _ _ h => h) (Or.inl ⟨by kernel_rfl,?_⟩) (by assumption) ?_
  rotate_left
  · intro w' hSw
    try dsimp only at hSw
    obtain ⟨y1,y2,y3,y4⟩:=hSw;go_simp
    try with_reducible rfl
  try simp only [Act.put,SL]
  refine wpAnyM_pure (i:=8) (oi:=_) (v:=?_) rfl (by kernel_rfl) (fun _ _ _ h => h) (Or.inl ⟨by kernel_rfl,?_⟩) (by assumption) ?_
  rotate_left
  · intro w' hSw;go_simp;try with_reducible rfl
  try simp only [Act.put,SL]
  refine wpAnyM_pure (i:=9) (oi:=_) (v:=?_) rfl (by kernel_rfl) (fun _ _ _ h => h) (Or.inl ⟨by kernel_rfl,?_⟩) (by assumption) ?_
  rotate_left
  · intro w' hSw;go_simp;try with_reducible rfl
  try simp only [Act.put,SL]
  refine wpAnyM_pure (i:=10) (oi:=_) (v:=?_) rfl (by kernel_rfl) (fun _ _ _ h => h) (Or.inl ⟨by kernel_rfl,?_⟩) (by assumption) ?_
  rotate_left
  · intro w' hSw;go_simp;try with_reducible rfl
  try simp only [Act.put,SL]
  refine wpAnyM_take (i:=11) (oi:=_) (v:=?_) 16 rfl (by kernel_rfl) (fun _ _ _ h => h) (Or.inl ⟨by kernel_rfl,?_⟩) (by assumption) ?_
  rotate_left
  · intro w' hSw
    try dsimp only at hSw
    obtain ⟨y1,y2,y3,y4⟩:=hSw;go_simp
    try with_reducible rfl
  try simp only [Act.put,SL]
  refine wpAnyM_pure (i:=12) (oi:=_) (v:=?_) rfl (by kernel_rfl) (fun _ _ _ h => h) (Or.inl ⟨by kernel_rfl,?_⟩) (by assumption) ?_
  rotate_left
  · intro w' hSw;go_simp;try with_reducible rfl
  try simp only [Act.put,SL]
  refine wpAnyM_take (i:=13) (oi:=_) (v:=?_) 16 rfl (by kernel_rfl) (fun _ _ _ h => h) (Or.inl ⟨by kernel_rfl,?_⟩) (by assumption) ?_
  rotate_left
  · intro w' hSw
    try dsimp only at hSw
    obtain ⟨y1,y2,y3,y4⟩:=hSw;go_simp
    try with_reducible rfl
  try simp only [Act.put,SL]
  refine wpAnyM_pure (i:=14) (oi:=_) (v:=?_) rfl (by kernel_rfl) (fun _ _ _ h => h) (Or.inl ⟨by kernel_rfl,?_⟩) (by assumption) ?_
  rotate_left
  · intro w' hSw;go_simp;try with_reducible rfl
  try simp only [Act.put,SL]
  refine wpAnyM_oneS (i:=15) (o:=_) rfl (by kernel_rfl) (fun KC hKC => ?_);refine step_entry rfl 72 _ _ rfl b3 _ _ (by simp [Act.eval,Act.put]) (by simp [Act.eval,Act.put]) hent ?_;refine hKC _ _ S5 ?_;clear hKC KC
  try simp only [Act.put,SL]
  refine wpAnyM_pure (i:=16) (oi:=_) (v:=?_) rfl (by kernel_rfl) (fun _ _ _ h => h) (Or.inl ⟨by kernel_rfl,?_⟩) S5 ?_
  rotate_left
  · intro w' hSw;go_simp;try with_reducible rfl
  try simp only [Act.put,SL]
  refine wpAnyM_one (i:=17) (o:=_) rfl (by kernel_rfl) (by kernel_rfl) (fun KC hKC => ?_);refine step_estore rfl 72 _ _ _ rfl b3 _ _ (by simp [Act.eval,Act.put]) (by simp [Act.eval,Act.put]) (by simp [Act.eval,Act.put]) hrun6 ?_;refine hKC _ _ ?_;clear hKC KC
  try simp only [Act.put,SL]
  refine wpAnyM_done (by kernel_rfl) ?_ _;clear S5 S3 hHeld hent hrun6 z5
  go_upto_region 11 with fail
  refine wp_region_still_tail 10 (by kernel_rfl) (by kernel_rfl) ?_;obtain ⟨WB,hWB⟩:∃ y:World,y = { w6 with drawn:=w6.drawn + 1 }:=⟨_,rfl⟩
  have M3:MapV WB 159 b3 (k + 1) (putF (donF x k) (.agg #[.int .i64 r.seq,.int .i64 r.group]) (.int .i64 ((cn:Int) + 1))):=by rw [hWB];exact HM3.out
  have M4:MapV WB 2 b4 k (endF x k):=by rw [hWB];exact HM4.out
  have X7:Box WB w1.heap.size #[.int .i64 r.kind,.int .i64 r.seq,.string r.name,.int .i64 r.length,.int .i64 r.group,.int .i64 r.row,.slice ao6 r.rows.1 cap6,.slice ao7 r.data.1 cap7,.slice ao8 r.delta.1 cap8] 157:=by rw [hWB];exact HX6.out
  have d4:WB.cell? ⟨B,13,none⟩ = some (.map (some b4)):=by rw [hWB];exact HY6.out
  have B7:Below lo w WB:=by rw [hWB];have q:=HB6.out;exact ⟨q.os,q.tape,q.output,q.size,q.block⟩
  have E7:∀ b,b < W2.drew.heap.size → b ≠ b3 → WB.heap[b]? = W2.drew.heap[b]?:=by rw [hWB];exact HE6.out
  have Z7:WB.heap.size = W2.drew.heap.size:=by rw [hWB];exact S6
  rw [← hWB];clear hWB;have c0:WB.cell? ⟨w1.heap.size,0,none⟩ = some (.int .i64 r.kind):=X7.cell 0;have c1:WB.cell? ⟨w1.heap.size,1,none⟩ = some (.int .i64 r.seq):=X7.cell 1;have c2:WB.cell? ⟨w1.heap.size,2,none⟩ = some (.string r.name):=X7.cell 2;have c3:WB.cell? ⟨w1.heap.size,3,none⟩ = some (.int .i64 r.length):=X7.cell 3;have c4:WB.cell? ⟨w1.heap.size,4,none⟩ = some (.int .i64 r.group):=X7.cell 4;have c5:WB.cell? ⟨w1.heap.size,5,none⟩ = some (.int .i64 r.row):=X7.cell 5;have c6:WB.cell? ⟨w1.heap.size,6,none⟩ = some (.slice ao6 r.rows.1 cap6):=X7.cell 6;have c7:WB.cell? ⟨w1.heap.size,7,none⟩ = some (.slice ao7 r.data.1 cap7):=X7.cell 7;have c8:WB.cell? ⟨w1.heap.size,8,none⟩ = some (.slice ao8 r.delta.1 cap8):=X7.cell 8;obtain ⟨kl,hkl⟩:=keyOf_I hs;have hlook:=M4.look keyI Tryz.underlying71 (zero64 _) hkl;have hdn:=cN_le (fun i => (x i).kind = 3) (fun i => .int .i64 (x i).seq) (.int .i64 r.seq) k;rw [show endF x k (.int .i64 r.seq) = cntF (fun i => (x i).kind = 3) (fun i => .int .i64 (x i).seq) k (.int .i64 r.seq) from rfl,cntF_get] at hlook;obtain ⟨dn,hdn2⟩:∃ dn,dn = cN (fun i => (x i).kind = 3) (fun i => .int .i64 (x i).seq) (.int .i64 r.seq) k:=⟨_,rfl⟩;have HDN:Hid (dn = cN (fun i => (x i).kind = 3) (fun i => .int .i64 (x i).seq) (.int .i64 r.seq) k):=hdn2;rw [← hdn2] at hlook hdn
  have hwd:IntKind.i64.wrap ((dn:Int) + 1) = (dn:Int) + 1:=by rw [IntKind.wrap_i64];omega
  obtain ⟨w',hrun,M,G,S⟩:=M4.put keyI Tryz.underlying71 (by unfold maxLen;omega) hkl (.int .i64 ((dn:Int) + 1))
  have n34:b3 ≠ b4:=fun e => by have:=HL3.out.nd;simp at this;omega
  have HN3:Hid (MapV w' 159 b3 (k + 1) (putF (donF x k) (.agg #[.int .i64 r.seq,.int .i64 r.group]) (.int .i64 ((cn:Int) + 1)))):=M3.block (G.block b3 M3.lt (fun e => n34 (by cases e;rfl)));have HN4:Hid (MapV w' 2 b4 (k + 1) (putF (endF x k) (.int .i64 r.seq) (.int .i64 ((dn:Int) + 1)))):=M
  have HE:Hid (∀ b,b < W2.drew.heap.size → b ∉ [b3,b4] → w'.heap[b]? = W2.drew.heap[b]?):=fun b hb hn => by
    simp at hn
    exact (G.block b (by rw [Z7];exact hb) (fun e => hn.2 (by cases e;rfl))).trans (E7 b hb hn.1)
  have HBE:Hid (Below lo w w'):=B7.trans ⟨G.os,G.tape,G.output,G.size,fun b hb => G.block b (by have:=B7.size;omega) (fun e => by cases e;have:=HL3.out.low;omega)⟩;clear M G M3 M4 X7 B7 E7 hkl hdn2 HM3 HM4 HX6 HY6 HB6 HE6
  simp only [List.take_succ_cons,List.take_zero,List.drop_succ_cons,List.drop_zero]
  repeat still_step
  refine wpStill_nil ?_;go_wp2;refine bodyPost_end (v:=.tuple #[]) (by simp [results,Tryz.results70]) rfl ?_
  exact ⟨rfl,⟨_,HL3.out.next (T:=[b3,b4]) HE.out (fun b hb => by simp at hb ⊢;omega)
    (by rw [show newF x ce (k + 1) = newF x ce k from lastF_skip (show ¬ (x k).kind = 1 by rw [HX.out,HKD.out];decide)];exact (HL3.out.m1.block (HE.out b1 HL3.out.m1.lt (by have:=HL3.out.nd;simp at this ⊢;omega))).mono (Nat.le_succ k))
    (by rw [show movF x (k + 1) = movF x k from cntF_skip (show ¬ (x k).kind = 2 by rw [HX.out,HKD.out];decide)];exact (HL3.out.m2.block (HE.out b2 HL3.out.m2.lt (by have:=HL3.out.nd;simp at this ⊢;omega))).mono (Nat.le_succ k))
    (by rw [show donF x (k + 1) = putF (donF x k) (.agg #[.int .i64 (x k).seq,.int .i64 (x k).group]) (.int .i64 ((cN (fun i => (x i).kind = 3) (fun i => .agg #[.int .i64 (x i).seq,.int .i64 (x i).group]) (.agg #[.int .i64 (x k).seq,.int .i64 (x k).group]) k:Int) + 1)) from cntF_put (show (x k).kind = 3 by rw [HX.out,HKD.out]),HX.out,← HCN.out];exact HN3.out)
    (by rw [show endF x (k + 1) = putF (endF x k) (.int .i64 (x k).seq) (.int .i64 ((cN (fun i => (x i).kind = 3) (fun i => .int .i64 (x i).seq) (.int .i64 (x k).seq) k:Int) + 1)) from cntF_put (show (x k).kind = 3 by rw [HX.out,HKD.out]),HX.out,← HDN.out];exact HN4.out)
    (by rw [show shaF x (k + 1) = shaF x k from lastF_skip (show ¬ (x k).kind = 4 by rw [HX.out,HKD.out];decide)];exact (HL3.out.m5.block (HE.out b5 HL3.out.m5.lt (by have:=HL3.out.nd;simp at this ⊢;omega))).mono (Nat.le_succ k)),⟨HLO.out,fun b hb hT hv => (HE.out b (Nat.lt_of_lt_of_le hb HZ3.out) (fun q => hT (by simp at q ⊢;omega))).trans (HA3.out b hb (fun e => hT (by rw [e];simp)) hv)⟩⟩,HBE.out⟩
end Go.Proofs.YtodedamnclhbnaaGreat
namespace Go.Proofs.YtodedamnclhbnaaGreat.Sym
def Re (a b:Nat) (p q:Nat → Nat):Prop:=∃ s t:Nat → Nat,(∀ i,q i = p (s i)) ∧ (∀ i,t (s i) = i) ∧ (∀ i,s (t i) = i) ∧ ∀ i,(i < a ∨ b ≤ i) → s i = i
theorem Re.refl (a b:Nat) (p:Nat → Nat):Re a b p p:=⟨id,id,fun _ => rfl,fun _ => rfl,fun _ => rfl,fun _ _ => rfl⟩
theorem Re.trans {a b:Nat} {p q r:Nat → Nat} (h:Re a b p q) (k:Re a b q r):Re a b p r:=by
  obtain ⟨s,t,h1,h2,h3,h4⟩:=h;obtain ⟨s',t',k1,k2,k3,k4⟩:=k;refine ⟨fun i => s (s' i),fun i => t' (t i),fun i => by rw [k1,h1],fun i => ?_,fun i => ?_,fun i hi => ?_⟩
  · show t' (t (s (s' i))) = i
    rw [h2,k2]
  · show s (s' (t' (t i))) = i
    rw [k3,h3]
  · show s (s' i) = i
    rw [k4 i hi,h4 i hi]
theorem Re.mono {a b a' b':Nat} {p q:Nat → Nat} (h:Re a b p q) (ha:a' ≤ a) (hb:b ≤ b'):Re a' b' p q:=by
  obtain ⟨s,t,h1,h2,h3,h4⟩:=h;exact ⟨s,t,h1,h2,h3,fun i hi => h4 i (by omega)⟩
theorem Re.out {a b:Nat} {p q:Nat → Nat} (h:Re a b p q) {i:Nat} (hi:i < a ∨ b ≤ i):q i = p i:=by
  obtain ⟨s,t,h1,h2,h3,h4⟩:=h;rw [h1,h4 i hi]
theorem Re.from {a b:Nat} {p q:Nat → Nat} (h:Re a b p q) {i:Nat} (hi:a ≤ i ∧ i < b):∃ j,(a ≤ j ∧ j < b) ∧ q i = p j:=by
  obtain ⟨s,t,h1,h2,h3,h4⟩:=h;refine ⟨s i,?_,h1 i⟩
  by_cases c:a ≤ s i ∧ s i < b
  · exact c
  · have:=h4 (s i) (by omega)
    have e:s i = i:=by rw [← h2 (s i),this,h2]
    omega
def swp (i j:Nat):Nat → Nat:=fun k => if k = i then j else if k = j then i else k
theorem swp_swp (i j k:Nat):swp i j (swp i j k) = k:=by unfold swp;split <;> split <;> simp_all <;> split <;> simp_all
theorem Re.swaps {a b i j:Nat} (p:Nat → Nat) (hi:a ≤ i ∧ i < b) (hj:a ≤ j ∧ j < b):Re a b p (fun k => p (swp i j k)) :=
  ⟨swp i j,swp i j,fun _ => rfl,swp_swp i j,swp_swp i j,fun k hk => by unfold swp;rw [if_neg (by omega),if_neg (by omega)]⟩
def swr (a b n:Nat):Nat → Nat:=fun k => if a ≤ k ∧ k < a + n then b + (k - a) else if b ≤ k ∧ k < b + n then a + (k - b) else k
theorem swr_zero (a b k:Nat):swr a b 0 k = k:=by unfold swr;rw [if_neg (by omega),if_neg (by omega)]
theorem swr_succ {a b n:Nat} (h:a + (n + 1) ≤ b) (k:Nat):swr a b n (swp (a + n) (b + n) k) = swr a b (n + 1) k:=by
  unfold swr swp
  by_cases c1:k = a + n
  · rw [if_pos c1,if_neg (by omega),if_neg (by omega),if_pos (by omega)];omega
  · rw [if_neg c1]
    by_cases c2:k = b + n
    · rw [if_pos c2,if_neg (by omega),if_neg (by omega),if_neg (by omega),if_pos (by omega)];omega
    · rw [if_neg c2]
      by_cases c3:a ≤ k ∧ k < a + n
      · rw [if_pos c3,if_pos (by omega)]
      · rw [if_neg c3,if_neg (show ¬ (a ≤ k ∧ k < a + (n + 1)) by omega)]
        by_cases c4:b ≤ k ∧ k < b + n
        · rw [if_pos c4,if_pos (by omega)]
        · rw [if_neg c4,if_neg (by omega)]
def rot (lo m hi:Nat):Nat → Nat:=fun k => if k < lo ∨ hi ≤ k then k else if k < lo + (hi - m) then m + (k - lo) else k - (hi - m)
theorem rot_more {m i j:Nat} (hij:j < i) (him:i ≤ m) (k:Nat):swr (m - i) m j (rot (m - (i - j)) m (m + j) k) = rot (m - i) m (m + j) k:=by
  unfold rot
  by_cases c1:k < m - i ∨ m + j ≤ k
  · rw [if_pos (show k < m - i ∨ m + j ≤ k from c1),if_pos (by omega)]
    unfold swr;rw [if_neg (by omega),if_neg (by omega)]
  · rw [if_neg c1]
    by_cases c2:k < m - i + (m + j - m)
    · rw [if_pos c2,if_pos (by omega)]
      unfold swr;rw [if_pos (by omega)]
    · rw [if_neg c2,if_neg (by omega)]
      by_cases c3:k < m - (i - j) + (m + j - m)
      · rw [if_pos c3]
        unfold swr;rw [if_neg (by omega),if_pos (by omega)];omega
      · rw [if_neg c3]
        unfold swr;rw [if_neg (by omega),if_neg (by omega)]
theorem rot_less {m i j:Nat} (hij:i < j) (him:i ≤ m) (k:Nat):swr (m - i) (m + j - i) i (rot (m - i) m (m + (j - i)) k) = rot (m - i) m (m + j) k:=by
  unfold rot
  by_cases c1:k < m - i ∨ m + j ≤ k
  · rw [if_pos (show k < m - i ∨ m + j ≤ k from c1),if_pos (by omega)]
    unfold swr;rw [if_neg (by omega),if_neg (by omega)]
  · rw [if_neg c1]
    by_cases c4:m + (j - i) ≤ k
    · rw [if_pos (by omega),if_neg (by omega)]
      unfold swr;rw [if_neg (by omega),if_pos (by omega)];omega
    · rw [if_neg (by omega)]
      by_cases c2:k < m - i + (m + (j - i) - m)
      · rw [if_pos c2,if_pos (by omega)]
        unfold swr;rw [if_neg (by omega),if_neg (by omega)]
      · rw [if_neg c2,if_pos (by omega)]
        unfold swr;rw [if_pos (by omega)];omega
theorem rot_same {m i:Nat} (him:i ≤ m) (k:Nat):swr (m - i) m i k = rot (m - i) m (m + i) k:=by
  unfold rot swr
  by_cases c1:k < m - i ∨ m + i ≤ k
  · rw [if_pos c1,if_neg (by omega),if_neg (by omega)]
  · rw [if_neg c1]
    by_cases c2:k < m - i + (m + i - m)
    · rw [if_pos c2,if_pos (by omega)]
    · rw [if_neg c2,if_neg (by omega),if_pos (by omega)];omega
theorem rot_back {lo m hi:Nat} (h1:lo ≤ m) (h2:m ≤ hi) (k:Nat):rot lo (lo + (hi - m)) hi (rot lo m hi k) = k:=by
  unfold rot
  by_cases c1:k < lo ∨ hi ≤ k
  · rw [if_pos c1,if_pos c1]
  · rw [if_neg c1]
    by_cases c2:k < lo + (hi - m)
    · rw [if_pos c2,if_neg (by omega),if_neg (by omega)];omega
    · rw [if_neg c2,if_neg (by omega),if_pos (by omega)];omega
theorem Re.rots {lo m hi:Nat} (p:Nat → Nat) (h1:lo ≤ m) (h2:m ≤ hi):Re lo hi p (fun k => p (rot lo m hi k)) :=
  ⟨rot lo m hi,rot lo (lo + (hi - m)) hi,fun _ => rfl,rot_back h1 h2,fun k => by
    have:=rot_back (lo:=lo) (m:=lo + (hi - m)) (hi:=hi) (by omega) (by omega) k
    rwa [show lo + (hi - (lo + (hi - m))) = m by omega] at this,fun k hk => by unfold rot;rw [if_pos hk]⟩
structure Ord (lt:Nat → Nat → Prop):Prop where
  trans:∀ {i j k},lt i j → lt j k → lt i k
  irr:∀ i,¬ lt i i
def Srt (lt:Nat → Nat → Prop) (p:Nat → Nat) (a b:Nat):Prop:=∀ i j,a ≤ i → i < j → j < b → lt (p i) (p j)
theorem Srt.sub {lt:Nat → Nat → Prop} {p:Nat → Nat} {a b a' b':Nat} (h:Srt lt p a b) (h1:a ≤ a') (h2:b' ≤ b):Srt lt p a' b':=fun i j h3 h4 h5 => h i j (by omega) h4 (by omega)
theorem Srt.congr {lt:Nat → Nat → Prop} {p q:Nat → Nat} {a b:Nat} (h:Srt lt p a b) (e:∀ i,a ≤ i → i < b → q i = p i):Srt lt q a b:=fun i j h3 h4 h5 => by
  rw [e i h3 (by omega),e j (by omega) h5];exact h i j h3 h4 h5
theorem Srt.join {lt:Nat → Nat → Prop} {p:Nat → Nat} {a m b:Nat} (h1:Srt lt p a m) (h2:Srt lt p m b) (h:∀ i j,a ≤ i → i < m → m ≤ j → j < b → lt (p i) (p j)):Srt lt p a b:=fun i j h3 h4 h5 => by
  by_cases c1:j < m
  · exact h1 i j h3 h4 c1
  · by_cases c2:i < m
    · exact h i j h3 c2 (by omega) h5
    · exact h2 i j (by omega) h4 h5
theorem split {lt:Nat → Nat → Prop} (O:Ord lt) {p:Nat → Nat} {a m b s e mid:Nat} (h1:Srt lt p a m) (h2:Srt lt p m b) (hm:mid + m = s + e) (ha:a ≤ s) (sm:s ≤ m) (me:m ≤ e) (eb:e ≤ b)
    (q1:s ≠ a → e ≠ b → lt (p (s - 1)) (p e)) (q2:s ≠ m → e ≠ m → lt (p (e - 1)) (p s)) :
    Srt lt (fun k => p (rot s m e k)) a s ∧ Srt lt (fun k => p (rot s m e k)) s mid ∧ Srt lt (fun k => p (rot s m e k)) mid e ∧ Srt lt (fun k => p (rot s m e k)) e b ∧
      ∀ i j,a ≤ i → i < mid → mid ≤ j → j < b → lt (p (rot s m e i)) (p (rot s m e j)):=by
  have r1:∀ i,i < s → rot s m e i = i:=fun i hi => by unfold rot;rw [if_pos (by omega)]
  have r2:∀ i,s ≤ i → i < mid → rot s m e i = m + (i - s):=fun i h3 h4 => by unfold rot;rw [if_neg (by omega),if_pos (by omega)]
  have r3:∀ i,mid ≤ i → i < e → rot s m e i = s + (i - mid):=fun i h3 h4 => by unfold rot;rw [if_neg (by omega),if_neg (by omega)];omega
  have r4:∀ i,e ≤ i → rot s m e i = i:=fun i hi => by unfold rot;rw [if_pos (by omega)]
  refine ⟨fun i j x y z => ?_,fun i j x y z => ?_,fun i j x y z => ?_,fun i j x y z => ?_,fun i j x y z u => ?_⟩
  · show lt (p (rot s m e i)) (p (rot s m e j))
    rw [r1 i (by omega),r1 j z];exact h1 i j x y (by omega)
  · show lt (p (rot s m e i)) (p (rot s m e j))
    rw [r2 i x (by omega),r2 j (by omega) z];exact h2 _ _ (by omega) (by omega) (by omega)
  · show lt (p (rot s m e i)) (p (rot s m e j))
    rw [r3 i x (by omega),r3 j (by omega) z];exact h1 _ _ (by omega) (by omega) (by omega)
  · show lt (p (rot s m e i)) (p (rot s m e j))
    rw [r4 i x,r4 j (by omega)];exact h2 _ _ (by omega) (by omega) (by omega)
  · have le1:∀ {i j},a ≤ i → i ≤ j → j < m → p i = p j ∨ lt (p i) (p j):=fun {i j} x y z => by
      by_cases c:i = j
      · exact .inl (by rw [c])
      · exact .inr (h1 i j x (by omega) z)
    have le2:∀ {i j},m ≤ i → i ≤ j → j < b → p i = p j ∨ lt (p i) (p j):=fun {i j} x y z => by
      by_cases c:i = j
      · exact .inl (by rw [c])
      · exact .inr (h2 i j x (by omega) z)
    have tl:∀ {i j k},(i = j ∨ lt i j) → lt j k → lt i k:=fun {i j k} x y => by
      rcases x with rfl | x
      · exact y
      · exact O.trans x y
    have tr:∀ {i j k},lt i j → (j = k ∨ lt j k) → lt i k:=fun {i j k} x y => by
      rcases y with rfl | y
      · exact x
      · exact O.trans x y
    by_cases c1:i < s
    · rw [r1 i c1]
      by_cases c2:j < e
      · rw [r3 j z c2]
        exact h1 _ _ x (by omega) (by omega)
      · rw [r4 j (by omega)]
        have q:=q1 (by omega) (by omega);exact tr (tl (le1 x (show i ≤ s - 1 by omega) (by omega)) q) (le2 me (by omega) u)
    · rw [r2 i (by omega) y]
      by_cases c2:j < e
      · rw [r3 j z c2]
        have q:=q2 (by omega) (by omega);exact tr (tl (le2 (by omega) (show m + (i - s) ≤ e - 1 by omega) (by omega)) q) (le1 ha (by omega) (by omega))
      · rw [r4 j (by omega)]
        exact h2 _ _ (by omega) (by omega) u
theorem halves {lt:Nat → Nat → Prop} {p q r:Nat → Nat} {a mid b:Nat} (am:a ≤ mid) (mb:mid ≤ b) (h:∀ i j,a ≤ i → i < mid → mid ≤ j → j < b → lt (p i) (p j)) (k1:Re a mid p q) (k2:Re mid b q r) (s1:Srt lt q a mid) (s2:Srt lt r mid b):Srt lt r a b ∧ Re a b p r:=by
  refine ⟨Srt.join (m:=mid) (s1.congr fun i x y => k2.out (.inl y)) s2 (fun i j x y z u => ?_),(k1.mono (Nat.le_refl _) mb).trans (k2.mono am (Nat.le_refl _))⟩
  obtain ⟨i',hi,e1⟩:=k1.from ⟨x,y⟩
  obtain ⟨j',hj,e2⟩:=k2.from ⟨z,u⟩
  rw [k2.out (.inl y),e1,e2,k1.out (.inr hj.1)];exact h i' j' hi.1 hi.2 hj.1 hj.2
end Go.Proofs.YtodedamnclhbnaaGreat.Sym
namespace Go.Proofs.YtodedamnclhbnaaGreat
open Go.RowKit F256
def RdOne {α:Type} (E:Lay α):Prop:=∀ (w:World) (hi:Nat) (a:α) (cs:List Value),E.rd w hi a cs → ∀ u,u ∈ cs → u.oneCell' = true
theorem rdOne_plain {α:Type} (enc:α → Value) (ok:α → Prop) (one:∀ a,(enc a).oneCell' = true):RdOne (Lay.plain enc ok one):=fun w hi a cs h u hu => by
  obtain ⟨rfl,_⟩:=h
  simp at hu
  subst hu;exact one a
theorem rdOne_two {α β:Type} {A:Lay α} {B:Lay β} (ha:RdOne A) (hb:RdOne B):RdOne (A.two B):=fun w hi p cs h u hu => by
  obtain ⟨c,d,rfl,h1,h2⟩:=h
  rcases List.mem_append.1 hu with h | h
  · exact ha _ _ _ _ h1 u h
  · exact hb _ _ _ _ h2 u h
theorem rdOne_as {α β:Type} {A:Lay α} (ha:RdOne A) (f:β → α):RdOne (A.as f):=fun w hi p cs h u hu => ha w hi (f p) cs h u hu
theorem rdOne_bytes:RdOne layBytes:=fun w hi p cs h u hu => by
  obtain ⟨v,rfl,⟨ao,cap,rfl,_⟩,_⟩:=h
  simp at hu
  subst hu;rfl
theorem rdOne_ints:RdOne layInts:=fun w hi p cs h u hu => by
  obtain ⟨v,rfl,⟨⟨ao,cap,rfl,_⟩,_⟩,_⟩:=h
  simp at hu
  subst hu;rfl
theorem rdOne_rec:RdOne layRec:=rdOne_as (rdOne_two (rdOne_plain _ _ _) (rdOne_two (rdOne_plain _ _ _) (rdOne_two (rdOne_plain _ _ _) (rdOne_two (rdOne_plain _ _ _) (rdOne_two (rdOne_plain _ _ _) (rdOne_two (rdOne_plain _ _ _) (rdOne_two rdOne_ints (rdOne_two rdOne_bytes rdOne_bytes)))))))) _
def cat2 {β:Type} (x:Nat → β) (n:Nat) (y:Nat → β):Nat → β:=fun i => if i < n then x i else y (i - n)
theorem cat2_lt {β:Type} (x:Nat → β) {n i:Nat} (y:Nat → β) (h:i < n):cat2 x n y i = x i:=if_pos h
theorem cat2_ge {β:Type} (x:Nat → β) (n:Nat) (y:Nat → β) (i:Nat):cat2 x n y (n + i) = y i:=by
  unfold cat2;rw [if_neg (by omega)]
  congr 1
  omega
theorem catN_cat2 {β:Type} (x:Nat → List β) (n:Nat) (y:Nat → List β):∀ m,catN (n + m) (cat2 x n y) = catN n x ++ catN m y
  | 0 => by rw [catN_zero,List.append_nil];exact catN_congr (fun i hi => cat2_lt x y hi)
  | m + 1 => by rw [← Nat.add_assoc,catN_succ,catN_cat2 x n y m,catN_succ,cat2_ge,List.append_assoc]
structure View {α:Type} (E:Lay α) (t:TypeId) (w:World) (lo hi:Nat) (v:Value) (n:Nat) (x:Nat → α) (ce:Nat → List Value):Prop where
  row:w.ownsRow lo t E.sz v n (catN n ce)
  each:∀ i,i < n → E.rd w hi (x i) (ce i)
section
variable {α:Type} {E:Lay α} {t:TypeId} {w w':World} {lo hi n:Nat} {v:Value} {x:Nat → α} {ce:Nat → List Value}
theorem View.nil (x:Nat → α) (ce:Nat → List Value) (w:World) (lo hi:Nat):View E t w lo hi (.slice none 0 0) 0 x ce:=⟨World.ownsRow_nil w lo t E.sz,fun i hi => by omega⟩
theorem View.lit0 (x:Nat → α) (ce:Nat → List Value) (w:World) (hi:Nat):View E t (w.alloc (.cells #[] t)) w.heap.size hi (.slice (some ⟨w.heap.size,0,none⟩) 0 0) 0 x ce:=by
  have h:=World.ownsRow_lit (base:=w.heap.size) (e:=t) (size:=E.sz) w #[] 0 (Nat.le_refl _) (Nat.zero_le _) (by simp);exact ⟨by simpa [catN_zero] using h,fun i hi => by omega⟩
theorem View.form (h:View E t w lo hi v n x ce):∃ ao cap,v = .slice ao n cap:=by
  rcases h.row.2 with ⟨hv,hn⟩ | ⟨g,cap,cur,rfl,_⟩
  · exact ⟨none,0,by rw [hv,hn]⟩
  · exact ⟨_,_,rfl⟩
theorem View.form0 (h:View E t w lo hi v n x ce) (h0:n ≠ 0):∃ g cap,v = .slice (some ⟨g,0,none⟩) n cap:=by
  rcases h.row.2 with ⟨hv,hn⟩ | ⟨g,cap,cur,rfl,_⟩
  · exact absurd hn h0
  · exact ⟨_,_,rfl⟩
theorem View.len (h:View E t w lo hi v n x ce):n ≤ maxLen:=by
  rcases h.row.2 with ⟨hv,hn⟩ | ⟨g,cap,cur,rfl,hbg,hgg,hnc,hcm,rest⟩
  · omega
  · omega
theorem View.kept (h:View E t w lo hi v n x ce) (hk:∀ b,v.ownBlock = some b → w'.heap[b]? = w.heap[b]?) (hb:Below hi w w'):View E t w' lo hi v n x ce:=by
  refine ⟨⟨h.row.1,?_⟩,fun i hi => E.rd_below (h.each i hi) hb (Nat.le_refl _)⟩
  rcases h.row.2 with hn | ⟨g,cap,cur,rfl,hbg,hgg,rest⟩
  · exact .inl hn
  · exact .inr ⟨g,cap,cur,rfl,hbg,(hk g (by simp [Value.ownBlock])).trans hgg,rest⟩
theorem View.below (h:View E t w lo hi v n x ce) (hb:Below w.heap.size w w') (hh:hi ≤ w.heap.size):View E t w' lo hi v n x ce :=
  h.kept (fun b hv => hb.block b (h.row.lt b hv).2) (hb.mono hh)
theorem View.congr {y:Nat → α} (h:View E t w lo hi v n x ce) (hy:∀ i,i < n → x i = y i):View E t w lo hi v n y ce:=⟨h.row,fun i hi => by rw [← hy i hi];exact h.each i hi⟩
theorem View.lens (h:View E t w lo hi v n x ce):∀ i,i < n → (ce i).length = E.sz:=fun i hi => E.rd_len (h.each i hi)
theorem View.cell {g cap:Nat} (h:View E t w lo hi (.slice (some ⟨g,0,none⟩) n cap) n x ce) {i j:Nat} (hi:i < n) (hj:j < E.sz):w.cell? ⟨g,i * E.sz + j,none⟩ = (ce i)[j]?:=by
  rw [h.row.cellAt _ (mul_lt hi hj),catN_get h.lens hi hj]
theorem View.rd (h:View E t w lo hi v n x ce) (hh:hi ≤ w.heap.size):(E.slice t).rd w w.heap.size (n,x) [v]:=by
  have hlt:=fun b hb => (h.row.lt b hb).2;obtain ⟨ao,cap,rfl⟩:=h.form;refine ⟨ao,cap,rfl,h.len,fun h0 => ?_⟩;obtain ⟨g,cap',e⟩:=h.form0 h0
  cases e
  refine ⟨g,0,rfl,hlt g (by simp [Value.ownBlock]),fun i hi => ⟨ce i,E.rd_mono (h.each i hi) hh,fun j hj => ?_⟩⟩;rw [Nat.zero_add];exact h.cell hi hj
def Src (E:Lay α) (w:World) (hi:Nat) (ao:Option Addr) (m:Nat) (y:Nat → α) (cy:Nat → List Value):Prop :=
  (m ≠ 0 → ∃ b off,ao = some ⟨b,off,none⟩ ∧ ∀ j,j < m → ∀ k,k < E.sz → w.cell? ⟨b,off + (j * E.sz + k),none⟩ = (cy j)[k]?) ∧ ∀ j,j < m → E.rd w hi (y j) (cy j)
theorem src_one {b:Nat} {y:α} {cs:List Value} (hc:∀ k,k < E.sz → w.cell? ⟨b,k,none⟩ = cs[k]?) (hy:E.rd w hi y cs):Src E w hi (some ⟨b,0,none⟩) 1 (fun _ => y) (fun _ => cs) :=
  ⟨fun _ => ⟨b,0,rfl,fun j hj k hk => by
    obtain rfl:j = 0:=by omega
    rw [← hc k hk]
    congr 2
    omega⟩,fun _ _ => hy⟩
theorem add_oo (b o j:Nat):(⟨b,o,none⟩:Addr).add j = ⟨b,o + j,none⟩:=by unfold Addr.add;split <;> simp_all
end
theorem run_appendV {α:Type} {E:Lay α} {T e:TypeId} {by_:Nat} {zs:List Value} (I:ElInfo E T e by_ zs) (R1:RdOne E) (ty:TypeId) {W:World} {lo hi n:Nat} {v:Value} {x:Nat → α} {ce:Nat → List Value} (h:View E e W lo hi v n x ce)
    {ao:Option Addr} {m:Nat} (c:Nat) {y:Nat → α} {cy:Nat → List Value} (hs:Src E W hi ao m y cy) (hlo:lo ≤ W.heap.size) (hhi:hi ≤ lo) (hn:n + m ≤ 10000000) (hc0:ao = none → c = 0 ∨ m = 0) :
    ∃ v' w',(Builtin.append_ #[T,T] ty #[v,.slice ao m c]).run Tryz.prog W = .ok v' w' ∧ View E e w' lo hi v' (n + m) (cat2 x n y) (cat2 ce n cy) ∧ W.grownBy w' v.ownBlock ∧ Below lo W w':=by
  obtain ⟨hz,hzs,hu,hinf,few⟩:=I
  obtain ⟨i0,hi0⟩:∃ i0,Tryz.prog.info? e = some i0:=by
    cases h:Tryz.prog.info? e with
    | none => rw [h] at hinf;cases hinf
    | some i0 => exact ⟨i0,rfl⟩
  rw [hi0] at hinf
  simp only [Option.map_some,Option.some.injEq,Prod.mk.injEq] at hinf
  obtain ⟨h1,h2,h3⟩:=hinf
  obtain ⟨z,hz0,hzc⟩:∃ z,i0.zero = some z ∧ z.cells = zs.toArray:=by
    cases h:i0.zero with
    | none => rw [h] at h1;cases h1
    | some z => rw [h] at h1;exact ⟨z,rfl,by simpa using h1⟩
  obtain ⟨hcell,hrd⟩:=hs;have hlen:(catN m cy).length = m * E.sz:=catN_len (fun j hj => E.rd_len (hrd j hj))
  have big:∀ ad,ao = some ad → (∀ j u,(catN m cy)[j]? = some u → W.cell? (ad.add j) = some u) → ∃ v' w',(Builtin.append_ #[T,T] ty #[v,.slice ao m c]).run Tryz.prog W = .ok v' w' ∧ View E e w' lo hi v' (n + m) (cat2 x n y) (cat2 ce n cy) ∧ W.grownBy w' v.ownBlock ∧ Below lo W w':=fun ad ha hc => by
    subst ha
    obtain ⟨v',w',hr,r1,r2,r3,r4⟩:=run_append_own_at (P:=Tryz.prog) W lo T ty e i0 z E.sz by_ hu hi0 hz0 h2 h3 (by rw [hzc];simpa using hzs) hz v n (catN n ce) h.row ad m c (catN m cy) hlen hc
      (fun u hu => by
        obtain ⟨i,hi,hm⟩:=mem_catN.1 hu
        exact R1 _ _ _ _ (hrd i hi) u hm) (by unfold maxLen;omega) (by
        have:(n + m) * by_ ≤ 10000000 * 1000:=Nat.mul_le_mul hn few
        omega) hlo
    have hb:Below lo W w':=(Below.refl _ _).grown r2 hlo (fun k hk => (h.row.lt k hk).1);refine ⟨v',w',hr,⟨by rw [catN_cat2];exact r1,fun i hi => ?_⟩,r2,hb⟩
    by_cases c1:i < n
    · rw [cat2_lt x y c1,cat2_lt ce cy c1]
      exact E.rd_below (h.each i c1) hb hhi
    · obtain ⟨k,rfl⟩:∃ k,i = n + k:=⟨i - n,by omega⟩
      rw [cat2_ge,cat2_ge];exact E.rd_below (hrd k (by omega)) hb hhi
  by_cases hm:m = 0
  · subst hm
    cases ao with
    | some ad => exact big ad rfl (fun j u hj => by rw [catN_zero] at hj;simp at hj)
    | none =>
      refine ⟨v,W,run_append_none' W lo T ty e i0 E.sz hu hi0 v n c _ h.row,⟨by rw [catN_cat2,catN_zero,List.append_nil];exact h.row,fun i hi => ?_⟩,⟨rfl,rfl,rfl,Nat.le_refl _,fun _ _ _ => rfl⟩,Below.refl _ _⟩
      have hi':i < n:=by omega
      rw [cat2_lt x y hi',cat2_lt ce cy hi'];exact h.each i hi'
  · obtain ⟨b,off,rfl,hcc⟩:=hcell hm
    refine big _ rfl (fun j u hj => ?_)
    have hj':j < m * E.sz:=by rw [← hlen];exact (List.getElem?_eq_some_iff.1 hj).1
    have e1:j / E.sz < m:=Nat.div_lt_of_lt_mul (by rw [Nat.mul_comm];exact hj');have e2:j % E.sz < E.sz:=Nat.mod_lt _ hz
    have e3:j / E.sz * E.sz + j % E.sz = j:=by rw [Nat.mul_comm];exact Nat.div_add_mod j E.sz
    rw [add_oo,← e3,hcc _ e1 _ e2,← catN_get (fun j hj => E.rd_len (hrd j hj)) e1 e2,e3];exact hj
end Go.Proofs.YtodedamnclhbnaaGreat
namespace Go.Proofs.YtodedamnclhbnaaGreat
open Go.RowKit F256
def spl (xs:List Value):Nat → List Value → List Value
  | _,[] => xs
  | o,v :: r => spl (xs.set o v) (o + 1) r
theorem spl_get (cs:List Value):∀ (xs:List Value) (o j:Nat),o + cs.length ≤ xs.length → (spl xs o cs)[j]? = if o ≤ j ∧ j < o + cs.length then cs[j - o]? else xs[j]?:=by
  induction cs with
  | nil => intro xs o j h;rw [if_neg (by simp)];rfl
  | cons v r ih =>
    intro xs o j h
    simp only [List.length_cons] at h
    show (spl (xs.set o v) (o + 1) r)[j]? = _
    rw [ih (xs.set o v) (o + 1) j (by rw [List.length_set];omega)]
    by_cases c1:o = j
    · subst c1
      rw [if_neg (by omega),if_pos (by simp),List.getElem?_set]
      simp
      omega
    · by_cases c2:o + 1 ≤ j ∧ j < o + 1 + r.length
      · rw [if_pos c2,if_pos (by simp;omega)]
        obtain ⟨i,rfl⟩:∃ i,j = o + 1 + i:=⟨j - (o + 1),by omega⟩;rw [show o + 1 + i - (o + 1) = i by omega,show o + 1 + i - o = i + 1 by omega]
        simp
      · rw [if_neg c2,if_neg (by simp;omega),List.getElem?_set,if_neg c1]
theorem catN_upd {n s i:Nat} {ce:Nat → List Value} {cs:List Value} (hs:0 < s) (hl:∀ k,k < n → (ce k).length = s) (hc:cs.length = s) (hi:i < n):spl (catN n ce) (i * s) cs = catN n (upd ce i cs):=by
  have hl':∀ k,k < n → (upd ce i cs k).length = s:=fun k hk => by
    by_cases c:k = i
    · subst c;rw [upd_at];exact hc
    · rw [upd_ne ce cs c];exact hl k hk
  have hb:i * s + s ≤ n * s:=by
    have:=Nat.mul_le_mul_right s (show i + 1 ≤ n from hi);rw [Nat.succ_mul] at this;exact this
  apply List.ext_getElem?
  intro j;rw [spl_get _ _ _ _ (by rw [catN_len hl,hc];exact hb)]
  by_cases hj:j < n * s
  · have e3:j / s * s + j % s = j:=by rw [Nat.mul_comm];exact Nat.div_add_mod j s
    have e1:j / s < n:=Nat.div_lt_of_lt_mul (by rw [Nat.mul_comm];exact hj);have e2:j % s < s:=Nat.mod_lt _ hs;have g1:=catN_get hl e1 e2;have g2:=catN_get hl' e1 e2;rw [e3] at g1 g2;rw [g1,g2]
    by_cases c:j / s = i
    · have h5:i * s ≤ j ∧ j < i * s + cs.length:=by rw [← c,hc];omega
      rw [if_pos h5,c,upd_at]
      congr 1
      rw [← c];omega
    · rw [upd_ne ce cs c,if_neg]
      rw [hc];intro hh
      apply c
      have:=Nat.div_eq_of_lt_le (m:=j) (n:=s) (k:=i) (by rw [Nat.mul_comm] at *;omega) (by rw [Nat.succ_mul];omega);exact this
  · rw [if_neg (by rw [hc];omega),List.getElem?_eq_none (l:=catN n ce) (by rw [catN_len hl];omega),List.getElem?_eq_none (l:=catN n (upd ce i cs)) (by rw [catN_len hl'];omega)]
theorem row_setCells {lo:Nat} {t:TypeId} {s g cap n:Nat} (cs:List Value):∀ (w:World) (xs:List Value) (o:Nat),w.ownsRow lo t s (.slice (some ⟨g,0,none⟩) n cap) n xs → (w.setCells g o cs).ownsRow lo t s (.slice (some ⟨g,0,none⟩) n cap) n (spl xs o cs):=by
  induction cs with
  | nil => intro w xs o h;exact h
  | cons v r ih => intro w xs o h;exact ih _ _ _ (h.stored o v).1
theorem chgL_setCells (g:Nat) (cs:List Value):∀ (w:World) (o:Nat),ChgL [g] w (w.setCells g o cs):=by
  induction cs with
  | nil => intro w o;exact ChgL.refl _ _
  | cons v r ih => intro w o;exact (ChgL.store [g] w g o v (by simp)).trans (ih _ _)
section
variable {α:Type} {E:Lay α} {t:TypeId} {w:World} {lo hi n g cap:Nat} {x:Nat → α} {ce:Nat → List Value}
theorem View.drew {v:Value} (h:View E t w lo hi v n x ce):View E t w.drew lo hi v n x ce:=h.kept (fun _ _ => rfl) ⟨rfl,rfl,rfl,Nat.le_refl _,fun _ _ => rfl⟩
theorem View.congr2 {v:Value} {y:Nat → α} {cy:Nat → List Value} (h:View E t w lo hi v n x ce) (hy:∀ i,i < n → x i = y i) (hc:∀ i,i < n → ce i = cy i):View E t w lo hi v n y cy:=⟨by rw [← catN_congr hc];exact h.row,fun i hi => by rw [← hy i hi,← hc i hi];exact h.each i hi⟩
theorem View.range (h:View E t w lo hi (.slice (some ⟨g,0,none⟩) n cap) n x ce) {i:Nat} (hi':i < n):w.rangeAt g (i * E.sz) (ce i):=fun j v hv => by
  have hj:j < E.sz:=by rw [← h.lens i hi'];exact (List.getElem?_eq_some_iff.1 hv).1
  rw [h.cell hi' hj];exact hv
theorem View.there (h:View E t w lo hi (.slice (some ⟨g,0,none⟩) n cap) n x ce) {i:Nat} (hi':i < n):w.there g (i * E.sz) E.sz:=fun j hj => by
  refine ⟨?_,h.row.frozenAt _⟩;rw [h.cell hi' hj,List.getElem?_eq_getElem (by rw [h.lens i hi'];exact hj)];rfl
theorem View.put (h:View E t w lo hi (.slice (some ⟨g,0,none⟩) n cap) n x ce) (hs:0 < E.sz) (hlo:hi ≤ lo) {i:Nat} (hi':i < n) {a:α} {cs:List Value} (ha:E.rd w hi a cs) :
    View E t (w.setCells g (i * E.sz) cs) lo hi (.slice (some ⟨g,0,none⟩) n cap) n (upd x i a) (upd ce i cs):=by
  have hg:=h.row.lt g rfl;have hb:Below lo w (w.setCells g (i * E.sz) cs):=(chgL_setCells g cs w _).bel (fun b hb => by simp at hb;omega) (by omega);refine ⟨?_,fun m hm => ?_⟩
  · have:=row_setCells cs w _ (i * E.sz) h.row
    rw [catN_upd hs h.lens (E.rd_len ha) hi'] at this;exact this
  · by_cases c:m = i
    · subst c
      rw [upd_at,upd_at];exact E.rd_below ha hb hlo
    · rw [upd_ne x a c,upd_ne ce _ c]
      exact E.rd_below (h.each m hm) hb hlo
end
end Go.Proofs.YtodedamnclhbnaaGreat
namespace Go.Proofs.YtodedamnclhbnaaGreat
open Go.RowKit F256
theorem mixedO:Tryz.prog.follows Departure.mixedOrders = true:=by kernel_rfl
theorem info_Rec9 {cs:List Value} (h:cs.length = 9):(Tryz.prog.info? 58).map (·.size) = some cs.length:=by rw [h];kernel_rfl
def RowsV (x0:Nat → RecD) (enc:Nat → List Value) (N blk cap lo hi:Nat) (w:World) (p:Nat → Nat):Prop:=View layRec 58 w lo hi (.slice (some ⟨blk,0,none⟩) N cap) N (fun i => x0 (p i)) (fun i => enc (p i))
theorem RowsV.same {x0:Nat → RecD} {enc:Nat → List Value} {N blk cap lo hi:Nat} {w:World} {p q:Nat → Nat} (h:RowsV x0 enc N blk cap lo hi w p) (e:∀ i,i < N → p i = q i):RowsV x0 enc N blk cap lo hi w q:=View.congr2 h (fun i hi => by rw [e i hi]) (fun i hi => by rw [e i hi])
theorem upd_swp {β:Type} (f:Nat → β) (p:Nat → Nat) (A B i:Nat):upd (upd (fun k => f (p k)) A (f (p B))) B (f (p A)) i = f (p (Sym.swp A B i)):=by
  unfold Sym.swp
  by_cases c1:i = B
  · subst c1
    rw [upd_at]
    by_cases c2:i = A
    · subst c2;simp
    · rw [if_neg c2,if_pos rfl]
  · rw [upd_ne _ _ c1]
    by_cases c2:i = A
    · subst c2;rw [upd_at,if_pos rfl]
    · rw [upd_ne _ _ c2,if_neg c2,if_neg c1]
theorem view_swap {x0:Nat → RecD} {enc:Nat → List Value} {p:Nat → Nat} {w:World} {lo hi N blk cap A B:Nat} (V:RowsV x0 enc N blk cap lo hi w p) (hlo:hi ≤ lo) (hA:A < N) (hB:B < N) :
    RowsV x0 enc N blk cap lo hi ((w.setCells blk (A * 9) (enc (p B))).setCells blk (B * 9) (enc (p A))) (fun k => p (Sym.swp A B k)) ∧ ChgL [blk] w ((w.setCells blk (A * 9) (enc (p B))).setCells blk (B * 9) (enc (p A))):=by
  unfold RowsV at V ⊢;have hg:=V.row.lt blk rfl;have C1:=chgL_setCells blk (enc (p B)) w (A * 9);have V1:=V.put (by decide) hlo hA (V.each B hB);have V2:=V1.put (by decide) hlo hB (layRec.rd_below (V.each A hA) (C1.bel (B:=hi) (fun b hb => by simp at hb;omega) (by omega)) (Nat.le_refl _));refine ⟨V2.congr2 (fun i _ => ?_) (fun i _ => ?_),C1.trans (chgL_setCells blk _ _ _)⟩
  · exact upd_swp x0 p A B i
  · exact upd_swp enc p A B i
set_option maxHeartbeats 4000000 in
set_option maxRecDepth 1000000 in
theorem swapRange_any (x0:Nat → RecD) (enc:Nat → List Value) (p:Nat → Nat) (N blk cap lo hi:Nat) (w:World) (V:RowsV x0 enc N blk cap lo hi w p) (hlo:hi ≤ lo) (hN:N < 1000000000) (a b n:Nat) (fv:Value) (hab:a + n ≤ b) (hb:b + n ≤ N) :
    Calls Tryz.prog 168 #[.slice (some ⟨blk,0,none⟩) N cap,.int .i64 a,.int .i64 b,.int .i64 n,fv] w (fun e w' => e = .returned (.tuple #[]) ∧ RowsV x0 enc N blk cap lo hi w' (fun k => p (Sym.swr a b n k)) ∧ ChgL [blk] w w'):=by
  have HV0:Hid (RowsV x0 enc N blk cap lo hi w p):=V;clear V
  go_enter Tryz.func168,Tryz.ntmps168
  go_wp2
  go_loopw [10] (fun i wr => ∃ t:Nat,t ≤ n ∧ i = .int .i64 t ∧ RowsV x0 enc N blk cap lo hi wr (fun k => p (Sym.swr a b t k)) ∧ ChgL [blk] w wr) (fun i _ => n - (intOf i).toNat)
  case atStart => exact ⟨0,Nat.zero_le _,rfl,HV0.out.same (fun i _ => by rw [Sym.swr_zero]),ChgL.refl _ _⟩
  case round =>
    obtain ⟨t,ht,rfl,V,C⟩:=hrel;have HC:Hid (ChgL [blk] w wr):=C;clear C
    by_cases hlt:t < n
    · have t1:(t:Int) < (n:Int):=by omega
      obtain ⟨q,hq⟩:∃ q:Nat → Nat,q = fun k => p (Sym.swr a b t k):=⟨_,rfl⟩;have HQ:Hid (q = fun k => p (Sym.swr a b t k)):=hq
      have VQ:RowsV x0 enc N blk cap lo hi wr q:=by rw [hq];exact V
      obtain ⟨A,hA⟩:∃ A,A = a + t:=⟨_,rfl⟩;obtain ⟨B,hB⟩:∃ B,B = b + t:=⟨_,rfl⟩
      have hAN:A < N:=by omega
      have hBN:B < N:=by omega
      have HAB:Hid (A = a + t ∧ B = b + t):=⟨hA,hB⟩
      have w1:IntKind.i64.wrap ((a:Int) + (t:Int)) = (A:Int):=by rw [IntKind.wrap_i64];omega
      have w2:IntKind.i64.wrap ((b:Int) + (t:Int)) = (B:Int):=by rw [IntKind.wrap_i64];omega
      have i1:(A:Int) < (N:Int):=by omega
      have i2:(B:Int) < (N:Int):=by omega
      have i3:(0:Int) ≤ (A:Int):=by omega
      have i4:(0:Int) ≤ (B:Int):=by omega
      have VD:=View.drew VQ;have rgA:wr.drew.rangeAt blk (A * 9) (enc (q A)):=VD.range hAN;have rgB:wr.drew.rangeAt blk (B * 9) (enc (q B)):=VD.range hBN;have hsA:(enc (q A)).length = 9:=VD.lens A hAN;have hsB:(enc (q B)).length = 9:=VD.lens B hBN
      have th1:wr.drew.there blk (A * 9) (enc (q B)).length:=by rw [hsB];exact VD.there hAN
      have th2:(wr.drew.setCells blk (A * 9) (enc (q B))).there blk (B * 9) (enc (q A)).length:=by rw [hsA];exact (VD.put (by decide) hlo hAN (VD.each B hBN)).there hBN
      have oneA:=rdOne_rec _ _ _ _ (VD.each A hAN);have oneB:=rdOne_rec _ _ _ _ (VD.each B hBN);have SW:=view_swap VD hlo hAN hBN;have HSW:Hid (RowsV x0 enc N blk cap lo hi ((wr.drew.setCells blk (A * 9) (enc (q B))).setCells blk (B * 9) (enc (q A))) (fun k => q (Sym.swp A B k))):=SW.1;have HSC:Hid (ChgL [blk] wr ((wr.drew.setCells blk (A * 9) (enc (q B))).setCells blk (B * 9) (enc (q A)))):=(ChgL.of_below ⟨rfl,rfl,rfl,Nat.le_refl _,fun _ _ => rfl⟩:ChgL [blk] wr wr.drew).trans SW.2;obtain ⟨cA,hcA⟩:∃ c,c = enc (q A):=⟨_,rfl⟩;obtain ⟨cB,hcB⟩:∃ c,c = enc (q B):=⟨_,rfl⟩;rw [← hcA] at rgA th2 hsA oneA HSW HSC;rw [← hcB] at rgB th1 th2 hsB oneB HSW HSC;clear hcA hcB VD SW;clear hq hA hB V VQ
      go_upto_region 3 with fail
      refine wp_region_M 21 (fun w' => w'.rangeAt blk (A * 9) cA ∧ w'.rangeAt blk (B * 9) cB) mixedO ⟨rgA,rgB⟩ (fun hHeld => ?_);refine wpAnyM_pure (i:=0) (oi:=_) (v:=?_) rfl (by kernel_rfl) (fun _ _ _ h => h) (Or.inl ⟨by rfl,?_⟩) (by assumption) ?_
      rotate_left
      · intro w' hSw;go_simp;try with_reducible rfl
      try simp only [Act.put,SL]
      refine wpAnyM_pure (i:=1) (oi:=_) (v:=?_) rfl (by kernel_rfl) (fun _ _ _ h => h) (Or.inl ⟨by rfl,?_⟩) (by assumption) ?_
      rotate_left
      · intro w' hSw;go_simp;try with_reducible rfl
      try simp only [Act.put,SL]
      refine wpAnyM_pure (i:=2) (oi:=_) (v:=?_) rfl (by kernel_rfl) (fun _ _ _ h => h) (Or.inl ⟨by rfl,?_⟩) (by assumption) ?_
      rotate_left
      · intro w' hSw;go_simp;try with_reducible rfl
      try simp only [Act.put,SL]
      refine wpAnyM_pure (i:=3) (oi:=_) (v:=?_) rfl (by kernel_rfl) (fun _ _ _ h => h) (Or.inl ⟨by rfl,?_⟩) (by assumption) ?_
      rotate_left
      · intro w' hSw;go_simp;try with_reducible rfl
      try simp only [Act.put,SL]
      refine wpAnyM_pure (i:=4) (oi:=_) (v:=?_) rfl (by kernel_rfl) (fun _ _ _ h => h) (Or.inl ⟨by rfl,?_⟩) (by assumption) ?_
      rotate_left
      · intro w' hSw;go_simp;try with_reducible rfl
      try simp only [Act.put,SL]
      refine wpAnyM_pure (i:=5) (oi:=_) (v:=?_) rfl (by kernel_rfl) (fun _ _ _ h => h) (Or.inl ⟨by rfl,?_⟩) (by assumption) ?_
      rotate_left
      · intro w' hSw;go_simp;try with_reducible rfl
      try simp only [Act.put,SL]
      refine wpAnyM_pure (i:=6) (oi:=_) (v:=?_) rfl (by kernel_rfl) (fun _ _ _ h => h) (Or.inl ⟨by rfl,?_⟩) (by assumption) ?_
      rotate_left
      · intro w' hSw;go_simp;try with_reducible rfl
      try simp only [Act.put,SL]
      refine wpAnyM_pure (i:=7) (oi:=_) (v:=?_) rfl (by kernel_rfl) (fun _ _ _ h => h) (Or.inl ⟨by rfl,?_⟩) (by assumption) ?_
      rotate_left
      · intro w' hSw;go_simp;try with_reducible rfl
      try simp only [Act.put,SL]
      refine wpAnyM_pure (i:=8) (oi:=_) (v:=?_) rfl (by kernel_rfl) (fun _ _ _ h => h) (Or.inl ⟨by rfl,?_⟩) (by assumption) ?_
      rotate_left
      · intro w' hSw;go_simp;try with_reducible rfl
      try simp only [Act.put,SL]
      refine wpAnyM_pure (i:=9) (oi:=_) (v:=?_) rfl (by kernel_rfl) (fun _ _ _ h => h) (Or.inl ⟨by rfl,?_⟩) (by assumption) ?_
      rotate_left
      · intro w' hSw;go_simp;try with_reducible rfl
      try simp only [Act.put,SL]
      refine wpAnyM_pure (i:=10) (oi:=_) (v:=?_) rfl (by kernel_rfl) (fun _ _ _ h => h) (Or.inl ⟨by rfl,?_⟩) (by assumption) ?_
      rotate_left
      · intro w' hSw;go_simp;try with_reducible rfl
      try simp only [Act.put,SL]
      refine wpAnyM_pure (i:=11) (oi:=_) (v:=?_) rfl (by kernel_rfl) (fun _ _ _ h => h) (Or.inl ⟨by rfl,?_⟩) (by assumption) ?_
      rotate_left
      · intro w' hSw;go_simp;try with_reducible rfl
      try simp only [Act.put,SL]
      refine wpAnyM_pure (i:=12) (oi:=_) (v:=?_) rfl (by kernel_rfl) (fun _ _ _ h => h) (Or.inl ⟨by rfl,?_⟩) (by assumption) ?_
      rotate_left
      · intro w' hSw;go_simp;try with_reducible rfl
      try simp only [Act.put,SL]
      refine wpAnyM_take (i:=13) (oi:=_) (v:=.agg cB.toArray) 16 rfl (by kernel_rfl) (fun _ _ _ h => h) (yieldsIf_load_mid (by rfl) 58 (.tmp 28) rfl blk (B * 9) (by simp [Act.eval,Act.put]) cB _ (fun w h => h.2) Tryz.underlying58 rfl (info_Rec9 hsB)) (by assumption) ?_
      try simp only [Act.put,SL]
      refine wpAnyM_pure (i:=14) (oi:=_) (v:=?_) rfl (by kernel_rfl) (fun _ _ _ h => h) (Or.inl ⟨by rfl,?_⟩) (by assumption) ?_
      rotate_left
      · intro w' hSw;go_simp;try with_reducible rfl
      try simp only [Act.put,SL]
      refine wpAnyM_pure (i:=15) (oi:=_) (v:=?_) rfl (by kernel_rfl) (fun _ _ _ h => h) (Or.inl ⟨by rfl,?_⟩) (by assumption) ?_
      rotate_left
      · intro w' hSw;go_simp;try with_reducible rfl
      try simp only [Act.put,SL]
      refine wpAnyM_pure (i:=16) (oi:=_) (v:=?_) rfl (by kernel_rfl) (fun _ _ _ h => h) (Or.inl ⟨by rfl,?_⟩) (by assumption) ?_
      rotate_left
      · intro w' hSw;go_simp;try with_reducible rfl
      try simp only [Act.put,SL]
      refine wpAnyM_pure (i:=17) (oi:=_) (v:=?_) rfl (by kernel_rfl) (fun _ _ _ h => h) (Or.inl ⟨by rfl,?_⟩) (by assumption) ?_
      rotate_left
      · intro w' hSw;go_simp;try with_reducible rfl
      try simp only [Act.put,SL]
      refine wpAnyM_pure (i:=18) (oi:=_) (v:=?_) rfl (by kernel_rfl) (fun _ _ _ h => h) (Or.inl ⟨by rfl,?_⟩) (by assumption) ?_
      rotate_left
      · intro w' hSw;go_simp;try with_reducible rfl
      try simp only [Act.put,SL]
      refine wpAnyM_take (i:=19) (oi:=_) (v:=.agg cA.toArray) 16 rfl (by kernel_rfl) (fun _ _ _ h => h) (yieldsIf_load_mid (by rfl) 58 (.tmp 34) rfl blk (A * 9) (by simp [Act.eval,Act.put]) cA _ (fun w h => h.1) Tryz.underlying58 rfl (info_Rec9 hsA)) (by assumption) ?_
      try simp only [Act.put,SL]
      refine wpAnyM_pure (i:=20) (oi:=_) (v:=?_) rfl (by kernel_rfl) (fun _ _ _ h => h) (Or.inl ⟨by rfl,?_⟩) (by assumption) ?_
      rotate_left
      · intro w' hSw;go_simp;try with_reducible rfl
      try simp only [Act.put,SL]
      refine wpAnyM_store (i:=21) rfl (by kernel_rfl) (by kernel_rfl) rfl rfl 58 (.tmp 36) (.tmp 29) rfl blk (A * 9) cB (by simp [Act.eval]) (by simp [Act.eval]) th1 (info_Rec9 hsB) oneB ?_;refine wpAnyM_pureL (i:=22) (oi:=_) (v:=?_) rfl (by kernel_rfl) (fun _ _ _ h => h) (Or.inl ⟨by rfl,?_⟩) ?_
      rotate_left
      · intro w' hSw;go_simp;try with_reducible rfl
      try simp only [Act.put,SL]
      refine wpAnyM_store (i:=23) rfl (by kernel_rfl) (by kernel_rfl) rfl rfl 58 (.tmp 37) (.tmp 35) rfl blk (B * 9) cA (by simp [Act.eval]) (by simp [Act.eval]) th2 (info_Rec9 hsA) oneA ?_;refine wpAnyM_done (by kernel_rfl) ?_ _;go_wp2
      go_roundw
      case rel =>
        have e:∀ i,q (Sym.swp A B i) = p (Sym.swr a b (t + 1) i):=fun i => by
          rw [HQ.out,HAB.out.1,HAB.out.2]
          show p (Sym.swr a b t (Sym.swp (a + t) (b + t) i)) = _
          rw [Sym.swr_succ (by omega)]
        exact ⟨t + 1,by omega,by go_num,HSW.out.same (fun i _ => e i),HC.out.trans HSC.out⟩
      case measure => simp [intOf];omega
    · obtain rfl:t = n:=by omega
      have HV:Hid (RowsV x0 enc N blk cap lo hi wr (fun k => p (Sym.swr a b t k))):=V;clear V;go_wp2
      go_end0
      exact ⟨rfl,HV.out,HC.out⟩
end Go.Proofs.YtodedamnclhbnaaGreat
namespace Go.Proofs.YtodedamnclhbnaaGreat
open Go.RowKit F256
set_option maxHeartbeats 4000000 in
set_option maxRecDepth 1000000 in
theorem rotate_any (x0:Nat → RecD) (enc:Nat → List Value) (p:Nat → Nat) (N blk cap lo hi:Nat) (w:World) (V:RowsV x0 enc N blk cap lo hi w p) (hlo:hi ≤ lo) (hN:N < 1000000000) (a m b:Nat) (fv:Value) (ham:a < m) (hmb:m < b) (hb:b ≤ N) :
    Calls Tryz.prog 167 #[.slice (some ⟨blk,0,none⟩) N cap,.int .i64 a,.int .i64 m,.int .i64 b,fv] w (fun e w' => e = .returned (.tuple #[]) ∧ RowsV x0 enc N blk cap lo hi w' (fun k => p (Sym.rot a m b k)) ∧ ChgL [blk] w w'):=by
  have HV0:Hid (RowsV x0 enc N blk cap lo hi w p):=V;clear V
  go_enter Tryz.func167,Tryz.ntmps167
  go_wp2
  go_loopw [10,11] (fun vi vj wr => ∃ (i j:Nat) (q:Nat → Nat),0 < i ∧ 0 < j ∧ i ≤ m - a ∧ j ≤ b - m ∧ vi = .int .i64 i ∧ vj = .int .i64 j ∧ (∀ k,q (Sym.rot (m - i) m (m + j) k) = p (Sym.rot a m b k)) ∧ RowsV x0 enc N blk cap lo hi wr q ∧ ChgL [blk] w wr) (fun vi vj _ => (intOf vi).toNat + (intOf vj).toNat)
  case atStart => exact ⟨m - a,b - m,p,by omega,by omega,by omega,by omega,by go_num,by go_num,fun k => by rw [show m - (m - a) = a by omega,show m + (b - m) = b by omega],HV0.out,ChgL.refl _ _⟩
  case round =>
    obtain ⟨i,j,q,hi0,hj0,him,hjb,rfl,rfl,hq,V,C⟩:=hrel;have HC:Hid (ChgL [blk] w wr):=C;have HQ:Hid (∀ k,q (Sym.rot (m - i) m (m + j) k) = p (Sym.rot a m b k)):=hq;clear C hq
    have w1:IntKind.i64.wrap ((m:Int) - (i:Int)) = ((m - i:Nat):Int):=by rw [IntKind.wrap_i64];omega
    obtain ⟨M,hM⟩:∃ M,M = m - i:=⟨_,rfl⟩;have HM:Hid (M = m - i):=hM;rw [← hM] at w1
    by_cases hij:i = j
    · subst hij
      have hne:((i:Int) != (i:Int)) = false:=by simp
      have CS:=swapRange_any x0 enc q N blk cap lo hi wr V hlo hN M m i fv (by omega) (by omega);clear V hM
      go_wp2_with fail
      refine CS.mono ?_;rintro e w2 ⟨rfl,V2,C2⟩;go_wp2
      go_end0
      refine ⟨rfl,V2.same (fun k _ => ?_),HC.out.trans C2⟩
      show q (Sym.swr M m i k) = p (Sym.rot a m b k)
      rw [← HQ.out,HM.out,Sym.rot_same (by omega)]
    · have hne:((i:Int) != (j:Int)) = true:=by simp;omega
      by_cases hlt:j < i
      · have hgt:(j:Int) < (i:Int):=by omega
        have w3:IntKind.i64.wrap ((i:Int) - (j:Int)) = ((i - j:Nat):Int):=by rw [IntKind.wrap_i64];omega
        have CS:=swapRange_any x0 enc q N blk cap lo hi wr V hlo hN M m j fv (by omega) (by omega);clear V hM
        go_wp2_with fail
        refine CS.mono ?_;rintro e w2 ⟨rfl,V2,C2⟩;have HV2:Hid (RowsV x0 enc N blk cap lo hi w2 (fun k => q (Sym.swr M m j k))):=V2;clear V2 CS;go_wp2
        go_roundw
        case rel => exact ⟨i - j,j,fun k => q (Sym.swr M m j k),by omega,by omega,by omega,by omega,by go_num,by go_num,fun k => by
          show q (Sym.swr M m j (Sym.rot (m - (i - j)) m (m + j) k)) = _
          rw [HM.out,Sym.rot_more (by omega) (by omega),HQ.out],HV2.out,HC.out.trans C2⟩
        case measure => simp [intOf];omega
      · have hgt:decide ((j:Int) < (i:Int)) = false:=decide_eq_false (by omega)
        have w3:IntKind.i64.wrap ((j:Int) - (i:Int)) = ((j - i:Nat):Int):=by rw [IntKind.wrap_i64];omega
        have w4:IntKind.i64.wrap ((m:Int) + (j:Int)) = ((m + j:Nat):Int):=by rw [IntKind.wrap_i64];omega
        have w5:IntKind.i64.wrap (((m + j:Nat):Int) - (i:Int)) = ((m + j - i:Nat):Int):=by rw [IntKind.wrap_i64];omega
        have CS:=swapRange_any x0 enc q N blk cap lo hi wr V hlo hN M (m + j - i) i fv (by omega) (by omega);obtain ⟨MJ,hMJ⟩:∃ x,x = m + j:=⟨_,rfl⟩;obtain ⟨MI,hMI⟩:∃ x,x = m + j - i:=⟨_,rfl⟩;have HMI:Hid (MI = m + j - i):=hMI;rw [← hMI] at CS w5;rw [← hMJ] at w4 w5;clear V hM hMI hMJ
        go_wp2_with fail
        refine CS.mono ?_;rintro e w2 ⟨rfl,V2,C2⟩;have HV2:Hid (RowsV x0 enc N blk cap lo hi w2 (fun k => q (Sym.swr M MI i k))):=V2;clear V2 CS;go_wp2
        go_roundw
        case rel => exact ⟨i,j - i,fun k => q (Sym.swr M MI i k),by omega,by omega,by omega,by omega,by go_num,by go_num,fun k => by
          show q (Sym.swr M MI i (Sym.rot (m - i) m (m + (j - i)) k)) = _
          rw [HM.out,HMI.out,Sym.rot_less (by omega) (by omega),HQ.out],HV2.out,HC.out.trans C2⟩
        case measure => simp [intOf];omega
end Go.Proofs.YtodedamnclhbnaaGreat
namespace Go.Proofs.YtodedamnclhbnaaGreat
open Go.RowKit
theorem step_callv {ops:Array Oper} {o:Oper} {a:Act} {w:World} {K:Act → World → Prop} {Q:Exit → Act → World → Prop} {E:Prop}
    (hw:Region.wanted o (yielded ops a.tmps) = true) (x:Operand) (n:Nat) (caps:Array Value) (args:Array Operand) (ty:Array TypeId) (hop:o.op = Op.call { callee:=Callee.value x,args:=args,argTypes:=ty }) (hx:a.eval x = .func (.func n) #[] caps) (vals:Array Value) (hv:args.map a.eval = vals)
    {fn : Func} (hfn : Tryz.prog.funcs[n]? = some fn) (hnm : (fn.name == "runtime.NumGoroutine") = false) (hbd : fn.body.isSome = true)
    {R:Ending → World → Prop} (hc:Calls Tryz.prog n (vals ++ caps) w R) (hK:∀ e w',R e w' → ∃ v,e = .returned v ∧ K (a.put o.dst v) w') :
    if Region.wanted o (yielded ops a.tmps) = true then Oper.wp Tryz.prog o a w K Q else E:=by
  have hn' : ¬ fn.name = "runtime.NumGoroutine" := by simpa using hnm
  have hb':¬ fn.body = none:=by intro h;rw [h] at hbd;cases hbd
  rw [if_pos hw];unfold Oper.wp
  simp [execOp,hop,hx,resolve,invoke,Result.andThen,Deferred.ofValue,callFunc,Oper.upon,hv,hfn,hn',hb']
  refine hc.mono fun e w' h => ?_;obtain ⟨v,rfl,hk⟩:=hK e w' h;exact hk
end Go.Proofs.YtodedamnclhbnaaGreat