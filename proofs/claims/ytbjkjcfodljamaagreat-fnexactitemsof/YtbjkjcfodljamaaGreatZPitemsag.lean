/- A region that draws its order and whose last store writes a cell that it has read: loads are taken first, whatever comes up; the condition on the world need not hold behind that store, since it waits for all that is taken first. -/
import Derived.Test.YtbjkjcfodljamaaGreatZPitemsaa
import Derived.OrdersHeld
import Derived.Deep.RegionHeld
import Derived.Deep.MidRow
import Derived.Test.YtbjkjcfodljamaaGreatZPitemsaf
import Derived.Test.YtbjkjcfodljamaaGreatZPitemsac
import Derived.Laws.CopyOwn
import Derived.Maps.AppendAt
import Derived.Test.YtbjkjcfodljamaaGreatZPitemsab
import Derived.StillTailTactics
import Derived.Deep.DeepCutAuto
import Derived.Test.YtbjkjcfodljamaaGreatZPitemsae
set_option linter.unusedVariables false
set_option linter.unusedSimpArgs false
namespace Go.Proofs.YtbjkjcfodljamaaGreat
open Go.RowKit
section
variable {P:Program} {ops:Array Oper} {Q:Exit → Act → World → Prop} {md:Region.Mode} {S:World → Prop} {L:Nat}
def wpAnyL (P:Program) (md:Region.Mode) (ops:Array Oper) (Q:Exit → Act → World → Prop) (S:World → Prop) (L:Nat):Nat → Array Bool → Act → World → Prop
  | 0,listed,a,w => Region.ready md ops listed = [] ∧ Q .normal a w
  | fuel + 1,listed,a,w =>
    (Region.ready md ops listed = [] → Q .normal a w) ∧
    ∀ i ∈ Region.ready md ops listed,wpOp P ops Q i (fun a' w' => (i ≠ L → S w') ∧ wpAnyL P md ops Q S L fuel (listed.setIfInBounds i true) a' w') a w
theorem wpAny_of_L:∀ (fuel:Nat) (listed:Array Bool) (a:Act) (w:World),wpAnyL P md ops Q S L fuel listed a w → wpAny P md ops Q fuel listed a w
  | 0,_,_,_,h => h
  | fuel + 1,_,_,_,h => ⟨h.1,fun i hi => wpOp_mono (fun a' w' h' => wpAny_of_L fuel _ a' w' h'.2) (h.2 i hi)⟩
def ClosedP (md:Region.Mode) (ops:Array Oper) (listed:Array Bool):Prop :=
  ∀ j oj,ops[j]? = some oj → listed.getD j false = true → ∀ e ∈ oj.after,Region.binds md e = true → listed.getD e.on false = true
def closedB (md:Region.Mode) (ops:Array Oper) (listed:Array Bool):Bool :=
  (List.range ops.size).all fun j => !listed.getD j false || ((ops[j]?).map (·.after.all fun e => !Region.binds md e || listed.getD e.on false)).getD false
theorem closed_of {listed:Array Bool} (h:closedB md ops listed = true):ClosedP md ops listed:=fun j oj hj hl e he hb => by
  unfold closedB at h;have hlt:j < ops.size:=(Array.getElem?_eq_some_iff.1 hj).1;have h1:=List.all_eq_true.1 h j (List.mem_range.2 hlt);rw [hl,hj] at h1
  simp only [Bool.not_true,Bool.false_or,Option.map_some,Option.getD_some,Array.all_eq_true_iff_forall_mem] at h1
  have h2:=h1 e he;rw [hb] at h2
  simpa using h2
theorem closed_step {listed:Array Bool} {j:Nat} (h:ClosedP md ops listed) (hj:j ∈ Region.ready md ops listed):ClosedP md ops (listed.setIfInBounds j true):=fun k ok hk hl e he hb => by
  obtain ⟨_,o,ho,hall⟩:=mem_ready.1 hj
  by_cases c:j = k
  · subst c
    rw [hk] at ho
    cases ho
    exact getD_set_true (hall e he hb)
  · rw [getD_set_ne false c] at hl
    exact getD_set_true (h k ok hk hl e he hb)
def depB (md:Region.Mode) (ops:Array Oper):Nat → Nat → Nat → Bool
  | 0,l,i => l == i
  | n + 1,l,i => l == i || ((ops[l]?).map (·.after.any fun e => Region.binds md e && depB md ops n e.on i)).getD false
theorem dep_listed {listed:Array Bool} (hc:ClosedP md ops listed):∀ (n l i:Nat),depB md ops n l i = true → listed.getD l false = true → listed.getD i false = true
  | 0,l,i,h,hl => by
    unfold depB at h
    have:l = i:=by simpa using h
    rw [← this];exact hl
  | n + 1,l,i,h,hl => by
    unfold depB at h
    rcases Bool.or_eq_true _ _ ▸ h with h1 | h1
    · have:l = i:=by simpa using h1
      rw [← this];exact hl
    · cases ho:ops[l]? with
      | none => rw [ho] at h1;simp at h1
      | some o =>
        rw [ho] at h1
        simp only [Option.map_some,Option.getD_some] at h1
        obtain ⟨k,hk,hbk⟩:=Array.any_eq_true.1 h1;obtain ⟨hb,hd⟩:=Bool.and_eq_true _ _ ▸ hbk;exact dep_listed hc n _ i hd (hc l o ho hl _ (Array.getElem_mem hk) hb)
theorem dep_waits {listed:Array Bool} (hc:ClosedP md ops listed) {n i:Nat} (hne:L ≠ i) (hd:depB md ops n L i = true) (hi:listed.getD i false = false):L ∉ Region.ready md ops listed:=fun hL => by
  obtain ⟨_,o,ho,hall⟩:=mem_ready.1 hL
  cases n with
  | zero => unfold depB at hd;exact hne (by simpa using hd)
  | succ n =>
    unfold depB at hd
    rcases Bool.or_eq_true _ _ ▸ hd with h1 | h1
    · exact hne (by simpa using h1)
    · rw [ho] at h1
      simp only [Option.map_some,Option.getD_some] at h1
      obtain ⟨k,hk,hbk⟩:=Array.any_eq_true.1 h1;obtain ⟨hb,hd'⟩:=Bool.and_eq_true _ _ ▸ hbk;have:=dep_listed hc n _ i hd' (hall _ (Array.getElem_mem hk) hb);rw [hi] at this
      cases this
theorem unlisted_false {listed:Array Bool} {i:Nat} (h:listed.getD i true = false):listed.getD i false = false:=by
  rcases Nat.lt_or_ge i listed.size with h' | h'
  · simpa [h'] using h
  · simp [Array.getElem?_eq_none h'] at h
theorem wpAnyL_first {i:Nat} {oi:Oper} {v:Value} (hi:ops[i]? = some oi) (hsel:∀ (j:Nat) (o:Oper) cs b,ops[j]? = some o → o.op ≠ .select cs b)
    (hQ:∀ c a w,Q (.panic c) (a.put oi.dst v) w → Q (.panic c) a w) (hLi:L ≠ i) {n:Nat} (hd:depB md ops n L i = true) :
    ∀ (fuel:Nat) (listed:Array Bool) (a:Act) (w:World),ClosedP md ops listed →
      (∀ j oj,ops[j]? = some oj → j ≠ i → listed.getD j true = false → (∀ e ∈ oj.after,Region.binds md e = true → e.on ≠ i) → oi.apart ops oj = true) →
      i ∈ Region.ready md ops listed → YieldsIf P ops S oi v a → S w →
      wpAnyL P md ops Q S L fuel (listed.setIfInBounds i true) (a.put oi.dst v) w → wpAnyL P md ops Q S L (fuel + 1) listed a w:=by
  intro fuel
  induction fuel with
  | zero =>
    intro listed a w _ _ hr hy hS H;refine ⟨fun h => (by rw [h] at hr;cases hr),fun j hj => ?_⟩
    by_cases hji:j = i
    · subst hji;exact hy.wpOp hi hS ⟨fun _ => hS,H⟩
    · have:=ready_mono hj hji
      rw [H.1] at this
      cases this
  | succ fuel ih =>
    intro listed a w hcl hfree hr hy hS H;refine ⟨fun h => (by rw [h] at hr;cases hr),fun j hj => ?_⟩
    by_cases hji:j = i
    · subst hji;exact hy.wpOp hi hS ⟨fun _ => hS,H⟩
    · have hjL:j ≠ L:=fun h => by
        subst h;exact dep_waits hcl hLi hd (unlisted_false (mem_ready.1 hr).1) hj
      have h1:=H.2 j (ready_mono hj hji);obtain ⟨hjun,oj,hoj,hall⟩:=mem_ready.1 hj
      have hnot:∀ e ∈ oj.after,Region.binds md e = true → e.on ≠ i:=fun e he hb heq => by
        have h1:=hall e he hb;have h0:=unlisted_false (mem_ready.1 hr).1;rw [heq,h0] at h1
        cases h1
      have h2:=wpOp_putIf hoj (hfree j oj hoj hji hjun hnot) (fun cs b => hsel i oi cs b hi) (fun cs b => hsel j oj cs b hoj) hQ hy h1
      have hfree':∀ k ok,ops[k]? = some ok → k ≠ i → (listed.setIfInBounds j true).getD k true = false →
          (∀ e ∈ ok.after,Region.binds md e = true → e.on ≠ i) → oi.apart ops ok = true:=fun k ok hk hki hun hno => by
        refine hfree k ok hk hki ?_ hno
        by_cases hjk:j = k
        · subst hjk;exact hjun
        · rw [getD_set_ne true hjk] at hun;exact hun
      refine wpOp_mono (fun a' w' h3 => ⟨h3.2.1,ih (listed.setIfInBounds j true) a' w' (closed_step hcl hj) hfree' (ready_mono hr (Ne.symm hji)) h3.1 (h3.2.1 hjL) ?_⟩) h2;rw [Array.setIfInBounds_comm _ _ hji];exact h3.2.2
theorem wpAnyL_take {i:Nat} {oi:Oper} {v:Value} {fuel:Nat} {listed:Array Bool} {a:Act} {w:World} (n:Nat) (hi:ops[i]? = some oi)
    (hs:(Region.noSelect ops && Region.free md ops listed i && (Region.ready md ops listed).contains i && !(L == i) && depB md ops n L i && closedB md ops listed) = true)
    (hQ:∀ c a w,Q (.panic c) (a.put oi.dst v) w → Q (.panic c) a w) (hy:YieldsIf P ops S oi v a) (hS:S w)
    (h:wpAnyL P md ops Q S L fuel (listed.setIfInBounds i true) (a.put oi.dst v) w):wpAnyL P md ops Q S L (fuel + 1) listed a w:=by
  simp only [Bool.and_eq_true,Bool.not_eq_true',beq_eq_false_iff_ne] at hs
  obtain ⟨⟨⟨⟨⟨h1,h2⟩,h3⟩,h4⟩,h5⟩,h6⟩:=hs;exact wpAnyL_first hi (Region.noSelect_spec h1) hQ h4 h5 fuel listed a w (closed_of h6) (Region.free_spec hi h2) (by simpa using h3) hy hS h
theorem wpAnyL_one {i:Nat} {o:Oper} {fuel:Nat} {listed:Array Bool} {a:Act} {w:World} (ho:ops[i]? = some o) (hr:Region.ready md ops listed = [i])
    (h:∀ K':Act → World → Prop,Shut (∀ a w,S w → (S w → wpAnyL P md ops Q S L fuel (listed.setIfInBounds i true) a w) → K' a w) → if Region.wanted o (yielded ops a.tmps) = true then Oper.wp P o a w K' Q else K' (a.put o.dst undef) w):wpAnyL P md ops Q S L (fuel + 1) listed a w:=by
  refine ⟨fun h0 => (by rw [hr] at h0;cases h0),fun j hj => ?_⟩;rw [hr] at hj
  obtain rfl:j = i:=by simpa using hj
  exact wpOp_step ho (fun K' hK => h K' (fun a w hS hW => hK a w ⟨fun _ => hS,hW hS⟩))
theorem wpAnyL_last {o:Oper} {fuel:Nat} {listed:Array Bool} {a:Act} {w:World} (ho:ops[L]? = some o) (hr:Region.ready md ops listed = [L])
    (h:∀ K':Act → World → Prop,Shut (∀ a w,wpAnyL P md ops Q S L fuel (listed.setIfInBounds L true) a w → K' a w) → if Region.wanted o (yielded ops a.tmps) = true then Oper.wp P o a w K' Q else K' (a.put o.dst undef) w):wpAnyL P md ops Q S L (fuel + 1) listed a w:=by
  refine ⟨fun h0 => (by rw [hr] at h0;cases h0),fun j hj => ?_⟩;rw [hr] at hj
  obtain rfl:j = L:=by simpa using hj
  exact wpOp_step ho (fun K' hK => h K' (fun a w hW => hK a w ⟨fun hn => absurd rfl hn,hW⟩))
theorem wpAnyL_done {listed:Array Bool} {a:Act} {w:World} (hr:Region.ready md ops listed = []) (h:Q .normal a w):∀ fuel,wpAnyL P md ops Q S L fuel listed a w
  | 0 => ⟨hr,h⟩
  | _ + 1 => ⟨fun _ => h,by rw [hr];simp⟩
theorem wp_region_L {id:Nat} {a:Act} {w:World} (L:Nat) (S:World → Prop) (hm:P.follows .mixedOrders = true) (hS:S w.drew)
    (h:S w.drew → wpAnyL P .any ops Q S L ops.size (Array.replicate ops.size false) a w.drew):(Code.region id ops true).wp P Q a w :=
  wp_region_any hm (wpAny_of_L _ _ _ _ (h hS))
end
end Go.Proofs.YtbjkjcfodljamaaGreat
namespace Go.Proofs.YtbjkjcfodljamaaGreat
open Go.RowKit
theorem SL {α : Type} : (∀ (l : List α) (i : Nat) (v : α), l.toArray.setIfInBounds i v = (l.set i v).toArray) ∧ (∀ (a : α) (l : List α) (b : α), (a :: l).set 0 b = b :: l) ∧ (∀ (a : α) (l : List α) (n : Nat) (b : α), (a :: l).set (n + 1) b = a :: l.set n b) ∧ (∀ (l : List α) (i : Nat) (h : i < l.toArray.size), l.toArray[i] = l[i]'(by simpa using h)) ∧ (∀ (a : α) (l : List α) (n : Nat) (h : n + 1 < (a :: l).length), (a :: l)[n + 1] = l[n]'(by simpa using h)) ∧ ∀ (a : α) (l : List α) (h : 0 < (a :: l).length), (a :: l)[0] = a := ⟨fun _ _ _ => List.setIfInBounds_toArray .., fun _ _ _ => rfl, fun _ _ _ _ => rfl, fun _ _ _ => rfl, fun _ _ _ _ => rfl, fun _ _ _ => rfl⟩
section
variable {P:Program} {ops:Array Oper} {Q:Exit → Act → World → Prop} {md:Region.Mode} {S:World → Prop} {L:Nat}
def wpAnyM (P:Program) (md:Region.Mode) (ops:Array Oper) (Q:Exit → Act → World → Prop) (S:World → Prop) (L:Nat):Nat → Array Bool → Act → World → Prop
  | 0,listed,a,w => Region.ready md ops listed = [] ∧ Q .normal a w
  | fuel + 1,listed,a,w =>
    (Region.ready md ops listed = [] → Q .normal a w) ∧
    ∀ i ∈ Region.ready md ops listed,wpOp P ops Q i (fun a' w' => ((listed.setIfInBounds i true).getD L false = false → S w') ∧ wpAnyM P md ops Q S L fuel (listed.setIfInBounds i true) a' w') a w
theorem wpAny_of_M:∀ (fuel:Nat) (listed:Array Bool) (a:Act) (w:World),wpAnyM P md ops Q S L fuel listed a w → wpAny P md ops Q fuel listed a w
  | 0,_,_,_,h => h
  | fuel + 1,_,_,_,h => ⟨h.1,fun i hi => wpOp_mono (fun a' w' h' => wpAny_of_M fuel _ a' w' h'.2) (h.2 i hi)⟩
theorem wpAnyM_first {i:Nat} {oi:Oper} {v:Value} (hi:ops[i]? = some oi) (hsel:∀ (j:Nat) (o:Oper) cs b,ops[j]? = some o → o.op ≠ .select cs b)
    (hQ:∀ c a w,Q (.panic c) (a.put oi.dst v) w → Q (.panic c) a w) (hLi:L ≠ i) {n:Nat} (hd:depB md ops n L i = true) :
    ∀ (fuel:Nat) (listed:Array Bool) (a:Act) (w:World),ClosedP md ops listed →
      (∀ j oj,ops[j]? = some oj → j ≠ i → listed.getD j true = false → (∀ e ∈ oj.after,Region.binds md e = true → e.on ≠ i) → oi.apart ops oj = true) →
      i ∈ Region.ready md ops listed → YieldsIf P ops S oi v a → S w →
      wpAnyM P md ops Q S L fuel (listed.setIfInBounds i true) (a.put oi.dst v) w → wpAnyM P md ops Q S L (fuel + 1) listed a w:=by
  intro fuel
  induction fuel with
  | zero =>
    intro listed a w _ _ hr hy hS H;refine ⟨fun h => (by rw [h] at hr;cases hr),fun j hj => ?_⟩
    by_cases hji:j = i
    · subst hji;exact hy.wpOp hi hS ⟨fun _ => hS,H⟩
    · have:=ready_mono hj hji
      rw [H.1] at this
      cases this
  | succ fuel ih =>
    intro listed a w hcl hfree hr hy hS H;refine ⟨fun h => (by rw [h] at hr;cases hr),fun j hj => ?_⟩
    by_cases hji:j = i
    · subst hji;exact hy.wpOp hi hS ⟨fun _ => hS,H⟩
    · have hjL:j ≠ L:=fun h => by
        subst h;exact dep_waits hcl hLi hd (unlisted_false (mem_ready.1 hr).1) hj
      have h1:=H.2 j (ready_mono hj hji);obtain ⟨hjun,oj,hoj,hall⟩:=mem_ready.1 hj
      have hnot:∀ e ∈ oj.after,Region.binds md e = true → e.on ≠ i:=fun e he hb heq => by
        have h1:=hall e he hb;have h0:=unlisted_false (mem_ready.1 hr).1;rw [heq,h0] at h1
        cases h1
      have h2:=wpOp_putIf hoj (hfree j oj hoj hji hjun hnot) (fun cs b => hsel i oi cs b hi) (fun cs b => hsel j oj cs b hoj) hQ hy h1
      have hfree':∀ k ok,ops[k]? = some ok → k ≠ i → (listed.setIfInBounds j true).getD k true = false →
          (∀ e ∈ ok.after,Region.binds md e = true → e.on ≠ i) → oi.apart ops ok = true:=fun k ok hk hki hun hno => by
        refine hfree k ok hk hki ?_ hno
        by_cases hjk:j = k
        · subst hjk;exact hjun
        · rw [getD_set_ne true hjk] at hun;exact hun
      have hLn:(listed.setIfInBounds j true).getD L false = false:=by
        rw [getD_set_ne false hjL]
        cases hg:listed.getD L false with
        | false => rfl
        | true => have:=dep_listed hcl n L i hd hg;rw [unlisted_false (mem_ready.1 hr).1] at this;cases this
      have hLn2:((listed.setIfInBounds i true).setIfInBounds j true).getD L false = false:=by
        rw [← Array.setIfInBounds_comm _ _ hji,getD_set_ne false (Ne.symm hLi)];exact hLn
      refine wpOp_mono (fun a' w' h3 => ⟨fun _ => h3.2.1 hLn2,ih (listed.setIfInBounds j true) a' w' (closed_step hcl hj) hfree' (ready_mono hr (Ne.symm hji)) h3.1 (h3.2.1 hLn2) ?_⟩) h2;rw [Array.setIfInBounds_comm _ _ hji];exact h3.2.2
theorem wpAnyM_pure0 {i:Nat} {oi:Oper} {v:Value} (hi:ops[i]? = some oi) (hsel:∀ (j:Nat) (o:Oper) cs b,ops[j]? = some o → o.op ≠ .select cs b)
    (hQ:∀ c a w,Q (.panic c) (a.put oi.dst v) w → Q (.panic c) a w) (hLi:L ≠ i) :
    ∀ (fuel:Nat) (listed:Array Bool) (a:Act) (w:World),ClosedP md ops listed →
      (∀ j oj,ops[j]? = some oj → j ≠ i → listed.getD j true = false → (∀ e ∈ oj.after,Region.binds md e = true → e.on ≠ i) → oi.apart ops oj = true) →
      i ∈ Region.ready md ops listed → YieldsIf P ops (fun _ => True) oi v a → ((listed.setIfInBounds i true).getD L false = false → S w) →
      wpAnyM P md ops Q S L fuel (listed.setIfInBounds i true) (a.put oi.dst v) w → wpAnyM P md ops Q S L (fuel + 1) listed a w:=by
  intro fuel
  induction fuel with
  | zero =>
    intro listed a w _ _ hr hy hS H;refine ⟨fun h => (by rw [h] at hr;cases hr),fun j hj => ?_⟩
    by_cases hji:j = i
    · subst hji;exact hy.wpOp hi trivial ⟨hS,H⟩
    · have:=ready_mono hj hji
      rw [H.1] at this
      cases this
  | succ fuel ih =>
    intro listed a w hcl hfree hr hy hS H;refine ⟨fun h => (by rw [h] at hr;cases hr),fun j hj => ?_⟩
    by_cases hji:j = i
    · subst hji;exact hy.wpOp hi trivial ⟨hS,H⟩
    · skip
      have h1:=H.2 j (ready_mono hj hji);obtain ⟨hjun,oj,hoj,hall⟩:=mem_ready.1 hj
      have hnot:∀ e ∈ oj.after,Region.binds md e = true → e.on ≠ i:=fun e he hb heq => by
        have h1:=hall e he hb;have h0:=unlisted_false (mem_ready.1 hr).1;rw [heq,h0] at h1
        cases h1
      have h2:=wpOp_putIf hoj (hfree j oj hoj hji hjun hnot) (fun cs b => hsel i oi cs b hi) (fun cs b => hsel j oj cs b hoj) hQ hy h1
      have hfree':∀ k ok,ops[k]? = some ok → k ≠ i → (listed.setIfInBounds j true).getD k true = false →
          (∀ e ∈ ok.after,Region.binds md e = true → e.on ≠ i) → oi.apart ops ok = true:=fun k ok hk hki hun hno => by
        refine hfree k ok hk hki ?_ hno
        by_cases hjk:j = k
        · subst hjk;exact hjun
        · rw [getD_set_ne true hjk] at hun;exact hun
      refine wpOp_mono (fun a' w' h3 => ?_) h2;have hk:((listed.setIfInBounds j true).setIfInBounds i true).getD L false = false → S w':=fun hn => h3.2.1 (by rw [Array.setIfInBounds_comm _ _ (Ne.symm hji)];exact hn);refine ⟨fun hn => ?_,ih (listed.setIfInBounds j true) a' w' (closed_step hcl hj) hfree' (ready_mono hr (Ne.symm hji)) h3.1 hk ?_⟩
      · exact hk (by rw [getD_set_ne false (Ne.symm hLi)];exact hn)
      · rw [Array.setIfInBounds_comm _ _ hji]
        exact h3.2.2
theorem wpAnyM_pure {i:Nat} {oi:Oper} {v:Value} {fuel:Nat} {listed:Array Bool} {a:Act} {w:World} (hi:ops[i]? = some oi)
    (hs:(Region.noSelect ops && Region.free md ops listed i && (Region.ready md ops listed).contains i && !(L == i) && closedB md ops listed) = true)
    (hQ:∀ c a w,Q (.panic c) (a.put oi.dst v) w → Q (.panic c) a w) (hy:YieldsIf P ops (fun _ => True) oi v a) (hS:S w)
    (h:wpAnyM P md ops Q S L fuel (listed.setIfInBounds i true) (a.put oi.dst v) w):wpAnyM P md ops Q S L (fuel + 1) listed a w:=by
  simp only [Bool.and_eq_true,Bool.not_eq_true',beq_eq_false_iff_ne] at hs
  obtain ⟨⟨⟨⟨h1,h2⟩,h3⟩,h4⟩,h6⟩:=hs;exact wpAnyM_pure0 hi (Region.noSelect_spec h1) hQ h4 fuel listed a w (closed_of h6) (Region.free_spec hi h2) (by simpa using h3) hy (fun _ => hS) h
theorem wpAnyM_pureL {i:Nat} {oi:Oper} {v:Value} {fuel:Nat} {listed:Array Bool} {a:Act} {w:World} (hi:ops[i]? = some oi)
    (hs:(Region.noSelect ops && Region.free md ops listed i && (Region.ready md ops listed).contains i && !(L == i) && closedB md ops listed && listed.getD L false) = true)
    (hQ:∀ c a w,Q (.panic c) (a.put oi.dst v) w → Q (.panic c) a w) (hy:YieldsIf P ops (fun _ => True) oi v a)
    (h:wpAnyM P md ops Q S L fuel (listed.setIfInBounds i true) (a.put oi.dst v) w):wpAnyM P md ops Q S L (fuel + 1) listed a w:=by
  simp only [Bool.and_eq_true,Bool.not_eq_true',beq_eq_false_iff_ne] at hs
  obtain ⟨⟨⟨⟨⟨h1,h2⟩,h3⟩,h4⟩,h6⟩,h7⟩:=hs;exact wpAnyM_pure0 hi (Region.noSelect_spec h1) hQ h4 fuel listed a w (closed_of h6) (Region.free_spec hi h2) (by simpa using h3) hy (fun hn => by rw [getD_set_ne false (Ne.symm h4),h7] at hn;cases hn) h
theorem wpAnyM_take {i:Nat} {oi:Oper} {v:Value} {fuel:Nat} {listed:Array Bool} {a:Act} {w:World} (n:Nat) (hi:ops[i]? = some oi)
    (hs:(Region.noSelect ops && Region.free md ops listed i && (Region.ready md ops listed).contains i && !(L == i) && depB md ops n L i && closedB md ops listed) = true)
    (hQ:∀ c a w,Q (.panic c) (a.put oi.dst v) w → Q (.panic c) a w) (hy:YieldsIf P ops S oi v a) (hS:S w)
    (h:wpAnyM P md ops Q S L fuel (listed.setIfInBounds i true) (a.put oi.dst v) w):wpAnyM P md ops Q S L (fuel + 1) listed a w:=by
  simp only [Bool.and_eq_true,Bool.not_eq_true',beq_eq_false_iff_ne] at hs
  obtain ⟨⟨⟨⟨⟨h1,h2⟩,h3⟩,h4⟩,h5⟩,h6⟩:=hs;exact wpAnyM_first hi (Region.noSelect_spec h1) hQ h4 h5 fuel listed a w (closed_of h6) (Region.free_spec hi h2) (by simpa using h3) hy hS h
theorem wpAnyM_one {i:Nat} {o:Oper} {fuel:Nat} {listed:Array Bool} {a:Act} {w:World} (ho:ops[i]? = some o) (hr:Region.ready md ops listed = [i]) (hL:(listed.setIfInBounds i true).getD L false = true)
    (h:∀ K':Act → World → Prop,Shut (∀ a w,wpAnyM P md ops Q S L fuel (listed.setIfInBounds i true) a w → K' a w) → if Region.wanted o (yielded ops a.tmps) = true then Oper.wp P o a w K' Q else K' (a.put o.dst undef) w):wpAnyM P md ops Q S L (fuel + 1) listed a w:=by
  refine ⟨fun h0 => (by rw [hr] at h0;cases h0),fun j hj => ?_⟩;rw [hr] at hj
  obtain rfl:j = i:=by simpa using hj
  exact wpOp_step ho (fun K' hK => h K' (fun a w hW => hK a w ⟨fun hn => (by rw [hL] at hn;cases hn),hW⟩))
theorem wpAnyM_done {listed:Array Bool} {a:Act} {w:World} (hr:Region.ready md ops listed = []) (h:Q .normal a w):∀ fuel,wpAnyM P md ops Q S L fuel listed a w
  | 0 => ⟨hr,h⟩
  | _ + 1 => ⟨fun _ => h,by rw [hr];simp⟩
theorem wp_region_M {id:Nat} {a:Act} {w:World} (L:Nat) (S:World → Prop) (hm:P.follows .mixedOrders = true) (hS:S w.drew)
    (h:S w.drew → wpAnyM P .any ops Q S L ops.size (Array.replicate ops.size false) a w.drew):(Code.region id ops true).wp P Q a w :=
  wp_region_any hm (wpAny_of_M _ _ _ _ (h hS))
theorem wpAnyM_store {i:Nat} {o:Oper} {fuel:Nat} {listed:Array Bool} {a:Act} {w:World} (ho:ops[i]? = some o) (hr:Region.ready md ops listed = [i]) (hL:(listed.setIfInBounds i true).getD L false = true) (hg:o.guard = none) (hd:o.dst = none) (T:TypeId) (x y:Operand) (hop:o.op = .store T x y)
    (b off:Nat) (cells:List Value) (hx:a.eval x = .pointer (some ⟨b,off,none⟩)) (hy:a.eval y = .agg cells.toArray) (ht:w.there b off cells.length) (hi:(P.info? T).map (·.size) = some cells.length) (h1:∀ v,v ∈ cells → v.oneCell' = true)
    (h:wpAnyM P md ops Q S L fuel (listed.setIfInBounds i true) a (w.setCells b off cells)):wpAnyM P md ops Q S L (fuel + 1) listed a w:=by
  refine wpAnyM_one ho hr hL (fun KC hKC => ?_)
  have hw:Region.wanted o (yielded ops a.tmps) = true:=by simp [Region.wanted,hg]
  rw [if_pos hw];refine wp_store_mid T x y hop b off cells.toArray hx hy (by simpa using ht) (by simpa using hi) (by simpa using h1) ?_
  have e:a.put o.dst undef = a:=by rw [hd];rfl
  rw [e];exact hKC _ _ h
end
end Go.Proofs.YtbjkjcfodljamaaGreat
namespace Go.Proofs.YtbjkjcfodljamaaGreat
open Go.RowKit F256
theorem OwnI.full {w:World} {lo hi g n:Nat} {f:Nat → Int} (h:OwnI w lo hi (.slice (some ⟨g,0,none⟩) n n) n f):w.heap[g]? = some (.cells (intsOf n f).toArray 2 (0,0)):=by
  rcases h.1.2 with ⟨h',_⟩ | ⟨g',cap',cur,h',_,hg,_,_,hcs,htake⟩
  · simp at h'
  · simp only [Value.slice.injEq,Option.some.injEq,Addr.mk.injEq,and_true,true_and] at h'
    obtain ⟨rfl,rfl⟩:=h'
    have:cur = (intsOf n f).toArray:=by
      rw [← htake,List.take_of_length_le (by simp;omega)]
    rw [← this];exact hg
theorem ownI_of_full {w:World} {lo g n:Nat} {f:Nat → Int} (hg:w.heap[g]? = some (.cells (intsOf n f).toArray 2 (0,0))) (hlo:lo ≤ g) (hm:n ≤ maxLen):OwnI w lo w.heap.size (.slice (some ⟨g,0,none⟩) n n) n f :=
  ⟨⟨by rw [intsOf_length];omega,.inr ⟨g,n,_,rfl,hlo,hg,Nat.le_refl _,hm,by simp [intsOf_length],by simp [List.take_of_length_le,intsOf_length]⟩⟩,fun k hk => by
    simp [Value.ownBlock] at hk
    subst hk
    exact (Array.getElem?_eq_some_iff.1 hg).1⟩
theorem splice_ints (N off m:Nat) (f t h:Nat → Int) (hm:off + m ≤ N) (hh:∀ i,i < N → h i = if off ≤ i ∧ i < off + m then t (i - off) else f i):splice (intsOf N f) off (intsOf m t) = intsOf N h:=by
  unfold splice
  apply List.ext_getElem?
  intro i
  by_cases hi:i < N
  · rw [intsOf_get N h i hi,hh i hi]
    by_cases h1:i < off
    · have e1:¬ (off ≤ i ∧ i < off + m):=by omega
      rw [if_neg e1,List.getElem?_append_left (by rw [List.length_take,intsOf_length];omega),List.getElem?_take,if_pos h1,intsOf_get N f i hi]
    · rw [List.getElem?_append_right (by rw [List.length_take,intsOf_length];omega)]
      have e0:(List.take off (intsOf N f)).length = off:=by rw [List.length_take,intsOf_length];omega
      rw [e0]
      by_cases h2:i < off + m
      · rw [if_pos ⟨by omega,h2⟩,List.getElem?_append_left (by rw [intsOf_length];omega),intsOf_get m t _ (by omega)]
      · have e1:¬ (off ≤ i ∧ i < off + m):=by omega
        rw [if_neg e1,List.getElem?_append_right (by rw [intsOf_length];omega),intsOf_length,List.getElem?_drop,show off + m + (i - off - m) = i by omega,intsOf_get N f i hi]
  · rw [List.getElem?_eq_none (by simp [intsOf_length];omega),List.getElem?_eq_none (by rw [intsOf_length];omega)]
theorem copy_srcI {w:World} {hi n cap:Nat} {ao:Option Addr} {f:Nat → Int} (r:RdI w hi (.slice ao n cap) n f) (h:0 < (intsOf n f).length):∃ ad,ao = some ad ∧ ∀ j v,(intsOf n f)[j]? = some v → w.cell? (ad.add j) = some v:=by
  rw [intsOf_length] at h;obtain ⟨ao',cap',he,_,hc⟩:=r
  simp only [Value.slice.injEq,true_and] at he
  obtain ⟨rfl,rfl⟩:=he;obtain ⟨b,off,rfl,_,hcell⟩:=hc (by omega);refine ⟨_,rfl,fun j v hj => ?_⟩
  by_cases hjn:j < n
  · rw [intsOf_get n f j hjn] at hj
    rw [add_none',hcell j hjn];exact hj
  · rw [List.getElem?_eq_none (by rw [intsOf_length];omega)] at hj
    cases hj
theorem intsOf_one (n:Nat) (f:Nat → Int):∀ v ∈ intsOf n f,v.oneCell' = true:=fun v hv => by
  simp only [intsOf,List.mem_map] at hv
  obtain ⟨i,_,rfl⟩:=hv;rfl
theorem size_i64:(Tryz.prog.info? 2).map (·.size) = some 1:=by kernel_rfl
theorem ownI_T {w:World} {lo hi n:Nat} {v:Value} {f:Nat → Int} (h:OwnI w lo hi v n f) (hh:hi ≤ w.heap.size) (kf:∀ i,-9223372036854775808 ≤ f i ∧ f i ≤ 9223372036854775807):OwnT layInts w lo hi (n,f) [v]:=by
  refine ⟨v.ownBlock.toList,⟨v,rfl,rfl,h.weaken (Nat.zero_le _) hh,kf⟩,?_,fun b hb => ?_⟩
  · cases v.ownBlock <;> simp
  · have hb':v.ownBlock = some b:=by simpa using hb
    exact ⟨(h.1.lt b hb').1,h.2 b hb'⟩
def ToF {α:Type} (A:Lay α) (sz:α → Nat) (fn g:Nat):Prop:=∀ (v:Value) (d:α) (hi:Nat) (w:World),A.rd w hi d [v] → hi ≤ w.heap.size → sz d ≤ 1048576 →
  Calls Tryz.prog fn #[v,.func (.func g) #[] #[]] w fun e w' => ∃ v',e = .returned v' ∧ OwnT A w' w.heap.size w'.heap.size d [v'] ∧ Below w.heap.size w w'
set_option maxHeartbeats 1000000 in
theorem copyBytes_is:ToS layBytes lenD 115:=fun v d hi w h hhi hn => by
  obtain ⟨n,f⟩:=d;obtain ⟨v',e1,r1,kf⟩:=h
  cases e1
  simp only at r1 kf
  skip
  have hn':n ≤ 1048576:=hn;clear hn;have R1:=fun (w1:World) (hb:Below w.heap.size w w1) => r1.below hb hhi;obtain ⟨ao,cap,rfl,hm1,hc1⟩:=r1;clear hc1;have HS:Hid (splice (cellsOf n fun _ => 0) 0 (cellsOf n f) = cellsOf n f):=splice_cells n 0 n _ f f (by omega) (fun i hi => by simp [hi])
  have L1:(cellsOf n f).length = Nat.min n n:=by rw [cellsOf_length];exact (Nat.min_self n).symm
  have L2:0 + (cellsOf n f).length ≤ (cellsOf n fun _ => 0).length:=by simp [cellsOf_length]
  have HL1:Hid ((cellsOf n f).length = Nat.min n n):=L1;have HL2:Hid (0 + (cellsOf n f).length ≤ (cellsOf n fun _ => 0).length):=L2;clear L1 L2
  go_enter Tryz.func115,Tryz.ntmps115
  go_wp2_with (first | (at_make;refine wp_makeB _ rfl _ _ rfl _ _ n rfl rfl (by simp) (by simp) (by omega) ?_;intro w1 hown1 hb1 hz1) | (refine wpList_copy_splice rfl (.tmp 7) (.tmp 8) 79 79 rfl 5 Tryz.underlying79 size_u8 (some ⟨w.heap.size,0,none⟩) ao n n n cap rfl rfl w.heap.size 0 (cellsOf n fun _ => 0) 5 hown1.full (cellsOf n f) HL1.out (fun hp => ⟨rfl,copy_src (R1 w1 hb1) hp⟩) HL2.out (cellsOf_one n f) w.heap.size w hb1 (Nat.le_refl _) ?_;intro w2 hF2 hb2))
  go_ret;have F2:=hF2.out;rw [HS.out] at F2;exact ⟨_,rfl,ownB_T (own_of_full F2 (Nat.le_refl _) (by unfold maxLen;omega)) (Nat.le_refl _) kf,hb2⟩
set_option maxHeartbeats 1000000 in
theorem copyInts_is:ToS layInts lenD 114:=fun v d hi w h hhi hn => by
  obtain ⟨n,f⟩:=d;obtain ⟨v',e1,r1,kf⟩:=h
  cases e1
  simp only at r1 kf
  replace r1:=r1.1;have hn':n ≤ 1048576:=hn;clear hn;have R1:=fun (w1:World) (hb:Below w.heap.size w w1) => r1.below hb hhi;obtain ⟨ao,cap,rfl,hm1,hc1⟩:=r1;clear hc1;have HS:Hid (splice (intsOf n fun _ => 0) 0 (intsOf n f) = intsOf n f):=splice_ints n 0 n _ f f (by omega) (fun i hi => by simp [hi])
  have L1:(intsOf n f).length = Nat.min n n:=by rw [intsOf_length];exact (Nat.min_self n).symm
  have L2:0 + (intsOf n f).length ≤ (intsOf n fun _ => 0).length:=by simp [intsOf_length]
  have HL1:Hid ((intsOf n f).length = Nat.min n n):=L1;have HL2:Hid (0 + (intsOf n f).length ≤ (intsOf n fun _ => 0).length):=L2;clear L1 L2
  go_enter Tryz.func114,Tryz.ntmps114
  go_wp2_with (first | (at_make;refine wp_makeI _ rfl _ _ rfl _ _ n rfl rfl (by simp) (by simp) (by omega) ?_;intro w1 hown1 hb1 hz1) | (refine wpList_copy_splice rfl (.tmp 7) (.tmp 8) 25 25 rfl 2 Tryz.underlying25 size_i64 (some ⟨w.heap.size,0,none⟩) ao n n n cap rfl rfl w.heap.size 0 (intsOf n fun _ => 0) 2 hown1.full (intsOf n f) HL1.out (fun hp => ⟨rfl,copy_srcI (R1 w1 hb1) hp⟩) HL2.out (intsOf_one n f) w.heap.size w hb1 (Nat.le_refl _) ?_;intro w2 hF2 hb2))
  go_ret;have F2:=hF2.out;rw [HS.out] at F2;exact ⟨_,rfl,ownI_T (ownI_of_full F2 (Nat.le_refl _) (by unfold maxLen;omega)) (Nat.le_refl _) kf,hb2⟩
end Go.Proofs.YtbjkjcfodljamaaGreat
namespace Go.Proofs.YtbjkjcfodljamaaGreat
open Go.RowKit F256
theorem run_append_none' {P:Program} (w:World) (base:Nat) (t ty e:TypeId) (i:TypeInfo) (size:Nat) (ht:P.underlying t = some (.slice e)) (hi:P.info? e = some i) (v:Value) (n c:Nat) (xs:List Value) (hown:w.ownsRow base e size v n xs) :
    (Builtin.append_ #[t,t] ty #[v,.slice none 0 c]).run P w = .ok v w:=by
  rcases hown.2 with ⟨rfl,rfl⟩ | ⟨g,cap,cur,rfl,_,_,hnc,_⟩
  · simp [Builtin.append_,run_underlying ht,sizeOf,typeInfo,hi,Builtin.lenOf,Builtin.firstCells]
  · simp [Builtin.append_,run_underlying ht,sizeOf,typeInfo,hi,Builtin.lenOf,Builtin.firstCells,hnc,storeCells]
theorem lit_row (w:World) (e:TypeId):(w.alloc (.cells #[] e)).ownsRow w.heap.size e 1 (.slice (some ⟨w.heap.size,0,none⟩) 0 0) 0 []:=World.ownsRow_lit (base:=w.heap.size) (e:=e) (size:=1) w #[] 0 (Nat.le_refl _) (Nat.zero_le _) rfl
theorem run_appendR {T e:TypeId} {z:Value} {by_:Nat} (hu:Tryz.prog.underlying T = some (.slice e)) (hi:(Tryz.prog.info? e).map (fun i => (i.zero,i.size,i.bytes)) = some (some z,1,by_)) (hz:z.cells.size = 1) (hby:by_ ≤ 100) (ty:TypeId) (W:World) (p:Nat) (hown:W.ownsRow p e 1 (.slice (some ⟨p,0,none⟩) 0 0) 0 [])
    (ao:Option Addr) (m cap:Nat) (cs:List Value) (hl:cs.length = m) (hsrc:0 < cs.length → ∃ ad,ao = some ad ∧ ∀ j v,cs[j]? = some v → W.cell? (ad.add j) = some v) (h1:∀ v ∈ cs,v.oneCell' = true) (hm:m ≤ 10000000) :
    ∃ v' w',(Builtin.append_ #[T,T] ty #[.slice (some ⟨p,0,none⟩) 0 0,.slice ao m cap]).run Tryz.prog W = .ok v' w' ∧ w'.ownsRow p e 1 v' m cs ∧ Below p W w':=by
  obtain ⟨i0,hi0,hz0,hz1,hz2⟩:=info_parts hi;have hlo:p ≤ W.heap.size:=Nat.le_of_lt (hown.lt p rfl).2
  have big:∀ ad,ao = some ad → (∀ j v,cs[j]? = some v → W.cell? (ad.add j) = some v) → ∃ v' w',(Builtin.append_ #[T,T] ty #[.slice (some ⟨p,0,none⟩) 0 0,.slice ao m cap]).run Tryz.prog W = .ok v' w' ∧ w'.ownsRow p e 1 v' m cs ∧ Below p W w':=fun ad ha hc => by
    subst ha
    have hb2:(0 + m) * by_ ≤ 140737488355328:=by
      have:(0 + m) * by_ ≤ 10000000 * 100:=Nat.mul_le_mul (by omega) hby;omega
    obtain ⟨v',w',hr,r1,r2,_⟩:=run_append_own_at (P:=Tryz.prog) W p T ty e i0 z 1 by_ hu hi0 hz0 hz1 hz2 hz (by decide) _ 0 [] hown ad m cap cs (by omega) hc h1 (by unfold maxLen;omega) hb2 hlo;refine ⟨v',w',hr,?_,(Below.refl _ _).grown r2 hlo (fun k hk => (hown.lt k hk).1)⟩;rw [Nat.zero_add,List.nil_append] at r1;exact r1
  by_cases h0:0 < cs.length
  · obtain ⟨ad,ha,hc⟩:=hsrc h0
    exact big ad ha hc
  · have hcs:cs = []:=List.eq_nil_of_length_eq_zero (by omega)
    subst hcs
    cases ao with
    | some ad => exact big ad rfl (fun j v hj => by simp at hj)
    | none =>
      have hm0:m = 0:=by simpa using hl.symm
      subst hm0;exact ⟨_,W,run_append_none' W p T ty e i0 1 hu hi0 _ 0 cap _ hown,hown,Below.refl _ _⟩
theorem one_i:(Value.int .i64 0).cells.size = 1:=rfl
theorem one_b:(Value.int .u8 0).cells.size = 1:=rfl
theorem run_appendRI (ty:TypeId) (W:World) (p:Nat) (hown:W.ownsRow p 2 1 (.slice (some ⟨p,0,none⟩) 0 0) 0 []) {hi m cap:Nat} {ao:Option Addr} {f:Nat → Int} (r:layInts.rd W hi (m,f) [.slice ao m cap]) (hm:m ≤ 10000000) :
    ∃ v' w',(Builtin.append_ #[25,25] ty #[.slice (some ⟨p,0,none⟩) 0 0,.slice ao m cap]).run Tryz.prog W = .ok v' w' ∧ OwnT layInts w' p w'.heap.size (m,f) [v'] ∧ Below p W w':=by
  obtain ⟨v,e,⟨r1,_⟩,kf⟩:=r
  cases e
  obtain ⟨v',w',hr,h2,h3⟩:=run_appendR Tryz.underlying25 info_i64 one_i (by decide) ty W p hown ao m cap (intsOf m f) (intsOf_length m f) (fun hp => copy_srcI r1 hp) (intsOf_one m f) hm;exact ⟨v',w',hr,ownI_T ⟨h2,fun k hk => (h2.lt k hk).2⟩ (Nat.le_refl _) kf,h3⟩
theorem run_appendRB (ty:TypeId) (W:World) (p:Nat) (hown:W.ownsRow p 5 1 (.slice (some ⟨p,0,none⟩) 0 0) 0 []) {hi m cap:Nat} {ao:Option Addr} {f:Nat → Nat} (r:layBytes.rd W hi (m,f) [.slice ao m cap]) (hm:m ≤ 10000000) :
    ∃ v' w',(Builtin.append_ #[79,79] ty #[.slice (some ⟨p,0,none⟩) 0 0,.slice ao m cap]).run Tryz.prog W = .ok v' w' ∧ OwnT layBytes w' p w'.heap.size (m,f) [v'] ∧ Below p W w':=by
  obtain ⟨v,e,r1,kf⟩:=r
  cases e
  obtain ⟨v',w',hr,h2,h3⟩:=run_appendR Tryz.underlying79 info_u8 one_b (by decide) ty W p hown ao m cap (cellsOf m f) (cellsOf_length m f) (fun hp => copy_src r1 hp) (cellsOf_one m f) hm;exact ⟨v',w',hr,ownB_T ⟨h2,fun k hk => (h2.lt k hk).2⟩ (Nat.le_refl _) kf,h3⟩
theorem wp_run2 {ops:Array Oper} {rest:List Oper} {o:Oper} {a:Act} {W w':World} {Q:Exit → Act → World → Prop} {T:TypeId} {v' x1 x2:Value} (hg:o.guard = none) (s y:Operand) (hop:o.op = Op.call { callee:=Callee.builtin Builtin.append,args:=#[s,y],argTypes:=#[T,T] })
    (h1:a.eval s = x1) (h2:a.eval y = x2) (hrun:(Builtin.append_ #[T,T] o.type #[x1,x2]).run Tryz.prog W = .ok v' w') (hK:wpList Tryz.prog ops Q rest (a.put o.dst v') w'):wpList Tryz.prog ops Q (o :: rest) a W:=by
  refine wpList_plain hg fun K hK' => ?_;unfold Oper.wp
  simp [execOp,hop,resolve,invoke,builtin,h1,h2,hrun,Result.andThen]
  exact hK' _ _ hK
theorem step_run2 {ops:Array Oper} {o:Oper} {a:Act} {W w':World} {K:Act → World → Prop} {Q:Exit → Act → World → Prop} {F:Prop} {T:TypeId} {v' x1 x2:Value} (hg:o.guard = none) (s y:Operand) (hop:o.op = Op.call { callee:=Callee.builtin Builtin.append,args:=#[s,y],argTypes:=#[T,T] })
    (h1:a.eval s = x1) (h2:a.eval y = x2) (hrun:(Builtin.append_ #[T,T] o.type #[x1,x2]).run Tryz.prog W = .ok v' w') (hK:K (a.put o.dst v') w'):if Region.wanted o (yielded ops a.tmps) = true then Oper.wp Tryz.prog o a W K Q else F:=by
  have hw:Region.wanted o (yielded ops a.tmps) = true:=by simp [Region.wanted,hg]
  rw [if_pos hw];unfold Oper.wp
  simp [execOp,hop,resolve,invoke,builtin,h1,h2,hrun,Result.andThen]
  exact hK
end Go.Proofs.YtbjkjcfodljamaaGreat
namespace Go.Proofs.YtbjkjcfodljamaaGreat
open Go.RowKit
section
variable {P:Program} {ops:Array Oper} {Q:Exit → Act → World → Prop} {md:Region.Mode} {S:World → Prop} {L:Nat}
theorem wpAnyM_oneS {i:Nat} {o:Oper} {fuel:Nat} {listed:Array Bool} {a:Act} {w:World} (ho:ops[i]? = some o) (hr:Region.ready md ops listed = [i])
    (h:∀ K':Act → World → Prop,Shut (∀ a w,S w → wpAnyM P md ops Q S L fuel (listed.setIfInBounds i true) a w → K' a w) → if Region.wanted o (yielded ops a.tmps) = true then Oper.wp P o a w K' Q else K' (a.put o.dst undef) w):wpAnyM P md ops Q S L (fuel + 1) listed a w:=by
  refine ⟨fun h0 => (by rw [hr] at h0;cases h0),fun j hj => ?_⟩;rw [hr] at hj
  obtain rfl:j = i:=by simpa using hj
  exact wpOp_step ho (fun K' hK => h K' (fun a w hS hW => hK a w ⟨fun _ => hS,hW⟩))
theorem wpAnyM_twoS {i j:Nat} {o o':Oper} {fuel:Nat} {listed:Array Bool} {a:Act} {w:World} (ho:ops[i]? = some o) (ho':ops[j]? = some o') (hr:Region.ready md ops listed = [i,j])
    (h:∀ K':Act → World → Prop,Shut (∀ a w,S w → wpAnyM P md ops Q S L fuel (listed.setIfInBounds i true) a w → K' a w) → if Region.wanted o (yielded ops a.tmps) = true then Oper.wp P o a w K' Q else K' (a.put o.dst undef) w)
    (h':∀ K':Act → World → Prop,Shut (∀ a w,S w → wpAnyM P md ops Q S L fuel (listed.setIfInBounds j true) a w → K' a w) → if Region.wanted o' (yielded ops a.tmps) = true then Oper.wp P o' a w K' Q else K' (a.put o'.dst undef) w):wpAnyM P md ops Q S L (fuel + 1) listed a w:=by
  refine ⟨fun h0 => (by rw [hr] at h0;cases h0),fun k hk => ?_⟩;rw [hr] at hk
  simp only [List.mem_cons,List.not_mem_nil,or_false] at hk
  rcases hk with rfl | rfl
  · exact wpOp_step ho (fun K' hK => h K' (fun a w hS hW => hK a w ⟨fun _ => hS,hW⟩))
  · exact wpOp_step ho' (fun K' hK => h' K' (fun a w hS hW => hK a w ⟨fun _ => hS,hW⟩))
end
theorem step_build0 {ops:Array Oper} {o:Oper} {a:Act} {W:World} {K:Act → World → Prop} {Q:Exit → Act → World → Prop} {F:Prop} (hg:o.guard = none) (hop:o.op = Op.buildSlice 30 0 #[])
    (hK:K (a.put o.dst (.slice (some ⟨W.heap.size,0,none⟩) 0 0)) (W.alloc (.cells #[] 81))):if Region.wanted o (yielded ops a.tmps) = true then Oper.wp Tryz.prog o a W K Q else F:=by
  have hw:Region.wanted o (yielded ops a.tmps) = true:=by simp [Region.wanted,hg]
  rw [if_pos hw];unfold Oper.wp execOp
  simp only [hop]
  go_simp;exact hK
theorem step_build1 {ops:Array Oper} {o:Oper} {a:Act} {W:World} {K:Act → World → Prop} {Q:Exit → Act → World → Prop} {F:Prop} (hg:o.guard = none) (x:Operand) (hop:o.op = Op.buildSlice 30 1 #[(0,x)]) (r:RecD) (b6 b7 b8:Option Addr) (bk6 bk7 bk8:Nat) (hx:a.eval x = .agg #[.int .i64 r.kind,.int .i64 r.seq,.string r.name,.int .i64 r.length,.int .i64 r.group,.int .i64 r.row,.slice b6 r.rows.1 bk6,.slice b7 r.data.1 bk7,.slice b8 r.delta.1 bk8])
    (hK:K (a.put o.dst (.slice (some ⟨W.heap.size,0,none⟩) 1 1)) (W.alloc (.cells #[.int .i64 r.kind,.int .i64 r.seq,.string r.name,.int .i64 r.length,.int .i64 r.group,.int .i64 r.row,.slice b6 r.rows.1 bk6,.slice b7 r.data.1 bk7,.slice b8 r.delta.1 bk8] 81))):if Region.wanted o (yielded ops a.tmps) = true then Oper.wp Tryz.prog o a W K Q else F:=by
  have hw:Region.wanted o (yielded ops a.tmps) = true:=by simp [Region.wanted,hg]
  rw [if_pos hw];unfold Oper.wp execOp
  simp only [hop,List.map_toArray,List.map_cons,List.map_nil,hx]
  go_simp;exact hK
theorem step_build1R {ops:Array Oper} {o:Oper} {a:Act} {W:World} {K:Act → World → Prop} {Q:Exit → Act → World → Prop} {F:Prop} (hg:o.guard = none) (x:Operand) (hop:o.op = Op.buildSlice 30 1 #[(0,x)]) {w0:World} {hi0:Nat} {r:RecD} {cs:List Value} (hr:layRec.rd w0 hi0 r cs) (hx:a.eval x = .agg cs.toArray)
    (hK:K (a.put o.dst (.slice (some ⟨W.heap.size,0,none⟩) 1 1)) (W.alloc (.cells cs.toArray 81))):if Region.wanted o (yielded ops a.tmps) = true then Oper.wp Tryz.prog o a W K Q else F:=by
  obtain ⟨b6,bk6,b7,bk7,b8,bk8,rfl,-⟩:=Rec_rd hr;exact step_build1 hg x hop r b6 b7 b8 bk6 bk7 bk8 hx hK
end Go.Proofs.YtbjkjcfodljamaaGreat
namespace Go.Proofs.YtbjkjcfodljamaaGreat
open Go.RowKit F256
open Go.Maps (Keyed)
set_option maxHeartbeats 8000000 in
set_option maxRecDepth 20000 in
theorem enter_item {w:World} {lo B:Nat} {s:Nat → Int} {k:Nat} {x:Nat → RecD} {ce:Nat → List Value} {v:Value} {b1 b2 b3 b4 b5:Nat} (h:Ldg w lo B s k k x ce v b1 b2 b3 b4 b5) (hk:k ≤ 1000000) (hlo:lo ≤ w.heap.size)
    {r:RecD} {ao6 ao7 ao8:Option Addr} {cap6 cap7 cap8:Nat} (hx:x k = r) (hc:ce k = [.int .i64 r.kind,.int .i64 r.seq,.string r.name,.int .i64 r.length,.int .i64 r.group,.int .i64 r.row,.slice ao6 r.rows.1 cap6,.slice ao7 r.data.1 cap7,.slice ao8 r.delta.1 cap8]) (hkd:r.kind = 1) (hn:r.name.size ≤ maxLen) (hs:-9223372036854775808 ≤ r.seq ∧ r.seq ≤ 9223372036854775807) (hg:-9223372036854775808 ≤ r.group ∧ r.group ≤ 9223372036854775807) (hw:-9223372036854775808 ≤ r.row ∧ r.row ≤ 9223372036854775807) :
    Calls Tryz.prog 78 #[.pointer (some ⟨B,0,none⟩),.iface 129 (.agg #[.int .i64 r.kind,.int .i64 r.seq,.string r.name,.int .i64 r.length,.int .i64 r.group,.int .i64 r.row,.slice ao6 r.rows.1 cap6,.slice ao7 r.data.1 cap7,.slice ao8 r.delta.1 cap8])] w fun e w' => e = .returned (.tuple #[]) ∧ (∃ v',Ldg w' lo B s (k + 1) (k + 1) x ce v' b1 b2 b3 b4 b5 ∧ EntQ w w' v v' [B,b1,b2,b3,b4,b5]) ∧ Below lo w w':=by
  have HX:Hid (x k = r):=hx;have HC:Hid (ce k = [.int .i64 r.kind,.int .i64 r.seq,.string r.name,.int .i64 r.length,.int .i64 r.group,.int .i64 r.row,.slice ao6 r.rows.1 cap6,.slice ao7 r.data.1 cap7,.slice ao8 r.delta.1 cap8]):=hc;have HKD:Hid (r.kind = 1):=hkd
  have HEV:Hid (entV (x k).kind (ce k) = .iface 129 (.agg #[.int .i64 r.kind,.int .i64 r.seq,.string r.name,.int .i64 r.length,.int .i64 r.group,.int .i64 r.row,.slice ao6 r.rows.1 cap6,.slice ao7 r.data.1 cap7,.slice ao8 r.delta.1 cap8])):=by
    show entV (x k).kind (ce k) = .iface 129 (.agg #[.int .i64 r.kind,.int .i64 r.seq,.string r.name,.int .i64 r.length,.int .i64 r.group,.int .i64 r.row,.slice ao6 r.rows.1 cap6,.slice ao7 r.data.1 cap7,.slice ao8 r.delta.1 cap8])
    unfold entV entT;rw [hx,hc]
    simp [hkd]
  clear hx hc hkd;obtain ⟨i0,hi,hz0,hz1,hz2⟩:=info_parts info_entry;have HL:Hid (Ldg w lo B s k k x ce v b1 b2 b3 b4 b5):=h;obtain ⟨ao,cap,hv⟩:=rowE_slice h.row;subst hv;have x9:w.cell? ⟨B,9,none⟩ = some (.slice ao k cap):=h.box.cell 9;have O0:=h.row;clear h;have TA:=ta00;have bA:w.grownBy (w.alloc (.cells #[.iface 129 (.agg #[.int .i64 r.kind,.int .i64 r.seq,.string r.name,.int .i64 r.length,.int .i64 r.group,.int .i64 r.row,.slice ao6 r.rows.1 cap6,.slice ao7 r.data.1 cap7,.slice ao8 r.delta.1 cap8])] 119)) none:=World.grownBy_alloc _ _ _
  go_enter Tryz.func78,Tryz.ntmps78
  go_upto_region 4 with (at_builtin;refine wpList_append_own_at _ rfl _ _ 113 rfl lo 119 i0 .nilIface 1 16 Tryz.underlying113 hi hz0 hz1 hz2 rfl (by decide) _ _ _ rfl (O0.alloc _) ⟨w.heap.size,0,none⟩ 1 1 [.iface 129 (.agg #[.int .i64 r.kind,.int .i64 r.seq,.string r.name,.int .i64 r.length,.int .i64 r.group,.int .i64 r.row,.slice ao6 r.rows.1 cap6,.slice ao7 r.data.1 cap7,.slice ao8 r.delta.1 cap8])] rfl rfl (cell_one_new _ _ _) (fun u hu => by simp at hu;subst hu;rfl) (by unfold maxLen;omega) (by omega) (by simp;omega) ?_;intro v' w1 O1 g1 hnil hloc;obtain ⟨ao',cap',rfl⟩:=rowE_slice O1;have L1:=HL.out.grown bA g1;have z9:=L1.cell 9;have z9f:=L1.frozen 9;clear hnil)
  have L2:Ldg ((w1.setCell ⟨B,9,none⟩ (.slice ao' (k + 1) cap')).alloc (.cells #[.int .i64 r.kind,.int .i64 r.seq,.string r.name,.int .i64 r.length,.int .i64 r.group,.int .i64 r.row,.slice ao6 r.rows.1 cap6,.slice ao7 r.data.1 cap7,.slice ao8 r.delta.1 cap8] 129)) lo B s (k + 1) k x ce (.slice ao' (k + 1) cap') b1 b2 b3 b4 b5:=HL.out.laid g1 (by rw [HEV.out];exact O1) hloc
  have X2:Box ((w1.setCell ⟨B,9,none⟩ (.slice ao' (k + 1) cap')).alloc (.cells #[.int .i64 r.kind,.int .i64 r.seq,.string r.name,.int .i64 r.length,.int .i64 r.group,.int .i64 r.row,.slice ao6 r.rows.1 cap6,.slice ao7 r.data.1 cap7,.slice ao8 r.delta.1 cap8] 129)) w1.heap.size #[.int .i64 r.kind,.int .i64 r.seq,.string r.name,.int .i64 r.length,.int .i64 r.group,.int .i64 r.row,.slice ao6 r.rows.1 cap6,.slice ao7 r.data.1 cap7,.slice ao8 r.delta.1 cap8] 129:=by
    have:=box_new (w1.setCell ⟨B,9,none⟩ (.slice ao' (k + 1) cap')) #[.int .i64 r.kind,.int .i64 r.seq,.string r.name,.int .i64 r.length,.int .i64 r.group,.int .i64 r.row,.slice ao6 r.rows.1 cap6,.slice ao7 r.data.1 cap7,.slice ao8 r.delta.1 cap8] 129;rw [show (w1.setCell ⟨B,9,none⟩ (.slice ao' (k + 1) cap')).heap.size = w1.heap.size by simp] at this;exact this
  have B2:Below lo w ((w1.setCell ⟨B,9,none⟩ (.slice ao' (k + 1) cap')).alloc (.cells #[.int .i64 r.kind,.int .i64 r.seq,.string r.name,.int .i64 r.length,.int .i64 r.group,.int .i64 r.row,.slice ao6 r.rows.1 cap6,.slice ao7 r.data.1 cap7,.slice ao8 r.delta.1 cap8] 129)):=by
    have q1:Below lo w w1:=below_grown HL.out g1 hlo;exact (q1.setCell HL.out.low.1 _).alloc (by have:=q1.size;simp;omega) _
  have A2:∀ b,b < w.heap.size → b ≠ B → (Value.slice ao k cap).ownBlock ≠ some b → ((w1.setCell ⟨B,9,none⟩ (.slice ao' (k + 1) cap')).alloc (.cells #[.int .i64 r.kind,.int .i64 r.seq,.string r.name,.int .i64 r.length,.int .i64 r.group,.int .i64 r.row,.slice ao6 r.rows.1 cap6,.slice ao7 r.data.1 cap7,.slice ao8 r.delta.1 cap8] 129)).heap[b]? = w.heap[b]?:=fun b hb hB hv => by
    have sz:w.heap.size + 1 ≤ w1.heap.size:=by have:=g1.size;simp at this;omega
    rw [Below.heap_alloc _ _ b (by simp;omega),heap_setCell_other w1 ⟨B,9,none⟩ b _ hB];exact grown2 bA g1 hb (fun e => hv e.symm)
  have HLO:Hid ((Value.slice ao' (k + 1) cap').ownBlock = (Value.slice ao k cap).ownBlock ∨ ∃ g,w.heap.size ≤ g ∧ (Value.slice ao' (k + 1) cap').ownBlock = some g):=hloc.imp id (fun e => ⟨_,by simp,e⟩);obtain ⟨W2,hW2⟩:∃ y,y = ((w1.setCell ⟨B,9,none⟩ (.slice ao' (k + 1) cap')).alloc (.cells #[.int .i64 r.kind,.int .i64 r.seq,.string r.name,.int .i64 r.length,.int .i64 r.group,.int .i64 r.row,.slice ao6 r.rows.1 cap6,.slice ao7 r.data.1 cap7,.slice ao8 r.delta.1 cap8] 129)):=⟨_,rfl⟩;rw [← hW2] at L2 X2 B2 A2 ⊢;clear hW2 TA  O0 O1 g1 hloc bA x9 z9 z9f L1 hi hz0 hz1 hz2;refine wp_region_still_tail 9 (by kernel_rfl) (by kernel_rfl) ?_;obtain ⟨WB,hWB⟩:∃ y:World,y = { W2 with drawn:=W2.drawn + 1 }:=⟨_,rfl⟩
  have L3:Ldg WB lo B s (k + 1) k x ce (.slice ao' (k + 1) cap') b1 b2 b3 b4 b5:=by rw [hWB];exact L2.drawn _
  have X3:Box WB w1.heap.size #[.int .i64 r.kind,.int .i64 r.seq,.string r.name,.int .i64 r.length,.int .i64 r.group,.int .i64 r.row,.slice ao6 r.rows.1 cap6,.slice ao7 r.data.1 cap7,.slice ao8 r.delta.1 cap8] 129:=by rw [hWB];exact X2
  have B3:Below lo w WB:=by rw [hWB];exact ⟨B2.os,B2.tape,B2.output,B2.size,B2.block⟩
  have HA3:Hid (∀ b,b < w.heap.size → b ≠ B → (Value.slice ao k cap).ownBlock ≠ some b → WB.heap[b]? = w.heap[b]?):=by rw [hWB];exact A2
  rw [← hWB];clear hWB L2 X2 B2 A2;have HL3:Hid (Ldg WB lo B s (k + 1) k x ce (.slice ao' (k + 1) cap') b1 b2 b3 b4 b5):=L3;have HZ3:Hid (w.heap.size ≤ WB.heap.size):=B3.size;have HB3:Hid (Below lo w WB):=B3;have c0:WB.cell? ⟨w1.heap.size,0,none⟩ = some (.int .i64 r.kind):=X3.cell 0;have c1:WB.cell? ⟨w1.heap.size,1,none⟩ = some (.int .i64 r.seq):=X3.cell 1;have c2:WB.cell? ⟨w1.heap.size,2,none⟩ = some (.string r.name):=X3.cell 2;have c3:WB.cell? ⟨w1.heap.size,3,none⟩ = some (.int .i64 r.length):=X3.cell 3;have c4:WB.cell? ⟨w1.heap.size,4,none⟩ = some (.int .i64 r.group):=X3.cell 4;have c5:WB.cell? ⟨w1.heap.size,5,none⟩ = some (.int .i64 r.row):=X3.cell 5;have c6:WB.cell? ⟨w1.heap.size,6,none⟩ = some (.slice ao6 r.rows.1 cap6):=X3.cell 6;have c7:WB.cell? ⟨w1.heap.size,7,none⟩ = some (.slice ao7 r.data.1 cap7):=X3.cell 7;have c8:WB.cell? ⟨w1.heap.size,8,none⟩ = some (.slice ao8 r.delta.1 cap8):=X3.cell 8;have d1:WB.cell? ⟨B,10,none⟩ = some (.map (some b1)):=L3.box.cell 10;obtain ⟨kl,hkl⟩:=keyOf_S hn;obtain ⟨w',hrun,M,G,S⟩:=L3.m1.put keyS Tryz.underlying109 (by unfold maxLen;omega) hkl (.agg #[.int .i64 r.kind,.int .i64 r.seq,.string r.name,.int .i64 r.length,.int .i64 r.group,.int .i64 r.row,.slice ao6 r.rows.1 cap6,.slice ao7 r.data.1 cap7,.slice ao8 r.delta.1 cap8]);have HM:Hid (MapV w' 9 b1 (k + 1) (putF (newF x ce k) (.string r.name) (.agg #[.int .i64 r.kind,.int .i64 r.seq,.string r.name,.int .i64 r.length,.int .i64 r.group,.int .i64 r.row,.slice ao6 r.rows.1 cap6,.slice ao7 r.data.1 cap7,.slice ao8 r.delta.1 cap8]))):=M;have HE:Hid (∀ b,b < WB.heap.size → b ∉ [b1] → w'.heap[b]? = WB.heap[b]?):=fun b hb hn => G.block b hb (fun e => by cases e;simp at hn);have HBE:Hid (Below lo w w'):=B3.trans ⟨G.os,G.tape,G.output,G.size,fun b hb => G.block b (by have:=B3.size;omega) (fun e => by cases e;have:=L3.low;omega)⟩;clear M G L3 X3 B3 hkl
  simp only [List.take_succ_cons,List.take_zero,List.drop_succ_cons,List.drop_zero]
  repeat still_step
  refine wpStill_nil ?_;go_wp2;refine bodyPost_end (v:=.tuple #[]) (by simp [results,Tryz.results78]) rfl ?_
  exact ⟨rfl,⟨_,HL3.out.next (T:=[b1]) HE.out (fun b hb => by simp at hb ⊢;omega) (by rw [show newF x ce (k + 1) = putF (newF x ce k) (.string (x k).name) (.agg (ce k).toArray) from lastF_put (show (x k).kind = 1 by rw [HX.out,HKD.out]),HX.out,HC.out];exact HM.out)
    (by rw [show movF x (k + 1) = movF x k from cntF_skip (show ¬ (x k).kind = 2 by rw [HX.out,HKD.out];decide)];exact (HL3.out.m2.block (HE.out b2 HL3.out.m2.lt (by have:=HL3.out.nd;simp at this ⊢;omega))).mono (Nat.le_succ k))
    (by rw [show donF x (k + 1) = donF x k from cntF_skip (show ¬ (x k).kind = 3 by rw [HX.out,HKD.out];decide)];exact (HL3.out.m3.block (HE.out b3 HL3.out.m3.lt (by have:=HL3.out.nd;simp at this ⊢;omega))).mono (Nat.le_succ k))
    (by rw [show endF x (k + 1) = endF x k from cntF_skip (show ¬ (x k).kind = 3 by rw [HX.out,HKD.out];decide)];exact (HL3.out.m4.block (HE.out b4 HL3.out.m4.lt (by have:=HL3.out.nd;simp at this ⊢;omega))).mono (Nat.le_succ k))
    (by rw [show shaF x (k + 1) = shaF x k from lastF_skip (show ¬ (x k).kind = 4 by rw [HX.out,HKD.out];decide)];exact (HL3.out.m5.block (HE.out b5 HL3.out.m5.lt (by have:=HL3.out.nd;simp at this ⊢;omega))).mono (Nat.le_succ k)),⟨HLO.out,fun b hb hT hv => (HE.out b (Nat.lt_of_lt_of_le hb HZ3.out) (fun q => hT (by simp at q ⊢;omega))).trans (HA3.out b hb (fun e => hT (by rw [e];simp)) hv)⟩⟩,HBE.out⟩
set_option maxHeartbeats 8000000 in
set_option maxRecDepth 20000 in
theorem enter_move {w:World} {lo B:Nat} {s:Nat → Int} {k:Nat} {x:Nat → RecD} {ce:Nat → List Value} {v:Value} {b1 b2 b3 b4 b5:Nat} (h:Ldg w lo B s k k x ce v b1 b2 b3 b4 b5) (hk:k ≤ 1000000) (hlo:lo ≤ w.heap.size)
    {r:RecD} {ao6 ao7 ao8:Option Addr} {cap6 cap7 cap8:Nat} (hx:x k = r) (hc:ce k = [.int .i64 r.kind,.int .i64 r.seq,.string r.name,.int .i64 r.length,.int .i64 r.group,.int .i64 r.row,.slice ao6 r.rows.1 cap6,.slice ao7 r.data.1 cap7,.slice ao8 r.delta.1 cap8]) (hkd:r.kind = 2) (hn:r.name.size ≤ maxLen) (hs:-9223372036854775808 ≤ r.seq ∧ r.seq ≤ 9223372036854775807) (hg:-9223372036854775808 ≤ r.group ∧ r.group ≤ 9223372036854775807) (hw:-9223372036854775808 ≤ r.row ∧ r.row ≤ 9223372036854775807) :
    Calls Tryz.prog 78 #[.pointer (some ⟨B,0,none⟩),.iface 159 (.agg #[.int .i64 r.kind,.int .i64 r.seq,.string r.name,.int .i64 r.length,.int .i64 r.group,.int .i64 r.row,.slice ao6 r.rows.1 cap6,.slice ao7 r.data.1 cap7,.slice ao8 r.delta.1 cap8])] w fun e w' => e = .returned (.tuple #[]) ∧ (∃ v',Ldg w' lo B s (k + 1) (k + 1) x ce v' b1 b2 b3 b4 b5 ∧ EntQ w w' v v' [B,b1,b2,b3,b4,b5]) ∧ Below lo w w':=by
  have HX:Hid (x k = r):=hx;have HC:Hid (ce k = [.int .i64 r.kind,.int .i64 r.seq,.string r.name,.int .i64 r.length,.int .i64 r.group,.int .i64 r.row,.slice ao6 r.rows.1 cap6,.slice ao7 r.data.1 cap7,.slice ao8 r.delta.1 cap8]):=hc;have HKD:Hid (r.kind = 2):=hkd
  have HEV:Hid (entV (x k).kind (ce k) = .iface 159 (.agg #[.int .i64 r.kind,.int .i64 r.seq,.string r.name,.int .i64 r.length,.int .i64 r.group,.int .i64 r.row,.slice ao6 r.rows.1 cap6,.slice ao7 r.data.1 cap7,.slice ao8 r.delta.1 cap8])):=by
    show entV (x k).kind (ce k) = .iface 159 (.agg #[.int .i64 r.kind,.int .i64 r.seq,.string r.name,.int .i64 r.length,.int .i64 r.group,.int .i64 r.row,.slice ao6 r.rows.1 cap6,.slice ao7 r.data.1 cap7,.slice ao8 r.delta.1 cap8])
    unfold entV entT;rw [hx,hc]
    simp [hkd]
  clear hx hc hkd;obtain ⟨i0,hi,hz0,hz1,hz2⟩:=info_parts info_entry;have HL:Hid (Ldg w lo B s k k x ce v b1 b2 b3 b4 b5):=h;obtain ⟨ao,cap,hv⟩:=rowE_slice h.row;subst hv;have x9:w.cell? ⟨B,9,none⟩ = some (.slice ao k cap):=h.box.cell 9;have O0:=h.row;clear h;have TA:=ta11;have TA0:=ta10;have bA:w.grownBy (w.alloc (.cells #[.iface 159 (.agg #[.int .i64 r.kind,.int .i64 r.seq,.string r.name,.int .i64 r.length,.int .i64 r.group,.int .i64 r.row,.slice ao6 r.rows.1 cap6,.slice ao7 r.data.1 cap7,.slice ao8 r.delta.1 cap8])] 119)) none:=World.grownBy_alloc _ _ _
  go_enter Tryz.func78,Tryz.ntmps78
  go_upto_region 7 with (at_builtin;refine wpList_append_own_at _ rfl _ _ 113 rfl lo 119 i0 .nilIface 1 16 Tryz.underlying113 hi hz0 hz1 hz2 rfl (by decide) _ _ _ rfl (O0.alloc _) ⟨w.heap.size,0,none⟩ 1 1 [.iface 159 (.agg #[.int .i64 r.kind,.int .i64 r.seq,.string r.name,.int .i64 r.length,.int .i64 r.group,.int .i64 r.row,.slice ao6 r.rows.1 cap6,.slice ao7 r.data.1 cap7,.slice ao8 r.delta.1 cap8])] rfl rfl (cell_one_new _ _ _) (fun u hu => by simp at hu;subst hu;rfl) (by unfold maxLen;omega) (by omega) (by simp;omega) ?_;intro v' w1 O1 g1 hnil hloc;obtain ⟨ao',cap',rfl⟩:=rowE_slice O1;have L1:=HL.out.grown bA g1;have z9:=L1.cell 9;have z9f:=L1.frozen 9;clear hnil)
  have L2:Ldg ((w1.setCell ⟨B,9,none⟩ (.slice ao' (k + 1) cap')).alloc (.cells #[.int .i64 r.kind,.int .i64 r.seq,.string r.name,.int .i64 r.length,.int .i64 r.group,.int .i64 r.row,.slice ao6 r.rows.1 cap6,.slice ao7 r.data.1 cap7,.slice ao8 r.delta.1 cap8] 159)) lo B s (k + 1) k x ce (.slice ao' (k + 1) cap') b1 b2 b3 b4 b5:=HL.out.laid g1 (by rw [HEV.out];exact O1) hloc
  have X2:Box ((w1.setCell ⟨B,9,none⟩ (.slice ao' (k + 1) cap')).alloc (.cells #[.int .i64 r.kind,.int .i64 r.seq,.string r.name,.int .i64 r.length,.int .i64 r.group,.int .i64 r.row,.slice ao6 r.rows.1 cap6,.slice ao7 r.data.1 cap7,.slice ao8 r.delta.1 cap8] 159)) w1.heap.size #[.int .i64 r.kind,.int .i64 r.seq,.string r.name,.int .i64 r.length,.int .i64 r.group,.int .i64 r.row,.slice ao6 r.rows.1 cap6,.slice ao7 r.data.1 cap7,.slice ao8 r.delta.1 cap8] 159:=by
    have:=box_new (w1.setCell ⟨B,9,none⟩ (.slice ao' (k + 1) cap')) #[.int .i64 r.kind,.int .i64 r.seq,.string r.name,.int .i64 r.length,.int .i64 r.group,.int .i64 r.row,.slice ao6 r.rows.1 cap6,.slice ao7 r.data.1 cap7,.slice ao8 r.delta.1 cap8] 159;rw [show (w1.setCell ⟨B,9,none⟩ (.slice ao' (k + 1) cap')).heap.size = w1.heap.size by simp] at this;exact this
  have B2:Below lo w ((w1.setCell ⟨B,9,none⟩ (.slice ao' (k + 1) cap')).alloc (.cells #[.int .i64 r.kind,.int .i64 r.seq,.string r.name,.int .i64 r.length,.int .i64 r.group,.int .i64 r.row,.slice ao6 r.rows.1 cap6,.slice ao7 r.data.1 cap7,.slice ao8 r.delta.1 cap8] 159)):=by
    have q1:Below lo w w1:=below_grown HL.out g1 hlo;exact (q1.setCell HL.out.low.1 _).alloc (by have:=q1.size;simp;omega) _
  have A2:∀ b,b < w.heap.size → b ≠ B → (Value.slice ao k cap).ownBlock ≠ some b → ((w1.setCell ⟨B,9,none⟩ (.slice ao' (k + 1) cap')).alloc (.cells #[.int .i64 r.kind,.int .i64 r.seq,.string r.name,.int .i64 r.length,.int .i64 r.group,.int .i64 r.row,.slice ao6 r.rows.1 cap6,.slice ao7 r.data.1 cap7,.slice ao8 r.delta.1 cap8] 159)).heap[b]? = w.heap[b]?:=fun b hb hB hv => by
    have sz:w.heap.size + 1 ≤ w1.heap.size:=by have:=g1.size;simp at this;omega
    rw [Below.heap_alloc _ _ b (by simp;omega),heap_setCell_other w1 ⟨B,9,none⟩ b _ hB];exact grown2 bA g1 hb (fun e => hv e.symm)
  have HLO:Hid ((Value.slice ao' (k + 1) cap').ownBlock = (Value.slice ao k cap).ownBlock ∨ ∃ g,w.heap.size ≤ g ∧ (Value.slice ao' (k + 1) cap').ownBlock = some g):=hloc.imp id (fun e => ⟨_,by simp,e⟩);obtain ⟨W2,hW2⟩:∃ y,y = ((w1.setCell ⟨B,9,none⟩ (.slice ao' (k + 1) cap')).alloc (.cells #[.int .i64 r.kind,.int .i64 r.seq,.string r.name,.int .i64 r.length,.int .i64 r.group,.int .i64 r.row,.slice ao6 r.rows.1 cap6,.slice ao7 r.data.1 cap7,.slice ao8 r.delta.1 cap8] 159)):=⟨_,rfl⟩;rw [← hW2] at L2 X2 B2 A2 ⊢;clear hW2 TA TA0 O0 O1 g1 hloc bA x9 z9 z9f L1 hi hz0 hz1 hz2;refine wp_region_still_tail 10 (by kernel_rfl) (by kernel_rfl) ?_;obtain ⟨WB,hWB⟩:∃ y:World,y = { W2 with drawn:=W2.drawn + 1 }:=⟨_,rfl⟩
  have L3:Ldg WB lo B s (k + 1) k x ce (.slice ao' (k + 1) cap') b1 b2 b3 b4 b5:=by rw [hWB];exact L2.drawn _
  have X3:Box WB w1.heap.size #[.int .i64 r.kind,.int .i64 r.seq,.string r.name,.int .i64 r.length,.int .i64 r.group,.int .i64 r.row,.slice ao6 r.rows.1 cap6,.slice ao7 r.data.1 cap7,.slice ao8 r.delta.1 cap8] 159:=by rw [hWB];exact X2
  have B3:Below lo w WB:=by rw [hWB];exact ⟨B2.os,B2.tape,B2.output,B2.size,B2.block⟩
  have HA3:Hid (∀ b,b < w.heap.size → b ≠ B → (Value.slice ao k cap).ownBlock ≠ some b → WB.heap[b]? = w.heap[b]?):=by rw [hWB];exact A2
  rw [← hWB];clear hWB L2 X2 B2 A2;have HL3:Hid (Ldg WB lo B s (k + 1) k x ce (.slice ao' (k + 1) cap') b1 b2 b3 b4 b5):=L3;have HZ3:Hid (w.heap.size ≤ WB.heap.size):=B3.size;have HB3:Hid (Below lo w WB):=B3;have c0:WB.cell? ⟨w1.heap.size,0,none⟩ = some (.int .i64 r.kind):=X3.cell 0;have c1:WB.cell? ⟨w1.heap.size,1,none⟩ = some (.int .i64 r.seq):=X3.cell 1;have c2:WB.cell? ⟨w1.heap.size,2,none⟩ = some (.string r.name):=X3.cell 2;have c3:WB.cell? ⟨w1.heap.size,3,none⟩ = some (.int .i64 r.length):=X3.cell 3;have c4:WB.cell? ⟨w1.heap.size,4,none⟩ = some (.int .i64 r.group):=X3.cell 4;have c5:WB.cell? ⟨w1.heap.size,5,none⟩ = some (.int .i64 r.row):=X3.cell 5;have c6:WB.cell? ⟨w1.heap.size,6,none⟩ = some (.slice ao6 r.rows.1 cap6):=X3.cell 6;have c7:WB.cell? ⟨w1.heap.size,7,none⟩ = some (.slice ao7 r.data.1 cap7):=X3.cell 7;have c8:WB.cell? ⟨w1.heap.size,8,none⟩ = some (.slice ao8 r.delta.1 cap8):=X3.cell 8;have d2:WB.cell? ⟨B,11,none⟩ = some (.map (some b2)):=L3.box.cell 11;obtain ⟨kl,hkl⟩:=keyOf_I hs;have hlook:=L3.m2.look keyI Tryz.underlying110 (zero64 _) hkl;have hcn:=cN_le (fun i => (x i).kind = 2) (fun i => .int .i64 (x i).seq) (.int .i64 r.seq) k;rw [show movF x k (.int .i64 r.seq) = cntF (fun i => (x i).kind = 2) (fun i => .int .i64 (x i).seq) k (.int .i64 r.seq) from rfl,cntF_get] at hlook;obtain ⟨cn,hcn2⟩:∃ cn,cn = cN (fun i => (x i).kind = 2) (fun i => .int .i64 (x i).seq) (.int .i64 r.seq) k:=⟨_,rfl⟩;have HCN:Hid (cn = cN (fun i => (x i).kind = 2) (fun i => .int .i64 (x i).seq) (.int .i64 r.seq) k):=hcn2;rw [← hcn2] at hlook hcn
  have hwr:IntKind.i64.wrap ((cn:Int) + 1) = (cn:Int) + 1:=by rw [IntKind.wrap_i64];omega
  obtain ⟨w',hrun,M,G,S⟩:=L3.m2.put keyI Tryz.underlying110 (by unfold maxLen;omega) hkl (.int .i64 ((cn:Int) + 1));have HM:Hid (MapV w' 2 b2 (k + 1) (putF (movF x k) (.int .i64 r.seq) (.int .i64 ((cn:Int) + 1)))):=M;have HE:Hid (∀ b,b < WB.heap.size → b ∉ [b2] → w'.heap[b]? = WB.heap[b]?):=fun b hb hn => G.block b hb (fun e => by cases e;simp at hn);have HBE:Hid (Below lo w w'):=B3.trans ⟨G.os,G.tape,G.output,G.size,fun b hb => G.block b (by have:=B3.size;omega) (fun e => by cases e;have:=L3.low;omega)⟩;clear M G L3 X3 B3 hkl hcn2
  simp only [List.take_succ_cons,List.take_zero,List.drop_succ_cons,List.drop_zero]
  repeat still_step
  refine wpStill_nil ?_;go_wp2;refine bodyPost_end (v:=.tuple #[]) (by simp [results,Tryz.results78]) rfl ?_
  exact ⟨rfl,⟨_,HL3.out.next (T:=[b2]) HE.out (fun b hb => by simp at hb ⊢;omega) (by rw [show newF x ce (k + 1) = newF x ce k from lastF_skip (show ¬ (x k).kind = 1 by rw [HX.out,HKD.out];decide)];exact (HL3.out.m1.block (HE.out b1 HL3.out.m1.lt (by have:=HL3.out.nd;simp at this ⊢;omega))).mono (Nat.le_succ k))
    (by rw [show movF x (k + 1) = putF (movF x k) (.int .i64 (x k).seq) (.int .i64 ((cN (fun i => (x i).kind = 2) (fun i => .int .i64 (x i).seq) (.int .i64 (x k).seq) k:Int) + 1)) from cntF_put (show (x k).kind = 2 by rw [HX.out,HKD.out]),HX.out,← HCN.out];exact HM.out)
    (by rw [show donF x (k + 1) = donF x k from cntF_skip (show ¬ (x k).kind = 3 by rw [HX.out,HKD.out];decide)];exact (HL3.out.m3.block (HE.out b3 HL3.out.m3.lt (by have:=HL3.out.nd;simp at this ⊢;omega))).mono (Nat.le_succ k))
    (by rw [show endF x (k + 1) = endF x k from cntF_skip (show ¬ (x k).kind = 3 by rw [HX.out,HKD.out];decide)];exact (HL3.out.m4.block (HE.out b4 HL3.out.m4.lt (by have:=HL3.out.nd;simp at this ⊢;omega))).mono (Nat.le_succ k))
    (by rw [show shaF x (k + 1) = shaF x k from lastF_skip (show ¬ (x k).kind = 4 by rw [HX.out,HKD.out];decide)];exact (HL3.out.m5.block (HE.out b5 HL3.out.m5.lt (by have:=HL3.out.nd;simp at this ⊢;omega))).mono (Nat.le_succ k)),⟨HLO.out,fun b hb hT hv => (HE.out b (Nat.lt_of_lt_of_le hb HZ3.out) (fun q => hT (by simp at q ⊢;omega))).trans (HA3.out b hb (fun e => hT (by rw [e];simp)) hv)⟩⟩,HBE.out⟩
set_option maxHeartbeats 8000000 in
set_option maxRecDepth 20000 in
theorem enter_share {w:World} {lo B:Nat} {s:Nat → Int} {k:Nat} {x:Nat → RecD} {ce:Nat → List Value} {v:Value} {b1 b2 b3 b4 b5:Nat} (h:Ldg w lo B s k k x ce v b1 b2 b3 b4 b5) (hk:k ≤ 1000000) (hlo:lo ≤ w.heap.size)
    {r:RecD} {ao6 ao7 ao8:Option Addr} {cap6 cap7 cap8:Nat} (hx:x k = r) (hc:ce k = [.int .i64 r.kind,.int .i64 r.seq,.string r.name,.int .i64 r.length,.int .i64 r.group,.int .i64 r.row,.slice ao6 r.rows.1 cap6,.slice ao7 r.data.1 cap7,.slice ao8 r.delta.1 cap8]) (hkd:r.kind = 4) (hn:r.name.size ≤ maxLen) (hs:-9223372036854775808 ≤ r.seq ∧ r.seq ≤ 9223372036854775807) (hg:-9223372036854775808 ≤ r.group ∧ r.group ≤ 9223372036854775807) (hw:-9223372036854775808 ≤ r.row ∧ r.row ≤ 9223372036854775807) :
    Calls Tryz.prog 78 #[.pointer (some ⟨B,0,none⟩),.iface 163 (.agg #[.int .i64 r.kind,.int .i64 r.seq,.string r.name,.int .i64 r.length,.int .i64 r.group,.int .i64 r.row,.slice ao6 r.rows.1 cap6,.slice ao7 r.data.1 cap7,.slice ao8 r.delta.1 cap8])] w fun e w' => e = .returned (.tuple #[]) ∧ (∃ v',Ldg w' lo B s (k + 1) (k + 1) x ce v' b1 b2 b3 b4 b5 ∧ EntQ w w' v v' [B,b1,b2,b3,b4,b5]) ∧ Below lo w w':=by
  have HX:Hid (x k = r):=hx;have HC:Hid (ce k = [.int .i64 r.kind,.int .i64 r.seq,.string r.name,.int .i64 r.length,.int .i64 r.group,.int .i64 r.row,.slice ao6 r.rows.1 cap6,.slice ao7 r.data.1 cap7,.slice ao8 r.delta.1 cap8]):=hc;have HKD:Hid (r.kind = 4):=hkd
  have HEV:Hid (entV (x k).kind (ce k) = .iface 163 (.agg #[.int .i64 r.kind,.int .i64 r.seq,.string r.name,.int .i64 r.length,.int .i64 r.group,.int .i64 r.row,.slice ao6 r.rows.1 cap6,.slice ao7 r.data.1 cap7,.slice ao8 r.delta.1 cap8])):=by
    show entV (x k).kind (ce k) = .iface 163 (.agg #[.int .i64 r.kind,.int .i64 r.seq,.string r.name,.int .i64 r.length,.int .i64 r.group,.int .i64 r.row,.slice ao6 r.rows.1 cap6,.slice ao7 r.data.1 cap7,.slice ao8 r.delta.1 cap8])
    unfold entV entT;rw [hx,hc]
    simp [hkd]
  clear hx hc hkd;obtain ⟨i0,hi,hz0,hz1,hz2⟩:=info_parts info_entry;have HL:Hid (Ldg w lo B s k k x ce v b1 b2 b3 b4 b5):=h;obtain ⟨ao,cap,hv⟩:=rowE_slice h.row;subst hv;have x9:w.cell? ⟨B,9,none⟩ = some (.slice ao k cap):=h.box.cell 9;have O0:=h.row;clear h;have TA:=ta33;have TA0:=ta30;have TA1:=ta31;have TA2:=ta32;have bA:w.grownBy (w.alloc (.cells #[.iface 163 (.agg #[.int .i64 r.kind,.int .i64 r.seq,.string r.name,.int .i64 r.length,.int .i64 r.group,.int .i64 r.row,.slice ao6 r.rows.1 cap6,.slice ao7 r.data.1 cap7,.slice ao8 r.delta.1 cap8])] 119)) none:=World.grownBy_alloc _ _ _
  go_enter Tryz.func78,Tryz.ntmps78
  go_upto_region 14 with (at_builtin;refine wpList_append_own_at _ rfl _ _ 113 rfl lo 119 i0 .nilIface 1 16 Tryz.underlying113 hi hz0 hz1 hz2 rfl (by decide) _ _ _ rfl (O0.alloc _) ⟨w.heap.size,0,none⟩ 1 1 [.iface 163 (.agg #[.int .i64 r.kind,.int .i64 r.seq,.string r.name,.int .i64 r.length,.int .i64 r.group,.int .i64 r.row,.slice ao6 r.rows.1 cap6,.slice ao7 r.data.1 cap7,.slice ao8 r.delta.1 cap8])] rfl rfl (cell_one_new _ _ _) (fun u hu => by simp at hu;subst hu;rfl) (by unfold maxLen;omega) (by omega) (by simp;omega) ?_;intro v' w1 O1 g1 hnil hloc;obtain ⟨ao',cap',rfl⟩:=rowE_slice O1;have L1:=HL.out.grown bA g1;have z9:=L1.cell 9;have z9f:=L1.frozen 9;clear hnil)
  have L2:Ldg ((w1.setCell ⟨B,9,none⟩ (.slice ao' (k + 1) cap')).alloc (.cells #[.int .i64 r.kind,.int .i64 r.seq,.string r.name,.int .i64 r.length,.int .i64 r.group,.int .i64 r.row,.slice ao6 r.rows.1 cap6,.slice ao7 r.data.1 cap7,.slice ao8 r.delta.1 cap8] 163)) lo B s (k + 1) k x ce (.slice ao' (k + 1) cap') b1 b2 b3 b4 b5:=HL.out.laid g1 (by rw [HEV.out];exact O1) hloc
  have X2:Box ((w1.setCell ⟨B,9,none⟩ (.slice ao' (k + 1) cap')).alloc (.cells #[.int .i64 r.kind,.int .i64 r.seq,.string r.name,.int .i64 r.length,.int .i64 r.group,.int .i64 r.row,.slice ao6 r.rows.1 cap6,.slice ao7 r.data.1 cap7,.slice ao8 r.delta.1 cap8] 163)) w1.heap.size #[.int .i64 r.kind,.int .i64 r.seq,.string r.name,.int .i64 r.length,.int .i64 r.group,.int .i64 r.row,.slice ao6 r.rows.1 cap6,.slice ao7 r.data.1 cap7,.slice ao8 r.delta.1 cap8] 163:=by
    have:=box_new (w1.setCell ⟨B,9,none⟩ (.slice ao' (k + 1) cap')) #[.int .i64 r.kind,.int .i64 r.seq,.string r.name,.int .i64 r.length,.int .i64 r.group,.int .i64 r.row,.slice ao6 r.rows.1 cap6,.slice ao7 r.data.1 cap7,.slice ao8 r.delta.1 cap8] 163;rw [show (w1.setCell ⟨B,9,none⟩ (.slice ao' (k + 1) cap')).heap.size = w1.heap.size by simp] at this;exact this
  have B2:Below lo w ((w1.setCell ⟨B,9,none⟩ (.slice ao' (k + 1) cap')).alloc (.cells #[.int .i64 r.kind,.int .i64 r.seq,.string r.name,.int .i64 r.length,.int .i64 r.group,.int .i64 r.row,.slice ao6 r.rows.1 cap6,.slice ao7 r.data.1 cap7,.slice ao8 r.delta.1 cap8] 163)):=by
    have q1:Below lo w w1:=below_grown HL.out g1 hlo;exact (q1.setCell HL.out.low.1 _).alloc (by have:=q1.size;simp;omega) _
  have A2:∀ b,b < w.heap.size → b ≠ B → (Value.slice ao k cap).ownBlock ≠ some b → ((w1.setCell ⟨B,9,none⟩ (.slice ao' (k + 1) cap')).alloc (.cells #[.int .i64 r.kind,.int .i64 r.seq,.string r.name,.int .i64 r.length,.int .i64 r.group,.int .i64 r.row,.slice ao6 r.rows.1 cap6,.slice ao7 r.data.1 cap7,.slice ao8 r.delta.1 cap8] 163)).heap[b]? = w.heap[b]?:=fun b hb hB hv => by
    have sz:w.heap.size + 1 ≤ w1.heap.size:=by have:=g1.size;simp at this;omega
    rw [Below.heap_alloc _ _ b (by simp;omega),heap_setCell_other w1 ⟨B,9,none⟩ b _ hB];exact grown2 bA g1 hb (fun e => hv e.symm)
  have HLO:Hid ((Value.slice ao' (k + 1) cap').ownBlock = (Value.slice ao k cap).ownBlock ∨ ∃ g,w.heap.size ≤ g ∧ (Value.slice ao' (k + 1) cap').ownBlock = some g):=hloc.imp id (fun e => ⟨_,by simp,e⟩);obtain ⟨W2,hW2⟩:∃ y,y = ((w1.setCell ⟨B,9,none⟩ (.slice ao' (k + 1) cap')).alloc (.cells #[.int .i64 r.kind,.int .i64 r.seq,.string r.name,.int .i64 r.length,.int .i64 r.group,.int .i64 r.row,.slice ao6 r.rows.1 cap6,.slice ao7 r.data.1 cap7,.slice ao8 r.delta.1 cap8] 163)):=⟨_,rfl⟩;rw [← hW2] at L2 X2 B2 A2 ⊢;clear hW2 TA TA0 TA1 TA2 O0 O1 g1 hloc bA x9 z9 z9f L1 hi hz0 hz1 hz2;refine wp_region_still_tail 17 (by kernel_rfl) (by kernel_rfl) ?_;obtain ⟨WB,hWB⟩:∃ y:World,y = { W2 with drawn:=W2.drawn + 1 }:=⟨_,rfl⟩
  have L3:Ldg WB lo B s (k + 1) k x ce (.slice ao' (k + 1) cap') b1 b2 b3 b4 b5:=by rw [hWB];exact L2.drawn _
  have X3:Box WB w1.heap.size #[.int .i64 r.kind,.int .i64 r.seq,.string r.name,.int .i64 r.length,.int .i64 r.group,.int .i64 r.row,.slice ao6 r.rows.1 cap6,.slice ao7 r.data.1 cap7,.slice ao8 r.delta.1 cap8] 163:=by rw [hWB];exact X2
  have B3:Below lo w WB:=by rw [hWB];exact ⟨B2.os,B2.tape,B2.output,B2.size,B2.block⟩
  have HA3:Hid (∀ b,b < w.heap.size → b ≠ B → (Value.slice ao k cap).ownBlock ≠ some b → WB.heap[b]? = w.heap[b]?):=by rw [hWB];exact A2
  rw [← hWB];clear hWB L2 X2 B2 A2;have HL3:Hid (Ldg WB lo B s (k + 1) k x ce (.slice ao' (k + 1) cap') b1 b2 b3 b4 b5):=L3;have HZ3:Hid (w.heap.size ≤ WB.heap.size):=B3.size;have HB3:Hid (Below lo w WB):=B3;have c0:WB.cell? ⟨w1.heap.size,0,none⟩ = some (.int .i64 r.kind):=X3.cell 0;have c1:WB.cell? ⟨w1.heap.size,1,none⟩ = some (.int .i64 r.seq):=X3.cell 1;have c2:WB.cell? ⟨w1.heap.size,2,none⟩ = some (.string r.name):=X3.cell 2;have c3:WB.cell? ⟨w1.heap.size,3,none⟩ = some (.int .i64 r.length):=X3.cell 3;have c4:WB.cell? ⟨w1.heap.size,4,none⟩ = some (.int .i64 r.group):=X3.cell 4;have c5:WB.cell? ⟨w1.heap.size,5,none⟩ = some (.int .i64 r.row):=X3.cell 5;have c6:WB.cell? ⟨w1.heap.size,6,none⟩ = some (.slice ao6 r.rows.1 cap6):=X3.cell 6;have c7:WB.cell? ⟨w1.heap.size,7,none⟩ = some (.slice ao7 r.data.1 cap7):=X3.cell 7;have c8:WB.cell? ⟨w1.heap.size,8,none⟩ = some (.slice ao8 r.delta.1 cap8):=X3.cell 8;have d5:WB.cell? ⟨B,14,none⟩ = some (.map (some b5)):=L3.box.cell 14;obtain ⟨kl,hkl⟩:=keyOf_place hg hw;obtain ⟨w',hrun,M,G,S⟩:=L3.m5.put keyPlace Tryz.underlying112 (by unfold maxLen;omega) hkl (.int .i64 r.seq);have HM:Hid (MapV w' 165 b5 (k + 1) (putF (shaF x k) (.agg #[.int .i64 r.group,.int .i64 r.row]) (.int .i64 r.seq))):=M;have HE:Hid (∀ b,b < WB.heap.size → b ∉ [b5] → w'.heap[b]? = WB.heap[b]?):=fun b hb hn => G.block b hb (fun e => by cases e;simp at hn);have HBE:Hid (Below lo w w'):=B3.trans ⟨G.os,G.tape,G.output,G.size,fun b hb => G.block b (by have:=B3.size;omega) (fun e => by cases e;have:=L3.low;omega)⟩;clear M G L3 X3 B3 hkl
  simp only [List.take_succ_cons,List.take_zero,List.drop_succ_cons,List.drop_zero]
  repeat still_step
  refine wpStill_nil ?_;go_wp2;refine bodyPost_end (v:=.tuple #[]) (by simp [results,Tryz.results78]) rfl ?_
  exact ⟨rfl,⟨_,HL3.out.next (T:=[b5]) HE.out (fun b hb => by simp at hb ⊢;omega) (by rw [show newF x ce (k + 1) = newF x ce k from lastF_skip (show ¬ (x k).kind = 1 by rw [HX.out,HKD.out];decide)];exact (HL3.out.m1.block (HE.out b1 HL3.out.m1.lt (by have:=HL3.out.nd;simp at this ⊢;omega))).mono (Nat.le_succ k))
    (by rw [show movF x (k + 1) = movF x k from cntF_skip (show ¬ (x k).kind = 2 by rw [HX.out,HKD.out];decide)];exact (HL3.out.m2.block (HE.out b2 HL3.out.m2.lt (by have:=HL3.out.nd;simp at this ⊢;omega))).mono (Nat.le_succ k))
    (by rw [show donF x (k + 1) = donF x k from cntF_skip (show ¬ (x k).kind = 3 by rw [HX.out,HKD.out];decide)];exact (HL3.out.m3.block (HE.out b3 HL3.out.m3.lt (by have:=HL3.out.nd;simp at this ⊢;omega))).mono (Nat.le_succ k))
    (by rw [show endF x (k + 1) = endF x k from cntF_skip (show ¬ (x k).kind = 3 by rw [HX.out,HKD.out];decide)];exact (HL3.out.m4.block (HE.out b4 HL3.out.m4.lt (by have:=HL3.out.nd;simp at this ⊢;omega))).mono (Nat.le_succ k))
    (by rw [show shaF x (k + 1) = putF (shaF x k) (.agg #[.int .i64 (x k).group,.int .i64 (x k).row]) (.int .i64 (x k).seq) from lastF_put (show (x k).kind = 4 by rw [HX.out,HKD.out]),HX.out];exact HM.out),⟨HLO.out,fun b hb hT hv => (HE.out b (Nat.lt_of_lt_of_le hb HZ3.out) (fun q => hT (by simp at q ⊢;omega))).trans (HA3.out b hb (fun e => hT (by rw [e];simp)) hv)⟩⟩,HBE.out⟩
set_option maxHeartbeats 8000000 in
set_option maxRecDepth 20000 in
theorem enter_done {w:World} {lo B:Nat} {s:Nat → Int} {k:Nat} {x:Nat → RecD} {ce:Nat → List Value} {v:Value} {b1 b2 b3 b4 b5:Nat} (h:Ldg w lo B s k k x ce v b1 b2 b3 b4 b5) (hk:k ≤ 1000000) (hlo:lo ≤ w.heap.size)
    {r:RecD} {ao6 ao7 ao8:Option Addr} {cap6 cap7 cap8:Nat} (hx:x k = r) (hc:ce k = [.int .i64 r.kind,.int .i64 r.seq,.string r.name,.int .i64 r.length,.int .i64 r.group,.int .i64 r.row,.slice ao6 r.rows.1 cap6,.slice ao7 r.data.1 cap7,.slice ao8 r.delta.1 cap8]) (hkd:r.kind = 3) (hn:r.name.size ≤ maxLen) (hs:-9223372036854775808 ≤ r.seq ∧ r.seq ≤ 9223372036854775807) (hg:-9223372036854775808 ≤ r.group ∧ r.group ≤ 9223372036854775807) (hw:-9223372036854775808 ≤ r.row ∧ r.row ≤ 9223372036854775807) :
    Calls Tryz.prog 78 #[.pointer (some ⟨B,0,none⟩),.iface 160 (.agg #[.int .i64 r.kind,.int .i64 r.seq,.string r.name,.int .i64 r.length,.int .i64 r.group,.int .i64 r.row,.slice ao6 r.rows.1 cap6,.slice ao7 r.data.1 cap7,.slice ao8 r.delta.1 cap8])] w fun e w' => e = .returned (.tuple #[]) ∧ (∃ v',Ldg w' lo B s (k + 1) (k + 1) x ce v' b1 b2 b3 b4 b5 ∧ EntQ w w' v v' [B,b1,b2,b3,b4,b5]) ∧ Below lo w w':=by
  have HX:Hid (x k = r):=hx;have HC:Hid (ce k = [.int .i64 r.kind,.int .i64 r.seq,.string r.name,.int .i64 r.length,.int .i64 r.group,.int .i64 r.row,.slice ao6 r.rows.1 cap6,.slice ao7 r.data.1 cap7,.slice ao8 r.delta.1 cap8]):=hc;have HKD:Hid (r.kind = 3):=hkd
  have HEV:Hid (entV (x k).kind (ce k) = .iface 160 (.agg #[.int .i64 r.kind,.int .i64 r.seq,.string r.name,.int .i64 r.length,.int .i64 r.group,.int .i64 r.row,.slice ao6 r.rows.1 cap6,.slice ao7 r.data.1 cap7,.slice ao8 r.delta.1 cap8])):=by
    show entV (x k).kind (ce k) = .iface 160 (.agg #[.int .i64 r.kind,.int .i64 r.seq,.string r.name,.int .i64 r.length,.int .i64 r.group,.int .i64 r.row,.slice ao6 r.rows.1 cap6,.slice ao7 r.data.1 cap7,.slice ao8 r.delta.1 cap8])
    unfold entV entT;rw [hx,hc]
    simp [hkd]
  clear hx hc hkd;obtain ⟨i0,hi,hz0,hz1,hz2⟩:=info_parts info_entry;have HL:Hid (Ldg w lo B s k k x ce v b1 b2 b3 b4 b5):=h;obtain ⟨ao,cap,hv⟩:=rowE_slice h.row;subst hv;have x9:w.cell? ⟨B,9,none⟩ = some (.slice ao k cap):=h.box.cell 9;have O0:=h.row;clear h;have TA:=ta22;have TA0:=ta20;have TA1:=ta21;have bA:w.grownBy (w.alloc (.cells #[.iface 160 (.agg #[.int .i64 r.kind,.int .i64 r.seq,.string r.name,.int .i64 r.length,.int .i64 r.group,.int .i64 r.row,.slice ao6 r.rows.1 cap6,.slice ao7 r.data.1 cap7,.slice ao8 r.delta.1 cap8])] 119)) none:=World.grownBy_alloc _ _ _
  go_enter Tryz.func78,Tryz.ntmps78
  go_upto_region 10 with (at_builtin;refine wpList_append_own_at _ rfl _ _ 113 rfl lo 119 i0 .nilIface 1 16 Tryz.underlying113 hi hz0 hz1 hz2 rfl (by decide) _ _ _ rfl (O0.alloc _) ⟨w.heap.size,0,none⟩ 1 1 [.iface 160 (.agg #[.int .i64 r.kind,.int .i64 r.seq,.string r.name,.int .i64 r.length,.int .i64 r.group,.int .i64 r.row,.slice ao6 r.rows.1 cap6,.slice ao7 r.data.1 cap7,.slice ao8 r.delta.1 cap8])] rfl rfl (cell_one_new _ _ _) (fun u hu => by simp at hu;subst hu;rfl) (by unfold maxLen;omega) (by omega) (by simp;omega) ?_;intro v' w1 O1 g1 hnil hloc;obtain ⟨ao',cap',rfl⟩:=rowE_slice O1;have L1:=HL.out.grown bA g1;have z9:=L1.cell 9;have z9f:=L1.frozen 9;clear hnil)
  have L2:Ldg ((w1.setCell ⟨B,9,none⟩ (.slice ao' (k + 1) cap')).alloc (.cells #[.int .i64 r.kind,.int .i64 r.seq,.string r.name,.int .i64 r.length,.int .i64 r.group,.int .i64 r.row,.slice ao6 r.rows.1 cap6,.slice ao7 r.data.1 cap7,.slice ao8 r.delta.1 cap8] 160)) lo B s (k + 1) k x ce (.slice ao' (k + 1) cap') b1 b2 b3 b4 b5:=HL.out.laid g1 (by rw [HEV.out];exact O1) hloc
  have X2:Box ((w1.setCell ⟨B,9,none⟩ (.slice ao' (k + 1) cap')).alloc (.cells #[.int .i64 r.kind,.int .i64 r.seq,.string r.name,.int .i64 r.length,.int .i64 r.group,.int .i64 r.row,.slice ao6 r.rows.1 cap6,.slice ao7 r.data.1 cap7,.slice ao8 r.delta.1 cap8] 160)) w1.heap.size #[.int .i64 r.kind,.int .i64 r.seq,.string r.name,.int .i64 r.length,.int .i64 r.group,.int .i64 r.row,.slice ao6 r.rows.1 cap6,.slice ao7 r.data.1 cap7,.slice ao8 r.delta.1 cap8] 160:=by
    have:=box_new (w1.setCell ⟨B,9,none⟩ (.slice ao' (k + 1) cap')) #[.int .i64 r.kind,.int .i64 r.seq,.string r.name,.int .i64 r.length,.int .i64 r.group,.int .i64 r.row,.slice ao6 r.rows.1 cap6,.slice ao7 r.data.1 cap7,.slice ao8 r.delta.1 cap8] 160;rw [show (w1.setCell ⟨B,9,none⟩ (.slice ao' (k + 1) cap')).heap.size = w1.heap.size by simp] at this;exact this
  have B2:Below lo w ((w1.setCell ⟨B,9,none⟩ (.slice ao' (k + 1) cap')).alloc (.cells #[.int .i64 r.kind,.int .i64 r.seq,.string r.name,.int .i64 r.length,.int .i64 r.group,.int .i64 r.row,.slice ao6 r.rows.1 cap6,.slice ao7 r.data.1 cap7,.slice ao8 r.delta.1 cap8] 160)):=by
    have q1:Below lo w w1:=below_grown HL.out g1 hlo;exact (q1.setCell HL.out.low.1 _).alloc (by have:=q1.size;simp;omega) _
  have A2:∀ b,b < w.heap.size → b ≠ B → (Value.slice ao k cap).ownBlock ≠ some b → ((w1.setCell ⟨B,9,none⟩ (.slice ao' (k + 1) cap')).alloc (.cells #[.int .i64 r.kind,.int .i64 r.seq,.string r.name,.int .i64 r.length,.int .i64 r.group,.int .i64 r.row,.slice ao6 r.rows.1 cap6,.slice ao7 r.data.1 cap7,.slice ao8 r.delta.1 cap8] 160)).heap[b]? = w.heap[b]?:=fun b hb hB hv => by
    have sz:w.heap.size + 1 ≤ w1.heap.size:=by have:=g1.size;simp at this;omega
    rw [Below.heap_alloc _ _ b (by simp;omega),heap_setCell_other w1 ⟨B,9,none⟩ b _ hB];exact grown2 bA g1 hb (fun e => hv e.symm)
  have HLO:Hid ((Value.slice ao' (k + 1) cap').ownBlock = (Value.slice ao k cap).ownBlock ∨ ∃ g,w.heap.size ≤ g ∧ (Value.slice ao' (k + 1) cap').ownBlock = some g):=hloc.imp id (fun e => ⟨_,by simp,e⟩);obtain ⟨W2,hW2⟩:∃ y,y = ((w1.setCell ⟨B,9,none⟩ (.slice ao' (k + 1) cap')).alloc (.cells #[.int .i64 r.kind,.int .i64 r.seq,.string r.name,.int .i64 r.length,.int .i64 r.group,.int .i64 r.row,.slice ao6 r.rows.1 cap6,.slice ao7 r.data.1 cap7,.slice ao8 r.delta.1 cap8] 160)):=⟨_,rfl⟩;rw [← hW2] at L2 X2 B2 A2 ⊢;clear hW2 TA TA0 TA1 O0 O1 g1 hloc bA x9 z9 z9f L1 hi hz0 hz1 hz2;have L3:Ldg W2.drew lo B s (k + 1) k x ce (.slice ao' (k + 1) cap') b1 b2 b3 b4 b5:=L2.drawn _;have X3:Box W2.drew w1.heap.size #[.int .i64 r.kind,.int .i64 r.seq,.string r.name,.int .i64 r.length,.int .i64 r.group,.int .i64 r.row,.slice ao6 r.rows.1 cap6,.slice ao7 r.data.1 cap7,.slice ao8 r.delta.1 cap8] 160:=X2;have B3:Below lo w W2.drew:=⟨B2.os,B2.tape,B2.output,B2.size,B2.block⟩;have HA3:Hid (∀ b,b < w.heap.size → b ≠ B → (Value.slice ao k cap).ownBlock ≠ some b → W2.drew.heap[b]? = w.heap[b]?):=A2;obtain ⟨kl,hkl⟩:=keyOf_step hs hg;have hcn:=cN_le (fun i => (x i).kind = 3) (fun i => .agg #[.int .i64 (x i).seq,.int .i64 (x i).group]) (.agg #[.int .i64 r.seq,.int .i64 r.group]) k;have hget:(donF x k (.agg #[.int .i64 r.seq,.int .i64 r.group])).getD (.int .i64 0) = .int .i64 (cN (fun i => (x i).kind = 3) (fun i => .agg #[.int .i64 (x i).seq,.int .i64 (x i).group]) (.agg #[.int .i64 r.seq,.int .i64 r.group]) k:Int):=cntF_get _ _ _ _;obtain ⟨cn,hcn2⟩:∃ cn,cn = cN (fun i => (x i).kind = 3) (fun i => .agg #[.int .i64 (x i).seq,.int .i64 (x i).group]) (.agg #[.int .i64 r.seq,.int .i64 r.group]) k:=⟨_,rfl⟩;have HCN:Hid (cn = cN (fun i => (x i).kind = 3) (fun i => .agg #[.int .i64 (x i).seq,.int .i64 (x i).group]) (.agg #[.int .i64 r.seq,.int .i64 r.group]) k):=hcn2;rw [← hcn2] at hcn hget;have hlook:=L3.m3.look keyStep Tryz.underlying111 (zero64 _) hkl;obtain ⟨st,w5,hent,z5,G5,hlk5,hst⟩:=L3.m3.entry lawStep Tryz.underlying111 (by unfold maxLen;omega) zero64 hkl;rw [hget] at hlook hent hlk5
  have hwr:IntKind.i64.wrap ((cn:Int) + 1) = (cn:Int) + 1:=by rw [IntKind.wrap_i64];omega
  obtain ⟨w6,hrun6,M6,G6,S6⟩:=hst (.int .i64 ((cn:Int) + 1));have S3:(fun w' => w'.cell? ⟨B,12,none⟩ = some (.map (some b3)) ∧ w'.cell? ⟨w1.heap.size,1,none⟩ = some (.int .i64 r.seq) ∧ w'.cell? ⟨w1.heap.size,4,none⟩ = some (.int .i64 r.group) ∧ (Instr.lookup 111 (.map (some b3)) (.agg #[.int .i64 r.seq,.int .i64 r.group]) false).run Tryz.prog w' = .ok (.int .i64 (cn:Int)) w') W2.drew:=⟨L3.box.cell 12,X3.cell 1,X3.cell 4,hlook⟩;have nb:∀ b,b < W2.drew.heap.size → b ≠ b3 → w5.heap[b]? = W2.drew.heap[b]?:=fun b hb hn => G5.block b hb (fun e => hn (by cases e;rfl))
  have nB:B ≠ b3:=fun e => by have:=L3.nd;simp at this;omega
  have nX:w1.heap.size ≠ b3:=fun e => by
    obtain ⟨D,⟨es,clock,q1,_⟩,_⟩:=L3.m3;have:=X3;unfold Box at this;rw [e,q1] at this
    cases this
  have S5:(fun w' => w'.cell? ⟨B,12,none⟩ = some (.map (some b3)) ∧ w'.cell? ⟨w1.heap.size,1,none⟩ = some (.int .i64 r.seq) ∧ w'.cell? ⟨w1.heap.size,4,none⟩ = some (.int .i64 r.group) ∧ (Instr.lookup 111 (.map (some b3)) (.agg #[.int .i64 r.seq,.int .i64 r.group]) false).run Tryz.prog w' = .ok (.int .i64 (cn:Int)) w') w5:=⟨(World.cell?_of_block (w:=W2.drew) (nb B L3.box.lt nB)).trans (L3.box.cell 12),(World.cell?_of_block (w:=W2.drew) (nb _ X3.lt nX)).trans (X3.cell 1),(World.cell?_of_block (w:=W2.drew) (nb _ X3.lt nX)).trans (X3.cell 4),hlk5⟩;have HM3:Hid (MapV w6 162 b3 (k + 1) (putF (donF x k) (.agg #[.int .i64 r.seq,.int .i64 r.group]) (.int .i64 ((cn:Int) + 1)))):=M6;have HE6:Hid (∀ b,b < W2.drew.heap.size → b ≠ b3 → w6.heap[b]? = W2.drew.heap[b]?):=fun b hb hn => G6.block b hb (fun e => hn (by cases e;rfl));have HB6:Hid (Below lo w w6):=B3.trans ⟨G6.os,G6.tape,G6.output,G6.size,fun b hb => G6.block b (by have:=B3.size;omega) (fun e => by cases e;have:=L3.low;omega)⟩;have HX6:Hid (Box w6 w1.heap.size #[.int .i64 r.kind,.int .i64 r.seq,.string r.name,.int .i64 r.length,.int .i64 r.group,.int .i64 r.row,.slice ao6 r.rows.1 cap6,.slice ao7 r.data.1 cap7,.slice ao8 r.delta.1 cap8] 160):=(HE6.out _ X3.lt nX).trans X3;have HY6:Hid (w6.cell? ⟨B,13,none⟩ = some (.map (some b4))):=(World.cell?_of_block (w:=W2.drew) (HE6.out B L3.box.lt nB)).trans (L3.box.cell 13);have HM4:Hid (MapV w6 2 b4 k (endF x k)):=L3.m4.block (HE6.out b4 L3.m4.lt (fun e => by have:=L3.nd;simp at this;omega));have HL3:Hid (Ldg W2.drew lo B s (k + 1) k x ce (.slice ao' (k + 1) cap') b1 b2 b3 b4 b5):=L3;have HZ3:Hid (w.heap.size ≤ W2.drew.heap.size):=B3.size;clear M6 G6 G5 hst X3 B3 L3 hkl hcn2 hget nb nB nX L2 X2 B2 A2 hlook hlk5;refine wp_region_M 17 (fun w' => w'.cell? ⟨B,12,none⟩ = some (.map (some b3)) ∧ w'.cell? ⟨w1.heap.size,1,none⟩ = some (.int .i64 r.seq) ∧ w'.cell? ⟨w1.heap.size,4,none⟩ = some (.int .i64 r.group) ∧ (Instr.lookup 111 (.map (some b3)) (.agg #[.int .i64 r.seq,.int .i64 r.group]) false).run Tryz.prog w' = .ok (.int .i64 (cn:Int)) w') mixedL S3 (fun hHeld => ?_);refine wpAnyM_pure (i:=0) (oi:=_) (v:=?_) rfl (by kernel_rfl) (fun _ _ _ h => h) (Or.inl ⟨by kernel_rfl,?_⟩) (by assumption) ?_
  rotate_left
  · intro w' hSw;go_simp;try with_reducible rfl
  try simp only [Act.put,SL]
  refine wpAnyM_pure (i:=1) (oi:=_) (v:=?_) rfl (by kernel_rfl) (fun _ _ _ h => h) (Or.inl ⟨by kernel_rfl,?_⟩) (by assumption) ?_
  rotate_left
  · intro w' hSw;go_simp;try with_reducible rfl
  try simp only [Act.put,SL]
  refine wpAnyM_pure (i:=2) (oi:=_) (v:=?_) rfl (by kernel_rfl) (fun _ _ _ h => h) (Or.inl ⟨by kernel_rfl,?_⟩) (by assumption) ?_
  rotate_left
  · intro w' hSw;go_simp;try with_reducible rfl
  try simp only [Act.put,SL]
  refine wpAnyM_take (i:=3) (oi:=_) (v:=?_) 16 rfl (by kernel_rfl) (fun _ _ _ h => h) (Or.inl ⟨by kernel_rfl,?_⟩) (by assumption) ?_
  rotate_left
  · intro w' hSw
    try dsimp only at hSw
    obtain ⟨y1,y2,y3,y4⟩:=hSw;go_simp
    try with_reducible rfl
  try simp only [Act.put,SL]
  refine wpAnyM_pure (i:=4) (oi:=_) (v:=?_) rfl (by kernel_rfl) (fun _ _ _ h => h) (Or.inl ⟨by kernel_rfl,?_⟩) (by assumption) ?_
  rotate_left
  · intro w' hSw;go_simp;try with_reducible rfl
  try simp only [Act.put,SL]
  refine wpAnyM_pure (i:=5) (oi:=_) (v:=?_) rfl (by kernel_rfl) (fun _ _ _ h => h) (Or.inl ⟨by kernel_rfl,?_⟩) (by assumption) ?_
  rotate_left
  · intro w' hSw;go_simp;try with_reducible rfl
  try simp only [Act.put,SL]
  refine wpAnyM_pure (i:=6) (oi:=_) (v:=?_) rfl (by kernel_rfl) (fun _ _ _ h => h) (Or.inl ⟨by kernel_rfl,?_⟩) (by assumption) ?_
  rotate_left
  · intro w' hSw;go_simp;try with_reducible rfl
  try simp only [Act.put,SL]
  refine wpAnyM_take (i:=7) (oi:=_) (v:=?_) 16 rfl (by kernel_rfl) (fun _ _ _ h => h) (Or.inl ⟨by kernel_rfl,?_⟩) (by assumption) ?_
  rotate_left
  · intro w' hSw
    try dsimp only at hSw
    obtain ⟨y1,y2,y3,y4⟩:=hSw;go_simp
    try with_reducible rfl
  try simp only [Act.put,SL]
  refine wpAnyM_pure (i:=8) (oi:=_) (v:=?_) rfl (by kernel_rfl) (fun _ _ _ h => h) (Or.inl ⟨by kernel_rfl,?_⟩) (by assumption) ?_
  rotate_left
  · intro w' hSw;go_simp;try with_reducible rfl
  try simp only [Act.put,SL]
  refine wpAnyM_pure (i:=9) (oi:=_) (v:=?_) rfl (by kernel_rfl) (fun _ _ _ h => h) (Or.inl ⟨by kernel_rfl,?_⟩) (by assumption) ?_
  rotate_left
  · intro w' hSw;go_simp;try with_reducible rfl
  try simp only [Act.put,SL]
  refine wpAnyM_pure (i:=10) (oi:=_) (v:=?_) rfl (by kernel_rfl) (fun _ _ _ h => h) (Or.inl ⟨by kernel_rfl,?_⟩) (by assumption) ?_
  rotate_left
  · intro w' hSw;go_simp;try with_reducible rfl
  try simp only [Act.put,SL]
  refine wpAnyM_take (i:=11) (oi:=_) (v:=?_) 16 rfl (by kernel_rfl) (fun _ _ _ h => h) (Or.inl ⟨by kernel_rfl,?_⟩) (by assumption) ?_
  rotate_left
  · intro w' hSw
    try dsimp only at hSw
    obtain ⟨y1,y2,y3,y4⟩:=hSw;go_simp
    try with_reducible rfl
  try simp only [Act.put,SL]
  refine wpAnyM_pure (i:=12) (oi:=_) (v:=?_) rfl (by kernel_rfl) (fun _ _ _ h => h) (Or.inl ⟨by kernel_rfl,?_⟩) (by assumption) ?_
  rotate_left
  · intro w' hSw;go_simp;try with_reducible rfl
  try simp only [Act.put,SL]
  refine wpAnyM_take (i:=13) (oi:=_) (v:=?_) 16 rfl (by kernel_rfl) (fun _ _ _ h => h) (Or.inl ⟨by kernel_rfl,?_⟩) (by assumption) ?_
  rotate_left
  · intro w' hSw
    try dsimp only at hSw
    obtain ⟨y1,y2,y3,y4⟩:=hSw;go_simp
    try with_reducible rfl
  try simp only [Act.put,SL]
  refine wpAnyM_pure (i:=14) (oi:=_) (v:=?_) rfl (by kernel_rfl) (fun _ _ _ h => h) (Or.inl ⟨by kernel_rfl,?_⟩) (by assumption) ?_
  rotate_left
  · intro w' hSw;go_simp;try with_reducible rfl
  try simp only [Act.put,SL]
  refine wpAnyM_oneS (i:=15) (o:=_) rfl (by kernel_rfl) (fun KC hKC => ?_);refine step_entry rfl 111 _ _ rfl b3 _ _ (by simp [Act.eval,Act.put]) (by simp [Act.eval,Act.put]) hent ?_;refine hKC _ _ S5 ?_;clear hKC KC
  try simp only [Act.put,SL]
  refine wpAnyM_pure (i:=16) (oi:=_) (v:=?_) rfl (by kernel_rfl) (fun _ _ _ h => h) (Or.inl ⟨by kernel_rfl,?_⟩) S5 ?_
  rotate_left
  · intro w' hSw;go_simp;try with_reducible rfl
  try simp only [Act.put,SL]
  refine wpAnyM_one (i:=17) (o:=_) rfl (by kernel_rfl) (by kernel_rfl) (fun KC hKC => ?_);refine step_estore rfl 111 _ _ _ rfl b3 _ _ (by simp [Act.eval,Act.put]) (by simp [Act.eval,Act.put]) (by simp [Act.eval,Act.put]) hrun6 ?_;refine hKC _ _ ?_;clear hKC KC
  try simp only [Act.put,SL]
  refine wpAnyM_done (by kernel_rfl) ?_ _;clear S5 S3 hHeld hent hrun6 z5
  go_upto_region 11 with fail
  refine wp_region_still_tail 10 (by kernel_rfl) (by kernel_rfl) ?_;obtain ⟨WB,hWB⟩:∃ y:World,y = { w6 with drawn:=w6.drawn + 1 }:=⟨_,rfl⟩
  have M3:MapV WB 162 b3 (k + 1) (putF (donF x k) (.agg #[.int .i64 r.seq,.int .i64 r.group]) (.int .i64 ((cn:Int) + 1))):=by rw [hWB];exact HM3.out
  have M4:MapV WB 2 b4 k (endF x k):=by rw [hWB];exact HM4.out
  have X7:Box WB w1.heap.size #[.int .i64 r.kind,.int .i64 r.seq,.string r.name,.int .i64 r.length,.int .i64 r.group,.int .i64 r.row,.slice ao6 r.rows.1 cap6,.slice ao7 r.data.1 cap7,.slice ao8 r.delta.1 cap8] 160:=by rw [hWB];exact HX6.out
  have d4:WB.cell? ⟨B,13,none⟩ = some (.map (some b4)):=by rw [hWB];exact HY6.out
  have B7:Below lo w WB:=by rw [hWB];have q:=HB6.out;exact ⟨q.os,q.tape,q.output,q.size,q.block⟩
  have E7:∀ b,b < W2.drew.heap.size → b ≠ b3 → WB.heap[b]? = W2.drew.heap[b]?:=by rw [hWB];exact HE6.out
  have Z7:WB.heap.size = W2.drew.heap.size:=by rw [hWB];exact S6
  rw [← hWB];clear hWB;have c0:WB.cell? ⟨w1.heap.size,0,none⟩ = some (.int .i64 r.kind):=X7.cell 0;have c1:WB.cell? ⟨w1.heap.size,1,none⟩ = some (.int .i64 r.seq):=X7.cell 1;have c2:WB.cell? ⟨w1.heap.size,2,none⟩ = some (.string r.name):=X7.cell 2;have c3:WB.cell? ⟨w1.heap.size,3,none⟩ = some (.int .i64 r.length):=X7.cell 3;have c4:WB.cell? ⟨w1.heap.size,4,none⟩ = some (.int .i64 r.group):=X7.cell 4;have c5:WB.cell? ⟨w1.heap.size,5,none⟩ = some (.int .i64 r.row):=X7.cell 5;have c6:WB.cell? ⟨w1.heap.size,6,none⟩ = some (.slice ao6 r.rows.1 cap6):=X7.cell 6;have c7:WB.cell? ⟨w1.heap.size,7,none⟩ = some (.slice ao7 r.data.1 cap7):=X7.cell 7;have c8:WB.cell? ⟨w1.heap.size,8,none⟩ = some (.slice ao8 r.delta.1 cap8):=X7.cell 8;obtain ⟨kl,hkl⟩:=keyOf_I hs;have hlook:=M4.look keyI Tryz.underlying110 (zero64 _) hkl;have hdn:=cN_le (fun i => (x i).kind = 3) (fun i => .int .i64 (x i).seq) (.int .i64 r.seq) k;rw [show endF x k (.int .i64 r.seq) = cntF (fun i => (x i).kind = 3) (fun i => .int .i64 (x i).seq) k (.int .i64 r.seq) from rfl,cntF_get] at hlook;obtain ⟨dn,hdn2⟩:∃ dn,dn = cN (fun i => (x i).kind = 3) (fun i => .int .i64 (x i).seq) (.int .i64 r.seq) k:=⟨_,rfl⟩;have HDN:Hid (dn = cN (fun i => (x i).kind = 3) (fun i => .int .i64 (x i).seq) (.int .i64 r.seq) k):=hdn2;rw [← hdn2] at hlook hdn
  have hwd:IntKind.i64.wrap ((dn:Int) + 1) = (dn:Int) + 1:=by rw [IntKind.wrap_i64];omega
  obtain ⟨w',hrun,M,G,S⟩:=M4.put keyI Tryz.underlying110 (by unfold maxLen;omega) hkl (.int .i64 ((dn:Int) + 1))
  have n34:b3 ≠ b4:=fun e => by have:=HL3.out.nd;simp at this;omega
  have HN3:Hid (MapV w' 162 b3 (k + 1) (putF (donF x k) (.agg #[.int .i64 r.seq,.int .i64 r.group]) (.int .i64 ((cn:Int) + 1)))):=M3.block (G.block b3 M3.lt (fun e => n34 (by cases e;rfl)));have HN4:Hid (MapV w' 2 b4 (k + 1) (putF (endF x k) (.int .i64 r.seq) (.int .i64 ((dn:Int) + 1)))):=M
  have HE:Hid (∀ b,b < W2.drew.heap.size → b ∉ [b3,b4] → w'.heap[b]? = W2.drew.heap[b]?):=fun b hb hn => by
    simp at hn
    exact (G.block b (by rw [Z7];exact hb) (fun e => hn.2 (by cases e;rfl))).trans (E7 b hb hn.1)
  have HBE:Hid (Below lo w w'):=B7.trans ⟨G.os,G.tape,G.output,G.size,fun b hb => G.block b (by have:=B7.size;omega) (fun e => by cases e;have:=HL3.out.low;omega)⟩;clear M G M3 M4 X7 B7 E7 hkl hdn2 HM3 HM4 HX6 HY6 HB6 HE6
  simp only [List.take_succ_cons,List.take_zero,List.drop_succ_cons,List.drop_zero]
  repeat still_step
  refine wpStill_nil ?_;go_wp2;refine bodyPost_end (v:=.tuple #[]) (by simp [results,Tryz.results78]) rfl ?_
  exact ⟨rfl,⟨_,HL3.out.next (T:=[b3,b4]) HE.out (fun b hb => by simp at hb ⊢;omega)
    (by rw [show newF x ce (k + 1) = newF x ce k from lastF_skip (show ¬ (x k).kind = 1 by rw [HX.out,HKD.out];decide)];exact (HL3.out.m1.block (HE.out b1 HL3.out.m1.lt (by have:=HL3.out.nd;simp at this ⊢;omega))).mono (Nat.le_succ k))
    (by rw [show movF x (k + 1) = movF x k from cntF_skip (show ¬ (x k).kind = 2 by rw [HX.out,HKD.out];decide)];exact (HL3.out.m2.block (HE.out b2 HL3.out.m2.lt (by have:=HL3.out.nd;simp at this ⊢;omega))).mono (Nat.le_succ k))
    (by rw [show donF x (k + 1) = putF (donF x k) (.agg #[.int .i64 (x k).seq,.int .i64 (x k).group]) (.int .i64 ((cN (fun i => (x i).kind = 3) (fun i => .agg #[.int .i64 (x i).seq,.int .i64 (x i).group]) (.agg #[.int .i64 (x k).seq,.int .i64 (x k).group]) k:Int) + 1)) from cntF_put (show (x k).kind = 3 by rw [HX.out,HKD.out]),HX.out,← HCN.out];exact HN3.out)
    (by rw [show endF x (k + 1) = putF (endF x k) (.int .i64 (x k).seq) (.int .i64 ((cN (fun i => (x i).kind = 3) (fun i => .int .i64 (x i).seq) (.int .i64 (x k).seq) k:Int) + 1)) from cntF_put (show (x k).kind = 3 by rw [HX.out,HKD.out]),HX.out,← HDN.out];exact HN4.out)
    (by rw [show shaF x (k + 1) = shaF x k from lastF_skip (show ¬ (x k).kind = 4 by rw [HX.out,HKD.out];decide)];exact (HL3.out.m5.block (HE.out b5 HL3.out.m5.lt (by have:=HL3.out.nd;simp at this ⊢;omega))).mono (Nat.le_succ k)),⟨HLO.out,fun b hb hT hv => (HE.out b (Nat.lt_of_lt_of_le hb HZ3.out) (fun q => hT (by simp at q ⊢;omega))).trans (HA3.out b hb (fun e => hT (by rw [e];simp)) hv)⟩⟩,HBE.out⟩
end Go.Proofs.YtbjkjcfodljamaaGreat
namespace Go.Proofs.YtbjkjcfodljamaaGreat
open Go.RowKit F256
def SameI (n m:Nat) (f g:Nat → Int):Prop:=n = m ∧ ∀ i,i < n → f i = g i
set_option maxHeartbeats 1000000 in
theorem l6Nums_any (v1 v2:Value) (n m:Nat) (f g:Nat → Int) (h1 h2:Nat) (w:World) (r1:RdI w h1 v1 n f) (r2:RdI w h2 v2 m g) :
    Calls Tryz.prog 131 #[v1,v2] w (BoolP (SameI n m f g) w):=by
  obtain ⟨ao,cap,rfl,hm,hc⟩:=r1;obtain ⟨ao2,cap2,rfl,hm2,hc2⟩:=r2;unfold maxLen at hm hm2
  by_cases hnm:n = m
  · subst hnm
    go_enter Tryz.func131,Tryz.ntmps131
    go_wp2
    go_loopw [5] (fun i wr => ∃ k:Nat,k ≤ n ∧ i = .int .i64 k ∧ (∀ i,i < k → f i = g i) ∧ ∃ m,wr = w.drewN m) (fun i _ => n - (intOf i).toNat)
    case atStart => exact ⟨0,Nat.zero_le _,rfl,fun i hi => by omega,0,rfl⟩
    case round =>
      obtain ⟨k,hk,rfl,hall,q,rfl⟩:=hrel;have HALL:Hid (∀ i,i < k → f i = g i):=hall;clear hall
      by_cases hlt:k < n
      · obtain ⟨b,off,rfl,hblt,hcell⟩:=hc (by omega)
        obtain ⟨b2,off2,rfl,hblt2,hcell2⟩:=hc2 (by omega);have hck:w.cell? ⟨b,off + k,none⟩ = some (.int .i64 (f k)):=hcell k hlt;have hck2:w.cell? ⟨b2,off2 + k,none⟩ = some (.int .i64 (g k)):=hcell2 k hlt;obtain ⟨x,hx⟩:∃ x,x = f k:=⟨_,rfl⟩;obtain ⟨y,hy⟩:∃ y,y = g k:=⟨_,rfl⟩;have HX:Hid (x = f k):=hx;have HY:Hid (y = g k):=hy;rw [← hx] at hck;rw [← hy] at hck2;clear hc hc2 hcell hcell2 hx hy
        by_cases heq:x = y
        · subst heq
          go_wp2
          go_quiet (fail)
          go_wp2
          go_roundw
          case rel => exact ⟨k + 1,by omega,by go_num,fun i hi => by
                        by_cases c:i = k
                        · rw [c,← HX.out,← HY.out]
                        · exact HALL.out i (by omega),_,rfl⟩
          case measure => simp [intOf];omega
        · have tn:(x != y) = true:=by simp;omega
          go_wp2
          go_quiet (fail)
          go_wp2;go_ret;exact boolNo rfl (fun h => absurd (h.2 k hlt) (by rw [← HX.out,← HY.out];exact heq)) (below_drewN (below_drewN (Below.refl _ _) _) _)
      · have hkn:k = n:=by omega
        subst hkn;go_wp2;go_ret;exact boolYes rfl ⟨rfl,HALL.out⟩ (below_drewN (Below.refl _ _) _)
  · have tn:((n:Int) != (m:Int)) = true:=by simp;omega
    clear hc hc2
    go_enter Tryz.func131,Tryz.ntmps131
    go_wp2;go_ret;exact boolNo rfl (fun h => hnm h.1) (Below.refl _ _)
set_option maxHeartbeats 1000000 in
theorem equalB_any (v1 v2:Value) (n m:Nat) (f g:Nat → Nat) (h1 h2:Nat) (w:World) (r1:Rd w h1 v1 n f) (r2:Rd w h2 v2 m g) :
    Calls Tryz.prog 167 #[v1,v2] w (BoolP (SameP n m f g) w):=by
  obtain ⟨ao,cap,rfl,hm,hc⟩:=r1;obtain ⟨ao2,cap2,rfl,hm2,hc2⟩:=r2;unfold maxLen at hm hm2
  by_cases hnm:n = m
  · subst hnm
    go_enter Tryz.func167,Tryz.ntmps167
    go_wp2
    go_loopw [13] (fun i wr => ∃ k:Nat,k ≤ n ∧ i = .int .i64 k ∧ (∀ i,i < k → f i = g i) ∧ ∃ m,wr = w.drewN m) (fun i _ => n - (intOf i).toNat)
    case atStart => exact ⟨0,Nat.zero_le _,rfl,fun i hi => by omega,0,rfl⟩
    case round =>
      obtain ⟨k,hk,rfl,hall,q,rfl⟩:=hrel;have HALL:Hid (∀ i,i < k → f i = g i):=hall;clear hall
      by_cases hlt:k < n
      · obtain ⟨b,off,rfl,hblt,hcell⟩:=hc (by omega)
        obtain ⟨b2,off2,rfl,hblt2,hcell2⟩:=hc2 (by omega);have hck:w.cell? ⟨b,off + k,none⟩ = some (.int .u8 (f k)):=hcell k hlt;have hck2:w.cell? ⟨b2,off2 + k,none⟩ = some (.int .u8 (g k)):=hcell2 k hlt;obtain ⟨x,hx⟩:∃ x,x = f k:=⟨_,rfl⟩;obtain ⟨y,hy⟩:∃ y,y = g k:=⟨_,rfl⟩;have HX:Hid (x = f k):=hx;have HY:Hid (y = g k):=hy;rw [← hx] at hck;rw [← hy] at hck2;clear hc hc2 hcell hcell2 hx hy
        by_cases heq:x = y
        · subst heq
          go_wp2
          go_quiet (fail)
          go_wp2
          go_roundw
          case rel => exact ⟨k + 1,by omega,by go_num,fun i hi => by
                        by_cases c:i = k
                        · rw [c,← HX.out,← HY.out]
                        · exact HALL.out i (by omega),_,rfl⟩
          case measure => simp [intOf];omega
        · have tn:((x:Int) != (y:Int)) = true:=by simp;omega
          go_wp2
          go_quiet (fail)
          go_wp2;go_ret;exact boolNo rfl (fun h => absurd (h.2 k hlt) (by rw [← HX.out,← HY.out];exact heq)) (below_drewN (below_drewN (Below.refl _ _) _) _)
      · have hkn:k = n:=by omega
        subst hkn;go_wp2;go_ret;exact boolYes rfl ⟨rfl,HALL.out⟩ (below_drewN (Below.refl _ _) _)
  · have tn:((n:Int) != (m:Int)) = true:=by simp;omega
    clear hc hc2
    go_enter Tryz.func167,Tryz.ntmps167
    go_wp2;go_ret;exact boolNo rfl (fun h => hnm h.1) (Below.refl _ _)
set_option maxHeartbeats 1000000 in
theorem equalI_any (v1 v2:Value) (n m:Nat) (f g:Nat → Int) (h1 h2:Nat) (w:World) (r1:RdI w h1 v1 n f) (r2:RdI w h2 v2 m g) :
    Calls Tryz.prog 166 #[v1,v2] w (BoolP (SameI n m f g) w):=by
  obtain ⟨ao,cap,rfl,hm,hc⟩:=r1;obtain ⟨ao2,cap2,rfl,hm2,hc2⟩:=r2;unfold maxLen at hm hm2
  by_cases hnm:n = m
  · subst hnm
    go_enter Tryz.func166,Tryz.ntmps166
    go_wp2
    go_loopw [13] (fun i wr => ∃ k:Nat,k ≤ n ∧ i = .int .i64 k ∧ (∀ i,i < k → f i = g i) ∧ ∃ m,wr = w.drewN m) (fun i _ => n - (intOf i).toNat)
    case atStart => exact ⟨0,Nat.zero_le _,rfl,fun i hi => by omega,0,rfl⟩
    case round =>
      obtain ⟨k,hk,rfl,hall,q,rfl⟩:=hrel;have HALL:Hid (∀ i,i < k → f i = g i):=hall;clear hall
      by_cases hlt:k < n
      · obtain ⟨b,off,rfl,hblt,hcell⟩:=hc (by omega)
        obtain ⟨b2,off2,rfl,hblt2,hcell2⟩:=hc2 (by omega);have hck:w.cell? ⟨b,off + k,none⟩ = some (.int .i64 (f k)):=hcell k hlt;have hck2:w.cell? ⟨b2,off2 + k,none⟩ = some (.int .i64 (g k)):=hcell2 k hlt;obtain ⟨x,hx⟩:∃ x,x = f k:=⟨_,rfl⟩;obtain ⟨y,hy⟩:∃ y,y = g k:=⟨_,rfl⟩;have HX:Hid (x = f k):=hx;have HY:Hid (y = g k):=hy;rw [← hx] at hck;rw [← hy] at hck2;clear hc hc2 hcell hcell2 hx hy
        by_cases heq:x = y
        · subst heq
          go_wp2
          go_quiet (fail)
          go_wp2
          go_roundw
          case rel => exact ⟨k + 1,by omega,by go_num,fun i hi => by
                        by_cases c:i = k
                        · rw [c,← HX.out,← HY.out]
                        · exact HALL.out i (by omega),_,rfl⟩
          case measure => simp [intOf];omega
        · have tn:(x != y) = true:=by simp;omega
          go_wp2
          go_quiet (fail)
          go_wp2;go_ret;exact boolNo rfl (fun h => absurd (h.2 k hlt) (by rw [← HX.out,← HY.out];exact heq)) (below_drewN (below_drewN (Below.refl _ _) _) _)
      · have hkn:k = n:=by omega
        subst hkn;go_wp2;go_ret;exact boolYes rfl ⟨rfl,HALL.out⟩ (below_drewN (Below.refl _ _) _)
  · have tn:((n:Int) != (m:Int)) = true:=by simp;omega
    clear hc hc2
    go_enter Tryz.func166,Tryz.ntmps166
    go_wp2;go_ret;exact boolNo rfl (fun h => hnm h.1) (Below.refl _ _)
end Go.Proofs.YtbjkjcfodljamaaGreat
namespace Go.Proofs.YtbjkjcfodljamaaGreat
open Go.RowKit F256
theorem toList_inj {a b:ByteArray}:a.toList = b.toList ↔ a = b:=by
  constructor
  · intro h
    rw [ByteArray.toList_eq,ByteArray.toList_eq] at h
    cases a
    cases b
    congr
    exact Array.toList_inj.1 h
  · intro h;rw [h]
structure SameR (a b:RecD):Prop where
  kind:a.kind = b.kind
  seq:a.seq = b.seq
  name:a.name = b.name
  length:a.length = b.length
  group:a.group = b.group
  row:a.row = b.row
  rows:SameI a.rows.1 b.rows.1 a.rows.2 b.rows.2
  data:SameP a.data.1 b.data.1 a.data.2 b.data.2
  delta:SameP a.delta.1 b.delta.1 a.delta.2 b.delta.2
set_option maxHeartbeats 8000000 in
set_option maxRecDepth 20000 in
theorem specSame_any (a b:RecD) (c1 c2:List Value) (h1 h2:Nat) (w:World) (r1:layRec.rd w h1 a c1) (r2:layRec.rd w h2 b c2) (u1:h1 ≤ w.heap.size) (u2:h2 ≤ w.heap.size) :
    Calls Tryz.prog 104 #[.agg c1.toArray,.agg c2.toArray] w (BoolP (SameR a b) w):=by
  obtain ⟨xo6,xc6,xo7,xc7,xo8,xc8,rfl,p6,p7,p8,-⟩:=Rec_rd r1;obtain ⟨yo6,yc6,yo7,yc7,yo8,yc8,rfl,q6,q7,q8,-⟩:=Rec_rd r2;obtain ⟨_,e,⟨p6,_⟩,_⟩:=p6
  cases e
  obtain ⟨_,e,⟨q6,_⟩,_⟩:=q6
  cases e
  obtain ⟨_,e,p7,_⟩:=p7
  cases e
  obtain ⟨_,e,q7,_⟩:=q7
  cases e
  obtain ⟨_,e,p8,_⟩:=p8
  cases e
  obtain ⟨_,e,q8,_⟩:=q8
  cases e
  clear r1 r2;have T0:=two_newb w #[.int .i64 a.kind,.int .i64 a.seq,.string a.name,.int .i64 a.length,.int .i64 a.group,.int .i64 a.row,.slice xo6 a.rows.1 xc6,.slice xo7 a.data.1 xc7,.slice xo8 a.delta.1 xc8] #[.int .i64 b.kind,.int .i64 b.seq,.string b.name,.int .i64 b.length,.int .i64 b.group,.int .i64 b.row,.slice yo6 b.rows.1 yc6,.slice yo7 b.data.1 yc7,.slice yo8 b.delta.1 yc8] 81 81;have HT0:Hid (Two w ((w.alloc (.cells #[.int .i64 a.kind,.int .i64 a.seq,.string a.name,.int .i64 a.length,.int .i64 a.group,.int .i64 a.row,.slice xo6 a.rows.1 xc6,.slice xo7 a.data.1 xc7,.slice xo8 a.delta.1 xc8] 81)).alloc (.cells #[.int .i64 b.kind,.int .i64 b.seq,.string b.name,.int .i64 b.length,.int .i64 b.group,.int .i64 b.row,.slice yo6 b.rows.1 yc6,.slice yo7 b.data.1 yc7,.slice yo8 b.delta.1 yc8] 81)) #[.int .i64 a.kind,.int .i64 a.seq,.string a.name,.int .i64 a.length,.int .i64 a.group,.int .i64 a.row,.slice xo6 a.rows.1 xc6,.slice xo7 a.data.1 xc7,.slice xo8 a.delta.1 xc8] #[.int .i64 b.kind,.int .i64 b.seq,.string b.name,.int .i64 b.length,.int .i64 b.group,.int .i64 b.row,.slice yo6 b.rows.1 yc6,.slice yo7 b.data.1 yc7,.slice yo8 b.delta.1 yc8] 81 81):=T0;obtain ⟨e0,he0⟩:∃ t,(a.kind == b.kind) = t:=⟨_,rfl⟩
  have HE0:Hid (e0 = true ↔ a.kind = b.kind):=by show _ ↔ _;rw [← he0];exact beq_iff_eq
  obtain ⟨e1,he1⟩:∃ t,(a.seq == b.seq) = t:=⟨_,rfl⟩
  have HE1:Hid (e1 = true ↔ a.seq = b.seq):=by show _ ↔ _;rw [← he1];exact beq_iff_eq
  obtain ⟨e2,he2⟩:∃ t,(a.name.toList == b.name.toList) = t:=⟨_,rfl⟩
  have HE2:Hid (e2 = true ↔ a.name = b.name):=by show _ ↔ _;rw [← he2,beq_iff_eq];exact toList_inj
  have he2':decide (a.name.toList = b.name.toList) = e2:=by rw [← he2,Bool.eq_iff_iff];simp
  obtain ⟨e3,he3⟩:∃ t,(a.length == b.length) = t:=⟨_,rfl⟩
  have HE3:Hid (e3 = true ↔ a.length = b.length):=by show _ ↔ _;rw [← he3];exact beq_iff_eq
  obtain ⟨e4,he4⟩:∃ t,(a.group == b.group) = t:=⟨_,rfl⟩
  have HE4:Hid (e4 = true ↔ a.group = b.group):=by show _ ↔ _;rw [← he4];exact beq_iff_eq
  obtain ⟨e5,he5⟩:∃ t,(a.row == b.row) = t:=⟨_,rfl⟩
  have HE5:Hid (e5 = true ↔ a.row = b.row):=by show _ ↔ _;rw [← he5];exact beq_iff_eq
  obtain ⟨t6,ht6⟩:=exB (SameI a.rows.1 b.rows.1 a.rows.2 b.rows.2);obtain ⟨t7,ht7⟩:=exB (SameP a.data.1 b.data.1 a.data.2 b.data.2);obtain ⟨t8,ht8⟩:=exB (SameP a.delta.1 b.delta.1 a.delta.2 b.delta.2);have C6:=fun (w':World) (hb:Below w.heap.size w w') => det_b (l6Nums_any _ _ a.rows.1 b.rows.1 a.rows.2 b.rows.2 h1 h2 w' (p6.below hb u1) (q6.below hb u2)) ht6;have C7:=fun (w':World) (hb:Below w.heap.size w w') => det_b (l2Same_any _ _ a.data.1 b.data.1 a.data.2 b.data.2 h1 h2 w' (p7.below hb u1) (q7.below hb u2)) ht7;have C8:=fun (w':World) (hb:Below w.heap.size w w') => det_b (l2Same_any _ _ a.delta.1 b.delta.1 a.delta.2 b.delta.2 h1 h2 w' (p8.below hb u1) (q8.below hb u2)) ht8;have HT6:Hid (t6 = true ↔ SameI a.rows.1 b.rows.1 a.rows.2 b.rows.2):=ht6;have HT7:Hid (t7 = true ↔ SameP a.data.1 b.data.1 a.data.2 b.data.2):=ht7;have HT8:Hid (t8 = true ↔ SameP a.delta.1 b.delta.1 a.delta.2 b.delta.2):=ht8;clear p6 p7 p8 q6 q7 q8 ht6 ht7 ht8
  go_enter Tryz.func104,Tryz.ntmps104
  cases e0 with
  | false =>
    go_wp2;go_ret;exact boolNo rfl (fun h => by have:=HE0.out.2 h.kind;simp at this) HT0.out.bel
  | true =>
  cases e1 with
  | false =>
    go_wp2;go_ret;exact boolNo rfl (fun h => by have:=HE1.out.2 h.seq;simp at this) HT0.out.bel
  | true =>
  cases e2 with
  | false =>
    go_wp2;go_ret;exact boolNo rfl (fun h => by have:=HE2.out.2 h.name;simp at this) HT0.out.bel
  | true =>
  cases e3 with
  | false =>
    go_wp2;go_ret;exact boolNo rfl (fun h => by have:=HE3.out.2 h.length;simp at this) HT0.out.bel
  | true =>
  cases e4 with
  | false =>
    go_wp2;go_ret;exact boolNo rfl (fun h => by have:=HE4.out.2 h.group;simp at this) HT0.out.bel
  | true =>
  cases e5 with
  | false =>
    go_wp2;go_ret;exact boolNo rfl (fun h => by have:=HE5.out.2 h.row;simp at this) HT0.out.bel
  | true =>
  go_wp2_with fail
  refine (C6 _ HT0.out.bel).mono ?_;rintro e w6 ⟨rfl,b6⟩;have T6:=HT0.out.call b6
  cases t6 with
  | false =>
    have HB:Hid (Below w.heap.size w w6):=T6.bel;clear T6 b6;go_wp2;go_ret;exact boolNo rfl (fun h => by have:=HT6.out.2 h.rows;simp at this) HB.out
  | true =>
  have x7:w6.cell? ⟨w.heap.size,7,none⟩ = some (.slice xo7 a.data.1 xc7):=T6.b1.cell 7;have y7:w6.cell? ⟨w.heap.size + 1,7,none⟩ = some (.slice yo7 b.data.1 yc7):=T6.b2.cell 7
  go_wp2_with fail
  refine (C7 _ T6.bel).mono ?_;rintro e w7 ⟨rfl,b7⟩;have T7:=T6.call b7
  cases t7 with
  | false =>
    have HB:Hid (Below w.heap.size w w7):=T7.bel;clear T7 b7;go_wp2;go_ret;exact boolNo rfl (fun h => by have:=HT7.out.2 h.data;simp at this) HB.out
  | true =>
  have x8:w7.cell? ⟨w.heap.size,8,none⟩ = some (.slice xo8 a.delta.1 xc8):=T7.b1.cell 8;have y8:w7.cell? ⟨w.heap.size + 1,8,none⟩ = some (.slice yo8 b.delta.1 yc8):=T7.b2.cell 8
  go_wp2_with fail
  refine (C8 _ T7.bel).mono ?_;rintro e w8 ⟨rfl,b8⟩;have T8:=T7.call b8
  cases t8 with
  | false =>
    have HB:Hid (Below w.heap.size w w8):=T8.bel;clear T8 b8;go_wp2;go_ret;exact boolNo rfl (fun h => by have:=HT8.out.2 h.delta;simp at this) HB.out
  | true =>
  have HB:Hid (Below w.heap.size w w8):=T8.bel;clear T6 T7 T8 b6 b7 b8;go_wp2;go_ret;exact boolYes rfl ⟨HE0.out.1 (by simp),HE1.out.1 (by simp),HE2.out.1 (by simp),HE3.out.1 (by simp),HE4.out.1 (by simp),HE5.out.1 (by simp),HT6.out.1 (by simp),HT7.out.1 (by simp),HT8.out.1 (by simp)⟩ HB.out
set_option maxHeartbeats 8000000 in
set_option maxRecDepth 20000 in
theorem implSame_any (a b:RecD) (c1 c2:List Value) (h1 h2:Nat) (w:World) (r1:layRec.rd w h1 a c1) (r2:layRec.rd w h2 b c2) (u1:h1 ≤ w.heap.size) (u2:h2 ≤ w.heap.size) :
    Calls Tryz.prog 146 #[.agg c1.toArray,.agg c2.toArray] w (BoolP (SameR a b) w):=by
  obtain ⟨xo6,xc6,xo7,xc7,xo8,xc8,rfl,p6,p7,p8,-⟩:=Rec_rd r1;obtain ⟨yo6,yc6,yo7,yc7,yo8,yc8,rfl,q6,q7,q8,-⟩:=Rec_rd r2;obtain ⟨_,e,⟨p6,_⟩,_⟩:=p6
  cases e
  obtain ⟨_,e,⟨q6,_⟩,_⟩:=q6
  cases e
  obtain ⟨_,e,p7,_⟩:=p7
  cases e
  obtain ⟨_,e,q7,_⟩:=q7
  cases e
  obtain ⟨_,e,p8,_⟩:=p8
  cases e
  obtain ⟨_,e,q8,_⟩:=q8
  cases e
  clear r1 r2;have T0:=two_newb w #[.int .i64 a.kind,.int .i64 a.seq,.string a.name,.int .i64 a.length,.int .i64 a.group,.int .i64 a.row,.slice xo6 a.rows.1 xc6,.slice xo7 a.data.1 xc7,.slice xo8 a.delta.1 xc8] #[.int .i64 b.kind,.int .i64 b.seq,.string b.name,.int .i64 b.length,.int .i64 b.group,.int .i64 b.row,.slice yo6 b.rows.1 yc6,.slice yo7 b.data.1 yc7,.slice yo8 b.delta.1 yc8] 81 81;have HT0:Hid (Two w ((w.alloc (.cells #[.int .i64 a.kind,.int .i64 a.seq,.string a.name,.int .i64 a.length,.int .i64 a.group,.int .i64 a.row,.slice xo6 a.rows.1 xc6,.slice xo7 a.data.1 xc7,.slice xo8 a.delta.1 xc8] 81)).alloc (.cells #[.int .i64 b.kind,.int .i64 b.seq,.string b.name,.int .i64 b.length,.int .i64 b.group,.int .i64 b.row,.slice yo6 b.rows.1 yc6,.slice yo7 b.data.1 yc7,.slice yo8 b.delta.1 yc8] 81)) #[.int .i64 a.kind,.int .i64 a.seq,.string a.name,.int .i64 a.length,.int .i64 a.group,.int .i64 a.row,.slice xo6 a.rows.1 xc6,.slice xo7 a.data.1 xc7,.slice xo8 a.delta.1 xc8] #[.int .i64 b.kind,.int .i64 b.seq,.string b.name,.int .i64 b.length,.int .i64 b.group,.int .i64 b.row,.slice yo6 b.rows.1 yc6,.slice yo7 b.data.1 yc7,.slice yo8 b.delta.1 yc8] 81 81):=T0;obtain ⟨e0,he0⟩:∃ t,(a.kind == b.kind) = t:=⟨_,rfl⟩
  have HE0:Hid (e0 = true ↔ a.kind = b.kind):=by show _ ↔ _;rw [← he0];exact beq_iff_eq
  obtain ⟨e1,he1⟩:∃ t,(a.seq == b.seq) = t:=⟨_,rfl⟩
  have HE1:Hid (e1 = true ↔ a.seq = b.seq):=by show _ ↔ _;rw [← he1];exact beq_iff_eq
  obtain ⟨e2,he2⟩:∃ t,(a.name.toList == b.name.toList) = t:=⟨_,rfl⟩
  have HE2:Hid (e2 = true ↔ a.name = b.name):=by show _ ↔ _;rw [← he2,beq_iff_eq];exact toList_inj
  have he2':decide (a.name.toList = b.name.toList) = e2:=by rw [← he2,Bool.eq_iff_iff];simp
  obtain ⟨e3,he3⟩:∃ t,(a.length == b.length) = t:=⟨_,rfl⟩
  have HE3:Hid (e3 = true ↔ a.length = b.length):=by show _ ↔ _;rw [← he3];exact beq_iff_eq
  obtain ⟨e4,he4⟩:∃ t,(a.group == b.group) = t:=⟨_,rfl⟩
  have HE4:Hid (e4 = true ↔ a.group = b.group):=by show _ ↔ _;rw [← he4];exact beq_iff_eq
  obtain ⟨e5,he5⟩:∃ t,(a.row == b.row) = t:=⟨_,rfl⟩
  have HE5:Hid (e5 = true ↔ a.row = b.row):=by show _ ↔ _;rw [← he5];exact beq_iff_eq
  obtain ⟨t6,ht6⟩:=exB (SameI a.rows.1 b.rows.1 a.rows.2 b.rows.2);obtain ⟨t7,ht7⟩:=exB (SameP a.data.1 b.data.1 a.data.2 b.data.2);obtain ⟨t8,ht8⟩:=exB (SameP a.delta.1 b.delta.1 a.delta.2 b.delta.2);have C6:=fun (w':World) (hb:Below w.heap.size w w') => det_b (equalI_any _ _ a.rows.1 b.rows.1 a.rows.2 b.rows.2 h1 h2 w' (p6.below hb u1) (q6.below hb u2)) ht6;have C7:=fun (w':World) (hb:Below w.heap.size w w') => det_b (equalB_any _ _ a.data.1 b.data.1 a.data.2 b.data.2 h1 h2 w' (p7.below hb u1) (q7.below hb u2)) ht7;have C8:=fun (w':World) (hb:Below w.heap.size w w') => det_b (equalB_any _ _ a.delta.1 b.delta.1 a.delta.2 b.delta.2 h1 h2 w' (p8.below hb u1) (q8.below hb u2)) ht8;have HT6:Hid (t6 = true ↔ SameI a.rows.1 b.rows.1 a.rows.2 b.rows.2):=ht6;have HT7:Hid (t7 = true ↔ SameP a.data.1 b.data.1 a.data.2 b.data.2):=ht7;have HT8:Hid (t8 = true ↔ SameP a.delta.1 b.delta.1 a.delta.2 b.delta.2):=ht8;clear p6 p7 p8 q6 q7 q8 ht6 ht7 ht8;obtain ⟨nb,hnb⟩:∃ t,t = (e0 && (e1 && (e3 && (e4 && e5)))):=⟨_,rfl⟩;have HNB:Hid (nb = (e0 && (e1 && (e3 && (e4 && e5))))):=hnb;obtain ⟨lb,hlb⟩:∃ t,t = (t6 && (t7 && t8)):=⟨_,rfl⟩;have HLB:Hid (lb = (t6 && (t7 && t8))):=hlb
  have HN:Hid (nb = true ↔ (a.kind = b.kind ∧ a.seq = b.seq ∧ a.length = b.length ∧ a.group = b.group ∧ a.row = b.row)):=by
    show _ ↔ _
    rw [HNB.out,Bool.and_eq_true,Bool.and_eq_true,Bool.and_eq_true,Bool.and_eq_true,HE0.out,HE1.out,HE3.out,HE4.out,HE5.out]
  have HL:Hid (lb = true ↔ (SameI a.rows.1 b.rows.1 a.rows.2 b.rows.2 ∧ SameP a.data.1 b.data.1 a.data.2 b.data.2 ∧ SameP a.delta.1 b.delta.1 a.delta.2 b.delta.2)):=by
    show _ ↔ _
    rw [HLB.out,Bool.and_eq_true,Bool.and_eq_true,HT6.out,HT7.out,HT8.out]
  clear hnb hlb
  go_enter Tryz.func146,Tryz.ntmps146
  go_upto_region 1 with fail
  obtain ⟨W0,hW0⟩:∃ x,x = (w.alloc (.cells #[.int .i64 a.kind,.int .i64 a.seq,.string a.name,.int .i64 a.length,.int .i64 a.group,.int .i64 a.row,.slice xo6 a.rows.1 xc6,.slice xo7 a.data.1 xc7,.slice xo8 a.delta.1 xc8] 81)).alloc (.cells #[.int .i64 b.kind,.int .i64 b.seq,.string b.name,.int .i64 b.length,.int .i64 b.group,.int .i64 b.row,.slice yo6 b.rows.1 yc6,.slice yo7 b.data.1 yc7,.slice yo8 b.delta.1 yc8] 81):=⟨_,rfl⟩;rw [← hW0] at T0 HT0 ⊢;clear hW0;have x_0:W0.cell? ⟨w.heap.size,0,none⟩ = some (.int .i64 a.kind):=T0.b1.cell 0;have x_1:W0.cell? ⟨w.heap.size,1,none⟩ = some (.int .i64 a.seq):=T0.b1.cell 1;have x_2:W0.cell? ⟨w.heap.size,2,none⟩ = some (.string a.name):=T0.b1.cell 2;have x_3:W0.cell? ⟨w.heap.size,3,none⟩ = some (.int .i64 a.length):=T0.b1.cell 3;have x_4:W0.cell? ⟨w.heap.size,4,none⟩ = some (.int .i64 a.group):=T0.b1.cell 4;have x_5:W0.cell? ⟨w.heap.size,5,none⟩ = some (.int .i64 a.row):=T0.b1.cell 5;have x_6:W0.cell? ⟨w.heap.size,6,none⟩ = some (.slice xo6 a.rows.1 xc6):=T0.b1.cell 6;have x_7:W0.cell? ⟨w.heap.size,7,none⟩ = some (.slice xo7 a.data.1 xc7):=T0.b1.cell 7;have x_8:W0.cell? ⟨w.heap.size,8,none⟩ = some (.slice xo8 a.delta.1 xc8):=T0.b1.cell 8;have y_0:W0.cell? ⟨w.heap.size + 1,0,none⟩ = some (.int .i64 b.kind):=T0.b2.cell 0;have y_1:W0.cell? ⟨w.heap.size + 1,1,none⟩ = some (.int .i64 b.seq):=T0.b2.cell 1;have y_2:W0.cell? ⟨w.heap.size + 1,2,none⟩ = some (.string b.name):=T0.b2.cell 2;have y_3:W0.cell? ⟨w.heap.size + 1,3,none⟩ = some (.int .i64 b.length):=T0.b2.cell 3;have y_4:W0.cell? ⟨w.heap.size + 1,4,none⟩ = some (.int .i64 b.group):=T0.b2.cell 4;have y_5:W0.cell? ⟨w.heap.size + 1,5,none⟩ = some (.int .i64 b.row):=T0.b2.cell 5;have y_6:W0.cell? ⟨w.heap.size + 1,6,none⟩ = some (.slice yo6 b.rows.1 yc6):=T0.b2.cell 6;have y_7:W0.cell? ⟨w.heap.size + 1,7,none⟩ = some (.slice yo7 b.data.1 yc7):=T0.b2.cell 7;have y_8:W0.cell? ⟨w.heap.size + 1,8,none⟩ = some (.slice yo8 b.delta.1 yc8):=T0.b2.cell 8;clear T0
  go_cut [5] (fun v wx => v = .bool nb ∧ wx = W0)
  case first =>
    cases e0 with
    | false =>
      go_wp2
      go_meet
      exact ⟨by rw [HNB.out];simp,rfl⟩
    | true =>
    cases e1 with
    | false =>
      go_wp2
      go_meet
      exact ⟨by rw [HNB.out];simp,rfl⟩
    | true =>
    cases e3 with
    | false =>
      go_wp2
      go_meet
      exact ⟨by rw [HNB.out];simp,rfl⟩
    | true =>
    cases e4 with
    | false =>
      go_wp2
      go_meet
      exact ⟨by rw [HNB.out];simp,rfl⟩
    | true =>
    cases e5 with
    | false =>
      go_wp2
      go_meet
      exact ⟨by rw [HNB.out];simp,rfl⟩
    | true =>
    go_wp2
    go_meet
    exact ⟨by rw [HNB.out];simp,rfl⟩
  case rest =>
    obtain ⟨rfl,rfl⟩:=hcut;clear he0 he1 he3 he4 he5
    go_upto_region 2 with fail
    go_cut [6] (fun v wx => v = .bool lb ∧ Below wc.heap.size wc wx)
    case first =>
      go_wp2_with fail
      refine (C6 _ HT0.out.bel).mono ?_;rintro e w6 ⟨rfl,b6⟩;have T6:=HT0.out.call b6;have B6:Hid (Below wc.heap.size wc w6):=b6
      cases t6 with
      | false =>
        clear T6 b6;go_wp2
        go_meet
        exact ⟨by rw [HLB.out];simp,B6.out⟩
      | true =>
      have x7':w6.cell? ⟨w.heap.size,7,none⟩ = some (.slice xo7 a.data.1 xc7):=T6.b1.cell 7;have y7':w6.cell? ⟨w.heap.size + 1,7,none⟩ = some (.slice yo7 b.data.1 yc7):=T6.b2.cell 7
      go_wp2_with fail
      refine (C7 _ T6.bel).mono ?_;rintro e w7 ⟨rfl,b7⟩;have T7:=T6.call b7;have B7:Hid (Below wc.heap.size wc w7):=B6.out.trans (b7.mono B6.out.size)
      cases t7 with
      | false =>
        clear T7 b7;go_wp2
        go_meet
        exact ⟨by rw [HLB.out];simp,B7.out⟩
      | true =>
      have x8':w7.cell? ⟨w.heap.size,8,none⟩ = some (.slice xo8 a.delta.1 xc8):=T7.b1.cell 8;have y8':w7.cell? ⟨w.heap.size + 1,8,none⟩ = some (.slice yo8 b.delta.1 yc8):=T7.b2.cell 8
      go_wp2_with fail
      refine (C8 _ T7.bel).mono ?_;rintro e w8 ⟨rfl,b8⟩;have T8:=T7.call b8;have B8:Hid (Below wc.heap.size wc w8):=B7.out.trans (b8.mono B7.out.size)
      cases t8 with
      | false =>
        clear T8 b8;go_wp2
        go_meet
        exact ⟨by rw [HLB.out];simp,B8.out⟩
      | true =>
      clear T6 T7 T8 b6 b7 b8;go_wp2
      go_meet
      exact ⟨by rw [HLB.out];simp,B8.out⟩
    case rest =>
      obtain ⟨rfl,b9⟩:=hcut;obtain ⟨w9,rfl⟩:∃ x,x = wc:=⟨_,rfl⟩;have T9:=HT0.out.call b9;have x2':w9.cell? ⟨w.heap.size,2,none⟩ = some (.string a.name):=T9.b1.cell 2;have y2':w9.cell? ⟨w.heap.size + 1,2,none⟩ = some (.string b.name):=T9.b2.cell 2;have HB:Hid (Below w.heap.size w w9):=T9.bel;clear T9 b9
      cases nb with
      | false =>
        go_wp2;go_ret;exact boolNo rfl (fun h => by have:=HN.out.2 ⟨h.kind,h.seq,h.length,h.group,h.row⟩;simp at this) HB.out
      | true =>
      cases e2 with
      | false =>
        go_wp2;go_ret;exact boolNo rfl (fun h => by have:=HE2.out.2 h.name;simp at this) HB.out
      | true =>
      cases lb with
      | false =>
        go_wp2;go_ret;exact boolNo rfl (fun h => by have:=HL.out.2 ⟨h.rows,h.data,h.delta⟩;simp at this) HB.out
      | true =>
        have N:=HN.out.1 (by simp);have M:=HL.out.1 (by simp);have HY:Hid (SameR a b):=⟨N.1,N.2.1,HE2.out.1 (by simp),N.2.2.1,N.2.2.2.1,N.2.2.2.2,M.1,M.2.1,M.2.2⟩;clear N M;go_wp2;go_ret;exact boolYes rfl HY.out HB.out
end Go.Proofs.YtbjkjcfodljamaaGreat
namespace Go.Proofs.YtbjkjcfodljamaaGreat
open Go.RowKit
section
variable {P:Program} {ops:Array Oper} {Q:Exit → Act → World → Prop} {md:Region.Mode} {S:World → Prop} {L:Nat}
theorem wpAnyM_firstN {i:Nat} {oi:Oper} {v:Value} (hi:ops[i]? = some oi) (hsel:∀ (j:Nat) (o:Oper) cs b,ops[j]? = some o → o.op ≠ .select cs b)
    (hQ:∀ c a w,Q (.panic c) (a.put oi.dst v) w → Q (.panic c) a w) (hN:ops.size ≤ L) :
    ∀ (fuel:Nat) (listed:Array Bool) (a:Act) (w:World),ClosedP md ops listed → listed.size = ops.size →
      (∀ j oj,ops[j]? = some oj → j ≠ i → listed.getD j true = false → (∀ e ∈ oj.after,Region.binds md e = true → e.on ≠ i) → oi.apart ops oj = true) →
      i ∈ Region.ready md ops listed → YieldsIf P ops S oi v a → S w →
      wpAnyM P md ops Q S L fuel (listed.setIfInBounds i true) (a.put oi.dst v) w → wpAnyM P md ops Q S L (fuel + 1) listed a w:=by
  intro fuel;have hil:i < ops.size:=(Array.getElem?_eq_some_iff.1 hi).1
  have hLi:L ≠ i:=by omega
  induction fuel with
  | zero =>
    intro listed a w _ _ _ hr hy hS H;refine ⟨fun h => (by rw [h] at hr;cases hr),fun j hj => ?_⟩
    by_cases hji:j = i
    · subst hji;exact hy.wpOp hi hS ⟨fun _ => hS,H⟩
    · have:=ready_mono hj hji
      rw [H.1] at this
      cases this
  | succ fuel ih =>
    intro listed a w hcl hls hfree hr hy hS H;refine ⟨fun h => (by rw [h] at hr;cases hr),fun j hj => ?_⟩
    by_cases hji:j = i
    · subst hji;exact hy.wpOp hi hS ⟨fun _ => hS,H⟩
    · have hjL:j ≠ L:=fun h => by
        obtain ⟨_,oj,hoj,_⟩:=mem_ready.1 hj;have:=(Array.getElem?_eq_some_iff.1 hoj).1;omega
      have h1:=H.2 j (ready_mono hj hji);obtain ⟨hjun,oj,hoj,hall⟩:=mem_ready.1 hj
      have hnot:∀ e ∈ oj.after,Region.binds md e = true → e.on ≠ i:=fun e he hb heq => by
        have h1:=hall e he hb;have h0:=unlisted_false (mem_ready.1 hr).1;rw [heq,h0] at h1
        cases h1
      have h2:=wpOp_putIf hoj (hfree j oj hoj hji hjun hnot) (fun cs b => hsel i oi cs b hi) (fun cs b => hsel j oj cs b hoj) hQ hy h1
      have hfree':∀ k ok,ops[k]? = some ok → k ≠ i → (listed.setIfInBounds j true).getD k true = false →
          (∀ e ∈ ok.after,Region.binds md e = true → e.on ≠ i) → oi.apart ops ok = true:=fun k ok hk hki hun hno => by
        refine hfree k ok hk hki ?_ hno
        by_cases hjk:j = k
        · subst hjk;exact hjun
        · rw [getD_set_ne true hjk] at hun;exact hun
      have hLn:(listed.setIfInBounds j true).getD L false = false:=by
        rw [getD_set_ne false hjL];rw [Array.getD_eq_getD_getElem?,Array.getElem?_eq_none (by omega)];rfl
      have hLn2:((listed.setIfInBounds i true).setIfInBounds j true).getD L false = false:=by
        rw [← Array.setIfInBounds_comm _ _ hji,getD_set_ne false (Ne.symm hLi)];exact hLn
      refine wpOp_mono (fun a' w' h3 => ⟨fun _ => h3.2.1 hLn2,ih (listed.setIfInBounds j true) a' w' (closed_step hcl hj) (by simp [hls]) hfree' (ready_mono hr (Ne.symm hji)) h3.1 (h3.2.1 hLn2) ?_⟩) h2;rw [Array.setIfInBounds_comm _ _ hji];exact h3.2.2
theorem wpAnyM_takeN {i:Nat} {oi:Oper} {v:Value} {fuel:Nat} {listed:Array Bool} {a:Act} {w:World} (hi:ops[i]? = some oi)
    (hs:(Region.noSelect ops && Region.free md ops listed i && (Region.ready md ops listed).contains i && decide (ops.size ≤ L) && decide (listed.size = ops.size) && closedB md ops listed) = true)
    (hQ:∀ c a w,Q (.panic c) (a.put oi.dst v) w → Q (.panic c) a w) (hy:YieldsIf P ops S oi v a) (hS:S w)
    (h:wpAnyM P md ops Q S L fuel (listed.setIfInBounds i true) (a.put oi.dst v) w):wpAnyM P md ops Q S L (fuel + 1) listed a w:=by
  simp only [Bool.and_eq_true,decide_eq_true_eq] at hs
  obtain ⟨⟨⟨⟨⟨h1,h2⟩,h3⟩,h4⟩,h5⟩,h6⟩:=hs;exact wpAnyM_firstN hi (Region.noSelect_spec h1) hQ h4 fuel listed a w (closed_of h6) h5 (Region.free_spec hi h2) (by simpa using h3) hy hS h
end
end Go.Proofs.YtbjkjcfodljamaaGreat