/- The records that count, each once, by their numbers: as lists of places. No Go in sight. -/
import Derived.Test.YtajibninhikdgaaGreatZPspentag
set_option linter.unusedVariables false
set_option linter.unusedSimpArgs false
set_option maxHeartbeats 16000000
namespace Go.Proofs.YtajibninhikdgaaGreat
open Go.RowKit F256
theorem zc5 {l:List Nat} {i:Nat} (h:i<l.length):l.getD i 0=l[i]:=by rw [List.getD_eq_getElem?_getD,List.getElem?_eq_getElem h];rfl
theorem SameR.symm {a b:RecD} (h:SameR a b):SameR b a:=by
 obtain ⟨h1,h2,h3,h4,h5,h6,⟨e7,h7⟩,⟨e8,h8⟩,⟨e9,h9⟩⟩:=h;exact ⟨h1.symm,h2.symm,h3.symm,h4.symm,h5.symm,h6.symm,⟨e7.symm,fun i hi=>(h7 i (by omega)).symm⟩,⟨e8.symm,fun i hi=>(h8 i (by omega)).symm⟩,⟨e9.symm,fun i hi=>(h9 i (by omega)).symm⟩⟩
theorem SameR.trans {a b c:RecD} (h:SameR a b) (k:SameR b c):SameR a c:=by
 obtain ⟨h1,h2,h3,h4,h5,h6,⟨e7,h7⟩,⟨e8,h8⟩,⟨e9,h9⟩⟩:=h;obtain ⟨k1,k2,k3,k4,k5,k6,⟨f7,k7⟩,⟨f8,k8⟩,⟨f9,k9⟩⟩:=k;exact ⟨h1.trans k1,h2.trans k2,h3.trans k3,h4.trans k4,h5.trans k5,h6.trans k6,⟨e7.trans f7,fun i hi=>(h7 i hi).trans (k7 i (by omega))⟩,⟨e8.trans f8,fun i hi=>(h8 i hi).trans (k8 i (by omega))⟩,⟨e9.trans f9,fun i hi=>(h9 i hi).trans (k9 i (by omega))⟩⟩
theorem SameR.num {a b:RecD} (h:SameR a b):numC a b=0:=zcG.2 ⟨h.seq,h.kind,h.group⟩
def Fst (x0:Nat→RecD) (i:Nat):Prop:=∀ j,j<i→¬ SameR (x0 j) (x0 i)
theorem zjR {x0:Nat→RecD}:∀ {i j:Nat},j<i→SameR (x0 j) (x0 i)→∃ j0,j0<i∧SameR (x0 j0) (x0 i)∧Fst x0 j0:=by
 intro i j
 induction j using Nat.strongRecOn with
 | _ j ih=>
  intro hj hs
  by_cases c:Fst x0 j
  ·exact ⟨j,hj,hs,c⟩
  ·obtain ⟨k,hk⟩:∃ k,¬ (k<j→¬ SameR (x0 k) (x0 j)):=Classical.not_forall.1 c
   have h1:k<j:=Classical.byContradiction fun h=>hk (fun h'=>absurd h' h);have h2:SameR (x0 k) (x0 j):=Classical.byContradiction fun h=>hk (fun _=>h);exact ih k h1 (by omega) (h2.trans hs)
theorem zlR {lt:Nat→Nat→Prop} (O:Sym.Ord lt):∀ l l':List Nat,l.Pairwise lt→l'.Pairwise lt→(∀ i,i∈l↔i∈l')→l=l'
 | [],[],_,_,_=>rfl
 | [],b::t,_,_,h=>absurd ((h b).2 (by simp)) (by simp)
 | a::t,[],_,_,h=>absurd ((h a).1 (by simp)) (by simp)
 | a::s,b::t,h1,h2,h=>by
  obtain ⟨p1,p2⟩:=List.pairwise_cons.1 h1;obtain ⟨q1,q2⟩:=List.pairwise_cons.1 h2
  have e:a=b:=by
   rcases List.mem_cons.1 ((h a).1 (by simp)) with e | m
   ·exact e
   ·rcases List.mem_cons.1 ((h b).2 (by simp)) with e | m'
    ·exact e.symm
    ·exact absurd (O.trans (q1 a m) (p1 b m')) (O.irr _)
  subst e;rw [zlR O s t p2 q2 (fun i=>⟨fun m=>?_,fun m=>?_⟩)]
  ·rcases List.mem_cons.1 ((h i).1 (List.mem_cons_of_mem _ m)) with e | m'
   ·subst e;exact absurd (p1 _ m) (O.irr _)
   ·exact m'
  ·rcases List.mem_cons.1 ((h i).2 (List.mem_cons_of_mem _ m)) with e | m'
   ·subst e;exact absurd (q1 _ m) (O.irr _)
   ·exact m'
structure Cnt (x0:Nat→RecD) (N:Nat) (l:List Nat):Prop where
 srt:l.Pairwise (numL x0)
 mem:∀ i,i∈l↔(i<N∧Fst x0 i)
theorem Cnt.uniq {x0:Nat→RecD} {N:Nat} {l l':List Nat} (h:Cnt x0 N l) (h':Cnt x0 N l'):l=l':=zlR (zbo x0) l l' h.srt h'.srt fun i=>by rw [h.mem,h'.mem]
theorem Cnt.nil (x0:Nat→RecD):Cnt x0 0 []:=⟨List.Pairwise.nil,fun i=>by simp⟩
theorem Cnt.has {x0:Nat→RecD} {N:Nat} {l:List Nat} (h:Cnt x0 N l):(∃ o,o∈l∧SameR (x0 o) (x0 N))↔¬ Fst x0 N:=by
 constructor
 ·rintro ⟨o,ho,hs⟩ hf
  exact hf o ((h.mem o).1 ho).1 hs
 ·intro hf
  obtain ⟨k,hk⟩:∃ k,¬ (k<N→¬ SameR (x0 k) (x0 N)):=Classical.not_forall.1 hf;have h1:k<N:=Classical.byContradiction fun h=>hk (fun h'=>absurd h' h);have h2:SameR (x0 k) (x0 N):=Classical.byContradiction fun h=>hk (fun _=>h);obtain ⟨j0,a,b,c⟩:=zjR h1 h2;exact ⟨j0,(h.mem j0).2 ⟨a,c⟩,b⟩
theorem Cnt.skip {x0:Nat→RecD} {N:Nat} {l:List Nat} (h:Cnt x0 N l) (hf:¬ Fst x0 N):Cnt x0 (N+1) l:=⟨h.srt,fun i=>by
 rw [h.mem]
 constructor
 ·rintro ⟨a,b⟩;exact ⟨by omega,b⟩
 ·rintro ⟨a,b⟩
  refine ⟨?_,b⟩
  by_cases c:i=N
  ·subst c;exact absurd b hf
  ·omega⟩
theorem Cnt.ins {x0:Nat→RecD} {N:Nat} {l:List Nat} (h:Cnt x0 N l) (hf:Fst x0 N) (at_:Nat) (ha:at_≤l.length)
 (hb:∀ k,at_≤k→k<l.length→numC (x0 N) (x0 (l.getD k 0))<0) (hs:at_=0∨¬ numC (x0 N) (x0 (l.getD (at_-1) 0))<0):Cnt x0 (N+1) (l.take at_++N::l.drop at_):=by
 have hD:∀ o,o∈l.drop at_→numL x0 N o:=fun o ho=>by
  obtain ⟨k,hk,rfl⟩:=List.mem_iff_getElem.1 ho;rw [List.getElem_drop]
  have hk':at_+k<l.length:=by rw [List.length_drop] at hk;omega
  have:=hb (at_+k) (by omega) hk';rw [zc5 hk'] at this;exact zeO this
 have hT:∀ o,o∈l.take at_→numL x0 o N:=fun o ho=>by
  obtain ⟨k,hk,rfl⟩:=List.mem_iff_getElem.1 ho;rw [List.getElem_take];rw [List.length_take] at hk
  have h1:at_-1<l.length:=by omega
  rcases hs with hs | hs
  ·omega
  ·rw [zc5 h1] at hs
   have hlt:l[at_-1]<N:=((h.mem _).1 (List.getElem_mem h1)).1;have hl:=zgH hlt hs
   by_cases c:k=at_-1
   ·subst c;exact hl
   ·exact (zbo x0).trans (List.pairwise_iff_getElem.1 h.srt k (at_-1) (by omega) h1 (by omega)) hl
 refine ⟨?_,fun i=>?_⟩
 ·rw [List.pairwise_append]
  refine ⟨h.srt.sublist (List.take_sublist _ _),List.pairwise_cons.2 ⟨hD,h.srt.sublist (List.drop_sublist _ _)⟩,fun a ha b hb=>?_⟩
  rcases List.mem_cons.1 hb with rfl | hb
  ·exact hT a ha
  ·exact (zbo x0).trans (hT a ha) (hD b hb)
 ·rw [List.mem_append,List.mem_cons]
  have e:i∈l↔(i∈l.take at_∨i∈l.drop at_):=by
   conv=>lhs;rw [← List.take_append_drop at_ l]
   exact List.mem_append
  have hm:=h.mem i;rw [e] at hm
  constructor
  ·rintro (a | rfl | a)
   ·have:=hm.1 (.inl a);exact ⟨by omega,this.2⟩
   ·exact ⟨by omega,hf⟩
   ·have:=hm.1 (.inr a);exact ⟨by omega,this.2⟩
  ·rintro ⟨a,b⟩
   by_cases c:i=N
   ·exact .inr (.inl c)
   ·rcases hm.2 ⟨by omega,b⟩ with a | a
    ·exact .inl a
    ·exact .inr (.inr a)
structure CntQ (x0:Nat→RecD) (q:Nat→Nat) (k:Nat) (l:List Nat):Prop where
 srt:l.Pairwise (numL x0)
 mem:∀ i,i∈l↔((∃ j,j<k∧q j=i)∧Fst x0 i)
theorem CntQ.nil (x0:Nat→RecD) (q:Nat→Nat):CntQ x0 q 0 []:=⟨List.Pairwise.nil,fun i=>by simp⟩
theorem zjS {N:Nat} {q:Nat→Nat} (h:Sym.Re 0 N (fun i=>i) q) {i:Nat} (hi:i<N):∃ j,j<N∧q j=i:=by
 obtain ⟨s,t,h1,h2,h3,h4⟩:=h;refine ⟨t i,?_,by rw [h1,h3]⟩
 by_cases c:t i<N
 ·exact c
 ·have:=h4 (t i) (by omega)
  rw [h3] at this;omega
theorem zjT {N:Nat} {q:Nat→Nat} (h:Sym.Re 0 N (fun i=>i) q) {i:Nat} (hi:i<N):q i<N:=by
 obtain ⟨j,⟨_,hj⟩,e⟩:=h.from (i:=i) ⟨by omega,hi⟩
 rw [e];exact hj
theorem CntQ.all {x0:Nat→RecD} {q:Nat→Nat} {N:Nat} {l:List Nat} (h:CntQ x0 q N l) (hR:Sym.Re 0 N (fun i=>i) q):Cnt x0 N l:=⟨h.srt,fun i=>by
 rw [h.mem]
 constructor
 ·rintro ⟨⟨j,hj,rfl⟩,b⟩;exact ⟨zjT hR hj,b⟩
 ·rintro ⟨a,b⟩;exact ⟨zjS hR a,b⟩⟩
structure Alk (x0:Nat→RecD) (l:List Nat) (al:Nat):Prop where
 nil:l=[]→al=0
 lt:l≠[]→al<l.length
 before:∀ e,e∈l.take al→∀ f,f∈l.drop al→numC (x0 e) (x0 f)<0
 after:∀ e,e∈l.drop al→∀ f,f∈l.drop al→numC (x0 e) (x0 f)=0
theorem Alk.start (x0:Nat→RecD):Alk x0 [] 0:=⟨fun _=>rfl,fun h=>absurd rfl h,fun e he=>by simp at he,fun e he=>by simp at he⟩
theorem ziT {a b c:RecD} (h:numC a b<0) (k:numC b c=0):numC a c<0:=by rw [zc4] at *;rw [zcG] at k;omega
theorem ziU {a b c:RecD} (h:numC a b=0) (k:numC b c<0):numC a c<0:=by rw [zc4] at *;rw [zcG] at h;omega
theorem ziV {a b c:RecD} (h:numC a b<0) (k:numC b c<0):numC a c<0:=by rw [zc4] at *;omega
theorem ziW {a b c:RecD} (h:numC a b=0) (k:numC b c=0):numC a c=0:=by rw [zcG] at *;omega
theorem zgJ (a:RecD):numC a a=0:=zcG.2 ⟨rfl,rfl,rfl⟩
theorem zkF {a b:RecD} (h:numC a b=0):numC b a=0:=by rw [zcG] at *;omega
section
variable {x0:Nat→RecD} {q:Nat→Nat} {N k:Nat} {l:List Nat} {al:Nat}
theorem CntQ.behind (h:CntQ x0 q k l) (hS:Sym.Srt (numL x0) q 0 N) (hk:k<N) {o:Nat} (ho:o∈l):numL x0 o (q k):=by
 obtain ⟨⟨j,hj,rfl⟩,_⟩:=(h.mem o).1 ho;exact hS j k (by omega) hj hk
theorem Alk.here (a:Alk x0 l al) (hne:l≠[]):l.getD al 0∈l.drop al:=by
 have:=a.lt hne;rw [zc5 this];exact List.mem_iff_getElem.2 ⟨0,by rw [List.length_drop];omega,by rw [List.getElem_drop];simp⟩
theorem Alk.fresh (a:Alk x0 l al) (h:CntQ x0 q k l) (hS:Sym.Srt (numL x0) q 0 N) (hk:k<N) (hne:l≠[]) (hn:numC (x0 (l.getD al 0)) (x0 (q k))≠0):∀ e,e∈l→numC (x0 e) (x0 (q k))<0:=by
 have hh:=a.here hne;have h1:=h.behind hS hk (List.mem_of_mem_drop hh)
 have h2:numC (x0 (l.getD al 0)) (x0 (q k))<0:=by
  rcases h1 with h1 | h1
  ·exact h1
  ·exact absurd h1.1 hn
 intro e he;rw [← List.take_append_drop al l] at he
 rcases List.mem_append.1 he with he | he
 ·exact ziV (a.before e he _ hh) h2
 ·exact ziU (a.after e he _ hh) h2
theorem CntQ.has (h:CntQ x0 q k l) (hS:Sym.Srt (numL x0) q 0 N) (hR:Sym.Re 0 N (fun i=>i) q) (hk:k<N) (hb:∀ e,e∈l.take al→numC (x0 e) (x0 (q k))<0):(∃ o,o∈l.drop al∧SameR (x0 o) (x0 (q k)))↔¬ Fst x0 (q k):=by
 constructor
 ·rintro ⟨o,ho,hs⟩ hf
  have:=h.behind hS hk (List.mem_of_mem_drop ho)
  rcases this with h1 | h1
  ·rw [hs.num] at h1;omega
  ·exact hf o h1.2 hs
 ·intro hf
  obtain ⟨m,hm⟩:∃ m,¬ (m<q k→¬ SameR (x0 m) (x0 (q k))):=Classical.not_forall.1 hf;have h1:m<q k:=Classical.byContradiction fun h=>hm (fun h'=>absurd h' h);have h2:SameR (x0 m) (x0 (q k)):=Classical.byContradiction fun h=>hm (fun _=>h);obtain ⟨j0,a,b,c⟩:=zjR h1 h2;have hqk:=zjT hR hk;obtain ⟨k0,hk0,e0⟩:=zjS hR (i:=j0) (by omega)
  have hlt:k0<k:=by
   by_cases c1:k0<k
   ·exact c1
   ·exfalso
    by_cases c2:k0=k
    ·subst c2;omega
    ·have h3:=hS k k0 (by omega) (by omega) hk0
     rw [e0] at h3;have h4:numL x0 j0 (q k):=.inr ⟨b.num,a⟩;exact (zbo x0).irr _ ((zbo x0).trans h3 h4)
  have hin:j0∈l:=(h.mem j0).2 ⟨⟨k0,hlt,e0⟩,c⟩;rw [← List.take_append_drop al l] at hin
  rcases List.mem_append.1 hin with hin | hin
  ·have:=hb j0 hin
   rw [b.num] at this;omega
  ·exact ⟨j0,hin,b⟩
theorem CntQ.skip (h:CntQ x0 q k l) (hf:¬ Fst x0 (q k)):CntQ x0 q (k+1) l:=⟨h.srt,fun i=>by
 rw [h.mem]
 constructor
 ·rintro ⟨⟨j,hj,e⟩,b⟩;exact ⟨⟨j,by omega,e⟩,b⟩
 ·rintro ⟨⟨j,hj,e⟩,b⟩
  refine ⟨⟨j,?_,e⟩,b⟩
  by_cases c:j=k
  ·subst c;rw [e] at hf;exact absurd b hf
  ·omega⟩
theorem CntQ.more (h:CntQ x0 q k l) (hS:Sym.Srt (numL x0) q 0 N) (hk:k<N) (hf:Fst x0 (q k)):CntQ x0 q (k+1) (l++[q k]):=⟨by
 rw [List.pairwise_append];refine ⟨h.srt,List.pairwise_singleton _ _,fun a ha b hb=>?_⟩;rw [List.mem_singleton] at hb;subst hb
 exact h.behind hS hk ha,fun i=>by
 rw [List.mem_append,List.mem_singleton,h.mem]
 constructor
 ·rintro (⟨⟨j,hj,e⟩,b⟩ | rfl)
  ·exact ⟨⟨j,by omega,e⟩,b⟩
  ·exact ⟨⟨k,by omega,rfl⟩,hf⟩
 ·rintro ⟨⟨j,hj,e⟩,b⟩
  by_cases c:j=k
  ·subst c;exact .inr e.symm
  ·exact .inl ⟨⟨j,by omega,e⟩,b⟩⟩
theorem Alk.stay (a:Alk x0 l al) (hne:l≠[]) {r:Nat} (hn:numC (x0 (l.getD al 0)) (x0 r)=0):(∀ e,e∈l.take al→numC (x0 e) (x0 r)<0)∧Alk x0 (l++[r]) al:=by
 have hh:=a.here hne;have h0:=a.lt hne;have hB:∀ e,e∈l.take al→numC (x0 e) (x0 r)<0:=fun e he=>ziT (a.before e he _ hh) hn;have hA:∀ e,e∈l.drop al→numC (x0 e) (x0 r)=0:=fun e he=>ziW (a.after e he _ hh) hn;refine ⟨hB,⟨fun h=>by simp at h,fun _=>by rw [List.length_append];omega,fun e he f hf=>?_,fun e he f hf=>?_⟩⟩
 ·rw [List.take_append_of_le_length (by omega)] at he
  rw [List.drop_append_of_le_length (by omega),List.mem_append,List.mem_singleton] at hf
  rcases hf with hf | rfl
  ·exact a.before e he f hf
  ·exact hB e he
 ·rw [List.drop_append_of_le_length (by omega),List.mem_append,List.mem_singleton] at he hf
  rcases he with he | rfl
  ·rcases hf with hf | rfl
   ·exact a.after e he f hf
   ·exact hA e he
  ·rcases hf with hf | rfl
   ·exact zkF (hA f hf)
   ·exact zgJ _
theorem Alk.open_ {r:Nat} (hB:∀ e,e∈l→numC (x0 e) (x0 r)<0):Alk x0 (l++[r]) l.length:=by
 refine ⟨fun h=>by simp at h,fun _=>by rw [List.length_append];simp,fun e he f hf=>?_,fun e he f hf=>?_⟩
 ·rw [List.take_append_of_le_length (by omega),List.take_length] at he
  rw [List.drop_append_of_le_length (by omega),List.drop_length,List.nil_append,List.mem_singleton] at hf;subst hf;exact hB e he
 ·rw [List.drop_append_of_le_length (by omega),List.drop_length,List.nil_append,List.mem_singleton] at he hf
  subst he hf;exact zgJ _
end
theorem zfJ {l:List Nat} {r i:Nat} (c:i<l.length):(l++[r]).getD i 0=l.getD i 0:=by rw [List.getD_eq_getElem?_getD,List.getElem?_append_left c,← List.getD_eq_getElem?_getD]
theorem zdG {l:List Nat} {r:Nat}:(l++[r]).getD l.length 0=r:=by rw [List.getD_eq_getElem?_getD,List.getElem?_append_right (Nat.le_refl _)];simp
theorem zb8 {l:List Nat} {al:Nat} {P:Nat→Prop}:(∃ o,o∈l.drop al∧P o)↔∃ j,j<l.length-al∧P (l.getD (al+j) 0):=by
 constructor
 ·rintro ⟨o,ho,hp⟩
  obtain ⟨k,hk,rfl⟩:=List.mem_iff_getElem.1 ho;rw [List.length_drop] at hk;refine ⟨k,hk,?_⟩;rw [List.getElem_drop] at hp;rw [zc5 (show al+k<l.length by omega)];exact hp
 ·rintro ⟨j,hj,hp⟩
  rw [zc5 (show al+j<l.length by omega)] at hp;exact ⟨_,List.mem_iff_getElem.2 ⟨j,by rw [List.length_drop];omega,by rw [List.getElem_drop]⟩,hp⟩
theorem zeP (g n cap m:Nat) (hm:m≤n) (w:World):(Instr.slice 30 (.slice (some ⟨g,0,none⟩) n cap) (some (.int .i64 (m:Int))) none none).run Tryz.prog w=.ok (.slice (if cap=m then some ⟨g,0,none⟩ else some ⟨g,m*9,none⟩) (n-m) (cap-m)) w:=by
 have e1:(m:Int)≤(n:Int):=by omega
 by_cases h:cap=m
 ·subst h
  simp [Instr.slice,run_underlying Tryz.underlying30,Instr.sliceBounds,Instr.sliceBound,asIntOf,go_sem,e1,hm]
 ·simp [Instr.slice,run_underlying Tryz.underlying30,Instr.sliceBounds,Instr.sliceBound,asIntOf,go_sem,e1,hm,h]
theorem zeQ (g n cap m:Nat) (hm:m≤n) (hc:n≤cap) (w:World):(Instr.slice 30 (.slice (some ⟨g,0,none⟩) n cap) none (some (.int .i64 (m:Int))) none).run Tryz.prog w=.ok (.slice (some ⟨g,0,none⟩) m cap) w:=by
 have e1:(m:Int)≤(cap:Int):=by omega
 have e2:m≤cap:=by omega
 simp [Instr.slice,run_underlying Tryz.underlying30,Instr.sliceBounds,Instr.sliceBound,asIntOf,go_sem,e1,e2]
theorem zeR (w:World):(Instr.slice 30 (.slice none 0 0) (some (.int .i64 ((0:Nat):Int))) none none).run Tryz.prog w=.ok (.slice none 0 0) w:=by
 simp [Instr.slice,run_underlying Tryz.underlying30,Instr.sliceBounds,Instr.sliceBound,asIntOf,go_sem]
theorem zeS (w:World):(Instr.slice 30 (.slice none 0 0) none (some (.int .i64 ((0:Nat):Int))) none).run Tryz.prog w=.ok (.slice none 0 0) w:=by
 simp [Instr.slice,run_underlying Tryz.underlying30,Instr.sliceBounds,Instr.sliceBound,asIntOf,go_sem]
section
variable {w:World} {lo hi n:Nat} {v:Value} {x:Nat→RecD} {ce:Nat→List Value}
theorem View.form2 (h:View zab 83 w lo hi v n x ce):(v=.slice none 0 0∧n=0)∨∃ g cap,v=.slice (some ⟨g,0,none⟩) n cap∧n≤cap∧g<w.heap.size:=by
 have hlt:=fun b hb=>(h.row.lt b hb).2
 rcases h.row.2 with hn | ⟨g,cap,cur,rfl,hbg,hgg,hnc,hcm,rest⟩
 ·exact .inl hn
 ·exact .inr ⟨g,cap,rfl,hnc,hlt g rfl⟩
theorem zk2 {ao:Option Addr} {m c:Nat} {y:Nat→RecD} {cy:Nat→List Value} (hs:Src zab w hi ao m y cy) (hh:hi≤w.heap.size) (hm:m≤maxLen) (hb:∀ b off,ao=some ⟨b,off,none⟩→b<w.heap.size):(zab.slice 83).rd w w.heap.size (m,y) [.slice ao m c]:=by
 refine ⟨ao,c,rfl,hm,fun h0=>?_⟩;obtain ⟨b,off,e,hc⟩:=hs.1 h0;exact ⟨b,off,e,hb b off e,fun i hi=>⟨cy i,zab.rd_mono (hs.2 i hi) hh,hc i hi⟩⟩
theorem View.from_ (h:View zab 83 w lo hi v n x ce) (hh:hi≤w.heap.size) {al:Nat} (ha:al≤n):∃ ao c,(∀ w',(Instr.slice 30 v (some (.int .i64 (al:Int))) none none).run Tryz.prog w'=.ok (.slice ao (n-al) c) w')∧Src zab w hi ao (n-al) (fun j=>x (al+j)) (fun j=>ce (al+j))∧(zab.slice 83).rd w w.heap.size (n-al,fun j=>x (al+j)) [.slice ao (n-al) c]∧(ao=none→c=0∨n-al=0):=by
 have hl:=h.len
 rcases h.form2 with ⟨rfl,rfl⟩ | ⟨g,cap,rfl,hnc,hg⟩
 ·obtain rfl:al=0:=by omega
  have S:Src zab w hi none 0 (fun j=>x (0+j)) (fun j=>ce (0+j)):=⟨fun h=>absurd rfl h,fun j hj=>by omega⟩;exact ⟨none,0,zeR,S,zk2 S hh (by omega) (fun b off e=>by cases e),fun _=>.inl rfl⟩
 ·have S:Src zab w hi (if cap=al then some ⟨g,0,none⟩ else some ⟨g,al*9,none⟩) (n-al) (fun j=>x (al+j)) (fun j=>ce (al+j)):=⟨fun h0=>by
   rw [if_neg (by omega)];refine ⟨g,al*9,rfl,fun j hj k hk=>?_⟩;have:=h.cell (i:=al+j) (by omega) hk;rw [← this]
   congr 2
   show al*9+(j*9+k)=(al+j)*9+k
   omega,fun j hj=>h.each _ (by omega)⟩
  refine ⟨_,_,zeP g n cap al ha,S,zk2 S hh (by omega) (fun b off e=>?_),fun e=>?_⟩
  ·split at e<;>cases e<;>exact hg
  ·split at e<;>cases e
theorem View.upto_ (h:View zab 83 w lo hi v n x ce) (hh:hi≤w.heap.size) {al:Nat} (ha:al≤n):∃ ao c,(∀ w',(Instr.slice 30 v none (some (.int .i64 (al:Int))) none).run Tryz.prog w'=.ok (.slice ao al c) w')∧Src zab w hi ao al x ce∧(ao=none→c=0∨al=0):=by
 rcases h.form2 with ⟨rfl,rfl⟩ | ⟨g,cap,rfl,hnc,hg⟩
 ·obtain rfl:al=0:=by omega
  exact ⟨none,0,zeS,⟨fun h=>absurd rfl h,fun j hj=>by omega⟩,fun _=>.inl rfl⟩
 ·exact ⟨_,_,zeQ g n cap al ha hnc,⟨fun h0=>⟨g,0,rfl,fun j hj k hk=>by rw [Nat.zero_add];exact h.cell (by omega) hk⟩,fun j hj=>h.each _ (by omega)⟩,fun e=>by cases e⟩
theorem zk3 {ao:Option Addr} {m c:Nat} {y:Nat→RecD} (h:(zab.slice 83).rd w hi (m,y) [.slice ao m c]):∃ cy,Src zab w hi ao m y cy∧(ao=none→c=0∨m=0):=by
 obtain ⟨ao',cap',e,hm,hc⟩:=h
 simp only [List.cons.injEq,Value.slice.injEq,true_and,and_true] at e
 obtain ⟨rfl,rfl⟩:=e
 by_cases h0:m=0
 ·subst h0
  exact ⟨fun _=>[],⟨fun h=>absurd rfl h,fun j hj=>by omega⟩,fun _=>.inr rfl⟩
 ·obtain ⟨b,off,rfl,hb,hel⟩:=hc h0
  have ch:∀ i,∃ ce,i<m→(zab.rd w hi (y i) ce∧∀ j,j<zab.sz→w.cell? ⟨b,off+(i*zab.sz+j),none⟩=ce[j]?):=fun i=>by
   by_cases c:i<m
   ·obtain ⟨ce,h1,h2⟩:=hel i c
    exact ⟨ce,fun _=>⟨h1,h2⟩⟩
   ·exact ⟨[],fun h=>absurd h c⟩
  obtain ⟨cy,hcy⟩:=Classical.axiomOfChoice ch;exact ⟨cy,⟨fun _=>⟨b,off,rfl,fun j hj=>(hcy j hj).2⟩,fun j hj=>(hcy j hj).1⟩,fun e=>by cases e⟩
end
theorem zlj {c:Bool} {X Y:Prop} (h:c=false) (y:Y):if c=true then X else Y:=by rw [h,if_neg (by decide)];exact y
set_option maxRecDepth 1000000 in
theorem zdH (x0:Nat→RecD) (enc:Nat→List Value) (p:Nat→Nat) (N blk cap lo hi:Nat) (w:World) (V:RowsV x0 enc N blk cap lo hi w p) (hlo:hi≤lo) (hN:N<1000000000) (a b:Nat) (hab:a≤b) (hb:b≤N) (hinc:∀ i j,a≤i→i<j→j<b→p i<p j) :
 Calls Tryz.prog 151 #[.slice (some ⟨blk,0,none⟩) N cap,.int .i64 a,.int .i64 b,.func (.func 105) #[] #[]] w fun e w'=>e=.returned (.tuple #[])∧∃ q,RowsV x0 enc N blk cap lo hi w' q∧Sym.Re a b p q∧Sym.Srt (numL x0) q a b∧ChgL [blk] w w':=by
 have HV0:=hid V;have HI:=hid hinc;have hbl:=(V.row.lt blk rfl);clear V hinc
 have w1:IntKind.i64.wrap ((a:Int)+1)=((a+1:Nat):Int):=by rw [IntKind.wrap_i64];omega
 go_enter Tryz.func151,Tryz.ntmps151
 go_wp2
 go_loopw [8] (fun vi wr=>∃ (i:Nat) (q:Nat→Nat),a+1≤i∧(i≤b∨(i=a+1∧q=p))∧vi=.int .i64 i∧RowsV x0 enc N blk cap lo hi wr q∧Sym.Re a i p q∧Sym.Srt (numL x0) q a i∧ChgL [blk] w wr) (fun vi _=>b-(intOf vi).toNat)
 case atStart=>exact ⟨a+1,p,Nat.le_refl _,.inr ⟨rfl,rfl⟩,by go_num,HV0.out,Sym.Re.refl _ _ _,fun i j h1 h2 h3=>by omega,ChgL.refl _ _⟩
 case round=>
  obtain ⟨i,q,hai,hib,rfl,V,hRe,hSrt,C⟩:=hrel;have HV:=hid V;have HC:=hid C;have HRe:=hid hRe;have HSrt:=hid hSrt;clear V C hRe hSrt w1
  by_cases hlt:i<b
  ·have t1:(i:Int)<(b:Int):=by omega
   go_wp2
   go_loopw [9] (fun vj wr=>∃ (j:Nat) (q1:Nat→Nat),a≤j∧j≤i∧vj=.int .i64 j∧RowsV x0 enc N blk cap lo hi wr q1∧Sym.Re a (i+1) p q1∧Ins (numL x0) q1 a i j (p i)∧(∀ k,a≤k→k≤i→k≠j→q1 k<p i)∧ChgL [blk] w wr) (fun vj _=>(intOf vj).toNat)
   case atStart=>exact ⟨i,q,by omega,Nat.le_refl _,rfl,HV.out,HRe.out.mono (Nat.le_refl _) (by omega),by
    have:=Ins.start HSrt.out;rw [HRe.out.out (.inr (Nat.le_refl _))] at this
    exact this,fun k h1 h2 h3=>by
    obtain ⟨k',hk',e⟩:=HRe.out.from (i:=k) ⟨h1,by omega⟩
    rw [e]
    exact HI.out k' i hk'.1 hk'.2 hlt,HC.out⟩
   case round=>
    obtain ⟨j,q1,haj,hji,rfl,V,hRe,hIns,hTag,C⟩:=hrel;have HV1:=hid V;have HC1:=hid C;have HRe1:=hid hRe;have HIns:=hid hIns;have HTag:=hid hTag;clear C hRe hIns hTag HV HC HRe HSrt
    by_cases hja:j=a
    ·have d1:decide (a<j)=false:=decide_eq_false (by omega)
     have HJA:=hid hja;have HW:=hid (View.drew V);clear V
     go_upto_region 4 with fail
     refine zax 14 (fun w'=>True) zbC trivial (fun hHeld=>?_);refine zlN 0 rfl ?_
     try simp only [Act.put,SL]
     refine zlN 1 rfl ?_
     try simp only [Act.put,SL]
     refine zlN 2 rfl ?_
     try simp only [Act.put,SL]
     try rw [d1]
     refine zlN 3 rfl ?_
     try simp only [Act.put,SL]
     refine zlP 4 rfl ?_
     try simp only [Act.put,SL]
     refine zlP 5 rfl ?_
     try simp only [Act.put,SL]
     refine zlP 6 rfl ?_
     try simp only [Act.put,SL]
     refine zlP 7 rfl ?_
     try simp only [Act.put,SL]
     refine zlP 8 rfl ?_
     try simp only [Act.put,SL]
     refine zlP 9 rfl ?_
     try simp only [Act.put,SL]
     refine zlP 10 rfl ?_
     try simp only [Act.put,SL]
     refine zlP 11 rfl ?_
     try simp only [Act.put,SL]
     refine zlP 12 rfl ?_
     try simp only [Act.put,SL]
     refine zlP 13 rfl ?_
     try simp only [Act.put,SL]
     refine zar (i:=14) (o:=_) rfl (by kernel_rfl) (by kernel_rfl) (fun KC hKC=>?_);refine zlj (by kernel_rfl) (hKC _ _ ?_);clear hKC KC
     try simp only [Act.put,SL]
     refine zai (i:=15) (oi:=_) (v:=undef) rfl (by kernel_rfl) (fun _ _ _ h=>h) (Or.inr ⟨by kernel_rfl,rfl⟩) ?_
     try simp only [Act.put,SL]
     refine zlz 16 (v:=?_) rfl ?_ ?_
     rotate_left
     ·intro w' hSw;go_simp;try with_reducible rfl
     try simp only [Act.put,SL]
     refine zas (by kernel_rfl) ?_ _;go_wp2
     go_roundw
     case rel=>exact ⟨i+1,q1,by omega,.inl (by omega),by go_num,HW.out,HRe1.out,HIns.out.stop (zbo x0) haj hji (.inl HJA.out),HC1.out.trans (ChgL.of_below ⟨rfl,rfl,rfl,Nat.le_refl _,fun _ _=>rfl⟩)⟩
     case measure=>simp [intOf];omega
    ·obtain ⟨A,hA⟩:∃ A,A=j:=⟨_,rfl⟩
     subst hA;obtain ⟨B,hB⟩:∃ B,A=B+1:=⟨A-1,by omega⟩;have HAB:=hid hB;have d1:decide (a<A)=true:=decide_eq_true (by omega)
     have w2:IntKind.i64.wrap ((A:Int)-1)=(B:Int):=by rw [IntKind.wrap_i64];omega
     have hAN:A<N:=by omega
     have hBN:B<N:=by omega
     have i1:(A:Int)<(N:Int):=by omega
     have i2:(B:Int)<(N:Int):=by omega
     have i3:(0:Int)≤(A:Int):=by omega
     have i4:(0:Int)≤(B:Int):=by omega
     have hsz:=(V.row.lt blk rfl);have VD:=View.drew V;have rgA:wr.drew.rangeAt blk (A*9) (enc (q1 A)):=VD.range hAN;have rgB:wr.drew.rangeAt blk (B*9) (enc (q1 B)):=VD.range hBN;have hsA:(enc (q1 A)).length=9:=VD.lens A hAN;have hsB:(enc (q1 B)).length=9:=VD.lens B hBN;have rdA:=VD.each A hAN;have rdB:=VD.each B hBN;obtain ⟨cA,hcA⟩:∃ c,c=enc (q1 A):=⟨_,rfl⟩;obtain ⟨cB,hcB⟩:∃ c,c=enc (q1 B):=⟨_,rfl⟩;rw [← hcA] at rgA hsA;rw [← hcB] at rgB hsB;have CC0:=zb1 _ _ _ _ hi hi wr.drew rdA rdB;rw [← hcA,← hcB] at CC0;obtain ⟨c,hc⟩:∃ c:Int,c=numC (x0 (q1 A)) (x0 (q1 B)):=⟨_,rfl⟩;rw [← hc] at CC0;have HCN:=hid hc
     have CC:Calls Tryz.prog 105 (#[.agg cA.toArray,.agg cB.toArray]++#[]) wr.drew fun e w'=>e=.returned (.int .i64 c)∧Below wr.drew.heap.size wr.drew w':=by rw [Array.append_empty];exact CC0
     clear CC0 hc hcA hcB rdA rdB hB;have HVD:=hid VD;clear VD V
     go_upto_region 4 with fail
     refine zax 14 (fun w'=>w'.rangeAt blk (A*9) cA∧w'.rangeAt blk (B*9) cB) zbC ⟨rgA,rgB⟩ (fun hHeld=>?_);refine zlN 0 rfl ?_
     try simp only [Act.put,SL]
     refine zlN 1 rfl ?_
     try simp only [Act.put,SL]
     refine zlN 2 rfl ?_
     try simp only [Act.put,SL]
     try rw [d1]
     refine zlN 3 rfl ?_
     try simp only [Act.put,SL]
     refine zlN 4 rfl ?_
     try simp only [Act.put,SL]
     refine zlN 5 rfl ?_
     try simp only [Act.put,SL]
     refine zlN 6 rfl ?_
     try simp only [Act.put,SL]
     refine zlN 7 rfl ?_
     try simp only [Act.put,SL]
     refine zaf (i:=8) (oi:=_) 16 rfl (by kernel_rfl) (fun _ _ _ h=>h) (yieldsIf_load_mid (by kernel_rfl) 83 (.tmp 25) rfl blk (A*9) (by simp [Act.eval,Act.put]) cA _ (fun w h=>h.1) Tryz.underlying83 rfl (zag hsA)) (by assumption) ?_
     try simp only [Act.put,SL]
     refine zlN 9 rfl ?_
     try simp only [Act.put,SL]
     refine zlN 10 rfl ?_
     try simp only [Act.put,SL]
     refine zlN 11 rfl ?_
     try simp only [Act.put,SL]
     refine zlN 12 rfl ?_
     try simp only [Act.put,SL]
     refine zaf (i:=13) (oi:=_) 16 rfl (by kernel_rfl) (fun _ _ _ h=>h) (yieldsIf_load_mid (by kernel_rfl) 83 (.tmp 30) rfl blk (B*9) (by simp [Act.eval,Act.put]) cB _ (fun w h=>h.2) Tryz.underlying83 rfl (zag hsB)) (by assumption) ?_
     try simp only [Act.put,SL]
     refine zar (i:=14) (o:=_) rfl (by kernel_rfl) (by kernel_rfl) (fun KC hKC=>?_);refine zaY (by kernel_rfl) (.tmp 22) 105 #[] _ _ rfl (by simp [Act.eval,Act.put]) #[.agg cA.toArray,.agg cB.toArray] (by simp [Act.eval,Act.put]) Tryz.func105 (by kernel_rfl) (by kernel_rfl) CC ?_;rintro ee w5 ⟨rfl,b5⟩;refine ⟨_,rfl,?_⟩;refine hKC _ _ ?_;clear hKC KC
     try simp only [Act.put,SL]
     refine zlz 15 (v:=?_) rfl ?_ ?_
     rotate_left
     ·intro w' hSw;go_simp;try with_reducible rfl
     try simp only [Act.put,SL]
     refine zlz 16 (v:=?_) rfl ?_ ?_
     rotate_left
     ·intro w' hSw;go_simp;try with_reducible rfl
     try simp only [Act.put,SL]
     refine zas (by kernel_rfl) ?_ _;have HV5:Hid (RowsV x0 enc N blk cap lo hi w5 q1):=View.below HVD.out b5 (by show hi≤wr.heap.size;omega);have HC5:Hid (ChgL [blk] w w5):=HC1.out.trans ((ChgL.of_below ⟨rfl,rfl,rfl,Nat.le_refl _,fun _ _=>rfl⟩:ChgL [blk] wr wr.drew).trans (ChgL.of_below b5));clear HVD HC1 HV1 rgA rgB hsA hsB b5 hHeld CC hsz;obtain ⟨dd,hdd⟩:∃ d:Bool,d=decide (c<0):=⟨_,rfl⟩;have HDD:=hid hdd
     try rw [← hdd]
     clear hdd
     cases dd
     ·go_wp2
      go_roundw
      case rel=>exact ⟨i+1,q1,by omega,.inl (by omega),by go_num,HV5.out,HRe1.out,HIns.out.stop (zbo x0) haj hji (.inr (by
       have h1:=HDD.out
       have h2:¬ c<0:=by simpa using h1
       rw [HCN.out] at h2;have h3:=HTag.out B (by have:=HAB.out;omega) (by have:=HAB.out;omega) (by have:=HAB.out;omega);have h4:=HIns.out.at_;rw [show A-1=B by have:=HAB.out;omega,← h4]
       exact zgH (by rw [h4];exact h3) h2)),HC5.out⟩
      case measure=>simp [intOf];omega
     ·have V5:=HV5.out
      have VD:=View.drew V5;have rgA:w5.drew.rangeAt blk (A*9) (enc (q1 A)):=VD.range hAN;have rgB:w5.drew.rangeAt blk (B*9) (enc (q1 B)):=VD.range hBN;have hsA:(enc (q1 A)).length=9:=VD.lens A hAN;have hsB:(enc (q1 B)).length=9:=VD.lens B hBN
      have th1:w5.drew.there blk (A*9) (enc (q1 B)).length:=by rw [hsB];exact VD.there hAN
      have th2:(w5.drew.setCells blk (A*9) (enc (q1 B))).there blk (B*9) (enc (q1 A)).length:=by rw [hsA];exact (VD.put (by decide) hlo hAN (VD.each B hBN)).there hBN
      have oneA:=zaM _ _ _ _ (VD.each A hAN);have oneB:=zaM _ _ _ _ (VD.each B hBN);have SW:=zdF VD hlo hAN hBN;have HSW:=hid SW.1;have HSC:Hid (ChgL [blk] w5 ((w5.drew.setCells blk (A*9) (enc (q1 B))).setCells blk (B*9) (enc (q1 A)))):=(ChgL.of_below ⟨rfl,rfl,rfl,Nat.le_refl _,fun _ _=>rfl⟩:ChgL [blk] w5 w5.drew).trans SW.2;obtain ⟨cA,hcA⟩:∃ c,c=enc (q1 A):=⟨_,rfl⟩;obtain ⟨cB,hcB⟩:∃ c,c=enc (q1 B):=⟨_,rfl⟩;rw [← hcA] at rgA th2 hsA oneA HSW HSC;rw [← hcB] at rgB th1 th2 hsB oneB HSW HSC;clear hcA hcB VD SW;clear V5
      go_upto_region 6 with fail
      refine zax 15 (fun w'=>w'.rangeAt blk (A*9) cA∧w'.rangeAt blk (B*9) cB) zbC ⟨rgA,rgB⟩ (fun hHeld=>?_);refine zaa (i:=0) (oi:=_) (v:=?_) rfl (by kernel_rfl) (fun _ _ _ h=>h) (Or.inl ⟨by rfl,?_⟩) (by assumption) ?_
      rotate_left
      ·intro w' hSw;go_simp;try with_reducible rfl
      try simp only [Act.put,SL]
      refine zaa (i:=1) (oi:=_) (v:=?_) rfl (by kernel_rfl) (fun _ _ _ h=>h) (Or.inl ⟨by rfl,?_⟩) (by assumption) ?_
      rotate_left
      ·intro w' hSw;go_simp;try with_reducible rfl
      try simp only [Act.put,SL]
      refine zaa (i:=2) (oi:=_) (v:=?_) rfl (by kernel_rfl) (fun _ _ _ h=>h) (Or.inl ⟨by rfl,?_⟩) (by assumption) ?_
      rotate_left
      ·intro w' hSw;go_simp;try with_reducible rfl
      try simp only [Act.put,SL]
      refine zaa (i:=3) (oi:=_) (v:=?_) rfl (by kernel_rfl) (fun _ _ _ h=>h) (Or.inl ⟨by rfl,?_⟩) (by assumption) ?_
      rotate_left
      ·intro w' hSw;go_simp;try with_reducible rfl
      try simp only [Act.put,SL]
      refine zaa (i:=4) (oi:=_) (v:=?_) rfl (by kernel_rfl) (fun _ _ _ h=>h) (Or.inl ⟨by rfl,?_⟩) (by assumption) ?_
      rotate_left
      ·intro w' hSw;go_simp;try with_reducible rfl
      try simp only [Act.put,SL]
      refine zaa (i:=5) (oi:=_) (v:=?_) rfl (by kernel_rfl) (fun _ _ _ h=>h) (Or.inl ⟨by rfl,?_⟩) (by assumption) ?_
      rotate_left
      ·intro w' hSw;go_simp;try with_reducible rfl
      try simp only [Act.put,SL]
      refine zaa (i:=6) (oi:=_) (v:=?_) rfl (by kernel_rfl) (fun _ _ _ h=>h) (Or.inl ⟨by rfl,?_⟩) (by assumption) ?_
      rotate_left
      ·intro w' hSw;go_simp;try with_reducible rfl
      try simp only [Act.put,SL]
      refine zaa (i:=7) (oi:=_) (v:=?_) rfl (by kernel_rfl) (fun _ _ _ h=>h) (Or.inl ⟨by rfl,?_⟩) (by assumption) ?_
      rotate_left
      ·intro w' hSw;go_simp;try with_reducible rfl
      try simp only [Act.put,SL]
      refine zaa (i:=8) (oi:=_) (v:=?_) rfl (by kernel_rfl) (fun _ _ _ h=>h) (Or.inl ⟨by rfl,?_⟩) (by assumption) ?_
      rotate_left
      ·intro w' hSw;go_simp;try with_reducible rfl
      try simp only [Act.put,SL]
      refine zaf (i:=9) (oi:=_) 16 rfl (by kernel_rfl) (fun _ _ _ h=>h) (yieldsIf_load_mid (by rfl) 83 (.tmp 45) rfl blk (B*9) (by simp [Act.eval,Act.put]) cB _ (fun w h=>h.2) Tryz.underlying83 rfl (zag hsB)) (by assumption) ?_
      try simp only [Act.put,SL]
      refine zaa (i:=10) (oi:=_) (v:=?_) rfl (by kernel_rfl) (fun _ _ _ h=>h) (Or.inl ⟨by rfl,?_⟩) (by assumption) ?_
      rotate_left
      ·intro w' hSw;go_simp;try with_reducible rfl
      try simp only [Act.put,SL]
      refine zaa (i:=11) (oi:=_) (v:=?_) rfl (by kernel_rfl) (fun _ _ _ h=>h) (Or.inl ⟨by rfl,?_⟩) (by assumption) ?_
      rotate_left
      ·intro w' hSw;go_simp;try with_reducible rfl
      try simp only [Act.put,SL]
      refine zaa (i:=12) (oi:=_) (v:=?_) rfl (by kernel_rfl) (fun _ _ _ h=>h) (Or.inl ⟨by rfl,?_⟩) (by assumption) ?_
      rotate_left
      ·intro w' hSw;go_simp;try with_reducible rfl
      try simp only [Act.put,SL]
      refine zaf (i:=13) (oi:=_) 16 rfl (by kernel_rfl) (fun _ _ _ h=>h) (yieldsIf_load_mid (by rfl) 83 (.tmp 49) rfl blk (A*9) (by simp [Act.eval,Act.put]) cA _ (fun w h=>h.1) Tryz.underlying83 rfl (zag hsA)) (by assumption) ?_
      try simp only [Act.put,SL]
      refine zaa (i:=14) (oi:=_) (v:=?_) rfl (by kernel_rfl) (fun _ _ _ h=>h) (Or.inl ⟨by rfl,?_⟩) (by assumption) ?_
      rotate_left
      ·intro w' hSw;go_simp;try with_reducible rfl
      try simp only [Act.put,SL]
      refine zbc (i:=15) rfl (by kernel_rfl) (by kernel_rfl) rfl rfl 83 (.tmp 51) (.tmp 46) rfl blk (A*9) cB (by simp [Act.eval]) (by simp [Act.eval]) th1 (zag hsB) oneB ?_;refine zai (i:=16) (oi:=_) (v:=?_) rfl (by kernel_rfl) (fun _ _ _ h=>h) (Or.inl ⟨by rfl,?_⟩) ?_
      rotate_left
      ·intro w' hSw;go_simp;try with_reducible rfl
      try simp only [Act.put,SL]
      refine zbc (i:=17) rfl (by kernel_rfl) (by kernel_rfl) rfl rfl 83 (.tmp 52) (.tmp 50) rfl blk (B*9) cA (by simp [Act.eval]) (by simp [Act.eval]) th2 (zag hsA) oneA ?_;refine zas (by kernel_rfl) ?_ _;go_wp2
      go_roundw
      case rel=>
       have hAB:=HAB.out;refine ⟨B,(fun k=>q1 (Sym.swp A B k)),by omega,by omega,by go_num,HSW.out,HRe1.out.trans (Sym.Re.swaps q1 ⟨by omega,by omega⟩ ⟨by omega,by omega⟩),?_,?_,HC5.out.trans HSC.out⟩
       ·have h1:=HDD.out
        have h2:c<0:=by simpa using h1
        rw [HCN.out] at h2;have h4:=HIns.out;have h5:=zeO h2;rw [h4.at_] at h5;rw [hAB] at h4 ⊢;exact h4.step (by omega) (by omega) h5
       ·intro k k1 k2 k3
        show q1 (Sym.swp A B k)<p i
        unfold Sym.swp
        by_cases c1:k=A
        ·rw [if_pos c1]
         exact HTag.out B (by omega) (by omega) (by omega)
        ·rw [if_neg c1,if_neg k3]
         exact HTag.out k k1 k2 c1
      case measure=>have hAB:=HAB.out;simp [intOf];omega
  ·have HNL:=hid hlt
   have d0:decide ((i:Int)<(b:Int))=false:=decide_eq_false (by omega);clear hlt;go_wp2
   go_end0
   refine ⟨rfl,q,HV.out,?_,?_,HC.out⟩
   ·rcases hib with h | h
    ·exact HRe.out.mono (Nat.le_refl _) (by have:=HNL.out;omega)
    ·obtain ⟨h1,rfl⟩:=h
     exact Sym.Re.refl _ _ _
   ·exact HSrt.out.sub (Nat.le_refl _) (by have:=HNL.out;omega)
theorem zjU (a k x:Nat) (h:a≤k):Sym.rot a (a+1) (k+1) (Sym.swp k (k+1) x)=Sym.rot a (a+1) (k+2) x:=by
 unfold Sym.rot Sym.swp
 repeat' split
 all_goals omega
theorem zjV (a x:Nat):Sym.rot a (a+1) (a+1) x=x:=by
 unfold Sym.rot
 repeat' split
 all_goals omega
theorem zlS {lt:Nat→Nat→Prop} (O:Sym.Ord lt) {p:Nat→Nat} {a b i:Nat} (hai:a+1≤i) (hib:i≤b) (h2:Sym.Srt lt p (a+1) b) (hl:∀ k,a+1≤k→k<i→lt (p k) (p a)) (hr:∀ k,i≤k→k<b→lt (p a) (p k)) :
 Sym.Srt lt (fun k=>p (Sym.rot a (a+1) i k)) a b∧Sym.Re a b p (fun k=>p (Sym.rot a (a+1) i k)):=by
 have r1:∀ k,a≤k→k<i-1→Sym.rot a (a+1) i k=k+1:=fun k h3 h4=>by
  unfold Sym.rot;repeat' split
  all_goals omega
 have r2:Sym.rot a (a+1) i (i-1)=a:=by
  unfold Sym.rot;repeat' split
  all_goals omega
 have r3:∀ k,i≤k→Sym.rot a (a+1) i k=k:=fun k h3=>by
  unfold Sym.rot;repeat' split
  all_goals omega
 refine ⟨fun x y h3 h4 h5=>?_,(Sym.Re.rots p (by omega) hai).mono (Nat.le_refl _) hib⟩
 show lt (p (Sym.rot a (a+1) i x)) (p (Sym.rot a (a+1) i y))
 by_cases c1:x<i-1
 ·rw [r1 x h3 c1]
  by_cases c2:y<i-1
  ·rw [r1 y (by omega) c2];exact h2 _ _ (by omega) (by omega) (by omega)
  ·by_cases c3:y=i-1
   ·rw [c3,r2];exact hl _ (by omega) (by omega)
   ·rw [r3 y (by omega)];exact h2 _ _ (by omega) (by omega) (by omega)
 ·by_cases c3:x=i-1
  ·rw [c3,r2,r3 y (by omega)];exact hr _ (by omega) h5
  ·rw [r3 x (by omega),r3 y (by omega)];exact h2 _ _ (by omega) h4 h5
set_option maxRecDepth 1000000 in
theorem ziX (x0:Nat→RecD) (enc:Nat→List Value) (p:Nat→Nat) (N blk cap lo hi:Nat) (w:World) (V:RowsV x0 enc N blk cap lo hi w p) (hlo:hi≤lo) (hN:N<1000000000) (a m b:Nat) (ham:a<m) (hmb:m<b) (hb:b≤N) (htag:∀ i j,a≤i→i<m→m≤j→j<b→p i<p j) (hs1:Sym.Srt (numL x0) p a m) (hs2:Sym.Srt (numL x0) p m b) (h1:m=a+1) :
 Calls Tryz.prog 152 #[.slice (some ⟨blk,0,none⟩) N cap,.int .i64 a,.int .i64 m,.int .i64 b,.func (.func 105) #[] #[]] w (fun e w'=>e=.returned (.tuple #[])∧∃ q,RowsV x0 enc N blk cap lo hi w' q∧Sym.Re a b p q∧Sym.Srt (numL x0) q a b∧ChgL [blk] w w'):=by
 have HV0:=hid V;have HT:=hid htag;have HS2:=hid hs2;have HM:=hid h1
 have w0:IntKind.i64.wrap ((m:Int)-(a:Int))=1:=by rw [IntKind.wrap_i64];omega
 clear V htag hs1 hs2
 go_enter Tryz.func152,Tryz.ntmps152
 go_wp2;clear h1
 go_loopw [10,11] (fun vi vj wr=>∃ (i j:Nat),m≤i∧i≤j∧j≤b∧vi=.int .i64 i∧vj=.int .i64 j∧RowsV x0 enc N blk cap lo hi wr p∧(∀ k,m≤k→k<i→numL x0 (p k) (p a))∧(∀ k,j≤k→k<b→numL x0 (p a) (p k))∧ChgL [blk] w wr) (fun vi vj _=>(intOf vj).toNat-(intOf vi).toNat)
 case atStart=>exact ⟨m,b,Nat.le_refl _,by omega,Nat.le_refl _,by go_num,by go_num,HV0.out,fun k h1 h2=>by omega,fun k h1 h2=>by omega,ChgL.refl _ _⟩
 case round=>
  obtain ⟨i,j,hmi,hij,hjb,rfl,rfl,V,hL,hR,C⟩:=hrel;have HC:=hid C;have HL:=hid hL;have HR:=hid hR;have HV:=hid V;clear C hL hR w0
  by_cases hlt:i<j
  ·have t1:(i:Int)<(j:Int):=by omega
   obtain ⟨A,hA⟩:∃ A,A=(i+j)/2:=⟨_,rfl⟩
   have w1:IntKind.i64.wrap ((i:Int)+(j:Int))=((i+j:Nat):Int):=by rw [IntKind.wrap_i64];omega
   have e1:((i:Int)+(j:Int))/2=(A:Int):=by omega
   have hAi:i≤A:=by omega
   have hAj:A<j:=by omega
   have hAN:A<N:=by omega
   have hBN:a<N:=by omega
   have i1:(A:Int)<(N:Int):=by omega
   have i2:(a:Int)<(N:Int):=by omega
   have i3:(0:Int)≤(A:Int):=by omega
   have i4:(0:Int)≤(a:Int):=by omega
   have hsz:=(V.row.lt blk rfl);have VD:=View.drew V;have rgA:wr.drew.rangeAt blk (A*9) (enc (p A)):=VD.range hAN;have rgB:wr.drew.rangeAt blk (a*9) (enc (p a)):=VD.range hBN;have hsA:(enc (p A)).length=9:=VD.lens A hAN;have hsB:(enc (p a)).length=9:=VD.lens a hBN;have rdA:=VD.each A hAN;have rdB:=VD.each a hBN;obtain ⟨cA,hcA⟩:∃ c,c=enc (p A):=⟨_,rfl⟩;obtain ⟨cB,hcB⟩:∃ c,c=enc (p a):=⟨_,rfl⟩;rw [← hcA] at rgA hsA;rw [← hcB] at rgB hsB;have CC0:=zb1 _ _ _ _ hi hi wr.drew rdA rdB;rw [← hcA,← hcB] at CC0;obtain ⟨c,hc⟩:∃ c:Int,c=numC (x0 (p A)) (x0 (p a)):=⟨_,rfl⟩;rw [← hc] at CC0;have HCN:=hid hc
   have CC:Calls Tryz.prog 105 (#[.agg cA.toArray,.agg cB.toArray]++#[]) wr.drew fun e w'=>e=.returned (.int .i64 c)∧Below wr.drew.heap.size wr.drew w':=by rw [Array.append_empty];exact CC0
   have HVD:=hid VD;clear CC0 hc hcA hcB rdA rdB hA VD V HV
   go_upto_region 5 with fail
   try rw [e1]
   refine zax 9 (fun w'=>w'.rangeAt blk (A*9) cA∧w'.rangeAt blk (a*9) cB) zbC ⟨rgA,rgB⟩ (fun hHeld=>?_);refine zlN 0 rfl ?_
   try simp only [Act.put,SL]
   refine zlN 1 rfl ?_
   try simp only [Act.put,SL]
   refine zlN 2 rfl ?_
   try simp only [Act.put,SL]
   refine zlN 3 rfl ?_
   try simp only [Act.put,SL]
   refine zaf (i:=4) (oi:=_) 16 rfl (by kernel_rfl) (fun _ _ _ h=>h) (yieldsIf_load_mid (by kernel_rfl) 83 (.tmp 43) rfl blk (A*9) (by simp [Act.eval,Act.put]) cA _ (fun w h=>h.1) Tryz.underlying83 rfl (zag hsA)) (by assumption) ?_
   try simp only [Act.put,SL]
   refine zlN 5 rfl ?_
   try simp only [Act.put,SL]
   refine zlN 6 rfl ?_
   try simp only [Act.put,SL]
   refine zlN 7 rfl ?_
   try simp only [Act.put,SL]
   refine zaf (i:=8) (oi:=_) 16 rfl (by kernel_rfl) (fun _ _ _ h=>h) (yieldsIf_load_mid (by kernel_rfl) 83 (.tmp 47) rfl blk (a*9) (by simp [Act.eval,Act.put]) cB _ (fun w h=>h.2) Tryz.underlying83 rfl (zag hsB)) (by assumption) ?_
   try simp only [Act.put,SL]
   refine zar (i:=9) (o:=_) rfl (by kernel_rfl) (by kernel_rfl) (fun KC hKC=>?_);refine zaY (by kernel_rfl) (.tmp 40) 105 #[] _ _ rfl (by simp [Act.eval,Act.put]) #[.agg cA.toArray,.agg cB.toArray] (by simp [Act.eval,Act.put]) Tryz.func105 (by kernel_rfl) (by kernel_rfl) CC ?_;rintro ee w5 ⟨rfl,b5⟩;refine ⟨_,rfl,?_⟩;refine hKC _ _ ?_;clear hKC KC
   try simp only [Act.put,SL]
   refine zlz 10 (v:=?_) rfl ?_ ?_
   rotate_left
   ·intro w' hSw;go_simp;try with_reducible rfl
   try simp only [Act.put,SL]
   refine zas (by kernel_rfl) ?_ _;have HV5:Hid (RowsV x0 enc N blk cap lo hi w5 p):=View.below HVD.out b5 (by show hi≤wr.heap.size;omega);have HC5:Hid (ChgL [blk] w w5):=HC.out.trans ((ChgL.of_below ⟨rfl,rfl,rfl,Nat.le_refl _,fun _ _=>rfl⟩:ChgL [blk] wr wr.drew).trans (ChgL.of_below b5));clear HVD HC rgA rgB hsA hsB b5 hHeld CC hsz;obtain ⟨dd,hdd⟩:∃ d:Bool,d=decide (c<0):=⟨_,rfl⟩;have HDD:=hid hdd
   try rw [← hdd]
   clear hdd
   cases dd
   ·go_wp2
    go_roundw
    case rel=>
     refine ⟨i,A,hmi,hAi,by omega,rfl,by go_num,HV5.out,HL.out,fun k k1 k2=>?_,HC5.out⟩
     have h2:¬ c<0:=by simpa using HDD.out
     rw [HCN.out] at h2;have h3:=zgH (HT.out a A (Nat.le_refl _) (by have:=HM.out;omega) (by omega) (by omega)) h2
     by_cases ck:k=A
     ·rw [ck];exact h3
     ·exact (zbo x0).trans h3 (HS2.out A k (by omega) (by omega) k2)
    case measure=>simp [intOf];omega
   ·go_wp2
    go_roundw
    case rel=>
     refine ⟨A+1,j,by omega,by omega,by omega,by go_num,rfl,HV5.out,fun k k1 k2=>?_,HR.out,HC5.out⟩
     have h2:c<0:=by simpa using HDD.out
     rw [HCN.out] at h2;have h3:=zeO h2
     by_cases ck:k=A
     ·rw [ck];exact h3
     ·exact (zbo x0).trans (HS2.out k A k1 (by omega) (by omega)) h3
    case measure=>simp [intOf];omega
  ·obtain rfl:i=j:=by omega
   obtain ⟨e,he⟩:∃ e,i=e+1:=⟨i-1,by omega⟩;have HE:=hid he
   have w3:IntKind.i64.wrap ((i:Int)-1)=(e:Int):=by rw [IntKind.wrap_i64];omega
   clear V he hij;go_wp2
   go_loopw [13] (fun vk wr=>∃ k:Nat,a≤k∧k≤e∧vk=.int .i64 k∧RowsV x0 enc N blk cap lo hi wr (fun x=>p (Sym.rot a (a+1) (k+1) x))∧ChgL [blk] w wr) (fun vk _=>e-(intOf vk).toNat)
   case atStart=>exact ⟨a,Nat.le_refl _,by have h1:=HE.out;have h2:=HM.out;omega,by go_num,HV.out.same (fun x _=>by rw [zjV]),HC.out⟩
   case round=>
    obtain ⟨A,haA,hAe,rfl,V,C⟩:=hrel;have HCr:=hid C;clear C
    by_cases hlt:A<e
    ·have t2:(A:Int)<(e:Int):=by omega
     obtain ⟨q,hq⟩:∃ q:Nat→Nat,q=fun x=>p (Sym.rot a (a+1) (A+1) x):=⟨_,rfl⟩;have HQ:=hid hq
     have VQ:RowsV x0 enc N blk cap lo hi wr q:=by rw [hq];exact V
     obtain ⟨B,hB⟩:∃ B,B=A+1:=⟨_,rfl⟩;have HAB:=hid hB
     have hAN:A<N:=by have:=HE.out;omega
     have hBN:B<N:=by have:=HE.out;omega
     have w4:IntKind.i64.wrap ((A:Int)+1)=(B:Int):=by rw [IntKind.wrap_i64];omega
     have i1:(A:Int)<(N:Int):=by omega
     have i2:(B:Int)<(N:Int):=by omega
     have i3:(0:Int)≤(A:Int):=by omega
     have i4:(0:Int)≤(B:Int):=by omega
     have VD:=View.drew VQ;have rgA:wr.drew.rangeAt blk (A*9) (enc (q A)):=VD.range hAN;have rgB:wr.drew.rangeAt blk (B*9) (enc (q B)):=VD.range hBN;have hsA:(enc (q A)).length=9:=VD.lens A hAN;have hsB:(enc (q B)).length=9:=VD.lens B hBN
     have th1:wr.drew.there blk (A*9) (enc (q B)).length:=by rw [hsB];exact VD.there hAN
     have th2:(wr.drew.setCells blk (A*9) (enc (q B))).there blk (B*9) (enc (q A)).length:=by rw [hsA];exact (VD.put (by decide) hlo hAN (VD.each B hBN)).there hBN
     have oneA:=zaM _ _ _ _ (VD.each A hAN);have oneB:=zaM _ _ _ _ (VD.each B hBN);have SW:=zdF VD hlo hAN hBN;have HSW:=hid SW.1;have HSC:Hid (ChgL [blk] wr ((wr.drew.setCells blk (A*9) (enc (q B))).setCells blk (B*9) (enc (q A)))):=(ChgL.of_below ⟨rfl,rfl,rfl,Nat.le_refl _,fun _ _=>rfl⟩:ChgL [blk] wr wr.drew).trans SW.2;obtain ⟨cA,hcA⟩:∃ c,c=enc (q A):=⟨_,rfl⟩;obtain ⟨cB,hcB⟩:∃ c,c=enc (q B):=⟨_,rfl⟩;rw [← hcA] at rgA th2 hsA oneA HSW HSC;rw [← hcB] at rgB th1 th2 hsB oneB HSW HSC;clear hcA hcB VD SW;clear hq hB V VQ
     go_upto_region 11 with fail
     refine zax 15 (fun w'=>w'.rangeAt blk (A*9) cA∧w'.rangeAt blk (B*9) cB) zbC ⟨rgA,rgB⟩ (fun hHeld=>?_);refine zaa (i:=0) (oi:=_) (v:=?_) rfl (by kernel_rfl) (fun _ _ _ h=>h) (Or.inl ⟨by rfl,?_⟩) (by assumption) ?_
     rotate_left
     ·intro w' hSw;go_simp;try with_reducible rfl
     try simp only [Act.put,SL]
     refine zaa (i:=1) (oi:=_) (v:=?_) rfl (by kernel_rfl) (fun _ _ _ h=>h) (Or.inl ⟨by rfl,?_⟩) (by assumption) ?_
     rotate_left
     ·intro w' hSw;go_simp;try with_reducible rfl
     try simp only [Act.put,SL]
     refine zaa (i:=2) (oi:=_) (v:=?_) rfl (by kernel_rfl) (fun _ _ _ h=>h) (Or.inl ⟨by rfl,?_⟩) (by assumption) ?_
     rotate_left
     ·intro w' hSw;go_simp;try with_reducible rfl
     try simp only [Act.put,SL]
     refine zaa (i:=3) (oi:=_) (v:=?_) rfl (by kernel_rfl) (fun _ _ _ h=>h) (Or.inl ⟨by rfl,?_⟩) (by assumption) ?_
     rotate_left
     ·intro w' hSw;go_simp;try with_reducible rfl
     try simp only [Act.put,SL]
     refine zaa (i:=4) (oi:=_) (v:=?_) rfl (by kernel_rfl) (fun _ _ _ h=>h) (Or.inl ⟨by rfl,?_⟩) (by assumption) ?_
     rotate_left
     ·intro w' hSw;go_simp;try with_reducible rfl
     try simp only [Act.put,SL]
     refine zaa (i:=5) (oi:=_) (v:=?_) rfl (by kernel_rfl) (fun _ _ _ h=>h) (Or.inl ⟨by rfl,?_⟩) (by assumption) ?_
     rotate_left
     ·intro w' hSw;go_simp;try with_reducible rfl
     try simp only [Act.put,SL]
     refine zaa (i:=6) (oi:=_) (v:=?_) rfl (by kernel_rfl) (fun _ _ _ h=>h) (Or.inl ⟨by rfl,?_⟩) (by assumption) ?_
     rotate_left
     ·intro w' hSw;go_simp;try with_reducible rfl
     try simp only [Act.put,SL]
     refine zaa (i:=7) (oi:=_) (v:=?_) rfl (by kernel_rfl) (fun _ _ _ h=>h) (Or.inl ⟨by rfl,?_⟩) (by assumption) ?_
     rotate_left
     ·intro w' hSw;go_simp;try with_reducible rfl
     try simp only [Act.put,SL]
     refine zaa (i:=8) (oi:=_) (v:=?_) rfl (by kernel_rfl) (fun _ _ _ h=>h) (Or.inl ⟨by rfl,?_⟩) (by assumption) ?_
     rotate_left
     ·intro w' hSw;go_simp;try with_reducible rfl
     try simp only [Act.put,SL]
     refine zaf (i:=9) (oi:=_) 16 rfl (by kernel_rfl) (fun _ _ _ h=>h) (yieldsIf_load_mid (by rfl) 83 (.tmp 69) rfl blk (B*9) (by simp [Act.eval,Act.put]) cB _ (fun w h=>h.2) Tryz.underlying83 rfl (zag hsB)) (by assumption) ?_
     try simp only [Act.put,SL]
     refine zaa (i:=10) (oi:=_) (v:=?_) rfl (by kernel_rfl) (fun _ _ _ h=>h) (Or.inl ⟨by rfl,?_⟩) (by assumption) ?_
     rotate_left
     ·intro w' hSw;go_simp;try with_reducible rfl
     try simp only [Act.put,SL]
     refine zaa (i:=11) (oi:=_) (v:=?_) rfl (by kernel_rfl) (fun _ _ _ h=>h) (Or.inl ⟨by rfl,?_⟩) (by assumption) ?_
     rotate_left
     ·intro w' hSw;go_simp;try with_reducible rfl
     try simp only [Act.put,SL]
     refine zaa (i:=12) (oi:=_) (v:=?_) rfl (by kernel_rfl) (fun _ _ _ h=>h) (Or.inl ⟨by rfl,?_⟩) (by assumption) ?_
     rotate_left
     ·intro w' hSw;go_simp;try with_reducible rfl
     try simp only [Act.put,SL]
     refine zaf (i:=13) (oi:=_) 16 rfl (by kernel_rfl) (fun _ _ _ h=>h) (yieldsIf_load_mid (by rfl) 83 (.tmp 73) rfl blk (A*9) (by simp [Act.eval,Act.put]) cA _ (fun w h=>h.1) Tryz.underlying83 rfl (zag hsA)) (by assumption) ?_
     try simp only [Act.put,SL]
     refine zaa (i:=14) (oi:=_) (v:=?_) rfl (by kernel_rfl) (fun _ _ _ h=>h) (Or.inl ⟨by rfl,?_⟩) (by assumption) ?_
     rotate_left
     ·intro w' hSw;go_simp;try with_reducible rfl
     try simp only [Act.put,SL]
     refine zbc (i:=15) rfl (by kernel_rfl) (by kernel_rfl) rfl rfl 83 (.tmp 75) (.tmp 70) rfl blk (A*9) cB (by simp [Act.eval]) (by simp [Act.eval]) th1 (zag hsB) oneB ?_;refine zai (i:=16) (oi:=_) (v:=?_) rfl (by kernel_rfl) (fun _ _ _ h=>h) (Or.inl ⟨by rfl,?_⟩) ?_
     rotate_left
     ·intro w' hSw;go_simp;try with_reducible rfl
     try simp only [Act.put,SL]
     refine zbc (i:=17) rfl (by kernel_rfl) (by kernel_rfl) rfl rfl 83 (.tmp 76) (.tmp 74) rfl blk (B*9) cA (by simp [Act.eval]) (by simp [Act.eval]) th2 (zag hsA) oneA ?_;refine zas (by kernel_rfl) ?_ _;go_wp2
     go_roundw
     case rel=>
      have hAB:=HAB.out
      have e9:∀ x,q (Sym.swp A B x)=p (Sym.rot a (a+1) (B+1) x):=fun x=>by
       rw [HQ.out,hAB]
       show p (Sym.rot a (a+1) (A+1) (Sym.swp A (A+1) x))=_
       rw [zjU a A x haA]
      exact ⟨B,by omega,by omega,by go_num,HSW.out.same (fun x _=>e9 x),HCr.out.trans HSC.out⟩
     case measure=>have hAB:=HAB.out;simp [intOf];omega
    ·obtain rfl:A=e:=by omega
     have HVA:=hid V;clear V;go_wp2;refine bodyPost_ret (results_none rfl _ _ _) rfl ?_;have hm:=HM.out;have he:=HE.out;have h2:=HS2.out;rw [hm] at h2;have M:=zlS (zbo x0) (p:=p) (a:=a) (b:=b) (i:=A+1) (by omega) (by omega) h2 (fun k h3 h4=>HL.out k (by omega) (by omega)) (fun k h3 h4=>HR.out k (by omega) h4);exact ⟨rfl,_,HVA.out,M.2,M.1,HCr.out⟩
theorem zjW (m k x:Nat) (h:k+1≤m):Sym.rot (k+1) m (m+1) (Sym.swp (k+1) k x)=Sym.rot k m (m+1) x:=by
 unfold Sym.rot Sym.swp
 repeat' split
 all_goals omega
theorem zjX (m x:Nat):Sym.rot m m (m+1) x=x:=by
 unfold Sym.rot
 repeat' split
 all_goals omega
theorem zlT {lt:Nat→Nat→Prop} {p:Nat→Nat} {a m i:Nat} (hai:a≤i) (
 him:i≤m) (h1:Sym.Srt lt p a m) (hl:∀ k,a≤k→k<i→lt (p k) (p m)) (hr:∀ k,i≤k→k<m→lt (p m) (p k)) :
 Sym.Srt lt (fun k=>p (Sym.rot i m (m+1) k)) a (m+1)∧Sym.Re a (m+1) p (fun k=>p (Sym.rot i m (m+1) k)):=by
 have r1:∀ k,i<k→k≤m→Sym.rot i m (m+1) k=k-1:=fun k h3 h4=>by
  unfold Sym.rot;repeat' split
  all_goals omega
 have r2:Sym.rot i m (m+1) i=m:=by
  unfold Sym.rot;repeat' split
  all_goals omega
 have r3:∀ k,k<i→Sym.rot i m (m+1) k=k:=fun k h3=>by
  unfold Sym.rot;repeat' split
  all_goals omega
 refine ⟨fun x y h3 h4 h5=>?_,(Sym.Re.rots p him (by omega)).mono hai (Nat.le_refl _)⟩
 show lt (p (Sym.rot i m (m+1) x)) (p (Sym.rot i m (m+1) y))
 by_cases c1:x<i
 ·rw [r3 x c1]
  by_cases c2:y<i
  ·rw [r3 y c2];exact h1 _ _ (by omega) (by omega) (by omega)
  ·by_cases c3:y=i
   ·rw [c3,r2];exact hl _ h3 c1
   ·rw [r1 y (by omega) (by omega)];exact h1 _ _ (by omega) (by omega) (by omega)
 ·by_cases c3:x=i
  ·rw [c3,r2,r1 y (by omega) (by omega)];exact hr _ (by omega) (by omega)
  ·rw [r1 x (by omega) (by omega),r1 y (by omega) (by omega)];exact h1 _ _ (by omega) (by omega) (by omega)
set_option maxRecDepth 1000000 in
theorem ziY (x0:Nat→RecD) (enc:Nat→List Value) (p:Nat→Nat) (N blk cap lo hi:Nat) (w:World) (V:RowsV x0 enc N blk cap lo hi w p) (hlo:hi≤lo) (hN:N<1000000000) (a m b:Nat) (ham:a<m) (hmb:m<b) (hb:b≤N) (htag:∀ i j,a≤i→i<m→m≤j→j<b→p i<p j) (hs1:Sym.Srt (numL x0) p a m) (hs2:Sym.Srt (numL x0) p m b) (h0:m≠a+1) (h1:b=m+1) :
 Calls Tryz.prog 152 #[.slice (some ⟨blk,0,none⟩) N cap,.int .i64 a,.int .i64 m,.int .i64 b,.func (.func 105) #[] #[]] w (fun e w'=>e=.returned (.tuple #[])∧∃ q,RowsV x0 enc N blk cap lo hi w' q∧Sym.Re a b p q∧Sym.Srt (numL x0) q a b∧ChgL [blk] w w'):=by
 have HV0:=hid V;have HT:=hid htag;have HS1:=hid hs1;have HM:=hid h1;obtain ⟨D,hD⟩:∃ D,D=m-a:=⟨_,rfl⟩
 have w0:IntKind.i64.wrap ((m:Int)-(a:Int))=(D:Int):=by rw [IntKind.wrap_i64];omega
 have d0:((D:Int)==1)=false:=by simp;omega
 have w9:IntKind.i64.wrap ((b:Int)-(m:Int))=1:=by rw [IntKind.wrap_i64];omega
 clear V htag hs1 hs2 h0 h1 hD
 go_enter Tryz.func152,Tryz.ntmps152
 go_wp2
 go_loopw [14,15] (fun vi vj wr=>∃ (i j:Nat),a≤i∧i≤j∧j≤m∧vi=.int .i64 i∧vj=.int .i64 j∧RowsV x0 enc N blk cap lo hi wr p∧(∀ k,a≤k→k<i→numL x0 (p k) (p m))∧(∀ k,j≤k→k<m→numL x0 (p m) (p k))∧ChgL [blk] w wr) (fun vi vj _=>(intOf vj).toNat-(intOf vi).toNat)
 case atStart=>exact ⟨a,m,Nat.le_refl _,by omega,Nat.le_refl _,by go_num,by go_num,HV0.out,fun k h1 h2=>by omega,fun k h1 h2=>by omega,ChgL.refl _ _⟩
 case round=>
  obtain ⟨i,j,hmi,hij,hjb,rfl,rfl,V,hL,hR,C⟩:=hrel;have HC:=hid C;have HL:=hid hL;have HR:=hid hR;have HV:=hid V;clear C hL hR w0 w9 d0
  by_cases hlt:i<j
  ·have t1:(i:Int)<(j:Int):=by omega
   obtain ⟨B,hB⟩:∃ B,B=(i+j)/2:=⟨_,rfl⟩
   have w1:IntKind.i64.wrap ((i:Int)+(j:Int))=((i+j:Nat):Int):=by rw [IntKind.wrap_i64];omega
   have e1:((i:Int)+(j:Int))/2=(B:Int):=by omega
   have hBi:i≤B:=by omega
   have hBj:B<j:=by omega
   have hAN:m<N:=by omega
   have hBN:B<N:=by omega
   have i1:(m:Int)<(N:Int):=by omega
   have i2:(B:Int)<(N:Int):=by omega
   have i3:(0:Int)≤(m:Int):=by omega
   have i4:(0:Int)≤(B:Int):=by omega
   have hsz:=(V.row.lt blk rfl);have VD:=View.drew V;have rgA:wr.drew.rangeAt blk (m*9) (enc (p m)):=VD.range hAN;have rgB:wr.drew.rangeAt blk (B*9) (enc (p B)):=VD.range hBN;have hsA:(enc (p m)).length=9:=VD.lens m hAN;have hsB:(enc (p B)).length=9:=VD.lens B hBN;have rdA:=VD.each m hAN;have rdB:=VD.each B hBN;obtain ⟨cA,hcA⟩:∃ c,c=enc (p m):=⟨_,rfl⟩;obtain ⟨cB,hcB⟩:∃ c,c=enc (p B):=⟨_,rfl⟩;rw [← hcA] at rgA hsA;rw [← hcB] at rgB hsB;have CC0:=zb1 _ _ _ _ hi hi wr.drew rdA rdB;rw [← hcA,← hcB] at CC0;obtain ⟨c,hc⟩:∃ c:Int,c=numC (x0 (p m)) (x0 (p B)):=⟨_,rfl⟩;rw [← hc] at CC0;have HCN:=hid hc
   have CC:Calls Tryz.prog 105 (#[.agg cA.toArray,.agg cB.toArray]++#[]) wr.drew fun e w'=>e=.returned (.int .i64 c)∧Below wr.drew.heap.size wr.drew w':=by rw [Array.append_empty];exact CC0
   have HVD:=hid VD;clear CC0 hc hcA hcB rdA rdB hB VD V HV
   go_upto_region 17 with fail
   try rw [e1]
   refine zax 9 (fun w'=>w'.rangeAt blk (m*9) cA∧w'.rangeAt blk (B*9) cB) zbC ⟨rgA,rgB⟩ (fun hHeld=>?_);refine zlN 0 rfl ?_
   try simp only [Act.put,SL]
   refine zlN 1 rfl ?_
   try simp only [Act.put,SL]
   refine zlN 2 rfl ?_
   try simp only [Act.put,SL]
   refine zlN 3 rfl ?_
   try simp only [Act.put,SL]
   refine zaf (i:=4) (oi:=_) 16 rfl (by kernel_rfl) (fun _ _ _ h=>h) (yieldsIf_load_mid (by kernel_rfl) 83 (.tmp 95) rfl blk (m*9) (by simp [Act.eval,Act.put]) cA _ (fun w h=>h.1) Tryz.underlying83 rfl (zag hsA)) (by assumption) ?_
   try simp only [Act.put,SL]
   refine zlN 5 rfl ?_
   try simp only [Act.put,SL]
   refine zlN 6 rfl ?_
   try simp only [Act.put,SL]
   refine zlN 7 rfl ?_
   try simp only [Act.put,SL]
   refine zaf (i:=8) (oi:=_) 16 rfl (by kernel_rfl) (fun _ _ _ h=>h) (yieldsIf_load_mid (by kernel_rfl) 83 (.tmp 99) rfl blk (B*9) (by simp [Act.eval,Act.put]) cB _ (fun w h=>h.2) Tryz.underlying83 rfl (zag hsB)) (by assumption) ?_
   try simp only [Act.put,SL]
   refine zar (i:=9) (o:=_) rfl (by kernel_rfl) (by kernel_rfl) (fun KC hKC=>?_);refine zaY (by kernel_rfl) (.tmp 92) 105 #[] _ _ rfl (by simp [Act.eval,Act.put]) #[.agg cA.toArray,.agg cB.toArray] (by simp [Act.eval,Act.put]) Tryz.func105 (by kernel_rfl) (by kernel_rfl) CC ?_;rintro ee w5 ⟨rfl,b5⟩;refine ⟨_,rfl,?_⟩;refine hKC _ _ ?_;clear hKC KC
   try simp only [Act.put,SL]
   refine zlz 10 (v:=?_) rfl ?_ ?_
   rotate_left
   ·intro w' hSw;go_simp;try with_reducible rfl
   try simp only [Act.put,SL]
   obtain ⟨dd,hdd⟩:∃ d:Bool,d=decide (c<0):=⟨_,rfl⟩;have HDD:=hid hdd;rw [← hdd];clear hdd;refine zlz 11 (v:=?_) rfl ?_ ?_
   rotate_left
   ·intro w' hSw;go_simp;try with_reducible rfl
   try simp only [Act.put,SL]
   refine zas (by kernel_rfl) ?_ _;have HV5:Hid (RowsV x0 enc N blk cap lo hi w5 p):=View.below HVD.out b5 (by show hi≤wr.heap.size;omega);have HC5:Hid (ChgL [blk] w w5):=HC.out.trans ((ChgL.of_below ⟨rfl,rfl,rfl,Nat.le_refl _,fun _ _=>rfl⟩:ChgL [blk] wr wr.drew).trans (ChgL.of_below b5));clear HVD HC rgA rgB hsA hsB b5 hHeld CC hsz
   cases dd
   ·go_wp2
    go_roundw
    case rel=>
     refine ⟨B+1,j,by omega,by omega,by omega,by go_num,rfl,HV5.out,fun k k1 k2=>?_,HR.out,HC5.out⟩
     have h2:¬ c<0:=by simpa using HDD.out
     rw [HCN.out] at h2;have h3:=zgH (HT.out B m (by omega) (by omega) (Nat.le_refl _) (by omega)) h2
     by_cases ck:k=B
     ·rw [ck];exact h3
     ·exact (zbo x0).trans (HS1.out k B k1 (by omega) (by omega)) h3
    case measure=>simp [intOf];omega
   ·go_wp2
    go_roundw
    case rel=>
     refine ⟨i,B,hmi,hBi,by omega,rfl,by go_num,HV5.out,HL.out,fun k k1 k2=>?_,HC5.out⟩
     have h2:c<0:=by simpa using HDD.out
     rw [HCN.out] at h2;have h3:=zeO h2
     by_cases ck:k=B
     ·rw [ck];exact h3
     ·exact (zbo x0).trans h3 (HS1.out B k (by omega) (by omega) k2)
    case measure=>simp [intOf];omega
  ·obtain rfl:i=j:=by omega
   clear V hij;go_wp2
   go_loopw [17] (fun vk wr=>∃ k:Nat,i≤k∧k≤m∧vk=.int .i64 k∧RowsV x0 enc N blk cap lo hi wr (fun x=>p (Sym.rot k m (m+1) x))∧ChgL [blk] w wr) (fun vk _=>(intOf vk).toNat)
   case atStart=>exact ⟨m,hjb,Nat.le_refl _,by go_num,HV.out.same (fun x _=>by rw [zjX]),HC.out⟩
   case round=>
    obtain ⟨A,haA,hAe,rfl,V,C⟩:=hrel;have HCr:=hid C;clear C
    by_cases hlt:i<A
    ·have t2:(i:Int)<(A:Int):=by omega
     obtain ⟨q,hq⟩:∃ q:Nat→Nat,q=fun x=>p (Sym.rot A m (m+1) x):=⟨_,rfl⟩;have HQ:=hid hq
     have VQ:RowsV x0 enc N blk cap lo hi wr q:=by rw [hq];exact V
     obtain ⟨B,hB⟩:∃ B,A=B+1:=⟨A-1,by omega⟩;have HAB:=hid hB
     have hAN:A<N:=by omega
     have hBN:B<N:=by omega
     have w4:IntKind.i64.wrap ((A:Int)-1)=(B:Int):=by rw [IntKind.wrap_i64];omega
     have i1:(A:Int)<(N:Int):=by omega
     have i2:(B:Int)<(N:Int):=by omega
     have i3:(0:Int)≤(A:Int):=by omega
     have i4:(0:Int)≤(B:Int):=by omega
     have VD:=View.drew VQ;have rgA:wr.drew.rangeAt blk (A*9) (enc (q A)):=VD.range hAN;have rgB:wr.drew.rangeAt blk (B*9) (enc (q B)):=VD.range hBN;have hsA:(enc (q A)).length=9:=VD.lens A hAN;have hsB:(enc (q B)).length=9:=VD.lens B hBN
     have th1:wr.drew.there blk (A*9) (enc (q B)).length:=by rw [hsB];exact VD.there hAN
     have th2:(wr.drew.setCells blk (A*9) (enc (q B))).there blk (B*9) (enc (q A)).length:=by rw [hsA];exact (VD.put (by decide) hlo hAN (VD.each B hBN)).there hBN
     have oneA:=zaM _ _ _ _ (VD.each A hAN);have oneB:=zaM _ _ _ _ (VD.each B hBN);have SW:=zdF VD hlo hAN hBN;have HSW:=hid SW.1;have HSC:Hid (ChgL [blk] wr ((wr.drew.setCells blk (A*9) (enc (q B))).setCells blk (B*9) (enc (q A)))):=(ChgL.of_below ⟨rfl,rfl,rfl,Nat.le_refl _,fun _ _=>rfl⟩:ChgL [blk] wr wr.drew).trans SW.2;obtain ⟨cA,hcA⟩:∃ c,c=enc (q A):=⟨_,rfl⟩;obtain ⟨cB,hcB⟩:∃ c,c=enc (q B):=⟨_,rfl⟩;rw [← hcA] at rgA th2 hsA oneA HSW HSC;rw [← hcB] at rgB th1 th2 hsB oneB HSW HSC;clear hcA hcB VD SW;clear hq hB V VQ
     go_upto_region 23 with fail
     refine zax 15 (fun w'=>w'.rangeAt blk (A*9) cA∧w'.rangeAt blk (B*9) cB) zbC ⟨rgA,rgB⟩ (fun hHeld=>?_);refine zaa (i:=0) (oi:=_) (v:=?_) rfl (by kernel_rfl) (fun _ _ _ h=>h) (Or.inl ⟨by rfl,?_⟩) (by assumption) ?_
     rotate_left
     ·intro w' hSw;go_simp;try with_reducible rfl
     try simp only [Act.put,SL]
     refine zaa (i:=1) (oi:=_) (v:=?_) rfl (by kernel_rfl) (fun _ _ _ h=>h) (Or.inl ⟨by rfl,?_⟩) (by assumption) ?_
     rotate_left
     ·intro w' hSw;go_simp;try with_reducible rfl
     try simp only [Act.put,SL]
     refine zaa (i:=2) (oi:=_) (v:=?_) rfl (by kernel_rfl) (fun _ _ _ h=>h) (Or.inl ⟨by rfl,?_⟩) (by assumption) ?_
     rotate_left
     ·intro w' hSw;go_simp;try with_reducible rfl
     try simp only [Act.put,SL]
     refine zaa (i:=3) (oi:=_) (v:=?_) rfl (by kernel_rfl) (fun _ _ _ h=>h) (Or.inl ⟨by rfl,?_⟩) (by assumption) ?_
     rotate_left
     ·intro w' hSw;go_simp;try with_reducible rfl
     try simp only [Act.put,SL]
     refine zaa (i:=4) (oi:=_) (v:=?_) rfl (by kernel_rfl) (fun _ _ _ h=>h) (Or.inl ⟨by rfl,?_⟩) (by assumption) ?_
     rotate_left
     ·intro w' hSw;go_simp;try with_reducible rfl
     try simp only [Act.put,SL]
     refine zaa (i:=5) (oi:=_) (v:=?_) rfl (by kernel_rfl) (fun _ _ _ h=>h) (Or.inl ⟨by rfl,?_⟩) (by assumption) ?_
     rotate_left
     ·intro w' hSw;go_simp;try with_reducible rfl
     try simp only [Act.put,SL]
     refine zaa (i:=6) (oi:=_) (v:=?_) rfl (by kernel_rfl) (fun _ _ _ h=>h) (Or.inl ⟨by rfl,?_⟩) (by assumption) ?_
     rotate_left
     ·intro w' hSw;go_simp;try with_reducible rfl
     try simp only [Act.put,SL]
     refine zaa (i:=7) (oi:=_) (v:=?_) rfl (by kernel_rfl) (fun _ _ _ h=>h) (Or.inl ⟨by rfl,?_⟩) (by assumption) ?_
     rotate_left
     ·intro w' hSw;go_simp;try with_reducible rfl
     try simp only [Act.put,SL]
     refine zaa (i:=8) (oi:=_) (v:=?_) rfl (by kernel_rfl) (fun _ _ _ h=>h) (Or.inl ⟨by rfl,?_⟩) (by assumption) ?_
     rotate_left
     ·intro w' hSw;go_simp;try with_reducible rfl
     try simp only [Act.put,SL]
     refine zaf (i:=9) (oi:=_) 16 rfl (by kernel_rfl) (fun _ _ _ h=>h) (yieldsIf_load_mid (by rfl) 83 (.tmp 121) rfl blk (B*9) (by simp [Act.eval,Act.put]) cB _ (fun w h=>h.2) Tryz.underlying83 rfl (zag hsB)) (by assumption) ?_
     try simp only [Act.put,SL]
     refine zaa (i:=10) (oi:=_) (v:=?_) rfl (by kernel_rfl) (fun _ _ _ h=>h) (Or.inl ⟨by rfl,?_⟩) (by assumption) ?_
     rotate_left
     ·intro w' hSw;go_simp;try with_reducible rfl
     try simp only [Act.put,SL]
     refine zaa (i:=11) (oi:=_) (v:=?_) rfl (by kernel_rfl) (fun _ _ _ h=>h) (Or.inl ⟨by rfl,?_⟩) (by assumption) ?_
     rotate_left
     ·intro w' hSw;go_simp;try with_reducible rfl
     try simp only [Act.put,SL]
     refine zaa (i:=12) (oi:=_) (v:=?_) rfl (by kernel_rfl) (fun _ _ _ h=>h) (Or.inl ⟨by rfl,?_⟩) (by assumption) ?_
     rotate_left
     ·intro w' hSw;go_simp;try with_reducible rfl
     try simp only [Act.put,SL]
     refine zaf (i:=13) (oi:=_) 16 rfl (by kernel_rfl) (fun _ _ _ h=>h) (yieldsIf_load_mid (by rfl) 83 (.tmp 125) rfl blk (A*9) (by simp [Act.eval,Act.put]) cA _ (fun w h=>h.1) Tryz.underlying83 rfl (zag hsA)) (by assumption) ?_
     try simp only [Act.put,SL]
     refine zaa (i:=14) (oi:=_) (v:=?_) rfl (by kernel_rfl) (fun _ _ _ h=>h) (Or.inl ⟨by rfl,?_⟩) (by assumption) ?_
     rotate_left
     ·intro w' hSw;go_simp;try with_reducible rfl
     try simp only [Act.put,SL]
     refine zbc (i:=15) rfl (by kernel_rfl) (by kernel_rfl) rfl rfl 83 (.tmp 127) (.tmp 122) rfl blk (A*9) cB (by simp [Act.eval]) (by simp [Act.eval]) th1 (zag hsB) oneB ?_;refine zai (i:=16) (oi:=_) (v:=?_) rfl (by kernel_rfl) (fun _ _ _ h=>h) (Or.inl ⟨by rfl,?_⟩) ?_
     rotate_left
     ·intro w' hSw;go_simp;try with_reducible rfl
     try simp only [Act.put,SL]
     refine zbc (i:=17) rfl (by kernel_rfl) (by kernel_rfl) rfl rfl 83 (.tmp 128) (.tmp 126) rfl blk (B*9) cA (by simp [Act.eval]) (by simp [Act.eval]) th2 (zag hsA) oneA ?_;refine zas (by kernel_rfl) ?_ _;go_wp2
     go_roundw
     case rel=>
      have hAB:=HAB.out
      have e9:∀ x,q (Sym.swp A B x)=p (Sym.rot B m (m+1) x):=fun x=>by
       rw [HQ.out,hAB]
       show p (Sym.rot (B+1) m (m+1) (Sym.swp (B+1) B x))=_
       rw [zjW m B x (by omega)]
      exact ⟨B,by omega,by omega,by go_num,HSW.out.same (fun x _=>e9 x),HCr.out.trans HSC.out⟩
     case measure=>have hAB:=HAB.out;simp [intOf];omega
    ·obtain rfl:A=i:=by omega
     have HVA:=hid V;clear V;go_wp2;refine bodyPost_ret (results_none rfl _ _ _) rfl ?_;have M:=zlT (p:=p) (a:=a) (m:=m) (i:=A) hmi (by omega) HS1.out (fun k h3 h4=>HL.out k h3 h4) (fun k h3 h4=>HR.out k h3 h4);rw [← HM.out] at M;exact ⟨rfl,_,by rw [← HM.out] at HVA;exact HVA.out,M.2,M.1,HCr.out⟩
theorem zlk (p q:Prop) [Decidable p] [Decidable q]:(p∧q)∨(p∧¬ q)∨¬ p:=by
 by_cases h:p
 ·by_cases k:q
  ·exact .inl ⟨h,k⟩
  ·exact .inr (.inl ⟨h,k⟩)
 ·exact .inr (.inr h)
theorem dT {x y:Nat} (h:x<y):decide ((x:Int)<(y:Int))=true:=decide_eq_true (by omega)
theorem dN {x y:Nat} (h:x<y):decide (x<y)=true:=decide_eq_true h
theorem dF {x y:Nat} (h:¬ x<y):decide ((x:Int)<(y:Int))=false:=decide_eq_false (by omega)
theorem dM {x y:Nat} (h:¬ x<y):decide (x<y)=false:=decide_eq_false h
theorem zll (m e x:Nat):Sym.rot m m e x=x:=by
 unfold Sym.rot
 repeat' split
 all_goals omega
theorem zlm (s m x:Nat):Sym.rot s m m x=x:=by
 unfold Sym.rot
 repeat' split
 all_goals omega
theorem rot_a {s m e x:Nat} (h:x<s):Sym.rot s m e x=x:=by
 unfold Sym.rot
 repeat' split
 all_goals omega
theorem rot_b {s m e x:Nat} (h:e≤x):Sym.rot s m e x=x:=by
 unfold Sym.rot
 repeat' split
 all_goals omega
theorem rot_c {s m e mid x:Nat} (hm:mid+m=s+e) (h1:s≤m) (h2:m≤e) (h3:s≤x) (h4:x<mid):m≤Sym.rot s m e x∧Sym.rot s m e x<e:=by
 unfold Sym.rot
 repeat' split
 all_goals omega
theorem rot_d {s m e mid x:Nat} (hm:mid+m=s+e) (h1:s≤m) (h2:m≤e) (h3:mid≤x) (h4:x<e):s≤Sym.rot s m e x∧Sym.rot s m e x<m:=by
 unfold Sym.rot
 repeat' split
 all_goals omega
set_option maxRecDepth 1000000 in
theorem zfs (x0:Nat→RecD) (enc:Nat→List Value) (p:Nat→Nat) (N blk cap lo hi:Nat) (w:World) (V:RowsV x0 enc N blk cap lo hi w p) (hlo:hi≤lo) (hN:N<1000000000) (a m b mid:Nat) (ham:a<m) (hmb:m<b) (hb:b≤N) (htag:∀ i j,a≤i→i<m→m≤j→j<b→p i<p j) (hs1:Sym.Srt (numL x0) p a m) (hs2:Sym.Srt (numL x0) p m b) (h0:m≠a+1) (h1:b≠m+1) (hmid:mid=(a+b)/2) (hx:mid<m∨m≤mid) (IH:∀ (p':Nat→Nat) (w':World) (a' m' b':Nat),b'-a'<b-a→RowsV x0 enc N blk cap lo hi w' p'→a'<m'→m'<b'→b'≤N→(∀ i j,a'≤i→i<m'→m'≤j→j<b'→p' i<p' j)→Sym.Srt (numL x0) p' a' m'→Sym.Srt (numL x0) p' m' b'→Calls Tryz.prog 152 #[.slice (some ⟨blk,0,none⟩) N cap,.int .i64 a',.int .i64 m',.int .i64 b',.func (.func 105) #[] #[]] w' (fun e w''=>e=.returned (.tuple #[])∧∃ q,RowsV x0 enc N blk cap lo hi w'' q∧Sym.Re a' b' p' q∧Sym.Srt (numL x0) q a' b'∧ChgL [blk] w' w'')) :
 Calls Tryz.prog 152 #[.slice (some ⟨blk,0,none⟩) N cap,.int .i64 a,.int .i64 m,.int .i64 b,.func (.func 105) #[] #[]] w (fun e w'=>e=.returned (.tuple #[])∧∃ q,RowsV x0 enc N blk cap lo hi w' q∧Sym.Re a b p q∧Sym.Srt (numL x0) q a b∧ChgL [blk] w w'):=by
 have HV0:=hid V;have HT:=hid htag;have HS1:=hid hs1;have HS2:=hid hs2;have HIH:=hid IH;have HMID:=hid hmid;obtain ⟨D,hD⟩:∃ D,D=m-a:=⟨_,rfl⟩
 have w0:IntKind.i64.wrap ((m:Int)-(a:Int))=(D:Int):=by rw [IntKind.wrap_i64];omega
 have d0:((D:Int)==1)=false:=by simp;omega
 obtain ⟨E,hE⟩:∃ E,E=b-m:=⟨_,rfl⟩
 have w9:IntKind.i64.wrap ((b:Int)-(m:Int))=(E:Int):=by rw [IntKind.wrap_i64];omega
 have d9:((E:Int)==1)=false:=by simp;omega
 have w1:IntKind.i64.wrap ((a:Int)+(b:Int))=((a+b:Nat):Int):=by rw [IntKind.wrap_i64];omega
 have e1:((a:Int)+(b:Int))/2=(mid:Int):=by omega
 obtain ⟨n,hn⟩:∃ n,n=mid+m:=⟨_,rfl⟩
 have w2:IntKind.i64.wrap ((mid:Int)+(m:Int))=(n:Int):=by rw [IntKind.wrap_i64];omega
 obtain ⟨P,hP⟩:∃ P,n=P+1:=⟨n-1,by omega⟩
 have w3:IntKind.i64.wrap ((n:Int)-1)=(P:Int):=by rw [IntKind.wrap_i64];omega
 obtain ⟨S0,R0,hSR⟩:∃ S0 R0:Nat,(mid<m∧S0=n-b∧R0=mid)∨(¬ mid<m∧S0=a∧R0=m):=by
  rcases hx with h | h
  ·exact ⟨_,_,.inl ⟨h,rfl,rfl⟩⟩
  ·exact ⟨_,_,.inr ⟨by omega,rfl,rfl⟩⟩
 have F:a≤S0∧n≤S0+b∧(S0=a∨n=S0+b)∧S0≤R0∧R0≤m∧R0≤mid∧(R0=m∨R0=mid):=by omega
 have HF:=hid F;have HN:Hid (n=mid+m∧n=P+1):=⟨hn,hP⟩;have HSR:=hid hSR;clear V htag hs1 hs2 h0 h1 hD hE IH hmid hn hP F
 rcases hSR with ⟨hx1,hS0,hR0⟩ | ⟨hx1,hS0,hR0⟩
 all_goals
  first
  | (
   have x4:(mid:Int)<(m:Int):=by exact Int.ofNat_lt.mpr (hx1:mid<m)
   have x5:IntKind.i64.wrap ((n:Int)-(b:Int))=(S0:Int):=by rw [IntKind.wrap_i64];have:=HN.out;have:=HF.out;omega
   have HSX:Hid (S0=n-b∧R0=mid):=⟨hS0,hR0⟩)
  | (
   have x4:=dF (hx1:¬ mid<m);have x5:=dM (hx1:¬ mid<m)
   have HSX:Hid (S0=a∧R0=m):=⟨hS0,hR0⟩)
  clear hx1 hS0 hR0
  go_enter Tryz.func152,Tryz.ntmps152
  go_wp2
  go_loopw [20,21] (fun vi vj wr=>∃ (i j:Nat),S0≤i∧i≤j∧j≤R0∧vi=.int .i64 i∧vj=.int .i64 j∧RowsV x0 enc N blk cap lo hi wr p∧(i=S0∨numL x0 (p (i-1)) (p (n-i)))∧(j=R0∨numL x0 (p (P-j)) (p j))∧ChgL [blk] w wr) (fun vi vj _=>(intOf vj).toNat-(intOf vi).toNat)
  case atStart=>exact ⟨S0,R0,Nat.le_refl _,HF.out.2.2.2.1,Nat.le_refl _,by have:=HSX.out;go_num,by have:=HSX.out;go_num,HV0.out,.inl rfl,.inl rfl,ChgL.refl _ _⟩
  case round=>
   obtain ⟨i,j,hmi,hij,hjb,rfl,rfl,V,hL,hR,C⟩:=hrel;have HC:=hid C;have HL:=hid hL;have HR:=hid hR;have HV:=hid V;clear C hL hR w0 w9 d0 d9 w1 e1 w2 w3
   by_cases hlt:i<j
   ·have t1:(i:Int)<(j:Int):=by omega
    obtain ⟨B,hB⟩:∃ B,B=(i+j)/2:=⟨_,rfl⟩
    have w1:IntKind.i64.wrap ((i:Int)+(j:Int))=((i+j:Nat):Int):=by rw [IntKind.wrap_i64];have:=HF.out;omega
    have e1:((i:Int)+(j:Int))/2=(B:Int):=by omega
    have hBi:i≤B:=by omega
    have hBj:B<j:=by omega
    obtain ⟨A,hA⟩:∃ A,A=P-B:=⟨_,rfl⟩;have hF:=HF.out;have hNN:=HN.out;have hMID:=HMID.out
    have hAm:m≤A∧A<b:=by omega
    have HAP:Hid (A+B=P):=(by omega:A+B=P)
    have w4:IntKind.i64.wrap ((P:Int)-(B:Int))=(A:Int):=by rw [IntKind.wrap_i64];omega
    have hAN:A<N:=by omega
    have hBN:B<N:=by omega
    have i1:(A:Int)<(N:Int):=by omega
    have i2:(B:Int)<(N:Int):=by omega
    have i3:(0:Int)≤(A:Int):=by omega
    have i4:(0:Int)≤(B:Int):=by omega
    have hsz:=(V.row.lt blk rfl);have HTG:Hid (p B<p A):=HT.out B A (by omega) (by omega) (by omega) (by omega);have VD:=View.drew V;have rgA:wr.drew.rangeAt blk (A*9) (enc (p A)):=VD.range hAN;have rgB:wr.drew.rangeAt blk (B*9) (enc (p B)):=VD.range hBN;have hsA:(enc (p A)).length=9:=VD.lens A hAN;have hsB:(enc (p B)).length=9:=VD.lens B hBN;have rdA:=VD.each A hAN;have rdB:=VD.each B hBN;obtain ⟨cA,hcA⟩:∃ c,c=enc (p A):=⟨_,rfl⟩;obtain ⟨cB,hcB⟩:∃ c,c=enc (p B):=⟨_,rfl⟩;rw [← hcA] at rgA hsA;rw [← hcB] at rgB hsB;have CC0:=zb1 _ _ _ _ hi hi wr.drew rdA rdB;rw [← hcA,← hcB] at CC0;obtain ⟨c,hc⟩:∃ c:Int,c=numC (x0 (p A)) (x0 (p B)):=⟨_,rfl⟩;rw [← hc] at CC0;have HCN:=hid hc
    have CC:Calls Tryz.prog 105 (#[.agg cA.toArray,.agg cB.toArray]++#[]) wr.drew fun e w'=>e=.returned (.int .i64 c)∧Below wr.drew.heap.size wr.drew w':=by rw [Array.append_empty];exact CC0
    have HVD:=hid VD;clear CC0 hc hcA hcB rdA rdB hB hA hF hNN hMID VD V HV
    go_upto_region 35 with fail
    try rw [e1]
    refine zax 11 (fun w'=>w'.rangeAt blk (A*9) cA∧w'.rangeAt blk (B*9) cB) zbC ⟨rgA,rgB⟩ (fun hHeld=>?_);refine zlN 0 rfl ?_
    try simp only [Act.put,SL]
    refine zlN 1 rfl ?_
    try simp only [Act.put,SL]
    refine zlN 2 rfl ?_
    try simp only [Act.put,SL]
    refine zlN 3 rfl ?_
    try simp only [Act.put,SL]
    refine zlN 4 rfl ?_
    try simp only [Act.put,SL]
    refine zlN 5 rfl ?_
    try simp only [Act.put,SL]
    refine zaf (i:=6) (oi:=_) 16 rfl (by kernel_rfl) (fun _ _ _ h=>h) (yieldsIf_load_mid (by kernel_rfl) 83 (.tmp 163) rfl blk (A*9) (by simp [Act.eval,Act.put]) cA _ (fun w h=>h.1) Tryz.underlying83 rfl (zag hsA)) (by assumption) ?_
    try simp only [Act.put,SL]
    refine zlN 7 rfl ?_
    try simp only [Act.put,SL]
    refine zlN 8 rfl ?_
    try simp only [Act.put,SL]
    refine zlN 9 rfl ?_
    try simp only [Act.put,SL]
    refine zaf (i:=10) (oi:=_) 16 rfl (by kernel_rfl) (fun _ _ _ h=>h) (yieldsIf_load_mid (by kernel_rfl) 83 (.tmp 167) rfl blk (B*9) (by simp [Act.eval,Act.put]) cB _ (fun w h=>h.2) Tryz.underlying83 rfl (zag hsB)) (by assumption) ?_
    try simp only [Act.put,SL]
    refine zar (i:=11) (o:=_) rfl (by kernel_rfl) (by kernel_rfl) (fun KC hKC=>?_);refine zaY (by kernel_rfl) (.tmp 158) 105 #[] _ _ rfl (by simp [Act.eval,Act.put]) #[.agg cA.toArray,.agg cB.toArray] (by simp [Act.eval,Act.put]) Tryz.func105 (by kernel_rfl) (by kernel_rfl) CC ?_;rintro ee w5 ⟨rfl,b5⟩;refine ⟨_,rfl,?_⟩;refine hKC _ _ ?_;clear hKC KC
    try simp only [Act.put,SL]
    refine zlz 12 (v:=?_) rfl ?_ ?_
    rotate_left
    ·intro w' hSw;go_simp;try with_reducible rfl
    try simp only [Act.put,SL]
    obtain ⟨dd,hdd⟩:∃ d:Bool,d=decide (c<0):=⟨_,rfl⟩;have HDD:=hid hdd;rw [← hdd];clear hdd;refine zlz 13 (v:=?_) rfl ?_ ?_
    rotate_left
    ·intro w' hSw;go_simp;try with_reducible rfl
    try simp only [Act.put,SL]
    refine zas (by kernel_rfl) ?_ _;have HV5:Hid (RowsV x0 enc N blk cap lo hi w5 p):=View.below HVD.out b5 (by show hi≤wr.heap.size;omega);have HC5:Hid (ChgL [blk] w w5):=HC.out.trans ((ChgL.of_below ⟨rfl,rfl,rfl,Nat.le_refl _,fun _ _=>rfl⟩:ChgL [blk] wr wr.drew).trans (ChgL.of_below b5));clear HVD HC rgA rgB hsA hsB b5 hHeld CC hsz
    cases dd
    ·go_wp2
     go_roundw
     case rel=>
      refine ⟨B+1,j,by omega,by omega,by omega,by go_num,rfl,HV5.out,.inr ?_,HR.out,HC5.out⟩
      have h2:¬ c<0:=by simpa using HDD.out
      rw [HCN.out] at h2;rw [show B+1-1=B by omega,show n-(B+1)=A by have h8:=HN.out;have h9:=HAP.out;omega];exact zgH HTG.out h2
     case measure=>simp [intOf];omega
    ·go_wp2
     go_roundw
     case rel=>
      refine ⟨i,B,hmi,hBi,by omega,rfl,by go_num,HV5.out,HL.out,.inr ?_,HC5.out⟩
      have h2:c<0:=by simpa using HDD.out
      rw [HCN.out] at h2;rw [show P-B=A by have h9:=HAP.out;omega];exact zeO h2
     case measure=>simp [intOf];omega
   ·obtain rfl:i=j:=by omega
    clear V hij;obtain ⟨e,he⟩:∃ e,e=n-i:=⟨_,rfl⟩;have hF:=HF.out;have hNN:=HN.out;have hMID:=HMID.out
    have hie:mid+m=i+e:=by omega
    have hae:a≤i∧i≤m∧m≤e∧e≤b∧i≤mid∧mid≤e:=by omega
    have w5:IntKind.i64.wrap ((n:Int)-(i:Int))=(e:Int):=by rw [IntKind.wrap_i64];omega
    have SP:=Sym.split (zbo x0) (p:=p) (a:=a) (m:=m) (b:=b) (s:=i) (e:=e) (mid:=mid) HS1.out HS2.out hie hae.1 hae.2.1 hae.2.2.1 hae.2.2.2.1 (fun h3 h4=>by
     rcases HL.out with h5 | h5
     ·omega
     ·rw [← he] at h5;exact h5) (fun h3 h4=>by
     rcases HR.out with h5 | h5
     ·omega
     ·rw [show P-i=e-1 by omega] at h5;exact h5)
    obtain ⟨q0,hq0⟩:∃ q0:Nat→Nat,q0=fun k=>p (Sym.rot i m e k):=⟨_,rfl⟩;have HQ0:=hid hq0;rw [← hq0] at SP;have HSa:=hid SP.1;have HSb:=hid SP.2.1;have HSc:=hid SP.2.2.1;have HSd:=hid SP.2.2.2.1;have HX:Hid (∀ x y,a≤x→x<mid→mid≤y→y<b→numL x0 (q0 x) (q0 y)):=(fun x y h3 h4 h5 h6=>by rw [hq0];exact SP.2.2.2.2 x y h3 h4 h5 h6:∀ x y,a≤x→x<mid→mid≤y→y<b→numL x0 (q0 x) (q0 y));have HRe0:Hid (Sym.Re a b p q0):=(by rw [hq0];exact (Sym.Re.rots p hae.2.1 hae.2.2.1).mono hae.1 hae.2.2.2.1:Sym.Re a b p q0);have HO:Hid (a≤mid∧mid≤b∧b≤N∧mid≤N∧a<mid∧mid<b∧e≤N):=⟨by omega,by omega,by omega,by omega,by omega,by omega,by omega⟩
    have HT2:Hid (∀ x y,a≤x→x<i→i≤y→y<mid→q0 x<q0 y):=(fun x y h3 h4 h5 h6=>by
     have h7:=rot_c (e:=e) hie hae.2.1 hae.2.2.1 h5 h6;rw [hq0]
     show p (Sym.rot i m e x)<p (Sym.rot i m e y)
     rw [rot_a h4]
     exact HT.out x _ h3 (by omega) h7.1 (by omega):∀ x y,a≤x→x<i→i≤y→y<mid→q0 x<q0 y)
    have HT3':Hid (∀ q1,Sym.Re a mid q0 q1→∀ x y,mid≤x→x<e→e≤y→y<b→q1 x<q1 y):=(fun q1 k x y h3 h4 h5 h6=>by
     have h7:=rot_d (e:=e) hie hae.2.1 hae.2.2.1 h3 h4;rw [k.out (.inr h3),k.out (.inr (by omega)),hq0]
     show p (Sym.rot i m e x)<p (Sym.rot i m e y)
     rw [rot_b h5]
     exact HT.out _ y (by omega) h7.2 (by omega) h6:∀ q1,Sym.Re a mid q0 q1→∀ x y,mid≤x→x<e→e≤y→y<b→q1 x<q1 y)
    have HT3:∀ {q1},Sym.Re a mid q0 q1→∀ x y,mid≤x→x<e→e≤y→y<b→q1 x<q1 y:=fun k=>HT3'.out _ k;have HL3:∀ {q1},Sym.Re a mid q0 q1→Sym.Srt (numL x0) q1 mid e:=fun k=>HSc.out.congr (fun x h3 h4=>k.out (.inr h3));have HL4:∀ {q1},Sym.Re a mid q0 q1→Sym.Srt (numL x0) q1 e b:=fun k=>HSd.out.congr (fun x h3 h4=>k.out (.inr (by omega)))
    have HN1:¬ (i<m∧m<e)→∀ x,p (Sym.rot i m e x)=p x:=fun h x=>by
     by_cases h3:i=m
     ·rw [h3,zll]
     ·have h4:e=m:=by omega
      rw [h4,zlm]
    have HN2:¬ (a<i∧i<mid)→Sym.Srt (numL x0) q0 a mid:=fun h=>by
     by_cases h3:a=i
     ·rw [h3];exact HSb.out
     ·have h4:mid=i:=by omega
      rw [h4];exact HSa.out
    have HN3:∀ {q1},Sym.Re a mid q0 q1→¬ (mid<e∧e<b)→Sym.Srt (numL x0) q1 mid b:=fun k h=>by
     by_cases h3:mid=e
     ·rw [h3];rw [h3] at k;exact HSd.out.congr (fun x h3 h4=>k.out (.inr h3))
     ·have h4:b=e:=by omega
      rw [h4];exact HL3 k
    clear hF hNN hMID SP hq0 he
    rcases zlk (i<m) (m<e) with h | h | h
    all_goals first
     | (
      have HK1:=hid h;have f1:=dT h.1;have g1:=dN h.1;have u1:(i:Int)<(m:Int):=Int.ofNat_lt.mpr h.1;have f1b:=dT h.2;have g1b:=dN h.2;have u1b:(m:Int)<(e:Int):=Int.ofNat_lt.mpr h.2;clear h;have CS:=ziP x0 enc p N blk cap lo hi wr HV.out hlo hN i m e (.func (.func 105) #[] #[]) HK1.out.1 HK1.out.2 (by have h9:=HO.out;omega)
      go_wp2_with fail
      refine CS.mono ?_;rintro ee wv ⟨rfl,V6,C6⟩;have HV1:Hid (RowsV x0 enc N blk cap lo hi wv q0):=(by rw [HQ0.out];exact V6:RowsV x0 enc N blk cap lo hi wv q0);have HC1:=hid (HC.out.trans C6)
      clear V6 C6 CS)
     | (
      have HK1:Hid (¬ (i<m∧m<e)):=fun k=>h.2 k.2;have f1:=dT h.1;have g1:=dN h.1;have u1:(i:Int)<(m:Int):=Int.ofNat_lt.mpr h.1;have f1b:=dF h.2;have g1b:=dM h.2;clear h;obtain ⟨wv,rfl⟩:∃ y,y=wr:=⟨_,rfl⟩;have HV1:Hid (RowsV x0 enc N blk cap lo hi wv q0):=(HV.out.same (fun x _=>by rw [HQ0.out];exact (HN1 HK1.out x).symm):RowsV x0 enc N blk cap lo hi wv q0)
      have HC1:Hid (ChgL [blk] w wv):=HC.out)
     | (
      have HK1:Hid (¬ (i<m∧m<e)):=fun k=>h k.1;have f1:=dF h;have g1:=dM h;clear h;obtain ⟨wv,rfl⟩:∃ y,y=wr:=⟨_,rfl⟩;have HV1:Hid (RowsV x0 enc N blk cap lo hi wv q0):=(HV.out.same (fun x _=>by rw [HQ0.out];exact (HN1 HK1.out x).symm):RowsV x0 enc N blk cap lo hi wv q0)
      have HC1:Hid (ChgL [blk] w wv):=HC.out)
    all_goals rcases zlk (a<i) (i<mid) with h | h | h
    all_goals first
     | (
      have HK2:=hid h;have f2:=dT h.1;have g2:=dN h.1;have u2:(a:Int)<(i:Int):=Int.ofNat_lt.mpr h.1;have f2b:=dT h.2;have g2b:=dN h.2;have u2b:(i:Int)<(mid:Int):=Int.ofNat_lt.mpr h.2;clear h;have CS:=HIH.out q0 wv a i mid (by have h9:=HO.out;omega) HV1.out HK2.out.1 HK2.out.2 HO.out.2.2.2.1 HT2.out HSa.out HSb.out
      go_wp2_with fail
      refine CS.mono ?_;rintro ee wz ⟨rfl,q1,Vq,hRe1,hSo1,C7⟩;have HVq:=hid Vq;have HRe1:=hid hRe1;have HSo1:=hid hSo1;have HCq:=hid (HC1.out.trans C7)
      clear Vq hRe1 hSo1 C7 CS)
     | (
      have HK2:Hid (¬ (a<i∧i<mid)):=fun k=>h.2 k.2;have f2:=dT h.1;have g2:=dN h.1;have u2:(a:Int)<(i:Int):=Int.ofNat_lt.mpr h.1;have f2b:=dF h.2;have g2b:=dM h.2;clear h;obtain ⟨wz,rfl⟩:∃ y,y=wv:=⟨_,rfl⟩;obtain ⟨q1,hq1⟩:∃ q1,q1=q0:=⟨_,rfl⟩;have HVq:Hid (RowsV x0 enc N blk cap lo hi wz q1):=(by rw [hq1];exact HV1.out:RowsV x0 enc N blk cap lo hi wz q1);have HRe1:Hid (Sym.Re a mid q0 q1):=(by rw [hq1];exact Sym.Re.refl _ _ _:Sym.Re a mid q0 q1);have HSo1:Hid (Sym.Srt (numL x0) q1 a mid):=(by rw [hq1];exact HN2 HK2.out:Sym.Srt (numL x0) q1 a mid);have HCq:=hid HC1.out
      clear hq1)
     | (
      have HK2:Hid (¬ (a<i∧i<mid)):=fun k=>h k.1;have f2:=dF h;have g2:=dM h;clear h;obtain ⟨wz,rfl⟩:∃ y,y=wv:=⟨_,rfl⟩;obtain ⟨q1,hq1⟩:∃ q1,q1=q0:=⟨_,rfl⟩;have HVq:Hid (RowsV x0 enc N blk cap lo hi wz q1):=(by rw [hq1];exact HV1.out:RowsV x0 enc N blk cap lo hi wz q1);have HRe1:Hid (Sym.Re a mid q0 q1):=(by rw [hq1];exact Sym.Re.refl _ _ _:Sym.Re a mid q0 q1);have HSo1:Hid (Sym.Srt (numL x0) q1 a mid):=(by rw [hq1];exact HN2 HK2.out:Sym.Srt (numL x0) q1 a mid);have HCq:=hid HC1.out
      clear hq1)
    all_goals rcases zlk (mid<e) (e<b) with h | h | h
    all_goals first
     | (
      have HK3:=hid h;have f3:=dT h.1;have g3:=dN h.1;have u3:(mid:Int)<(e:Int):=Int.ofNat_lt.mpr h.1;have f3b:=dT h.2;have g3b:=dN h.2;have u3b:(e:Int)<(b:Int):=Int.ofNat_lt.mpr h.2;clear h;have CS:=HIH.out q1 wz mid e b (by have h9:=HO.out;omega) HVq.out HK3.out.1 HK3.out.2 HO.out.2.2.1 (HT3 HRe1.out) (HL3 HRe1.out) (HL4 HRe1.out)
      go_wp2_with fail
      refine CS.mono ?_;rintro ee wx ⟨rfl,r,Vr,hRe2,hSo2,C9⟩;have HVr:=hid Vr;have HRe2:=hid hRe2;have HSo2:=hid hSo2;have HCr:=hid (HCq.out.trans C9)
      clear Vr hRe2 hSo2 C9 CS)
     | (
      have HK3:Hid (¬ (mid<e∧e<b)):=fun k=>h.2 k.2;have f3:=dT h.1;have g3:=dN h.1;have u3:(mid:Int)<(e:Int):=Int.ofNat_lt.mpr h.1;have f3b:=dF h.2;have g3b:=dM h.2;clear h;obtain ⟨wx,rfl⟩:∃ y,y=wz:=⟨_,rfl⟩;obtain ⟨r,hr⟩:∃ r,r=q1:=⟨_,rfl⟩;have HVr:Hid (RowsV x0 enc N blk cap lo hi wx r):=(by rw [hr];exact HVq.out:RowsV x0 enc N blk cap lo hi wx r);have HRe2:Hid (Sym.Re mid b q1 r):=(by rw [hr];exact Sym.Re.refl _ _ _:Sym.Re mid b q1 r);have HSo2:Hid (Sym.Srt (numL x0) r mid b):=(by rw [hr];exact HN3 HRe1.out HK3.out:Sym.Srt (numL x0) r mid b);have HCr:=hid HCq.out
      clear hr)
     | (
      have HK3:Hid (¬ (mid<e∧e<b)):=fun k=>h k.1;have f3:=dF h;have g3:=dM h;clear h;obtain ⟨wx,rfl⟩:∃ y,y=wz:=⟨_,rfl⟩;obtain ⟨r,hr⟩:∃ r,r=q1:=⟨_,rfl⟩;have HVr:Hid (RowsV x0 enc N blk cap lo hi wx r):=(by rw [hr];exact HVq.out:RowsV x0 enc N blk cap lo hi wx r);have HRe2:Hid (Sym.Re mid b q1 r):=(by rw [hr];exact Sym.Re.refl _ _ _:Sym.Re mid b q1 r);have HSo2:Hid (Sym.Srt (numL x0) r mid b):=(by rw [hr];exact HN3 HRe1.out HK3.out:Sym.Srt (numL x0) r mid b);have HCr:=hid HCq.out
      clear hr)
    all_goals
     go_wp2
     go_end0
     have hl:=Sym.halves HO.out.1 HO.out.2.1 HX.out HRe1.out HRe2.out HSo1.out HSo2.out;exact ⟨rfl,_,HVr.out,HRe0.out.trans hl.2,hl.1,HCr.out⟩
theorem zft (x0:Nat→RecD) (enc:Nat→List Value) (N blk cap lo hi:Nat) (hlo:hi≤lo) (hN:N<1000000000):∀ (n:Nat) (p:Nat→Nat) (w:World) (a m b:Nat),b-a≤n→RowsV x0 enc N blk cap lo hi w p→a<m→m<b→b≤N→(∀ i j,a≤i→i<m→m≤j→j<b→p i<p j)→Sym.Srt (numL x0) p a m→Sym.Srt (numL x0) p m b→Calls Tryz.prog 152 #[.slice (some ⟨blk,0,none⟩) N cap,.int .i64 a,.int .i64 m,.int .i64 b,.func (.func 105) #[] #[]] w (fun e w'=>e=.returned (.tuple #[])∧∃ q,RowsV x0 enc N blk cap lo hi w' q∧Sym.Re a b p q∧Sym.Srt (numL x0) q a b∧ChgL [blk] w w')
 | 0,p,w,a,m,b,h,V,ham,hmb,hb,ht,h1,h2=>by omega
 | n+1,p,w,a,m,b,h,V,ham,hmb,hb,ht,h1,h2=>by
  have IH:∀ (p':Nat→Nat) (w':World) (a' m' b':Nat),b'-a'<b-a→RowsV x0 enc N blk cap lo hi w' p'→a'<m'→m'<b'→b'≤N→(∀ i j,a'≤i→i<m'→m'≤j→j<b'→p' i<p' j)→Sym.Srt (numL x0) p' a' m'→Sym.Srt (numL x0) p' m' b'→Calls Tryz.prog 152 #[.slice (some ⟨blk,0,none⟩) N cap,.int .i64 a',.int .i64 m',.int .i64 b',.func (.func 105) #[] #[]] w' (fun e w''=>e=.returned (.tuple #[])∧∃ q,RowsV x0 enc N blk cap lo hi w'' q∧Sym.Re a' b' p' q∧Sym.Srt (numL x0) q a' b'∧ChgL [blk] w' w''):=fun p' w' a' m' b' h' V'=>zft x0 enc N blk cap lo hi hlo hN n p' w' a' m' b' (by omega) V'
  by_cases c1:m=a+1
  ·exact ziX x0 enc p N blk cap lo hi w V hlo hN a m b ham hmb hb ht h1 h2 c1
  ·by_cases c2:b=m+1
   ·exact ziY x0 enc p N blk cap lo hi w V hlo hN a m b ham hmb hb ht h1 h2 c1 c2
   ·by_cases c3:(a+b)/2<m
    ·exact zfs x0 enc p N blk cap lo hi w V hlo hN a m b _ ham hmb hb ht h1 h2 c1 c2 rfl (.inl c3) IH
    ·exact zfs x0 enc p N blk cap lo hi w V hlo hN a m b _ ham hmb hb ht h1 h2 c1 c2 rfl (.inr (by omega)) IH
theorem zea (x0:Nat→RecD) (enc:Nat→List Value) (p:Nat→Nat) (N blk cap lo hi:Nat) (w:World) (V:RowsV x0 enc N blk cap lo hi w p) (hlo:hi≤lo) (hN:N<1000000000) (a m b:Nat) (ham:a<m) (hmb:m<b) (hb:b≤N) (htag:∀ i j,a≤i→i<m→m≤j→j<b→p i<p j) (hs1:Sym.Srt (numL x0) p a m) (hs2:Sym.Srt (numL x0) p m b):Calls Tryz.prog 152 #[.slice (some ⟨blk,0,none⟩) N cap,.int .i64 a,.int .i64 m,.int .i64 b,.func (.func 105) #[] #[]] w (fun e w'=>e=.returned (.tuple #[])∧∃ q,RowsV x0 enc N blk cap lo hi w' q∧Sym.Re a b p q∧Sym.Srt (numL x0) q a b∧ChgL [blk] w w'):=zft x0 enc N blk cap lo hi hlo hN (b-a) p w a m b (Nat.le_refl _) V ham hmb hb htag hs1 hs2
structure Good (lt:Nat→Nat→Prop) (q:Nat→Nat) (a b:Nat):Prop where
 srt:Sym.Srt lt q a b
 own:∀ i,a≤i→i<b→a≤q i∧q i<b
theorem Good.congr {lt:Nat→Nat→Prop} {q q':Nat→Nat} {a b:Nat} (h:Good lt q a b) (e:∀ i,a≤i→i<b→q' i=q i):Good lt q' a b:=⟨h.srt.congr e,fun i h1 h2=>by rw [e i h1 h2];exact h.own i h1 h2⟩
inductive Blks (lt:Nat→Nat→Prop) (q:Nat→Nat) (s N:Nat):Nat→Prop
 | nil {a:Nat} (h:N≤a):Blks lt q s N a
 | cons {a:Nat} (h:a<N) (g:Good lt q a (min (a+s) N)) (r:Blks lt q s N (a+s)):Blks lt q s N a
theorem Blks.congr {lt:Nat→Nat→Prop} {q q':Nat→Nat} {s N a:Nat} (h:Blks lt q s N a) (e:∀ i,a≤i→q' i=q i):Blks lt q' s N a:=by
 induction h with
 | nil h=>exact .nil h
 | cons h g r ih=>exact .cons h (g.congr fun i h1 _=>e i h1) (ih fun i h1=>e i (by omega))
inductive Done (lt:Nat→Nat→Prop) (q:Nat→Nat) (s:Nat):Nat→Prop
 | zero:Done lt q s 0
 | snoc {a:Nat} (r:Done lt q s a) (g:Good lt q a (a+s)):Done lt q s (a+s)
theorem Done.congr {lt:Nat→Nat→Prop} {q q':Nat→Nat} {s a:Nat} (h:Done lt q s a) (e:∀ i,i<a→q' i=q i):Done lt q' s a:=by
 induction h with
 | zero=>exact .zero
 | snoc r g ih=>exact .snoc (ih fun i h1=>e i (by omega)) (g.congr fun i _ h2=>e i h2)
theorem Done.app {lt:Nat→Nat→Prop} {q:Nat→Nat} {s N a:Nat} (hs:0<s) (h:Done lt q s a) (hN:a≤N) (b:Blks lt q s N a):Blks lt q s N 0:=by
 induction h with
 | zero=>exact b
 | snoc r g ih=>exact ih (by omega) (.cons (by omega) (by rw [Nat.min_eq_left hN];exact g) b)
theorem Blks.last {lt:Nat→Nat→Prop} {q:Nat→Nat} {s N a:Nat} (g:Good lt q a N) (h:N≤a+s):Blks lt q s N a:=by
 by_cases c:a<N
 ·exact .cons c (by rw [Nat.min_eq_right h];exact g) (.nil h)
 ·exact .nil (by omega)
theorem Blks.all {lt:Nat→Nat→Prop} {q:Nat→Nat} {s N:Nat} (h:Blks lt q s N 0) (hs:N≤s):Sym.Srt lt q 0 N:=by
 cases h with
 | nil h=>exact fun i j _ _ h3=>by omega
 | cons h g r=>
  have:=g.srt;rw [Nat.min_eq_right (by omega)] at this;exact this
theorem Blks.open {lt:Nat→Nat→Prop} {q:Nat→Nat} {s N a:Nat} (h:Blks lt q s N a) (ha:a<N):Good lt q a (min (a+s) N)∧Blks lt q s N (a+s):=by
 cases h with
 | nil h=>omega
 | cons h g r=>exact ⟨g,r⟩
theorem Good.merged {lt:Nat→Nat→Prop} {q q':Nat→Nat} {a m b:Nat} (g1:Good lt q a m) (g2:Good lt q m b) (am:a≤m) (mb:m≤b) (k:Sym.Re a b q q') (s:Sym.Srt lt q' a b):Good lt q' a b:=⟨s,fun i h1 h2=>by
 obtain ⟨j,hj,e⟩:=k.from ⟨h1,h2⟩
 rw [e]
 by_cases c:j<m
 ·have:=g1.own j hj.1 c
  omega
 ·have:=g2.own j (by omega) hj.2
  omega⟩
theorem Good.tags {lt:Nat→Nat→Prop} {q:Nat→Nat} {a m b:Nat} (g1:Good lt q a m) (g2:Good lt q m b):∀ i j,a≤i→i<m→m≤j→j<b→q i<q j:=fun i j h1 h2 h3 h4=>by
 have:=g1.own i h1 h2;have:=g2.own j h3 h4;omega
theorem Good.fresh {lt:Nat→Nat→Prop} {q q':Nat→Nat} {a b:Nat} (e:∀ i,a≤i→q i=i) (k:Sym.Re a b q q') (s:Sym.Srt lt q' a b):Good lt q' a b:=⟨s,fun i h1 h2=>by
 obtain ⟨j,hj,e1⟩:=k.from ⟨h1,h2⟩
 rw [e1,e j hj.1]
 exact hj⟩
set_option maxRecDepth 1000000 in
theorem ziZ (x0:Nat→RecD) (enc:Nat→List Value) (N blk cap lo hi:Nat) (w:World) (V:RowsV x0 enc N blk cap lo hi w (fun i=>i)) (hlo:hi≤lo) (hN:N<1000000000) :
 Calls Tryz.prog 130 #[.slice (some ⟨blk,0,none⟩) N cap,.int .i64 N,.func (.func 105) #[] #[]] w (fun e w'=>e=.returned (.tuple #[])∧∃ q,RowsV x0 enc N blk cap lo hi w' q∧Sym.Re 0 N (fun i=>i) q∧Sym.Srt (numL x0) q 0 N∧ChgL [blk] w w'):=by
 have HV0:Hid (RowsV x0 enc N blk cap lo hi w (fun i=>i)):=V;clear V
 go_enter Tryz.func130,Tryz.ntmps130
 go_wp2
 go_loopw [7,8] (fun va vb wr=>∃ (a B:Nat) (q:Nat→Nat),B=a+20∧a≤N∧va=.int .i64 a∧vb=.int .i64 B∧RowsV x0 enc N blk cap lo hi wr q∧Done (numL x0) q 20 a∧(∀ i,a≤i→q i=i)∧Sym.Re 0 N (fun i=>i) q∧ChgL [blk] w wr) (fun va _ _=>N-(intOf va).toNat)
 case atStart=>exact ⟨0,20,(fun i=>i),rfl,Nat.zero_le _,by go_num,by go_num,HV0.out,.zero,fun i _=>rfl,Sym.Re.refl _ _ _,ChgL.refl _ _⟩
 case round=>
  obtain ⟨a,B,q,hB,haN,rfl,rfl,V,hD,hid,hRe,C⟩:=hrel;have HC:Hid (ChgL [blk] w wr):=C;have HD:Hid (Done (numL x0) q 20 a):=hD;have HI:Hid (∀ i,a≤i→q i=i):=hid;have HRe:Hid (Sym.Re 0 N (fun i=>i) q):=hRe;have HB:Hid (B=a+20):=hB;clear C hD hid hRe
  have w1:IntKind.i64.wrap ((B:Int)+20)=((B+20:Nat):Int):=by rw [IntKind.wrap_i64];omega
  by_cases hlt:B≤N
  ·have t1:(B:Int)≤(N:Int):=by omega
   have CS:=zdH x0 enc q N blk cap lo hi wr V hlo hN a B (by omega) hlt (fun i j h1 h2 h3=>by rw [HI.out i h1,HI.out j (by omega)];exact h2);clear V hB
   go_wp2_with fail
   refine CS.mono ?_;rintro ee w2 ⟨rfl,q2,V2,hRe2,hS2,C2⟩;have HV2:Hid (RowsV x0 enc N blk cap lo hi w2 q2):=V2;have HRe2:Hid (Sym.Re a B q q2):=hRe2;have HS2:Hid (Sym.Srt (numL x0) q2 a B):=hS2;have HC2:Hid (ChgL [blk] w w2):=HC.out.trans C2;clear V2 hRe2 hS2 C2 CS;go_wp2
   go_roundw
   case rel=>
    have hB:=HB.out;have hk:=HRe2.out;exact ⟨B,B+20,q2,rfl,hlt,rfl,by go_num,HV2.out,by rw [hB] at hk ⊢;exact .snoc (HD.out.congr fun i h1=>hk.out (.inl h1)) (Good.fresh HI.out hk (by rw [← hB];exact HS2.out)),fun i h1=>by rw [hk.out (.inr h1)];exact HI.out i (by omega),HRe.out.trans (hk.mono (Nat.zero_le _) hlt),HC2.out⟩
   case measure=>have hB:=HB.out;simp [intOf];omega
  ·have HNL:Hid (¬ B≤N):=hlt
   have f1:decide ((B:Int)≤(N:Int))=false:=decide_eq_false (by omega);have g1:decide (B≤N)=false:=decide_eq_false hlt;have CS:=zdH x0 enc q N blk cap lo hi wr V hlo hN a N haN (Nat.le_refl _) (fun i j h1 h2 h3=>by rw [HI.out i h1,HI.out j (by omega)];exact h2);clear V hB w1 hlt
   go_wp2_with fail
   refine CS.mono ?_;rintro ee w2 ⟨rfl,q2,V2,hRe2,hS2,C2⟩;have HV2:Hid (RowsV x0 enc N blk cap lo hi w2 q2):=V2;have HRe2:Hid (Sym.Re a N q q2):=hRe2;have HS2:Hid (Sym.Srt (numL x0) q2 a N):=hS2;have HC2:Hid (ChgL [blk] w w2):=HC.out.trans C2;clear V2 hRe2 hS2 C2 CS;have HBl:Hid (Blks (numL x0) q2 20 N 0):=Done.app (by decide) (HD.out.congr fun i h1=>HRe2.out.out (.inl h1)) haN (Blks.last (Good.fresh HI.out HRe2.out HS2.out) (by have h1:=HB.out;have h2:=HNL.out;omega));have HReN:Hid (Sym.Re 0 N (fun i=>i) q2):=HRe.out.trans (HRe2.out.mono (Nat.zero_le _) (Nat.le_refl _));clear HD HI HRe HRe2 HS2 HC HNL HB f1 g1;go_wp2
   go_loopw [6] (fun vs wr=>∃ (s:Nat) (q:Nat→Nat),20≤s∧s<2000000000∧vs=.int .i64 s∧RowsV x0 enc N blk cap lo hi wr q∧Blks (numL x0) q s N 0∧Sym.Re 0 N (fun i=>i) q∧ChgL [blk] w wr) (fun vs _=>N-(intOf vs).toNat)
   case atStart=>exact ⟨20,q2,Nat.le_refl _,by decide,by go_num,HV2.out,HBl.out,HReN.out,HC2.out⟩
   case round=>
    obtain ⟨s,q3,hs20,hs2,rfl,V,hBl,hRe,C⟩:=hrel;have HVs:Hid (RowsV x0 enc N blk cap lo hi wr q3):=V;have HCs:Hid (ChgL [blk] w wr):=C;have HBs:Hid (Blks (numL x0) q3 s N 0):=hBl;have HRes:Hid (Sym.Re 0 N (fun i=>i) q3):=hRe;clear C hBl hRe V HV2 HBl HReN HC2
    by_cases hlt:s<N
    ·have t2:(s:Int)<(N:Int):=by omega
     obtain ⟨T,hT⟩:∃ T,T=2*s:=⟨_,rfl⟩;have HT:Hid (T=2*s):=hT
     have w2:IntKind.i64.wrap (2*(s:Int))=(T:Int):=by rw [IntKind.wrap_i64];omega
     have w3:IntKind.i64.wrap ((s:Int)*2)=(T:Int):=by rw [IntKind.wrap_i64];omega
     clear hT;go_wp2
     go_loopw [7,8] (fun va vb wr=>∃ (a B:Nat) (q:Nat→Nat),B=a+T∧a≤N∧va=.int .i64 a∧vb=.int .i64 B∧RowsV x0 enc N blk cap lo hi wr q∧Done (numL x0) q T a∧Blks (numL x0) q s N a∧Sym.Re 0 N (fun i=>i) q∧ChgL [blk] w wr) (fun va _ _=>N-(intOf va).toNat)
     case atStart=>exact ⟨0,T,q3,by omega,Nat.zero_le _,by go_num,by go_num,HVs.out,.zero,HBs.out,HRes.out,HCs.out⟩
     case round=>
      obtain ⟨a,B,q4,hB,haN,rfl,rfl,V,hD,hBl,hRe,C⟩:=hrel;have hT:=HT.out;have HC:Hid (ChgL [blk] w wr):=C;have HD:Hid (Done (numL x0) q4 T a):=hD;have HBl:Hid (Blks (numL x0) q4 s N a):=hBl;have HRe:Hid (Sym.Re 0 N (fun i=>i) q4):=hRe;have HB:Hid (B=a+T):=hB;have HV4:Hid (RowsV x0 enc N blk cap lo hi wr q4):=V;clear C hD hBl hRe HVs HBs HRes HCs V;obtain ⟨M,hM⟩:∃ M,M=a+s:=⟨_,rfl⟩;have HM:Hid (M=a+s):=hM
      have w4:IntKind.i64.wrap ((a:Int)+(s:Int))=(M:Int):=by rw [IntKind.wrap_i64];omega
      have w5:IntKind.i64.wrap ((B:Int)+(T:Int))=((B+T:Nat):Int):=by rw [IntKind.wrap_i64];omega
      by_cases hle:B≤N
      ·have t3:(B:Int)≤(N:Int):=by omega
       have o1:=HBl.out.open (by omega);rw [← hM] at o1;have o2:=o1.2.open (by omega);rw [Nat.min_eq_left (by omega)] at o1;rw [show M+s=B by omega,Nat.min_eq_left hle] at o2;have HG1:Hid (Good (numL x0) q4 a M):=o1.1;have HG2:Hid (Good (numL x0) q4 M B):=o2.1;have HBr:Hid (Blks (numL x0) q4 s N B):=o2.2;have CS:=zea x0 enc q4 N blk cap lo hi wr HV4.out hlo hN a M B (by omega) (by omega) hle (HG1.out.tags HG2.out) HG1.out.srt HG2.out.srt;clear o1 o2 hB hM hT
       go_wp2_with fail
       refine CS.mono ?_;rintro ee w9 ⟨rfl,q5,V2,hRe2,hS2,C2⟩;have HV2:Hid (RowsV x0 enc N blk cap lo hi w9 q5):=V2;have HRe2:Hid (Sym.Re a B q4 q5):=hRe2;have HS2:Hid (Sym.Srt (numL x0) q5 a B):=hS2;have HC2:Hid (ChgL [blk] w w9):=HC.out.trans C2;clear V2 hRe2 hS2 C2 CS;go_wp2
       go_roundw
       case rel=>
        have hB:=HB.out;have hM:=HM.out;have hT:=HT.out;have hk:=HRe2.out
        exact ⟨B,B+T,q5,rfl,hle,rfl,by go_num,HV2.out,by
         have g:=HG1.out.merged HG2.out (by omega) (by omega) hk HS2.out;rw [hB] at hk g ⊢
         exact .snoc (HD.out.congr fun i h1=>hk.out (.inl h1)) g,HBr.out.congr (fun i h1=>hk.out (.inr h1)),HRe.out.trans (hk.mono (Nat.zero_le _) hle),HC2.out⟩
       case measure=>have hB:=HB.out;have hT:=HT.out;simp [intOf];omega
      ·have HNL:Hid (¬ B≤N):=hle
       have f1:decide ((B:Int)≤(N:Int))=false:=decide_eq_false (by omega);have g1:decide (B≤N)=false:=decide_eq_false hle
       by_cases hm:M<N
       ·have t3:(M:Int)<(N:Int):=by omega
        have o1:=HBl.out.open (by omega);rw [← hM] at o1;have o2:=o1.2.open (by omega);rw [Nat.min_eq_left (by omega)] at o1;rw [Nat.min_eq_right (by omega)] at o2;have HG1:Hid (Good (numL x0) q4 a M):=o1.1;have HG2:Hid (Good (numL x0) q4 M N):=o2.1;have CS:=zea x0 enc q4 N blk cap lo hi wr HV4.out hlo hN a M N (by omega) hm (Nat.le_refl _) (HG1.out.tags HG2.out) HG1.out.srt HG2.out.srt;clear o1 o2 hB hM hT hle
        go_wp2_with fail
        refine CS.mono ?_;rintro ee w9 ⟨rfl,q5,V2,hRe2,hS2,C2⟩;have HV2:Hid (RowsV x0 enc N blk cap lo hi w9 q5):=V2;have HRe2:Hid (Sym.Re a N q4 q5):=hRe2;have HS2:Hid (Sym.Srt (numL x0) q5 a N):=hS2;have HC2:Hid (ChgL [blk] w w9):=HC.out.trans C2;clear V2 hRe2 hS2 C2 CS;go_wp2
        go_roundw
        case rel=>
         have hB:=HB.out;have hM:=HM.out;have hT:=HT.out;have hNL:=HNL.out;have hk:=HRe2.out;exact ⟨T,q5,by omega,by omega,by go_num,HV2.out,Done.app (by omega) (HD.out.congr fun i h1=>hk.out (.inl h1)) haN (Blks.last (HG1.out.merged HG2.out (by omega) (by omega) hk HS2.out) (by omega)),HRe.out.trans (hk.mono (Nat.zero_le _) (Nat.le_refl _)),HC2.out⟩
        case measure=>have hT:=HT.out;simp [intOf];omega
       ·have f2:decide ((M:Int)<(N:Int))=false:=decide_eq_false (by omega)
        have g2:decide (M<N)=false:=decide_eq_false hm
        have HBT:Hid (Blks (numL x0) q4 T N a):=(by
         by_cases c:a<N
         ·have o1:=(HBl.out.open c).1
          rw [Nat.min_eq_right (by omega)] at o1;exact Blks.last o1 (by omega)
         ·exact .nil (by omega):Blks (numL x0) q4 T N a)
        clear hB hM hT hle hm;go_wp2
        go_roundw
        case rel=>have hT:=HT.out;exact ⟨T,q4,by omega,by omega,by go_num,HV4.out,Done.app (by omega) HD.out haN HBT.out,HRe.out,HC.out⟩
        case measure=>have hT:=HT.out;simp [intOf];omega
    ·have f2:decide ((s:Int)<(N:Int))=false:=decide_eq_false (by omega)
     have g2:decide (s<N)=false:=decide_eq_false hlt;have HNL:Hid (N≤s):=(by omega:N≤s);clear hlt;go_wp2
     go_end0
     exact ⟨rfl,q3,HVs.out,HRes.out,HBs.out.all HNL.out,HCs.out⟩
set_option maxRecDepth 1000000 in
theorem ze8 (x0:Nat→RecD) (enc:Nat→List Value) (N blk cap lo hi:Nat) (w:World) (V:RowsV x0 enc N blk cap lo hi w (fun i=>i)) (hlo:hi≤lo) (hN:N<1000000000) :
 Calls Tryz.prog 104 #[.slice (some ⟨blk,0,none⟩) N cap,.func (.func 105) #[] #[]] w (fun e w'=>e=.returned (.tuple #[])∧∃ q,RowsV x0 enc N blk cap lo hi w' q∧Sym.Re 0 N (fun i=>i) q∧Sym.Srt (numL x0) q 0 N∧ChgL [blk] w w'):=by
 have CS:=ziZ x0 enc N blk cap lo hi w V hlo hN;clear V
 go_enter Tryz.func104,Tryz.ntmps104
 go_wp2_with fail
 refine CS.mono ?_;rintro ee w2 ⟨rfl,q,V2,hRe,hS,C⟩;have HV2:=hid V2;have HRe:=hid hRe;have HS:=hid hS;have HC:=hid C;clear V2 hRe hS C CS;go_wp2
 go_end0
 exact ⟨rfl,q,HV2.out,HRe.out,HS.out,HC.out⟩
set_option maxRecDepth 1000000 in
theorem zfK (w:World):Calls Tryz.prog 151 #[.slice none 0 0,.int .i64 0,.int .i64 0,.func (.func 105) #[] #[]] w (fun e w'=>e=.returned (.tuple #[])∧Below w.heap.size w w'):=by
 go_enter Tryz.func151,Tryz.ntmps151
 go_wp2
 go_loopw [8] (fun vi wr=>vi=.int .i64 1∧Below w.heap.size w wr) (fun _ _=>0)
 case atStart=>exact ⟨by go_num,⟨rfl,rfl,rfl,Nat.le_refl _,fun _ _=>rfl⟩⟩
 case round=>
  obtain ⟨rfl,hb⟩:=hrel;go_wp2
  go_end0
  exact ⟨rfl,hb⟩
set_option maxRecDepth 1000000 in
theorem zi0 (w:World):Calls Tryz.prog 130 #[.slice none 0 0,.int .i64 0,.func (.func 105) #[] #[]] w (fun e w'=>e=.returned (.tuple #[])∧Below w.heap.size w w'):=by
 have CS:=zfK w
 go_enter Tryz.func130,Tryz.ntmps130
 go_wp2
 go_loopw [7,8] (fun va vb wr=>va=.int .i64 0∧vb=.int .i64 20∧wr=w) (fun _ _ _=>0)
 case atStart=>exact ⟨by go_num,by go_num,rfl⟩
 case round=>
  obtain ⟨rfl,rfl,rfl⟩:=hrel
  go_wp2_with fail
  refine CS.mono ?_;rintro ee w2 ⟨rfl,hb⟩;have HB:=hid hb;clear hb CS;go_wp2
  go_loopw [6] (fun vs w'=>vs=.int .i64 20∧Below wr.heap.size wr w') (fun _ _=>0)
  case atStart=>exact ⟨by go_num,HB.out⟩
  case round=>
   obtain ⟨rfl,hb⟩:=hrel;go_wp2
   go_end0
   exact ⟨rfl,hb⟩
set_option maxRecDepth 1000000 in
theorem ze9 (w:World):Calls Tryz.prog 104 #[.slice none 0 0,.func (.func 105) #[] #[]] w (fun e w'=>e=.returned (.tuple #[])∧Below w.heap.size w w'):=by
 have CS:=zi0 w
 go_enter Tryz.func104,Tryz.ntmps104
 go_wp2_with fail
 refine CS.mono ?_;rintro ee w2 ⟨rfl,hb⟩;go_wp2
 go_end0
 exact ⟨rfl,hb⟩
end Go.Proofs.YtajibninhikdgaaGreat
