/- The newest item of a name: which one it is, the specification's search, the ledger's. -/
import Derived.Test.YtaioliojijikaaaGreatZPitembad
import Derived.Deep.DeepCutAuto
import Derived.Test.YtaioliojijikaaaGreatProg
import Derived.Test.YtaioliojijikaaaGreatZPitembaa
import Derived.Deep.MidRow
set_option linter.unusedVariables false
set_option linter.unusedSimpArgs false
namespace Go.Proofs.YtaioliojijikaaaGreat
open Go.RowKit F256
noncomputable def lastI (p:Nat → Prop):Nat → Int
  | 0 => -1
  | k + 1 => @ite _ (p k) (Classical.propDecidable _) (k:Int) (lastI p k)
theorem lastI_skip {p:Nat → Prop} {k:Nat} (h:¬ p k):lastI p (k + 1) = lastI p k:=if_neg h
theorem lastI_put {p:Nat → Prop} {k:Nat} (h:p k):lastI p (k + 1) = (k:Int):=if_pos h
theorem lastI_cases (p:Nat → Prop):∀ k,lastI p k = -1 ∨ ∃ i:Nat,i < k ∧ lastI p k = (i:Int) ∧ p i
  | 0 => .inl rfl
  | k + 1 => by
    by_cases h:p k
    · exact .inr ⟨k,by omega,lastI_put h,h⟩
    · rw [lastI_skip h]
      rcases lastI_cases p k with e | ⟨i,h1,h2,h3⟩
      · exact .inl e
      · exact .inr ⟨i,by omega,h2,h3⟩
def itm (x:Nat → RecD) (nm:ByteArray) (i:Nat):Prop:=(x i).kind = 1 ∧ (x i).name = nm
theorem newF_at (x:Nat → RecD) (ce:Nat → List Value) (nm:ByteArray):∀ N,(lastI (itm x nm) N = -1 → newF x ce N (.string nm) = none) ∧ ∀ i:Nat,lastI (itm x nm) N = (i:Int) → newF x ce N (.string nm) = some (.agg (ce i).toArray)
  | 0 => ⟨fun _ => rfl,fun i h => by have h':(-1:Int) = (i:Int):=h;omega⟩
  | N + 1 => by
    have ih:=newF_at x ce nm N;unfold newF at ih ⊢
    by_cases hk:(x N).kind = 1
    · rw [lastF_put hk]
      by_cases hn:(x N).name = nm
      · rw [lastI_put (show itm x nm N from ⟨hk,hn⟩),hn,putF_same]
        exact ⟨fun h => by omega,fun i h => by
          obtain rfl:N = i:=by omega
          rfl⟩
      · rw [lastI_skip (fun h:itm x nm N => hn h.2),putF_other _ _ (fun h => hn (by cases h;rfl))]
        exact ih
    · rw [lastI_skip (fun h:itm x nm N => hk h.1),lastF_skip hk]
      exact ih
set_option maxHeartbeats 8000000 in
set_option maxRecDepth 20000 in
theorem l6Newest_any (v:Value) (n:Nat) (x:Nat → RecD) (nm:ByteArray) (hi:Nat) (w:World) (h:(layRec.slice 62).rd w hi (n,x) [v]) (hhi:hi ≤ w.heap.size) (hn:n ≤ 1048576) :
    Calls Tryz.prog 41 #[v,.string nm] w (fun e w' => e = .returned (.int .i64 (lastI (itm x nm) n)) ∧ Below w.heap.size w w'):=by
  obtain ⟨ao,cap,e,hmm,hc⟩:=h
  obtain rfl:v = .slice ao n cap:=by simpa using e
  have HC:Hid (n ≠ 0 → ∃ b off,ao = some ⟨b,off,none⟩ ∧ b < hi ∧ ∀ i,i < n → ∃ ce,layRec.rd w hi (x i) ce ∧ ∀ j,j < layRec.sz → w.cell? ⟨b,off + (i * layRec.sz + j),none⟩ = ce[j]?):=hc;clear e hmm hc
  go_enter Tryz.func41,Tryz.ntmps41
  go_wp2
  go_loopw [5,6] (fun a z wr => ∃ k:Nat,k ≤ n ∧ z = .int .i64 k ∧ a = .int .i64 (lastI (itm x nm) k) ∧ Below w.heap.size w wr) (fun _ z _ => n - (intOf z).toNat)
  case atStart => exact ⟨0,Nat.zero_le _,rfl,rfl,Below.refl _ _⟩
  case round =>
    obtain ⟨k,hk,rfl,rfl,hbl⟩:=hrel;have HB:Hid (Below w.heap.size w wr):=hbl;obtain ⟨at_,hat⟩:∃ a,a = lastI (itm x nm) k:=⟨_,rfl⟩;have HAT:Hid (at_ = lastI (itm x nm) k):=hat;rw [← hat];clear hat
    by_cases hlt:k < n
    · obtain ⟨b,off,rfl,hbh,hel⟩:=HC.out (by omega)
      obtain ⟨ce,hy,hcell⟩:=elem_rd (t:=62) hel hbl hhi hbh hlt;obtain ⟨ao6,cap6,ao7,cap7,ao8,cap8,rfl,-,-,-,-⟩:=Rec_rd hy;obtain ⟨r,hr⟩:∃ r,r = x k:=⟨_,rfl⟩;have HRR:Hid (r = x k):=hr;rw [← hr] at hcell
      have y0:wr.cell? ⟨b,off + k * 9,none⟩ = some (.int .i64 r.kind):=by have:=hcell 0 (by decide);exact this
      have y2:wr.cell? ⟨b,off + k * 9 + 2,none⟩ = some (.string r.name):=by have:=hcell 2 (by decide);exact this
      have i1:(0:Int) ≤ (k:Int):=by omega
      have i2:(k:Int) < (n:Int):=by omega
      clear hcell hel hy hr hbl
      by_cases c1:r.kind = 1
      · have d1:(r.kind == 1) = true:=by simp [c1]
        have HC1:Hid (r.kind = 1):=c1;clear c1
        by_cases c2:r.name = nm
        · have d2:(r.name.toList == nm.toList) = true:=by rw [beq_iff_eq,c2]
          have d3:decide (r.name.toList = nm.toList) = true:=decide_eq_true (by rw [c2])
          have d4:r.name.toList = nm.toList:=by rw [c2]
          have HC2:Hid (r.name = nm):=c2;clear c2;go_wp2
          go_roundw
          case rel => exact ⟨k + 1,by omega,by go_num,(by rw [lastI_put (show itm x nm k from ⟨by rw [← HRR.out];exact HC1.out,by rw [← HRR.out];exact HC2.out⟩)]),HB.out⟩
          case measure => simp [intOf];omega
        · have d2:(r.name.toList == nm.toList) = false:=by rw [beq_eq_false_iff_ne];exact fun h => c2 (toList_inj.1 h)
          have d3:decide (r.name.toList = nm.toList) = false:=decide_eq_false (fun h => c2 (toList_inj.1 h));have d4:¬ r.name.toList = nm.toList:=fun h => c2 (toList_inj.1 h);have HC2:Hid (¬ r.name = nm):=c2;clear c2;go_wp2
          go_roundw
          case rel => exact ⟨k + 1,by omega,by go_num,(by rw [lastI_skip (fun h:itm x nm k => HC2.out (by rw [HRR.out];exact h.2)),← HAT.out]),HB.out⟩
          case measure => simp [intOf];omega
      · have d1:(r.kind == 1) = false:=by simp [c1]
        have HC1:Hid (¬ r.kind = 1):=c1;clear c1;go_wp2
        go_roundw
        case rel => exact ⟨k + 1,by omega,by go_num,(by rw [lastI_skip (fun h:itm x nm k => HC1.out (by rw [HRR.out];exact h.1)),← HAT.out]),HB.out⟩
        case measure => simp [intOf];omega
    · obtain rfl:k = n:=by omega
      rw [HAT.out];go_wp2;go_ret;exact ⟨rfl,HB.out⟩
theorem layRec_one {w:World} {hi:Nat} {r:RecD} {cs:List Value} (h:layRec.rd w hi r cs):∀ v,v ∈ cs → v.oneCell' = true:=by
  obtain ⟨ao6,cap6,ao7,cap7,ao8,cap8,rfl,-⟩:=Rec_rd h;intro v hv
  simp only [List.mem_cons,List.not_mem_nil,or_false] at hv
  rcases hv with rfl | rfl | rfl | rfl | rfl | rfl | rfl | rfl | rfl <;> rfl
theorem info_IE:(Tryz.prog.info? 164).map (fun i => (i.zero.map (·.cells),i.size)) = some (some #[.int .i64 0,.int .i64 0,.string ⟨#[]⟩,.int .i64 0,.int .i64 0,.int .i64 0,.slice none 0 0,.slice none 0 0,.slice none 0 0],9):=by kernel_rfl
theorem size_Rec9:(Tryz.prog.info? 62).map (·.size) = some 9:=by kernel_rfl
theorem zeroIE (u:World):(zeroValue 164).run Tryz.prog u = .ok (.agg #[.int .i64 0,.int .i64 0,.string ⟨#[]⟩,.int .i64 0,.int .i64 0,.int .i64 0,.slice none 0 0,.slice none 0 0,.slice none 0 0]) u:=by kernel_rfl
theorem rangeB {w:World} {b:Nat} {t:TypeId} {c:List Value} (h:Box w b c.toArray t):w.rangeAt b 0 c:=fun j v hv => by
  rw [Nat.zero_add,h.cell j]
  simp only [List.getElem?_toArray]
  exact hv
theorem chgL_setRowI {w:World} (b:Nat) (cs:Array Value):ChgL [b] w (w.setRow b cs) :=
  ⟨rfl,rfl,rfl,by simp,fun k _ hn => setRow_other w b k cs (fun h => hn (by simp [h]))⟩
theorem step_storeBoxI {ops:Array Oper} {o:Oper} {a:Act} {w:World} {K:Act → World → Prop} {Q:Exit → Act → World → Prop} {F:Prop} (T:TypeId) (x y:Operand) (ho:o.op = .store T x y) (hgd:o.guard = none) (b:Nat) (hx:a.eval x = .pointer (some ⟨b,0,none⟩)) {cs old:List Value} (hy:a.eval y = .agg cs.toArray) (hB:Box w b old.toArray T) {n:Nat} (hi:(Tryz.prog.info? T).map (·.size) = some n) (hl:cs.length = n) (hol:old.length = n) (h1:∀ v,v ∈ cs → v.oneCell' = true)
    (h:∀ w',Box w' b cs.toArray T → ChgL [b] w w' → w'.heap.size = w.heap.size → K (a.put o.dst undef) w'):if Region.wanted o (yielded ops a.tmps) = true then Oper.wp Tryz.prog o a w K Q else F:=by
  have hw:Region.wanted o (yielded ops a.tmps) = true:=by simp [Region.wanted,hgd]
  rw [if_pos hw];refine wp_store_row T x y ho b cs.toArray hx hy T old.toArray hB (by rw [hi];simp [hl]) (by simp [hl,hol]) (by simp;exact h1) ?_;exact h _ (setRow_heap w b _ cs.toArray T (0,0) hB) (chgL_setRowI b _) (by simp)
set_option maxHeartbeats 8000000 in
set_option maxRecDepth 20000 in
theorem item_core {w:World} {B b1:Nat} (nm:ByteArray) (c0 c1 c2 c4 c5 c6 c7 c8:Value) (L:Int) (b:Bool) (hone:∀ v,v ∈ ([c0,c1,c2,.int .i64 L,c4,c5,c6,c7,c8]:List Value) → v.oneCell' = true) (hcell:w.cell? ⟨B,10,none⟩ = some (.map (some b1))) (hlook:∀ w',Below w.heap.size w w' → (Instr.lookup 149 (.map (some b1)) (.string nm) true).run Tryz.prog w' = .ok (.tuple #[.agg #[c0,c1,c2,.int .i64 L,c4,c5,c6,c7,c8],.bool b]) w') :
    Calls Tryz.prog 76 #[.pointer (some ⟨B,0,none⟩),.string nm] w (fun e w' => e = .returned (.tuple #[.agg #[c0,c1,c2,.int .i64 L,c4,c5,c6,c7,c8],.bool (b && decide (L ≠ -1))]) ∧ Below w.heap.size w w'):=by
  have T2:=two_newb w #[.int .i64 0,.int .i64 0,.string ⟨#[]⟩,.int .i64 0,.int .i64 0,.int .i64 0,.slice none 0 0,.slice none 0 0,.slice none 0 0] #[c0,c1,c2,.int .i64 L,c4,c5,c6,c7,c8] 62 164;have T1:=one_new w #[.int .i64 0,.int .i64 0,.string ⟨#[]⟩,.int .i64 0,.int .i64 0,.int .i64 0,.slice none 0 0,.slice none 0 0,.slice none 0 0] 62;have hlk:=hlook _ T1.bel
  have hc1:(w.alloc (.cells #[.int .i64 0,.int .i64 0,.string ⟨#[]⟩,.int .i64 0,.int .i64 0,.int .i64 0,.slice none 0 0,.slice none 0 0,.slice none 0 0] 62)).cell? ⟨B,10,none⟩ = some (.map (some b1)):=by rw [T1.bel.cell (block_lt_of_cell hcell)];exact hcell
  clear hcell T1
  cases b
  · go_enter Tryz.func76,Tryz.ntmps76
    go_upto_region 2 with (refine wp_allocStore 164 6 (.tmp 14) [c0,c1,c2,.int .i64 L,c4,c5,c6,c7,c8] _ 9 rfl rfl rfl rfl rfl rfl (by simp [Act.eval,Act.put]) (by simp [Act.eval,Act.put]) info_IE rfl rfl hone ?_)
    obtain ⟨W2,hW2⟩:∃ y,y = (w.alloc (.cells #[.int .i64 0,.int .i64 0,.string ⟨#[]⟩,.int .i64 0,.int .i64 0,.int .i64 0,.slice none 0 0,.slice none 0 0,.slice none 0 0] 62)).alloc (.cells #[c0,c1,c2,.int .i64 L,c4,c5,c6,c7,c8] 164):=⟨_,rfl⟩;rw [← hW2] at T2 ⊢;have bD:Below W2.heap.size W2 W2.drew:=⟨rfl,rfl,rfl,Nat.le_refl _,fun _ _ => rfl⟩;have HTD:Hid (Two w W2.drew #[.int .i64 0,.int .i64 0,.string ⟨#[]⟩,.int .i64 0,.int .i64 0,.int .i64 0,.slice none 0 0,.slice none 0 0,.slice none 0 0] #[c0,c1,c2,.int .i64 L,c4,c5,c6,c7,c8] 62 164):=T2.call bD;have rS:W2.drew.rangeAt (w.heap.size + 1) 0 [c0,c1,c2,.int .i64 L,c4,c5,c6,c7,c8] ∧ W2.drew.cell? ⟨w.heap.size + 1,3,none⟩ = some (.int .i64 L):=⟨rangeB HTD.out.b2,HTD.out.b2.cell 3⟩;clear T2 hW2 bD hlook hlk;refine wp_region_M 13 (fun w' => w'.rangeAt (w.heap.size + 1) 0 [c0,c1,c2,.int .i64 L,c4,c5,c6,c7,c8] ∧ w'.cell? ⟨w.heap.size + 1,3,none⟩ = some (.int .i64 L)) mixedL rS (fun hHeld => ?_);refine wpAnyM_pure (i:=0) (oi:=_) (v:=?_) rfl (by kernel_rfl) (fun _ _ _ h => h) (Or.inl ⟨by kernel_rfl,?_⟩) (by assumption) ?_
    rotate_left
    · intro w' hSw;go_simp;try with_reducible rfl
    try simp only [Act.put,SL]
    refine wpAnyM_pure (i:=1) (oi:=_) (v:=?_) rfl (by kernel_rfl) (fun _ _ _ h => h) (Or.inl ⟨by kernel_rfl,?_⟩) (by assumption) ?_
    rotate_left
    · intro w' hSw;go_simp;try with_reducible rfl
    try simp only [Act.put,SL]
    refine wpAnyM_takeN (i:=2) (oi:=_) (v:=.agg #[c0,c1,c2,.int .i64 L,c4,c5,c6,c7,c8]) rfl (by kernel_rfl) (fun _ _ _ h => h) (yieldsIf_load_mid (by kernel_rfl) 62 (.tmp 17) rfl (w.heap.size + 1) 0 (by simp [Act.eval,Act.put]) [c0,c1,c2,.int .i64 L,c4,c5,c6,c7,c8] _ (fun w h => h.1) Tryz.underlying62 rfl (by kernel_rfl)) (by assumption) ?_
    try simp only [Act.put,SL]
    refine wpAnyM_pure (i:=3) (oi:=_) (v:=?_) rfl (by kernel_rfl) (fun _ _ _ h => h) (Or.inl ⟨by kernel_rfl,?_⟩) (by assumption) ?_
    rotate_left
    · intro w' hSw;go_simp;try with_reducible rfl
    try simp only [Act.put,SL]
    refine wpAnyM_pure (i:=4) (oi:=_) (v:=?_) rfl (by kernel_rfl) (fun _ _ _ h => h) (Or.inl ⟨by kernel_rfl,?_⟩) (by assumption) ?_
    rotate_left
    · intro w' hSw;go_simp;try with_reducible rfl
    try simp only [Act.put,SL]
    refine wpAnyM_pure (i:=5) (oi:=_) (v:=undef) rfl (by kernel_rfl) (fun _ _ _ h => h) (Or.inr ⟨by kernel_rfl,rfl⟩) (by assumption) ?_
    try simp only [Act.put,SL]
    refine wpAnyM_pure (i:=6) (oi:=_) (v:=undef) rfl (by kernel_rfl) (fun _ _ _ h => h) (Or.inr ⟨by kernel_rfl,rfl⟩) (by assumption) ?_
    try simp only [Act.put,SL]
    refine wpAnyM_pure (i:=7) (oi:=_) (v:=undef) rfl (by kernel_rfl) (fun _ _ _ h => h) (Or.inr ⟨by kernel_rfl,rfl⟩) (by assumption) ?_
    try simp only [Act.put,SL]
    refine wpAnyM_pure (i:=8) (oi:=_) (v:=undef) rfl (by kernel_rfl) (fun _ _ _ h => h) (Or.inr ⟨by kernel_rfl,rfl⟩) (by assumption) ?_
    try simp only [Act.put,SL]
    refine wpAnyM_pure (i:=9) (oi:=_) (v:=undef) rfl (by kernel_rfl) (fun _ _ _ h => h) (Or.inr ⟨by kernel_rfl,rfl⟩) (by assumption) ?_
    try simp only [Act.put,SL]
    refine wpAnyM_pure (i:=10) (oi:=_) (v:=?_) rfl (by kernel_rfl) (fun _ _ _ h => h) (Or.inl ⟨by kernel_rfl,?_⟩) (by assumption) ?_
    rotate_left
    · intro w' hSw;go_simp;try with_reducible rfl
    try simp only [Act.put,SL]
    refine wpAnyM_oneS (i:=11) (o:=_) rfl (by kernel_rfl) (fun KC hKC => ?_);refine step_storeBoxI 62 _ _ rfl rfl (w.heap.size) (by simp [Act.eval,Act.put]) (cs:=[c0,c1,c2,.int .i64 L,c4,c5,c6,c7,c8]) (old:=[.int .i64 0,.int .i64 0,.string ⟨#[]⟩,.int .i64 0,.int .i64 0,.int .i64 0,.slice none 0 0,.slice none 0 0,.slice none 0 0]) (by simp [Act.eval,Act.put]) (HTD.out.b1) size_Rec9 rfl rfl hone ?_;intro w9 X9 C9 z9;have X8:Box w9 (w.heap.size + 1) #[c0,c1,c2,.int .i64 L,c4,c5,c6,c7,c8] 164:=HTD.out.b2.chgl C9 (by simp);have r8:w9.rangeAt (w.heap.size + 1) 0 [c0,c1,c2,.int .i64 L,c4,c5,c6,c7,c8] ∧ w9.cell? ⟨w.heap.size + 1,3,none⟩ = some (.int .i64 L):=⟨rangeB X8,X8.cell 3⟩;refine hKC _ _ r8 ?_;clear hKC KC X8
    try simp only [Act.put,SL]
    refine wpAnyM_pure (i:=12) (oi:=_) (v:=?_) rfl (by kernel_rfl) (fun _ _ _ h => h) (Or.inl ⟨by kernel_rfl,?_⟩) (by assumption) ?_
    rotate_left
    · intro w' hSw;go_simp;try with_reducible rfl
    try simp only [Act.put,SL]
    refine wpAnyM_done (by kernel_rfl) ?_ _;go_wp2;have y0:w9.cell? ⟨w.heap.size,0,none⟩ = some (c0):=X9.cell 0;have y1:w9.cell? ⟨w.heap.size,1,none⟩ = some (c1):=X9.cell 1;have y2:w9.cell? ⟨w.heap.size,2,none⟩ = some (c2):=X9.cell 2;have y3:w9.cell? ⟨w.heap.size,3,none⟩ = some (.int .i64 L):=X9.cell 3;have y4:w9.cell? ⟨w.heap.size,4,none⟩ = some (c4):=X9.cell 4;have y5:w9.cell? ⟨w.heap.size,5,none⟩ = some (c5):=X9.cell 5;have y6:w9.cell? ⟨w.heap.size,6,none⟩ = some (c6):=X9.cell 6;have y7:w9.cell? ⟨w.heap.size,7,none⟩ = some (c7):=X9.cell 7;have y8:w9.cell? ⟨w.heap.size,8,none⟩ = some (c8):=X9.cell 8;have HB9:Hid (Below w.heap.size w w9):=HTD.out.bel.trans (C9.bel (fun b hb => by simp at hb;omega) HTD.out.bel.size);refine bodyPost_ret (v:=.tuple #[.agg #[c0,c1,c2,.int .i64 L,c4,c5,c6,c7,c8],.bool false]) (by simp [results,Tryz.results76,go_sem,y0,y1,y2,y3,y4,y5,y6,y7,y8]) rfl ⟨rfl,HB9.out⟩
  · go_enter Tryz.func76,Tryz.ntmps76
    go_upto_region 2 with (refine wp_allocStore 164 6 (.tmp 14) [c0,c1,c2,.int .i64 L,c4,c5,c6,c7,c8] _ 9 rfl rfl rfl rfl rfl rfl (by simp [Act.eval,Act.put]) (by simp [Act.eval,Act.put]) info_IE rfl rfl hone ?_)
    obtain ⟨W2,hW2⟩:∃ y,y = (w.alloc (.cells #[.int .i64 0,.int .i64 0,.string ⟨#[]⟩,.int .i64 0,.int .i64 0,.int .i64 0,.slice none 0 0,.slice none 0 0,.slice none 0 0] 62)).alloc (.cells #[c0,c1,c2,.int .i64 L,c4,c5,c6,c7,c8] 164):=⟨_,rfl⟩;rw [← hW2] at T2 ⊢;have bD:Below W2.heap.size W2 W2.drew:=⟨rfl,rfl,rfl,Nat.le_refl _,fun _ _ => rfl⟩;have HTD:Hid (Two w W2.drew #[.int .i64 0,.int .i64 0,.string ⟨#[]⟩,.int .i64 0,.int .i64 0,.int .i64 0,.slice none 0 0,.slice none 0 0,.slice none 0 0] #[c0,c1,c2,.int .i64 L,c4,c5,c6,c7,c8] 62 164):=T2.call bD;have rS:W2.drew.rangeAt (w.heap.size + 1) 0 [c0,c1,c2,.int .i64 L,c4,c5,c6,c7,c8] ∧ W2.drew.cell? ⟨w.heap.size + 1,3,none⟩ = some (.int .i64 L):=⟨rangeB HTD.out.b2,HTD.out.b2.cell 3⟩;clear T2 hW2 bD hlook hlk;refine wp_region_M 13 (fun w' => w'.rangeAt (w.heap.size + 1) 0 [c0,c1,c2,.int .i64 L,c4,c5,c6,c7,c8] ∧ w'.cell? ⟨w.heap.size + 1,3,none⟩ = some (.int .i64 L)) mixedL rS (fun hHeld => ?_);refine wpAnyM_pure (i:=0) (oi:=_) (v:=?_) rfl (by kernel_rfl) (fun _ _ _ h => h) (Or.inl ⟨by kernel_rfl,?_⟩) (by assumption) ?_
    rotate_left
    · intro w' hSw;go_simp;try with_reducible rfl
    try simp only [Act.put,SL]
    refine wpAnyM_pure (i:=1) (oi:=_) (v:=?_) rfl (by kernel_rfl) (fun _ _ _ h => h) (Or.inl ⟨by kernel_rfl,?_⟩) (by assumption) ?_
    rotate_left
    · intro w' hSw;go_simp;try with_reducible rfl
    try simp only [Act.put,SL]
    refine wpAnyM_takeN (i:=2) (oi:=_) (v:=.agg #[c0,c1,c2,.int .i64 L,c4,c5,c6,c7,c8]) rfl (by kernel_rfl) (fun _ _ _ h => h) (yieldsIf_load_mid (by kernel_rfl) 62 (.tmp 17) rfl (w.heap.size + 1) 0 (by simp [Act.eval,Act.put]) [c0,c1,c2,.int .i64 L,c4,c5,c6,c7,c8] _ (fun w h => h.1) Tryz.underlying62 rfl (by kernel_rfl)) (by assumption) ?_
    try simp only [Act.put,SL]
    refine wpAnyM_pure (i:=3) (oi:=_) (v:=?_) rfl (by kernel_rfl) (fun _ _ _ h => h) (Or.inl ⟨by kernel_rfl,?_⟩) (by assumption) ?_
    rotate_left
    · intro w' hSw;go_simp;try with_reducible rfl
    try simp only [Act.put,SL]
    refine wpAnyM_pure (i:=4) (oi:=_) (v:=?_) rfl (by kernel_rfl) (fun _ _ _ h => h) (Or.inl ⟨by kernel_rfl,?_⟩) (by assumption) ?_
    rotate_left
    · intro w' hSw;go_simp;try with_reducible rfl
    try simp only [Act.put,SL]
    refine wpAnyM_pure (i:=5) (oi:=_) (v:=?_) rfl (by kernel_rfl) (fun _ _ _ h => h) (Or.inl ⟨by kernel_rfl,?_⟩) (by assumption) ?_
    rotate_left
    · intro w' hSw;go_simp;try with_reducible rfl
    try simp only [Act.put,SL]
    refine wpAnyM_pure (i:=6) (oi:=_) (v:=?_) rfl (by kernel_rfl) (fun _ _ _ h => h) (Or.inl ⟨by kernel_rfl,?_⟩) (by assumption) ?_
    rotate_left
    · intro w' hSw;go_simp;try with_reducible rfl
    try simp only [Act.put,SL]
    refine wpAnyM_pure (i:=7) (oi:=_) (v:=?_) rfl (by kernel_rfl) (fun _ _ _ h => h) (Or.inl ⟨by kernel_rfl,?_⟩) (by assumption) ?_
    rotate_left
    · intro w' hSw;go_simp;try with_reducible rfl
    try simp only [Act.put,SL]
    refine wpAnyM_takeN (i:=8) (oi:=_) (v:=?_) rfl (by kernel_rfl) (fun _ _ _ h => h) (Or.inl ⟨by kernel_rfl,?_⟩) (by assumption) ?_
    rotate_left
    · intro w' hSw
      try dsimp only at hSw
      obtain ⟨q1,q2⟩:=hSw;go_simp
      try with_reducible rfl
    try simp only [Act.put,SL]
    refine wpAnyM_pure (i:=9) (oi:=_) (v:=?_) rfl (by kernel_rfl) (fun _ _ _ h => h) (Or.inl ⟨by kernel_rfl,?_⟩) (by assumption) ?_
    rotate_left
    · intro w' hSw;go_simp;try with_reducible rfl
    try simp only [Act.put,SL]
    refine wpAnyM_pure (i:=10) (oi:=_) (v:=?_) rfl (by kernel_rfl) (fun _ _ _ h => h) (Or.inl ⟨by kernel_rfl,?_⟩) (by assumption) ?_
    rotate_left
    · intro w' hSw;go_simp;try with_reducible rfl
    try simp only [Act.put,SL]
    refine wpAnyM_oneS (i:=11) (o:=_) rfl (by kernel_rfl) (fun KC hKC => ?_);refine step_storeBoxI 62 _ _ rfl rfl (w.heap.size) (by simp [Act.eval,Act.put]) (cs:=[c0,c1,c2,.int .i64 L,c4,c5,c6,c7,c8]) (old:=[.int .i64 0,.int .i64 0,.string ⟨#[]⟩,.int .i64 0,.int .i64 0,.int .i64 0,.slice none 0 0,.slice none 0 0,.slice none 0 0]) (by simp [Act.eval,Act.put]) (HTD.out.b1) size_Rec9 rfl rfl hone ?_;intro w9 X9 C9 z9;have X8:Box w9 (w.heap.size + 1) #[c0,c1,c2,.int .i64 L,c4,c5,c6,c7,c8] 164:=HTD.out.b2.chgl C9 (by simp);have r8:w9.rangeAt (w.heap.size + 1) 0 [c0,c1,c2,.int .i64 L,c4,c5,c6,c7,c8] ∧ w9.cell? ⟨w.heap.size + 1,3,none⟩ = some (.int .i64 L):=⟨rangeB X8,X8.cell 3⟩;refine hKC _ _ r8 ?_;clear hKC KC X8
    try simp only [Act.put,SL]
    refine wpAnyM_pure (i:=12) (oi:=_) (v:=?_) rfl (by kernel_rfl) (fun _ _ _ h => h) (Or.inl ⟨by kernel_rfl,?_⟩) (by assumption) ?_
    rotate_left
    · intro w' hSw;go_simp;try with_reducible rfl
    try simp only [Act.put,SL]
    refine wpAnyM_done (by kernel_rfl) ?_ _;go_wp2;have y0:w9.cell? ⟨w.heap.size,0,none⟩ = some (c0):=X9.cell 0;have y1:w9.cell? ⟨w.heap.size,1,none⟩ = some (c1):=X9.cell 1;have y2:w9.cell? ⟨w.heap.size,2,none⟩ = some (c2):=X9.cell 2;have y3:w9.cell? ⟨w.heap.size,3,none⟩ = some (.int .i64 L):=X9.cell 3;have y4:w9.cell? ⟨w.heap.size,4,none⟩ = some (c4):=X9.cell 4;have y5:w9.cell? ⟨w.heap.size,5,none⟩ = some (c5):=X9.cell 5;have y6:w9.cell? ⟨w.heap.size,6,none⟩ = some (c6):=X9.cell 6;have y7:w9.cell? ⟨w.heap.size,7,none⟩ = some (c7):=X9.cell 7;have y8:w9.cell? ⟨w.heap.size,8,none⟩ = some (c8):=X9.cell 8
    have hd:(L == -1) = decide (L = -1):=by cases h:decide (L = -1) <;> simp_all
    have HB9:Hid (Below w.heap.size w w9):=HTD.out.bel.trans (C9.bel (fun b hb => by simp at hb;omega) HTD.out.bel.size);refine bodyPost_ret (v:=.tuple #[.agg #[c0,c1,c2,.int .i64 L,c4,c5,c6,c7,c8],.bool (decide (L ≠ -1))]) (by simp [results,Tryz.results76,go_sem,y0,y1,y2,y3,y4,y5,y6,y7,y8,bne,hd]) rfl ⟨by simp,HB9.out⟩
theorem item_any {w:World} {lo B hi:Nat} {s:Nat → Int} {m N:Nat} {x:Nat → RecD} {ce:Nat → List Value} {v:Value} {b1 b2 b3 b4 b5:Nat} (h:Ldg w lo B s m N x ce v b1 b2 b3 b4 b5) (hr:∀ i,i < N → layRec.rd w hi (x i) (ce i)) (nm:ByteArray) (hnm:nm.size ≤ maxLen) :
    Calls Tryz.prog 76 #[.pointer (some ⟨B,0,none⟩),.string nm] w (fun e w' => ((lastI (itm x nm) N = -1 ∧ e = .returned (.tuple #[.agg #[.int .i64 0,.int .i64 0,.string ⟨#[]⟩,.int .i64 0,.int .i64 0,.int .i64 0,.slice none 0 0,.slice none 0 0,.slice none 0 0],.bool false])) ∨ ∃ i:Nat,i < N ∧ lastI (itm x nm) N = (i:Int) ∧ e = .returned (.tuple #[.agg (ce i).toArray,.bool (decide ((x i).length ≠ -1))])) ∧ Below w.heap.size w w'):=by
  obtain ⟨kl,hkl⟩:=keyOf_S hnm;have d4:w.cell? ⟨B,10,none⟩ = some (.map (some b1)):=h.box.cell 10
  have hlook:∀ w',Below w.heap.size w w' → (Instr.lookup 149 (.map (some b1)) (.string nm) true).run Tryz.prog w' = .ok (.tuple #[((newF x ce N) (.string nm)).getD (.agg #[.int .i64 0,.int .i64 0,.string ⟨#[]⟩,.int .i64 0,.int .i64 0,.int .i64 0,.slice none 0 0,.slice none 0 0,.slice none 0 0]),.bool ((newF x ce N) (.string nm)).isSome]) w':=fun w' hb =>
    (h.m1.block (hb.block _ h.m1.lt)).lookOk keyS Tryz.underlying149 (zeroIE _) hkl
  rcases lastI_cases (itm x nm) N with e | ⟨i,h1,h2,h3⟩
  · rw [(newF_at x ce nm N).1 e] at hlook
    have:=item_core nm (.int .i64 0) (.int .i64 0) (.string ⟨#[]⟩) (.int .i64 0) (.int .i64 0) (.slice none 0 0) (.slice none 0 0) (.slice none 0 0) 0 false (by decide) d4 hlook;exact this.mono fun e' w' ⟨h1,h2⟩ => ⟨.inl ⟨e,h1⟩,h2⟩
  · rw [(newF_at x ce nm N).2 i h2] at hlook
    have hr':=hr i h1;have ho:=layRec_one hr';obtain ⟨ao6,cap6,ao7,cap7,ao8,cap8,hcs,-⟩:=Rec_rd hr';rw [hcs] at hlook ho;have:=item_core nm _ _ _ _ _ _ _ _ (x i).length true ho d4 hlook;refine this.mono fun e' w' ⟨h1',h2'⟩ => ⟨.inr ⟨i,h1,h2,?_⟩,h2'⟩;rw [hcs]
    simpa using h1'
end Go.Proofs.YtaioliojijikaaaGreat
namespace Go.Proofs.YtaioliojijikaaaGreat.Sym
def Re (a b:Nat) (p q:Nat → Nat):Prop:=∃ s t:Nat → Nat,(∀ i,q i = p (s i)) ∧ (∀ i,t (s i) = i) ∧ (∀ i,s (t i) = i) ∧ ∀ i,(i < a ∨ b ≤ i) → s i = i
theorem Re.refl (a b:Nat) (p:Nat → Nat):Re a b p p:=⟨id,id,fun _ => rfl,fun _ => rfl,fun _ => rfl,fun _ _ => rfl⟩
theorem Re.trans {a b:Nat} {p q r:Nat → Nat} (h:Re a b p q) (k:Re a b q r):Re a b p r:=by
  obtain ⟨s,t,h1,h2,h3,h4⟩:=h;obtain ⟨s',t',k1,k2,k3,k4⟩:=k;refine ⟨fun i => s (s' i),fun i => t' (t i),fun i => by rw [k1,h1],fun i => ?_,fun i => ?_,fun i hi => ?_⟩
  · show t' (t (s (s' i))) = i
    rw [h2,k2]
  · show s (s' (t' (t i))) = i
    rw [k3,h3]
  · show s (s' i) = i
    rw [k4 i hi,h4 i hi]
theorem Re.mono {a b a' b':Nat} {p q:Nat → Nat} (h:Re a b p q) (ha:a' ≤ a) (hb:b ≤ b'):Re a' b' p q:=by
  obtain ⟨s,t,h1,h2,h3,h4⟩:=h;exact ⟨s,t,h1,h2,h3,fun i hi => h4 i (by omega)⟩
theorem Re.out {a b:Nat} {p q:Nat → Nat} (h:Re a b p q) {i:Nat} (hi:i < a ∨ b ≤ i):q i = p i:=by
  obtain ⟨s,t,h1,h2,h3,h4⟩:=h;rw [h1,h4 i hi]
theorem Re.from {a b:Nat} {p q:Nat → Nat} (h:Re a b p q) {i:Nat} (hi:a ≤ i ∧ i < b):∃ j,(a ≤ j ∧ j < b) ∧ q i = p j:=by
  obtain ⟨s,t,h1,h2,h3,h4⟩:=h;refine ⟨s i,?_,h1 i⟩
  by_cases c:a ≤ s i ∧ s i < b
  · exact c
  · have:=h4 (s i) (by omega)
    have e:s i = i:=by rw [← h2 (s i),this,h2]
    omega
def swp (i j:Nat):Nat → Nat:=fun k => if k = i then j else if k = j then i else k
theorem swp_swp (i j k:Nat):swp i j (swp i j k) = k:=by unfold swp;split <;> split <;> simp_all <;> split <;> simp_all
theorem Re.swaps {a b i j:Nat} (p:Nat → Nat) (hi:a ≤ i ∧ i < b) (hj:a ≤ j ∧ j < b):Re a b p (fun k => p (swp i j k)) :=
  ⟨swp i j,swp i j,fun _ => rfl,swp_swp i j,swp_swp i j,fun k hk => by unfold swp;rw [if_neg (by omega),if_neg (by omega)]⟩
def swr (a b n:Nat):Nat → Nat:=fun k => if a ≤ k ∧ k < a + n then b + (k - a) else if b ≤ k ∧ k < b + n then a + (k - b) else k
theorem swr_zero (a b k:Nat):swr a b 0 k = k:=by unfold swr;rw [if_neg (by omega),if_neg (by omega)]
theorem swr_succ {a b n:Nat} (h:a + (n + 1) ≤ b) (k:Nat):swr a b n (swp (a + n) (b + n) k) = swr a b (n + 1) k:=by
  unfold swr swp
  by_cases c1:k = a + n
  · rw [if_pos c1,if_neg (by omega),if_neg (by omega),if_pos (by omega)];omega
  · rw [if_neg c1]
    by_cases c2:k = b + n
    · rw [if_pos c2,if_neg (by omega),if_neg (by omega),if_neg (by omega),if_pos (by omega)];omega
    · rw [if_neg c2]
      by_cases c3:a ≤ k ∧ k < a + n
      · rw [if_pos c3,if_pos (by omega)]
      · rw [if_neg c3,if_neg (show ¬ (a ≤ k ∧ k < a + (n + 1)) by omega)]
        by_cases c4:b ≤ k ∧ k < b + n
        · rw [if_pos c4,if_pos (by omega)]
        · rw [if_neg c4,if_neg (by omega)]
def rot (lo m hi:Nat):Nat → Nat:=fun k => if k < lo ∨ hi ≤ k then k else if k < lo + (hi - m) then m + (k - lo) else k - (hi - m)
theorem rot_more {m i j:Nat} (hij:j < i) (him:i ≤ m) (k:Nat):swr (m - i) m j (rot (m - (i - j)) m (m + j) k) = rot (m - i) m (m + j) k:=by
  unfold rot
  by_cases c1:k < m - i ∨ m + j ≤ k
  · rw [if_pos (show k < m - i ∨ m + j ≤ k from c1),if_pos (by omega)]
    unfold swr;rw [if_neg (by omega),if_neg (by omega)]
  · rw [if_neg c1]
    by_cases c2:k < m - i + (m + j - m)
    · rw [if_pos c2,if_pos (by omega)]
      unfold swr;rw [if_pos (by omega)]
    · rw [if_neg c2,if_neg (by omega)]
      by_cases c3:k < m - (i - j) + (m + j - m)
      · rw [if_pos c3]
        unfold swr;rw [if_neg (by omega),if_pos (by omega)];omega
      · rw [if_neg c3]
        unfold swr;rw [if_neg (by omega),if_neg (by omega)]
theorem rot_less {m i j:Nat} (hij:i < j) (him:i ≤ m) (k:Nat):swr (m - i) (m + j - i) i (rot (m - i) m (m + (j - i)) k) = rot (m - i) m (m + j) k:=by
  unfold rot
  by_cases c1:k < m - i ∨ m + j ≤ k
  · rw [if_pos (show k < m - i ∨ m + j ≤ k from c1),if_pos (by omega)]
    unfold swr;rw [if_neg (by omega),if_neg (by omega)]
  · rw [if_neg c1]
    by_cases c4:m + (j - i) ≤ k
    · rw [if_pos (by omega),if_neg (by omega)]
      unfold swr;rw [if_neg (by omega),if_pos (by omega)];omega
    · rw [if_neg (by omega)]
      by_cases c2:k < m - i + (m + (j - i) - m)
      · rw [if_pos c2,if_pos (by omega)]
        unfold swr;rw [if_neg (by omega),if_neg (by omega)]
      · rw [if_neg c2,if_pos (by omega)]
        unfold swr;rw [if_pos (by omega)];omega
theorem rot_same {m i:Nat} (him:i ≤ m) (k:Nat):swr (m - i) m i k = rot (m - i) m (m + i) k:=by
  unfold rot swr
  by_cases c1:k < m - i ∨ m + i ≤ k
  · rw [if_pos c1,if_neg (by omega),if_neg (by omega)]
  · rw [if_neg c1]
    by_cases c2:k < m - i + (m + i - m)
    · rw [if_pos c2,if_pos (by omega)]
    · rw [if_neg c2,if_neg (by omega),if_pos (by omega)];omega
theorem rot_back {lo m hi:Nat} (h1:lo ≤ m) (h2:m ≤ hi) (k:Nat):rot lo (lo + (hi - m)) hi (rot lo m hi k) = k:=by
  unfold rot
  by_cases c1:k < lo ∨ hi ≤ k
  · rw [if_pos c1,if_pos c1]
  · rw [if_neg c1]
    by_cases c2:k < lo + (hi - m)
    · rw [if_pos c2,if_neg (by omega),if_neg (by omega)];omega
    · rw [if_neg c2,if_neg (by omega),if_pos (by omega)];omega
theorem Re.rots {lo m hi:Nat} (p:Nat → Nat) (h1:lo ≤ m) (h2:m ≤ hi):Re lo hi p (fun k => p (rot lo m hi k)) :=
  ⟨rot lo m hi,rot lo (lo + (hi - m)) hi,fun _ => rfl,rot_back h1 h2,fun k => by
    have:=rot_back (lo:=lo) (m:=lo + (hi - m)) (hi:=hi) (by omega) (by omega) k
    rwa [show lo + (hi - (lo + (hi - m))) = m by omega] at this,fun k hk => by unfold rot;rw [if_pos hk]⟩
structure Ord (lt:Nat → Nat → Prop):Prop where
  trans:∀ {i j k},lt i j → lt j k → lt i k
  irr:∀ i,¬ lt i i
def Srt (lt:Nat → Nat → Prop) (p:Nat → Nat) (a b:Nat):Prop:=∀ i j,a ≤ i → i < j → j < b → lt (p i) (p j)
theorem Srt.sub {lt:Nat → Nat → Prop} {p:Nat → Nat} {a b a' b':Nat} (h:Srt lt p a b) (h1:a ≤ a') (h2:b' ≤ b):Srt lt p a' b':=fun i j h3 h4 h5 => h i j (by omega) h4 (by omega)
theorem Srt.congr {lt:Nat → Nat → Prop} {p q:Nat → Nat} {a b:Nat} (h:Srt lt p a b) (e:∀ i,a ≤ i → i < b → q i = p i):Srt lt q a b:=fun i j h3 h4 h5 => by
  rw [e i h3 (by omega),e j (by omega) h5];exact h i j h3 h4 h5
theorem Srt.join {lt:Nat → Nat → Prop} {p:Nat → Nat} {a m b:Nat} (h1:Srt lt p a m) (h2:Srt lt p m b) (h:∀ i j,a ≤ i → i < m → m ≤ j → j < b → lt (p i) (p j)):Srt lt p a b:=fun i j h3 h4 h5 => by
  by_cases c1:j < m
  · exact h1 i j h3 h4 c1
  · by_cases c2:i < m
    · exact h i j h3 c2 (by omega) h5
    · exact h2 i j (by omega) h4 h5
theorem split {lt:Nat → Nat → Prop} (O:Ord lt) {p:Nat → Nat} {a m b s e mid:Nat} (h1:Srt lt p a m) (h2:Srt lt p m b) (hm:mid + m = s + e) (ha:a ≤ s) (sm:s ≤ m) (me:m ≤ e) (eb:e ≤ b)
    (q1:s ≠ a → e ≠ b → lt (p (s - 1)) (p e)) (q2:s ≠ m → e ≠ m → lt (p (e - 1)) (p s)) :
    Srt lt (fun k => p (rot s m e k)) a s ∧ Srt lt (fun k => p (rot s m e k)) s mid ∧ Srt lt (fun k => p (rot s m e k)) mid e ∧ Srt lt (fun k => p (rot s m e k)) e b ∧
      ∀ i j,a ≤ i → i < mid → mid ≤ j → j < b → lt (p (rot s m e i)) (p (rot s m e j)):=by
  have r1:∀ i,i < s → rot s m e i = i:=fun i hi => by unfold rot;rw [if_pos (by omega)]
  have r2:∀ i,s ≤ i → i < mid → rot s m e i = m + (i - s):=fun i h3 h4 => by unfold rot;rw [if_neg (by omega),if_pos (by omega)]
  have r3:∀ i,mid ≤ i → i < e → rot s m e i = s + (i - mid):=fun i h3 h4 => by unfold rot;rw [if_neg (by omega),if_neg (by omega)];omega
  have r4:∀ i,e ≤ i → rot s m e i = i:=fun i hi => by unfold rot;rw [if_pos (by omega)]
  refine ⟨fun i j x y z => ?_,fun i j x y z => ?_,fun i j x y z => ?_,fun i j x y z => ?_,fun i j x y z u => ?_⟩
  · show lt (p (rot s m e i)) (p (rot s m e j))
    rw [r1 i (by omega),r1 j z];exact h1 i j x y (by omega)
  · show lt (p (rot s m e i)) (p (rot s m e j))
    rw [r2 i x (by omega),r2 j (by omega) z];exact h2 _ _ (by omega) (by omega) (by omega)
  · show lt (p (rot s m e i)) (p (rot s m e j))
    rw [r3 i x (by omega),r3 j (by omega) z];exact h1 _ _ (by omega) (by omega) (by omega)
  · show lt (p (rot s m e i)) (p (rot s m e j))
    rw [r4 i x,r4 j (by omega)];exact h2 _ _ (by omega) (by omega) (by omega)
  · have le1:∀ {i j},a ≤ i → i ≤ j → j < m → p i = p j ∨ lt (p i) (p j):=fun {i j} x y z => by
      by_cases c:i = j
      · exact .inl (by rw [c])
      · exact .inr (h1 i j x (by omega) z)
    have le2:∀ {i j},m ≤ i → i ≤ j → j < b → p i = p j ∨ lt (p i) (p j):=fun {i j} x y z => by
      by_cases c:i = j
      · exact .inl (by rw [c])
      · exact .inr (h2 i j x (by omega) z)
    have tl:∀ {i j k},(i = j ∨ lt i j) → lt j k → lt i k:=fun {i j k} x y => by
      rcases x with rfl | x
      · exact y
      · exact O.trans x y
    have tr:∀ {i j k},lt i j → (j = k ∨ lt j k) → lt i k:=fun {i j k} x y => by
      rcases y with rfl | y
      · exact x
      · exact O.trans x y
    by_cases c1:i < s
    · rw [r1 i c1]
      by_cases c2:j < e
      · rw [r3 j z c2]
        exact h1 _ _ x (by omega) (by omega)
      · rw [r4 j (by omega)]
        have q:=q1 (by omega) (by omega);exact tr (tl (le1 x (show i ≤ s - 1 by omega) (by omega)) q) (le2 me (by omega) u)
    · rw [r2 i (by omega) y]
      by_cases c2:j < e
      · rw [r3 j z c2]
        have q:=q2 (by omega) (by omega);exact tr (tl (le2 (by omega) (show m + (i - s) ≤ e - 1 by omega) (by omega)) q) (le1 ha (by omega) (by omega))
      · rw [r4 j (by omega)]
        exact h2 _ _ (by omega) (by omega) u
theorem halves {lt:Nat → Nat → Prop} {p q r:Nat → Nat} {a mid b:Nat} (am:a ≤ mid) (mb:mid ≤ b) (h:∀ i j,a ≤ i → i < mid → mid ≤ j → j < b → lt (p i) (p j)) (k1:Re a mid p q) (k2:Re mid b q r) (s1:Srt lt q a mid) (s2:Srt lt r mid b):Srt lt r a b ∧ Re a b p r:=by
  refine ⟨Srt.join (m:=mid) (s1.congr fun i x y => k2.out (.inl y)) s2 (fun i j x y z u => ?_),(k1.mono (Nat.le_refl _) mb).trans (k2.mono am (Nat.le_refl _))⟩
  obtain ⟨i',hi,e1⟩:=k1.from ⟨x,y⟩
  obtain ⟨j',hj,e2⟩:=k2.from ⟨z,u⟩
  rw [k2.out (.inl y),e1,e2,k1.out (.inr hj.1)];exact h i' j' hi.1 hi.2 hj.1 hj.2
end Go.Proofs.YtaioliojijikaaaGreat.Sym
namespace Go.Proofs.YtaioliojijikaaaGreat
open Go.RowKit F256
def RdOne {α:Type} (E:Lay α):Prop:=∀ (w:World) (hi:Nat) (a:α) (cs:List Value),E.rd w hi a cs → ∀ u,u ∈ cs → u.oneCell' = true
theorem rdOne_plain {α:Type} (enc:α → Value) (ok:α → Prop) (one:∀ a,(enc a).oneCell' = true):RdOne (Lay.plain enc ok one):=fun w hi a cs h u hu => by
  obtain ⟨rfl,_⟩:=h
  simp at hu
  subst hu;exact one a
theorem rdOne_two {α β:Type} {A:Lay α} {B:Lay β} (ha:RdOne A) (hb:RdOne B):RdOne (A.two B):=fun w hi p cs h u hu => by
  obtain ⟨c,d,rfl,h1,h2⟩:=h
  rcases List.mem_append.1 hu with h | h
  · exact ha _ _ _ _ h1 u h
  · exact hb _ _ _ _ h2 u h
theorem rdOne_as {α β:Type} {A:Lay α} (ha:RdOne A) (f:β → α):RdOne (A.as f):=fun w hi p cs h u hu => ha w hi (f p) cs h u hu
theorem rdOne_bytes:RdOne layBytes:=fun w hi p cs h u hu => by
  obtain ⟨v,rfl,⟨ao,cap,rfl,_⟩,_⟩:=h
  simp at hu
  subst hu;rfl
theorem rdOne_ints:RdOne layInts:=fun w hi p cs h u hu => by
  obtain ⟨v,rfl,⟨⟨ao,cap,rfl,_⟩,_⟩,_⟩:=h
  simp at hu
  subst hu;rfl
theorem rdOne_rec:RdOne layRec:=rdOne_as (rdOne_two (rdOne_plain _ _ _) (rdOne_two (rdOne_plain _ _ _) (rdOne_two (rdOne_plain _ _ _) (rdOne_two (rdOne_plain _ _ _) (rdOne_two (rdOne_plain _ _ _) (rdOne_two (rdOne_plain _ _ _) (rdOne_two rdOne_ints (rdOne_two rdOne_bytes rdOne_bytes)))))))) _
def cat2 {β:Type} (x:Nat → β) (n:Nat) (y:Nat → β):Nat → β:=fun i => if i < n then x i else y (i - n)
theorem cat2_lt {β:Type} (x:Nat → β) {n i:Nat} (y:Nat → β) (h:i < n):cat2 x n y i = x i:=if_pos h
theorem cat2_ge {β:Type} (x:Nat → β) (n:Nat) (y:Nat → β) (i:Nat):cat2 x n y (n + i) = y i:=by
  unfold cat2;rw [if_neg (by omega)]
  congr 1
  omega
theorem catN_cat2 {β:Type} (x:Nat → List β) (n:Nat) (y:Nat → List β):∀ m,catN (n + m) (cat2 x n y) = catN n x ++ catN m y
  | 0 => by rw [catN_zero,List.append_nil];exact catN_congr (fun i hi => cat2_lt x y hi)
  | m + 1 => by rw [← Nat.add_assoc,catN_succ,catN_cat2 x n y m,catN_succ,cat2_ge,List.append_assoc]
structure View {α:Type} (E:Lay α) (t:TypeId) (w:World) (lo hi:Nat) (v:Value) (n:Nat) (x:Nat → α) (ce:Nat → List Value):Prop where
  row:w.ownsRow lo t E.sz v n (catN n ce)
  each:∀ i,i < n → E.rd w hi (x i) (ce i)
section
variable {α:Type} {E:Lay α} {t:TypeId} {w w':World} {lo hi n:Nat} {v:Value} {x:Nat → α} {ce:Nat → List Value}
theorem View.nil (x:Nat → α) (ce:Nat → List Value) (w:World) (lo hi:Nat):View E t w lo hi (.slice none 0 0) 0 x ce:=⟨World.ownsRow_nil w lo t E.sz,fun i hi => by omega⟩
theorem View.lit0 (x:Nat → α) (ce:Nat → List Value) (w:World) (hi:Nat):View E t (w.alloc (.cells #[] t)) w.heap.size hi (.slice (some ⟨w.heap.size,0,none⟩) 0 0) 0 x ce:=by
  have h:=World.ownsRow_lit (base:=w.heap.size) (e:=t) (size:=E.sz) w #[] 0 (Nat.le_refl _) (Nat.zero_le _) (by simp);exact ⟨by simpa [catN_zero] using h,fun i hi => by omega⟩
theorem View.form (h:View E t w lo hi v n x ce):∃ ao cap,v = .slice ao n cap:=by
  rcases h.row.2 with ⟨hv,hn⟩ | ⟨g,cap,cur,rfl,_⟩
  · exact ⟨none,0,by rw [hv,hn]⟩
  · exact ⟨_,_,rfl⟩
theorem View.form0 (h:View E t w lo hi v n x ce) (h0:n ≠ 0):∃ g cap,v = .slice (some ⟨g,0,none⟩) n cap:=by
  rcases h.row.2 with ⟨hv,hn⟩ | ⟨g,cap,cur,rfl,_⟩
  · exact absurd hn h0
  · exact ⟨_,_,rfl⟩
theorem View.len (h:View E t w lo hi v n x ce):n ≤ maxLen:=by
  rcases h.row.2 with ⟨hv,hn⟩ | ⟨g,cap,cur,rfl,hbg,hgg,hnc,hcm,rest⟩
  · omega
  · omega
theorem View.kept (h:View E t w lo hi v n x ce) (hk:∀ b,v.ownBlock = some b → w'.heap[b]? = w.heap[b]?) (hb:Below hi w w'):View E t w' lo hi v n x ce:=by
  refine ⟨⟨h.row.1,?_⟩,fun i hi => E.rd_below (h.each i hi) hb (Nat.le_refl _)⟩
  rcases h.row.2 with hn | ⟨g,cap,cur,rfl,hbg,hgg,rest⟩
  · exact .inl hn
  · exact .inr ⟨g,cap,cur,rfl,hbg,(hk g (by simp [Value.ownBlock])).trans hgg,rest⟩
theorem View.below (h:View E t w lo hi v n x ce) (hb:Below w.heap.size w w') (hh:hi ≤ w.heap.size):View E t w' lo hi v n x ce :=
  h.kept (fun b hv => hb.block b (h.row.lt b hv).2) (hb.mono hh)
theorem View.congr {y:Nat → α} (h:View E t w lo hi v n x ce) (hy:∀ i,i < n → x i = y i):View E t w lo hi v n y ce:=⟨h.row,fun i hi => by rw [← hy i hi];exact h.each i hi⟩
theorem View.lens (h:View E t w lo hi v n x ce):∀ i,i < n → (ce i).length = E.sz:=fun i hi => E.rd_len (h.each i hi)
theorem View.cell {g cap:Nat} (h:View E t w lo hi (.slice (some ⟨g,0,none⟩) n cap) n x ce) {i j:Nat} (hi:i < n) (hj:j < E.sz):w.cell? ⟨g,i * E.sz + j,none⟩ = (ce i)[j]?:=by
  rw [h.row.cellAt _ (mul_lt hi hj),catN_get h.lens hi hj]
theorem View.rd (h:View E t w lo hi v n x ce) (hh:hi ≤ w.heap.size):(E.slice t).rd w w.heap.size (n,x) [v]:=by
  have hlt:=fun b hb => (h.row.lt b hb).2;obtain ⟨ao,cap,rfl⟩:=h.form;refine ⟨ao,cap,rfl,h.len,fun h0 => ?_⟩;obtain ⟨g,cap',e⟩:=h.form0 h0
  cases e
  refine ⟨g,0,rfl,hlt g (by simp [Value.ownBlock]),fun i hi => ⟨ce i,E.rd_mono (h.each i hi) hh,fun j hj => ?_⟩⟩;rw [Nat.zero_add];exact h.cell hi hj
theorem View.store1 {g cap:Nat} (h:View E t w lo hi (.slice (some ⟨g,0,none⟩) n cap) n x ce) (h1:E.sz = 1) (hlo:hi ≤ lo) {i:Nat} (hi':i < n) {u:Value} {a:α} (ha:E.rd w hi a [u]) :
    View E t (w.setCell ⟨g,i,none⟩ u) lo hi (.slice (some ⟨g,0,none⟩) n cap) n (upd x i a) (upd ce i [u]) ∧ Below lo w (w.setCell ⟨g,i,none⟩ u):=by
  have hg:=h.row.lt g rfl;have hb:Below lo w (w.setCell ⟨g,i,none⟩ u):=(Below.refl _ _).setCell hg.1 _;refine ⟨⟨?_,fun m hm => ?_⟩,hb⟩
  · have:=(h.row.stored (i * E.sz + 0) u).1
    rw [catN_set h.lens hi' (by omega)] at this;rw [show i * E.sz + 0 = i by rw [h1];omega] at this;have hl:=h.lens i hi';rw [h1] at hl;obtain ⟨c,hc⟩:=List.length_eq_one_iff.1 hl;rw [hc] at this;exact this
  · by_cases c:m = i
    · subst c
      rw [upd_at,upd_at];exact E.rd_below ha hb hlo
    · rw [upd_ne x a c,upd_ne ce _ c]
      exact E.rd_below (h.each m hm) hb hlo
def Src (E:Lay α) (w:World) (hi:Nat) (ao:Option Addr) (m:Nat) (y:Nat → α) (cy:Nat → List Value):Prop :=
  (m ≠ 0 → ∃ b off,ao = some ⟨b,off,none⟩ ∧ ∀ j,j < m → ∀ k,k < E.sz → w.cell? ⟨b,off + (j * E.sz + k),none⟩ = (cy j)[k]?) ∧ ∀ j,j < m → E.rd w hi (y j) (cy j)
theorem src_one {b:Nat} {y:α} {cs:List Value} (hc:∀ k,k < E.sz → w.cell? ⟨b,k,none⟩ = cs[k]?) (hy:E.rd w hi y cs):Src E w hi (some ⟨b,0,none⟩) 1 (fun _ => y) (fun _ => cs) :=
  ⟨fun _ => ⟨b,0,rfl,fun j hj k hk => by
    obtain rfl:j = 0:=by omega
    rw [← hc k hk]
    congr 2
    omega⟩,fun _ _ => hy⟩
theorem add_oo (b o j:Nat):(⟨b,o,none⟩:Addr).add j = ⟨b,o + j,none⟩:=by unfold Addr.add;split <;> simp_all
end
theorem run_appendV {α:Type} {E:Lay α} {T e:TypeId} {by_:Nat} {zs:List Value} (I:ElInfo E T e by_ zs) (R1:RdOne E) (ty:TypeId) {W:World} {lo hi n:Nat} {v:Value} {x:Nat → α} {ce:Nat → List Value} (h:View E e W lo hi v n x ce)
    {ao:Option Addr} {m:Nat} (c:Nat) {y:Nat → α} {cy:Nat → List Value} (hs:Src E W hi ao m y cy) (hlo:lo ≤ W.heap.size) (hhi:hi ≤ lo) (hn:n + m ≤ 10000000) (hc0:ao = none → c = 0 ∨ m = 0) :
    ∃ v' w',(Builtin.append_ #[T,T] ty #[v,.slice ao m c]).run Tryz.prog W = .ok v' w' ∧ View E e w' lo hi v' (n + m) (cat2 x n y) (cat2 ce n cy) ∧ W.grownBy w' v.ownBlock ∧ Below lo W w':=by
  obtain ⟨hz,hzs,hu,hinf,few⟩:=I
  obtain ⟨i0,hi0⟩:∃ i0,Tryz.prog.info? e = some i0:=by
    cases h:Tryz.prog.info? e with
    | none => rw [h] at hinf;cases hinf
    | some i0 => exact ⟨i0,rfl⟩
  rw [hi0] at hinf
  simp only [Option.map_some,Option.some.injEq,Prod.mk.injEq] at hinf
  obtain ⟨h1,h2,h3⟩:=hinf
  obtain ⟨z,hz0,hzc⟩:∃ z,i0.zero = some z ∧ z.cells = zs.toArray:=by
    cases h:i0.zero with
    | none => rw [h] at h1;cases h1
    | some z => rw [h] at h1;exact ⟨z,rfl,by simpa using h1⟩
  obtain ⟨hcell,hrd⟩:=hs;have hlen:(catN m cy).length = m * E.sz:=catN_len (fun j hj => E.rd_len (hrd j hj))
  have big:∀ ad,ao = some ad → (∀ j u,(catN m cy)[j]? = some u → W.cell? (ad.add j) = some u) → ∃ v' w',(Builtin.append_ #[T,T] ty #[v,.slice ao m c]).run Tryz.prog W = .ok v' w' ∧ View E e w' lo hi v' (n + m) (cat2 x n y) (cat2 ce n cy) ∧ W.grownBy w' v.ownBlock ∧ Below lo W w':=fun ad ha hc => by
    subst ha
    obtain ⟨v',w',hr,r1,r2,r3,r4⟩:=run_append_own_at (P:=Tryz.prog) W lo T ty e i0 z E.sz by_ hu hi0 hz0 h2 h3 (by rw [hzc];simpa using hzs) hz v n (catN n ce) h.row ad m c (catN m cy) hlen hc
      (fun u hu => by
        obtain ⟨i,hi,hm⟩:=mem_catN.1 hu
        exact R1 _ _ _ _ (hrd i hi) u hm) (by unfold maxLen;omega) (by
        have:(n + m) * by_ ≤ 10000000 * 1000:=Nat.mul_le_mul hn few
        omega) hlo
    have hb:Below lo W w':=(Below.refl _ _).grown r2 hlo (fun k hk => (h.row.lt k hk).1);refine ⟨v',w',hr,⟨by rw [catN_cat2];exact r1,fun i hi => ?_⟩,r2,hb⟩
    by_cases c1:i < n
    · rw [cat2_lt x y c1,cat2_lt ce cy c1]
      exact E.rd_below (h.each i c1) hb hhi
    · obtain ⟨k,rfl⟩:∃ k,i = n + k:=⟨i - n,by omega⟩
      rw [cat2_ge,cat2_ge];exact E.rd_below (hrd k (by omega)) hb hhi
  by_cases hm:m = 0
  · subst hm
    cases ao with
    | some ad => exact big ad rfl (fun j u hj => by rw [catN_zero] at hj;simp at hj)
    | none =>
      refine ⟨v,W,run_append_none' W lo T ty e i0 E.sz hu hi0 v n c _ h.row,⟨by rw [catN_cat2,catN_zero,List.append_nil];exact h.row,fun i hi => ?_⟩,⟨rfl,rfl,rfl,Nat.le_refl _,fun _ _ _ => rfl⟩,Below.refl _ _⟩
      have hi':i < n:=by omega
      rw [cat2_lt x y hi',cat2_lt ce cy hi'];exact h.each i hi'
  · obtain ⟨b,off,rfl,hcc⟩:=hcell hm
    refine big _ rfl (fun j u hj => ?_)
    have hj':j < m * E.sz:=by rw [← hlen];exact (List.getElem?_eq_some_iff.1 hj).1
    have e1:j / E.sz < m:=Nat.div_lt_of_lt_mul (by rw [Nat.mul_comm];exact hj');have e2:j % E.sz < E.sz:=Nat.mod_lt _ hz
    have e3:j / E.sz * E.sz + j % E.sz = j:=by rw [Nat.mul_comm];exact Nat.div_add_mod j E.sz
    rw [add_oo,← e3,hcc _ e1 _ e2,← catN_get (fun j hj => E.rd_len (hrd j hj)) e1 e2,e3];exact hj
end Go.Proofs.YtaioliojijikaaaGreat
namespace Go.Proofs.YtaioliojijikaaaGreat
open Go.RowKit F256
def spl (xs:List Value):Nat → List Value → List Value
  | _,[] => xs
  | o,v :: r => spl (xs.set o v) (o + 1) r
theorem spl_get (cs:List Value):∀ (xs:List Value) (o j:Nat),o + cs.length ≤ xs.length → (spl xs o cs)[j]? = if o ≤ j ∧ j < o + cs.length then cs[j - o]? else xs[j]?:=by
  induction cs with
  | nil => intro xs o j h;rw [if_neg (by simp)];rfl
  | cons v r ih =>
    intro xs o j h
    simp only [List.length_cons] at h
    show (spl (xs.set o v) (o + 1) r)[j]? = _
    rw [ih (xs.set o v) (o + 1) j (by rw [List.length_set];omega)]
    by_cases c1:o = j
    · subst c1
      rw [if_neg (by omega),if_pos (by simp),List.getElem?_set]
      simp
      omega
    · by_cases c2:o + 1 ≤ j ∧ j < o + 1 + r.length
      · rw [if_pos c2,if_pos (by simp;omega)]
        obtain ⟨i,rfl⟩:∃ i,j = o + 1 + i:=⟨j - (o + 1),by omega⟩;rw [show o + 1 + i - (o + 1) = i by omega,show o + 1 + i - o = i + 1 by omega]
        simp
      · rw [if_neg c2,if_neg (by simp;omega),List.getElem?_set,if_neg c1]
theorem catN_upd {n s i:Nat} {ce:Nat → List Value} {cs:List Value} (hs:0 < s) (hl:∀ k,k < n → (ce k).length = s) (hc:cs.length = s) (hi:i < n):spl (catN n ce) (i * s) cs = catN n (upd ce i cs):=by
  have hl':∀ k,k < n → (upd ce i cs k).length = s:=fun k hk => by
    by_cases c:k = i
    · subst c;rw [upd_at];exact hc
    · rw [upd_ne ce cs c];exact hl k hk
  have hb:i * s + s ≤ n * s:=by
    have:=Nat.mul_le_mul_right s (show i + 1 ≤ n from hi);rw [Nat.succ_mul] at this;exact this
  apply List.ext_getElem?
  intro j;rw [spl_get _ _ _ _ (by rw [catN_len hl,hc];exact hb)]
  by_cases hj:j < n * s
  · have e3:j / s * s + j % s = j:=by rw [Nat.mul_comm];exact Nat.div_add_mod j s
    have e1:j / s < n:=Nat.div_lt_of_lt_mul (by rw [Nat.mul_comm];exact hj);have e2:j % s < s:=Nat.mod_lt _ hs;have g1:=catN_get hl e1 e2;have g2:=catN_get hl' e1 e2;rw [e3] at g1 g2;rw [g1,g2]
    by_cases c:j / s = i
    · have h5:i * s ≤ j ∧ j < i * s + cs.length:=by rw [← c,hc];omega
      rw [if_pos h5,c,upd_at]
      congr 1
      rw [← c];omega
    · rw [upd_ne ce cs c,if_neg]
      rw [hc];intro hh
      apply c
      have:=Nat.div_eq_of_lt_le (m:=j) (n:=s) (k:=i) (by rw [Nat.mul_comm] at *;omega) (by rw [Nat.succ_mul];omega);exact this
  · rw [if_neg (by rw [hc];omega),List.getElem?_eq_none (l:=catN n ce) (by rw [catN_len hl];omega),List.getElem?_eq_none (l:=catN n (upd ce i cs)) (by rw [catN_len hl'];omega)]
theorem row_setCells {lo:Nat} {t:TypeId} {s g cap n:Nat} (cs:List Value):∀ (w:World) (xs:List Value) (o:Nat),w.ownsRow lo t s (.slice (some ⟨g,0,none⟩) n cap) n xs → (w.setCells g o cs).ownsRow lo t s (.slice (some ⟨g,0,none⟩) n cap) n (spl xs o cs):=by
  induction cs with
  | nil => intro w xs o h;exact h
  | cons v r ih => intro w xs o h;exact ih _ _ _ (h.stored o v).1
theorem chgL_setCells (g:Nat) (cs:List Value):∀ (w:World) (o:Nat),ChgL [g] w (w.setCells g o cs):=by
  induction cs with
  | nil => intro w o;exact ChgL.refl _ _
  | cons v r ih => intro w o;exact (ChgL.store [g] w g o v (by simp)).trans (ih _ _)
section
variable {α:Type} {E:Lay α} {t:TypeId} {w:World} {lo hi n g cap:Nat} {x:Nat → α} {ce:Nat → List Value}
theorem View.drew {v:Value} (h:View E t w lo hi v n x ce):View E t w.drew lo hi v n x ce:=h.kept (fun _ _ => rfl) ⟨rfl,rfl,rfl,Nat.le_refl _,fun _ _ => rfl⟩
theorem View.congr2 {v:Value} {y:Nat → α} {cy:Nat → List Value} (h:View E t w lo hi v n x ce) (hy:∀ i,i < n → x i = y i) (hc:∀ i,i < n → ce i = cy i):View E t w lo hi v n y cy:=⟨by rw [← catN_congr hc];exact h.row,fun i hi => by rw [← hy i hi,← hc i hi];exact h.each i hi⟩
theorem View.range (h:View E t w lo hi (.slice (some ⟨g,0,none⟩) n cap) n x ce) {i:Nat} (hi':i < n):w.rangeAt g (i * E.sz) (ce i):=fun j v hv => by
  have hj:j < E.sz:=by rw [← h.lens i hi'];exact (List.getElem?_eq_some_iff.1 hv).1
  rw [h.cell hi' hj];exact hv
theorem View.there (h:View E t w lo hi (.slice (some ⟨g,0,none⟩) n cap) n x ce) {i:Nat} (hi':i < n):w.there g (i * E.sz) E.sz:=fun j hj => by
  refine ⟨?_,h.row.frozenAt _⟩;rw [h.cell hi' hj,List.getElem?_eq_getElem (by rw [h.lens i hi'];exact hj)];rfl
theorem View.put (h:View E t w lo hi (.slice (some ⟨g,0,none⟩) n cap) n x ce) (hs:0 < E.sz) (hlo:hi ≤ lo) {i:Nat} (hi':i < n) {a:α} {cs:List Value} (ha:E.rd w hi a cs) :
    View E t (w.setCells g (i * E.sz) cs) lo hi (.slice (some ⟨g,0,none⟩) n cap) n (upd x i a) (upd ce i cs):=by
  have hg:=h.row.lt g rfl;have hb:Below lo w (w.setCells g (i * E.sz) cs):=(chgL_setCells g cs w _).bel (fun b hb => by simp at hb;omega) (by omega);refine ⟨?_,fun m hm => ?_⟩
  · have:=row_setCells cs w _ (i * E.sz) h.row
    rw [catN_upd hs h.lens (E.rd_len ha) hi'] at this;exact this
  · by_cases c:m = i
    · subst c
      rw [upd_at,upd_at];exact E.rd_below ha hb hlo
    · rw [upd_ne x a c,upd_ne ce _ c]
      exact E.rd_below (h.each m hm) hb hlo
end
end Go.Proofs.YtaioliojijikaaaGreat
namespace Go.Proofs.YtaioliojijikaaaGreat
open Go.RowKit F256
theorem mixedO:Tryz.prog.follows Departure.mixedOrders = true:=by kernel_rfl
theorem info_Rec9 {cs:List Value} (h:cs.length = 9):(Tryz.prog.info? 62).map (·.size) = some cs.length:=by rw [h];kernel_rfl
def RowsV (x0:Nat → RecD) (enc:Nat → List Value) (N blk cap lo hi:Nat) (w:World) (p:Nat → Nat):Prop:=View layRec 62 w lo hi (.slice (some ⟨blk,0,none⟩) N cap) N (fun i => x0 (p i)) (fun i => enc (p i))
theorem RowsV.same {x0:Nat → RecD} {enc:Nat → List Value} {N blk cap lo hi:Nat} {w:World} {p q:Nat → Nat} (h:RowsV x0 enc N blk cap lo hi w p) (e:∀ i,i < N → p i = q i):RowsV x0 enc N blk cap lo hi w q:=View.congr2 h (fun i hi => by rw [e i hi]) (fun i hi => by rw [e i hi])
theorem upd_swp {β:Type} (f:Nat → β) (p:Nat → Nat) (A B i:Nat):upd (upd (fun k => f (p k)) A (f (p B))) B (f (p A)) i = f (p (Sym.swp A B i)):=by
  unfold Sym.swp
  by_cases c1:i = B
  · subst c1
    rw [upd_at]
    by_cases c2:i = A
    · subst c2;simp
    · rw [if_neg c2,if_pos rfl]
  · rw [upd_ne _ _ c1]
    by_cases c2:i = A
    · subst c2;rw [upd_at,if_pos rfl]
    · rw [upd_ne _ _ c2,if_neg c2,if_neg c1]
theorem view_swap {x0:Nat → RecD} {enc:Nat → List Value} {p:Nat → Nat} {w:World} {lo hi N blk cap A B:Nat} (V:RowsV x0 enc N blk cap lo hi w p) (hlo:hi ≤ lo) (hA:A < N) (hB:B < N) :
    RowsV x0 enc N blk cap lo hi ((w.setCells blk (A * 9) (enc (p B))).setCells blk (B * 9) (enc (p A))) (fun k => p (Sym.swp A B k)) ∧ ChgL [blk] w ((w.setCells blk (A * 9) (enc (p B))).setCells blk (B * 9) (enc (p A))):=by
  unfold RowsV at V ⊢;have hg:=V.row.lt blk rfl;have C1:=chgL_setCells blk (enc (p B)) w (A * 9);have V1:=V.put (by decide) hlo hA (V.each B hB);have V2:=V1.put (by decide) hlo hB (layRec.rd_below (V.each A hA) (C1.bel (B:=hi) (fun b hb => by simp at hb;omega) (by omega)) (Nat.le_refl _));refine ⟨V2.congr2 (fun i _ => ?_) (fun i _ => ?_),C1.trans (chgL_setCells blk _ _ _)⟩
  · exact upd_swp x0 p A B i
  · exact upd_swp enc p A B i
set_option maxHeartbeats 4000000 in
set_option maxRecDepth 1000000 in
theorem swapRange_any (x0:Nat → RecD) (enc:Nat → List Value) (p:Nat → Nat) (N blk cap lo hi:Nat) (w:World) (V:RowsV x0 enc N blk cap lo hi w p) (hlo:hi ≤ lo) (hN:N < 1000000000) (a b n:Nat) (fv:Value) (hab:a + n ≤ b) (hb:b + n ≤ N) :
    Calls Tryz.prog 191 #[.slice (some ⟨blk,0,none⟩) N cap,.int .i64 a,.int .i64 b,.int .i64 n,fv] w (fun e w' => e = .returned (.tuple #[]) ∧ RowsV x0 enc N blk cap lo hi w' (fun k => p (Sym.swr a b n k)) ∧ ChgL [blk] w w'):=by
  have HV0:Hid (RowsV x0 enc N blk cap lo hi w p):=V;clear V
  go_enter Tryz.func191,Tryz.ntmps191
  go_wp2
  go_loopw [10] (fun i wr => ∃ t:Nat,t ≤ n ∧ i = .int .i64 t ∧ RowsV x0 enc N blk cap lo hi wr (fun k => p (Sym.swr a b t k)) ∧ ChgL [blk] w wr) (fun i _ => n - (intOf i).toNat)
  case atStart => exact ⟨0,Nat.zero_le _,rfl,HV0.out.same (fun i _ => by rw [Sym.swr_zero]),ChgL.refl _ _⟩
  case round =>
    obtain ⟨t,ht,rfl,V,C⟩:=hrel;have HC:Hid (ChgL [blk] w wr):=C;clear C
    by_cases hlt:t < n
    · have t1:(t:Int) < (n:Int):=by omega
      obtain ⟨q,hq⟩:∃ q:Nat → Nat,q = fun k => p (Sym.swr a b t k):=⟨_,rfl⟩;have HQ:Hid (q = fun k => p (Sym.swr a b t k)):=hq
      have VQ:RowsV x0 enc N blk cap lo hi wr q:=by rw [hq];exact V
      obtain ⟨A,hA⟩:∃ A,A = a + t:=⟨_,rfl⟩;obtain ⟨B,hB⟩:∃ B,B = b + t:=⟨_,rfl⟩
      have hAN:A < N:=by omega
      have hBN:B < N:=by omega
      have HAB:Hid (A = a + t ∧ B = b + t):=⟨hA,hB⟩
      have w1:IntKind.i64.wrap ((a:Int) + (t:Int)) = (A:Int):=by rw [IntKind.wrap_i64];omega
      have w2:IntKind.i64.wrap ((b:Int) + (t:Int)) = (B:Int):=by rw [IntKind.wrap_i64];omega
      have i1:(A:Int) < (N:Int):=by omega
      have i2:(B:Int) < (N:Int):=by omega
      have i3:(0:Int) ≤ (A:Int):=by omega
      have i4:(0:Int) ≤ (B:Int):=by omega
      have VD:=View.drew VQ;have rgA:wr.drew.rangeAt blk (A * 9) (enc (q A)):=VD.range hAN;have rgB:wr.drew.rangeAt blk (B * 9) (enc (q B)):=VD.range hBN;have hsA:(enc (q A)).length = 9:=VD.lens A hAN;have hsB:(enc (q B)).length = 9:=VD.lens B hBN
      have th1:wr.drew.there blk (A * 9) (enc (q B)).length:=by rw [hsB];exact VD.there hAN
      have th2:(wr.drew.setCells blk (A * 9) (enc (q B))).there blk (B * 9) (enc (q A)).length:=by rw [hsA];exact (VD.put (by decide) hlo hAN (VD.each B hBN)).there hBN
      have oneA:=rdOne_rec _ _ _ _ (VD.each A hAN);have oneB:=rdOne_rec _ _ _ _ (VD.each B hBN);have SW:=view_swap VD hlo hAN hBN;have HSW:Hid (RowsV x0 enc N blk cap lo hi ((wr.drew.setCells blk (A * 9) (enc (q B))).setCells blk (B * 9) (enc (q A))) (fun k => q (Sym.swp A B k))):=SW.1;have HSC:Hid (ChgL [blk] wr ((wr.drew.setCells blk (A * 9) (enc (q B))).setCells blk (B * 9) (enc (q A)))):=(ChgL.of_below ⟨rfl,rfl,rfl,Nat.le_refl _,fun _ _ => rfl⟩:ChgL [blk] wr wr.drew).trans SW.2;obtain ⟨cA,hcA⟩:∃ c,c = enc (q A):=⟨_,rfl⟩;obtain ⟨cB,hcB⟩:∃ c,c = enc (q B):=⟨_,rfl⟩;rw [← hcA] at rgA th2 hsA oneA HSW HSC;rw [← hcB] at rgB th1 th2 hsB oneB HSW HSC;clear hcA hcB VD SW;clear hq hA hB V VQ
      go_upto_region 3 with fail
      refine wp_region_M 21 (fun w' => w'.rangeAt blk (A * 9) cA ∧ w'.rangeAt blk (B * 9) cB) mixedO ⟨rgA,rgB⟩ (fun hHeld => ?_);refine wpAnyM_pure (i:=0) (oi:=_) (v:=?_) rfl (by kernel_rfl) (fun _ _ _ h => h) (Or.inl ⟨by rfl,?_⟩) (by assumption) ?_
      rotate_left
      · intro w' hSw;go_simp;try with_reducible rfl
      try simp only [Act.put,SL]
      refine wpAnyM_pure (i:=1) (oi:=_) (v:=?_) rfl (by kernel_rfl) (fun _ _ _ h => h) (Or.inl ⟨by rfl,?_⟩) (by assumption) ?_
      rotate_left
      · intro w' hSw;go_simp;try with_reducible rfl
      try simp only [Act.put,SL]
      refine wpAnyM_pure (i:=2) (oi:=_) (v:=?_) rfl (by kernel_rfl) (fun _ _ _ h => h) (Or.inl ⟨by rfl,?_⟩) (by assumption) ?_
      rotate_left
      · intro w' hSw;go_simp;try with_reducible rfl
      try simp only [Act.put,SL]
      refine wpAnyM_pure (i:=3) (oi:=_) (v:=?_) rfl (by kernel_rfl) (fun _ _ _ h => h) (Or.inl ⟨by rfl,?_⟩) (by assumption) ?_
      rotate_left
      · intro w' hSw;go_simp;try with_reducible rfl
      try simp only [Act.put,SL]
      refine wpAnyM_pure (i:=4) (oi:=_) (v:=?_) rfl (by kernel_rfl) (fun _ _ _ h => h) (Or.inl ⟨by rfl,?_⟩) (by assumption) ?_
      rotate_left
      · intro w' hSw;go_simp;try with_reducible rfl
      try simp only [Act.put,SL]
      refine wpAnyM_pure (i:=5) (oi:=_) (v:=?_) rfl (by kernel_rfl) (fun _ _ _ h => h) (Or.inl ⟨by rfl,?_⟩) (by assumption) ?_
      rotate_left
      · intro w' hSw;go_simp;try with_reducible rfl
      try simp only [Act.put,SL]
      refine wpAnyM_pure (i:=6) (oi:=_) (v:=?_) rfl (by kernel_rfl) (fun _ _ _ h => h) (Or.inl ⟨by rfl,?_⟩) (by assumption) ?_
      rotate_left
      · intro w' hSw;go_simp;try with_reducible rfl
      try simp only [Act.put,SL]
      refine wpAnyM_pure (i:=7) (oi:=_) (v:=?_) rfl (by kernel_rfl) (fun _ _ _ h => h) (Or.inl ⟨by rfl,?_⟩) (by assumption) ?_
      rotate_left
      · intro w' hSw;go_simp;try with_reducible rfl
      try simp only [Act.put,SL]
      refine wpAnyM_pure (i:=8) (oi:=_) (v:=?_) rfl (by kernel_rfl) (fun _ _ _ h => h) (Or.inl ⟨by rfl,?_⟩) (by assumption) ?_
      rotate_left
      · intro w' hSw;go_simp;try with_reducible rfl
      try simp only [Act.put,SL]
      refine wpAnyM_pure (i:=9) (oi:=_) (v:=?_) rfl (by kernel_rfl) (fun _ _ _ h => h) (Or.inl ⟨by rfl,?_⟩) (by assumption) ?_
      rotate_left
      · intro w' hSw;go_simp;try with_reducible rfl
      try simp only [Act.put,SL]
      refine wpAnyM_pure (i:=10) (oi:=_) (v:=?_) rfl (by kernel_rfl) (fun _ _ _ h => h) (Or.inl ⟨by rfl,?_⟩) (by assumption) ?_
      rotate_left
      · intro w' hSw;go_simp;try with_reducible rfl
      try simp only [Act.put,SL]
      refine wpAnyM_pure (i:=11) (oi:=_) (v:=?_) rfl (by kernel_rfl) (fun _ _ _ h => h) (Or.inl ⟨by rfl,?_⟩) (by assumption) ?_
      rotate_left
      · intro w' hSw;go_simp;try with_reducible rfl
      try simp only [Act.put,SL]
      refine wpAnyM_pure (i:=12) (oi:=_) (v:=?_) rfl (by kernel_rfl) (fun _ _ _ h => h) (Or.inl ⟨by rfl,?_⟩) (by assumption) ?_
      rotate_left
      · intro w' hSw;go_simp;try with_reducible rfl
      try simp only [Act.put,SL]
      refine wpAnyM_take (i:=13) (oi:=_) (v:=.agg cB.toArray) 16 rfl (by kernel_rfl) (fun _ _ _ h => h) (yieldsIf_load_mid (by rfl) 62 (.tmp 28) rfl blk (B * 9) (by simp [Act.eval,Act.put]) cB _ (fun w h => h.2) Tryz.underlying62 rfl (info_Rec9 hsB)) (by assumption) ?_
      try simp only [Act.put,SL]
      refine wpAnyM_pure (i:=14) (oi:=_) (v:=?_) rfl (by kernel_rfl) (fun _ _ _ h => h) (Or.inl ⟨by rfl,?_⟩) (by assumption) ?_
      rotate_left
      · intro w' hSw;go_simp;try with_reducible rfl
      try simp only [Act.put,SL]
      refine wpAnyM_pure (i:=15) (oi:=_) (v:=?_) rfl (by kernel_rfl) (fun _ _ _ h => h) (Or.inl ⟨by rfl,?_⟩) (by assumption) ?_
      rotate_left
      · intro w' hSw;go_simp;try with_reducible rfl
      try simp only [Act.put,SL]
      refine wpAnyM_pure (i:=16) (oi:=_) (v:=?_) rfl (by kernel_rfl) (fun _ _ _ h => h) (Or.inl ⟨by rfl,?_⟩) (by assumption) ?_
      rotate_left
      · intro w' hSw;go_simp;try with_reducible rfl
      try simp only [Act.put,SL]
      refine wpAnyM_pure (i:=17) (oi:=_) (v:=?_) rfl (by kernel_rfl) (fun _ _ _ h => h) (Or.inl ⟨by rfl,?_⟩) (by assumption) ?_
      rotate_left
      · intro w' hSw;go_simp;try with_reducible rfl
      try simp only [Act.put,SL]
      refine wpAnyM_pure (i:=18) (oi:=_) (v:=?_) rfl (by kernel_rfl) (fun _ _ _ h => h) (Or.inl ⟨by rfl,?_⟩) (by assumption) ?_
      rotate_left
      · intro w' hSw;go_simp;try with_reducible rfl
      try simp only [Act.put,SL]
      refine wpAnyM_take (i:=19) (oi:=_) (v:=.agg cA.toArray) 16 rfl (by kernel_rfl) (fun _ _ _ h => h) (yieldsIf_load_mid (by rfl) 62 (.tmp 34) rfl blk (A * 9) (by simp [Act.eval,Act.put]) cA _ (fun w h => h.1) Tryz.underlying62 rfl (info_Rec9 hsA)) (by assumption) ?_
      try simp only [Act.put,SL]
      refine wpAnyM_pure (i:=20) (oi:=_) (v:=?_) rfl (by kernel_rfl) (fun _ _ _ h => h) (Or.inl ⟨by rfl,?_⟩) (by assumption) ?_
      rotate_left
      · intro w' hSw;go_simp;try with_reducible rfl
      try simp only [Act.put,SL]
      refine wpAnyM_store (i:=21) rfl (by kernel_rfl) (by kernel_rfl) rfl rfl 62 (.tmp 36) (.tmp 29) rfl blk (A * 9) cB (by simp [Act.eval]) (by simp [Act.eval]) th1 (info_Rec9 hsB) oneB ?_;refine wpAnyM_pureL (i:=22) (oi:=_) (v:=?_) rfl (by kernel_rfl) (fun _ _ _ h => h) (Or.inl ⟨by rfl,?_⟩) ?_
      rotate_left
      · intro w' hSw;go_simp;try with_reducible rfl
      try simp only [Act.put,SL]
      refine wpAnyM_store (i:=23) rfl (by kernel_rfl) (by kernel_rfl) rfl rfl 62 (.tmp 37) (.tmp 35) rfl blk (B * 9) cA (by simp [Act.eval]) (by simp [Act.eval]) th2 (info_Rec9 hsA) oneA ?_;refine wpAnyM_done (by kernel_rfl) ?_ _;go_wp2
      go_roundw
      case rel =>
        have e:∀ i,q (Sym.swp A B i) = p (Sym.swr a b (t + 1) i):=fun i => by
          rw [HQ.out,HAB.out.1,HAB.out.2]
          show p (Sym.swr a b t (Sym.swp (a + t) (b + t) i)) = _
          rw [Sym.swr_succ (by omega)]
        exact ⟨t + 1,by omega,by go_num,HSW.out.same (fun i _ => e i),HC.out.trans HSC.out⟩
      case measure => simp [intOf];omega
    · obtain rfl:t = n:=by omega
      have HV:Hid (RowsV x0 enc N blk cap lo hi wr (fun k => p (Sym.swr a b t k))):=V;clear V;go_wp2
      go_end0
      exact ⟨rfl,HV.out,HC.out⟩
end Go.Proofs.YtaioliojijikaaaGreat
namespace Go.Proofs.YtaioliojijikaaaGreat
open Go.RowKit F256
set_option maxHeartbeats 4000000 in
set_option maxRecDepth 1000000 in
theorem rotate_any (x0:Nat → RecD) (enc:Nat → List Value) (p:Nat → Nat) (N blk cap lo hi:Nat) (w:World) (V:RowsV x0 enc N blk cap lo hi w p) (hlo:hi ≤ lo) (hN:N < 1000000000) (a m b:Nat) (fv:Value) (ham:a < m) (hmb:m < b) (hb:b ≤ N) :
    Calls Tryz.prog 186 #[.slice (some ⟨blk,0,none⟩) N cap,.int .i64 a,.int .i64 m,.int .i64 b,fv] w (fun e w' => e = .returned (.tuple #[]) ∧ RowsV x0 enc N blk cap lo hi w' (fun k => p (Sym.rot a m b k)) ∧ ChgL [blk] w w'):=by
  have HV0:Hid (RowsV x0 enc N blk cap lo hi w p):=V;clear V
  go_enter Tryz.func186,Tryz.ntmps186
  go_wp2
  go_loopw [10,11] (fun vi vj wr => ∃ (i j:Nat) (q:Nat → Nat),0 < i ∧ 0 < j ∧ i ≤ m - a ∧ j ≤ b - m ∧ vi = .int .i64 i ∧ vj = .int .i64 j ∧ (∀ k,q (Sym.rot (m - i) m (m + j) k) = p (Sym.rot a m b k)) ∧ RowsV x0 enc N blk cap lo hi wr q ∧ ChgL [blk] w wr) (fun vi vj _ => (intOf vi).toNat + (intOf vj).toNat)
  case atStart => exact ⟨m - a,b - m,p,by omega,by omega,by omega,by omega,by go_num,by go_num,fun k => by rw [show m - (m - a) = a by omega,show m + (b - m) = b by omega],HV0.out,ChgL.refl _ _⟩
  case round =>
    obtain ⟨i,j,q,hi0,hj0,him,hjb,rfl,rfl,hq,V,C⟩:=hrel;have HC:Hid (ChgL [blk] w wr):=C;have HQ:Hid (∀ k,q (Sym.rot (m - i) m (m + j) k) = p (Sym.rot a m b k)):=hq;clear C hq
    have w1:IntKind.i64.wrap ((m:Int) - (i:Int)) = ((m - i:Nat):Int):=by rw [IntKind.wrap_i64];omega
    obtain ⟨M,hM⟩:∃ M,M = m - i:=⟨_,rfl⟩;have HM:Hid (M = m - i):=hM;rw [← hM] at w1
    by_cases hij:i = j
    · subst hij
      have hne:((i:Int) != (i:Int)) = false:=by simp
      have CS:=swapRange_any x0 enc q N blk cap lo hi wr V hlo hN M m i fv (by omega) (by omega);clear V hM
      go_wp2_with fail
      refine CS.mono ?_;rintro e w2 ⟨rfl,V2,C2⟩;go_wp2
      go_end0
      refine ⟨rfl,V2.same (fun k _ => ?_),HC.out.trans C2⟩
      show q (Sym.swr M m i k) = p (Sym.rot a m b k)
      rw [← HQ.out,HM.out,Sym.rot_same (by omega)]
    · have hne:((i:Int) != (j:Int)) = true:=by simp;omega
      by_cases hlt:j < i
      · have hgt:(j:Int) < (i:Int):=by omega
        have w3:IntKind.i64.wrap ((i:Int) - (j:Int)) = ((i - j:Nat):Int):=by rw [IntKind.wrap_i64];omega
        have CS:=swapRange_any x0 enc q N blk cap lo hi wr V hlo hN M m j fv (by omega) (by omega);clear V hM
        go_wp2_with fail
        refine CS.mono ?_;rintro e w2 ⟨rfl,V2,C2⟩;have HV2:Hid (RowsV x0 enc N blk cap lo hi w2 (fun k => q (Sym.swr M m j k))):=V2;clear V2 CS;go_wp2
        go_roundw
        case rel => exact ⟨i - j,j,fun k => q (Sym.swr M m j k),by omega,by omega,by omega,by omega,by go_num,by go_num,fun k => by
          show q (Sym.swr M m j (Sym.rot (m - (i - j)) m (m + j) k)) = _
          rw [HM.out,Sym.rot_more (by omega) (by omega),HQ.out],HV2.out,HC.out.trans C2⟩
        case measure => simp [intOf];omega
      · have hgt:decide ((j:Int) < (i:Int)) = false:=decide_eq_false (by omega)
        have w3:IntKind.i64.wrap ((j:Int) - (i:Int)) = ((j - i:Nat):Int):=by rw [IntKind.wrap_i64];omega
        have w4:IntKind.i64.wrap ((m:Int) + (j:Int)) = ((m + j:Nat):Int):=by rw [IntKind.wrap_i64];omega
        have w5:IntKind.i64.wrap (((m + j:Nat):Int) - (i:Int)) = ((m + j - i:Nat):Int):=by rw [IntKind.wrap_i64];omega
        have CS:=swapRange_any x0 enc q N blk cap lo hi wr V hlo hN M (m + j - i) i fv (by omega) (by omega);obtain ⟨MJ,hMJ⟩:∃ x,x = m + j:=⟨_,rfl⟩;obtain ⟨MI,hMI⟩:∃ x,x = m + j - i:=⟨_,rfl⟩;have HMI:Hid (MI = m + j - i):=hMI;rw [← hMI] at CS w5;rw [← hMJ] at w4 w5;clear V hM hMI hMJ
        go_wp2_with fail
        refine CS.mono ?_;rintro e w2 ⟨rfl,V2,C2⟩;have HV2:Hid (RowsV x0 enc N blk cap lo hi w2 (fun k => q (Sym.swr M MI i k))):=V2;clear V2 CS;go_wp2
        go_roundw
        case rel => exact ⟨i,j - i,fun k => q (Sym.swr M MI i k),by omega,by omega,by omega,by omega,by go_num,by go_num,fun k => by
          show q (Sym.swr M MI i (Sym.rot (m - i) m (m + (j - i)) k)) = _
          rw [HM.out,HMI.out,Sym.rot_less (by omega) (by omega),HQ.out],HV2.out,HC.out.trans C2⟩
        case measure => simp [intOf];omega
end Go.Proofs.YtaioliojijikaaaGreat
namespace Go.Proofs.YtaioliojijikaaaGreat
open Go.RowKit
theorem step_callv {ops:Array Oper} {o:Oper} {a:Act} {w:World} {K:Act → World → Prop} {Q:Exit → Act → World → Prop} {E:Prop}
    (hw:Region.wanted o (yielded ops a.tmps) = true) (x:Operand) (n:Nat) (caps:Array Value) (args:Array Operand) (ty:Array TypeId) (hop:o.op = Op.call { callee:=Callee.value x,args:=args,argTypes:=ty }) (hx:a.eval x = .func (.func n) #[] caps) (vals:Array Value) (hv:args.map a.eval = vals)
    {fn : Func} (hfn : Tryz.prog.funcs[n]? = some fn) (hnm : (fn.name == "runtime.NumGoroutine") = false) (hbd : fn.body.isSome = true)
    {R:Ending → World → Prop} (hc:Calls Tryz.prog n (vals ++ caps) w R) (hK:∀ e w',R e w' → ∃ v,e = .returned v ∧ K (a.put o.dst v) w') :
    if Region.wanted o (yielded ops a.tmps) = true then Oper.wp Tryz.prog o a w K Q else E:=by
  have hn' : ¬ fn.name = "runtime.NumGoroutine" := by simpa using hnm
  have hb':¬ fn.body = none:=by intro h;rw [h] at hbd;cases hbd
  rw [if_pos hw];unfold Oper.wp
  simp [execOp,hop,hx,resolve,invoke,Result.andThen,Deferred.ofValue,callFunc,Oper.upon,hv,hfn,hn',hb']
  refine hc.mono fun e w' h => ?_;obtain ⟨v,rfl,hk⟩:=hK e w' h;exact hk
end Go.Proofs.YtaioliojijikaaaGreat
namespace Go.Proofs.YtaioliojijikaaaGreat
open Go.RowKit F256
def cmpI (a b:Int):Int:=if a < b then -1 else if b < a then 1 else 0
def numC (r s:RecD):Int:=if cmpI r.seq s.seq ≠ 0 then cmpI r.seq s.seq else if cmpI r.kind s.kind ≠ 0 then cmpI r.kind s.kind else cmpI r.group s.group
theorem isNaN_is (a:Int) (w:World):Calls Tryz.prog 176 #[.int .i64 a] w fun e w' => e = .returned (.bool false) ∧ w' = w:=by
  have h:(a != a) = false:=by simp
  go_enter Tryz.func176,Tryz.ntmps176
  go_wp2;go_ret;exact ⟨rfl,rfl⟩
theorem compare_is (a b:Int) (w:World):Calls Tryz.prog 159 #[.int .i64 a,.int .i64 b] w fun e w' => e = .returned (.int .i64 (cmpI a b)) ∧ w' = w:=by
  have C1:=isNaN_is a w;have C2:=isNaN_is b w
  by_cases h1:a < b
  · rw [show cmpI a b = -1 by unfold cmpI;rw [if_pos h1]]
    go_enter Tryz.func159,Tryz.ntmps159
    go_wp2_with fail
    refine C1.mono ?_;rintro e w1 ⟨rfl,e1⟩;obtain rfl:=e1.symm
    go_wp2_with fail
    refine C2.mono ?_;rintro e w1 ⟨rfl,e1⟩;obtain rfl:=e1.symm;clear C1 C2;go_wp2;go_ret;exact ⟨rfl,rfl⟩
  by_cases h2:b < a
  · rw [show cmpI a b = 1 by unfold cmpI;rw [if_neg h1,if_pos h2]]
    have h1:decide (a < b) = false:=decide_eq_false h1
    go_enter Tryz.func159,Tryz.ntmps159
    go_wp2_with fail
    refine C1.mono ?_;rintro e w1 ⟨rfl,e1⟩;obtain rfl:=e1.symm
    go_wp2_with fail
    refine C2.mono ?_;rintro e w1 ⟨rfl,e1⟩;obtain rfl:=e1.symm;clear C1 C2;go_wp2;go_ret;exact ⟨rfl,rfl⟩
  · rw [show cmpI a b = 0 by unfold cmpI;rw [if_neg h1,if_neg h2]]
    have h1:decide (a < b) = false:=decide_eq_false h1;have h2:decide (b < a) = false:=decide_eq_false h2
    go_enter Tryz.func159,Tryz.ntmps159
    go_wp2_with fail
    refine C1.mono ?_;rintro e w1 ⟨rfl,e1⟩;obtain rfl:=e1.symm
    go_wp2_with fail
    refine C2.mono ?_;rintro e w1 ⟨rfl,e1⟩;obtain rfl:=e1.symm;clear C1 C2;go_wp2;go_ret;exact ⟨rfl,rfl⟩
def or3 (a b c:Int):Int:=if a ≠ 0 then a else if b ≠ 0 then b else c
set_option maxHeartbeats 4000000 in
theorem or_is (a b c:Int) (g cap:Nat) (w:World) (h0:w.cell? ⟨g,0,none⟩ = some (.int .i64 a)) (h1:w.cell? ⟨g,1,none⟩ = some (.int .i64 b)) (h2:w.cell? ⟨g,2,none⟩ = some (.int .i64 c)) :
    Calls Tryz.prog 158 #[.slice (some ⟨g,0,none⟩) 3 cap] w fun e w' => e = .returned (.int .i64 (or3 a b c)) ∧ w' = w:=by
  by_cases ha:a ≠ 0
  · rw [show or3 a b c = a by unfold or3;rw [if_pos ha]]
    have:(a != 0) = true:=by simpa using ha
    go_enter Tryz.func158,Tryz.ntmps158
    go_wp2
    go_loopw [8] (fun i wr => wr = w ∧ (i = .int .i64 0)) (fun i _ => 3 - (intOf i).toNat)
    case atStart => simp
    case round =>
      obtain ⟨e,hrel⟩:=hrel;obtain rfl:=e.symm;subst hrel;go_wp2;go_ret;exact ⟨rfl,rfl⟩
  obtain rfl:a = 0:=by omega
  by_cases hb:b ≠ 0
  · rw [show or3 0 b c = b by unfold or3;rw [if_neg (by simp),if_pos hb]]
    have:(b != 0) = true:=by simpa using hb
    go_enter Tryz.func158,Tryz.ntmps158
    go_wp2
    go_loopw [8] (fun i wr => wr = w ∧ (i = .int .i64 0 ∨ i = .int .i64 1)) (fun i _ => 3 - (intOf i).toNat)
    case atStart => simp
    case round =>
      obtain ⟨e,hrel⟩:=hrel;obtain rfl:=e.symm
      rcases hrel with rfl | rfl
      · go_wp2
        go_roundw
        case rel => simp
        case measure => simp [intOf]
      · go_wp2
        go_ret;exact ⟨rfl,rfl⟩
  obtain rfl:b = 0:=by omega
  rw [show or3 0 0 c = c by unfold or3;rw [if_neg (by simp),if_neg (by simp)]]
  by_cases hc:c ≠ 0
  · have:(c != 0) = true:=by simpa using hc
    go_enter Tryz.func158,Tryz.ntmps158
    go_wp2
    go_loopw [8] (fun i wr => wr = w ∧ (i = .int .i64 0 ∨ i = .int .i64 1 ∨ i = .int .i64 2)) (fun i _ => 3 - (intOf i).toNat)
    case atStart => simp
    case round =>
      obtain ⟨e,hrel⟩:=hrel;obtain rfl:=e.symm
      rcases hrel with rfl | rfl | rfl
      · go_wp2
        go_roundw
        case rel => simp
        case measure => simp [intOf]
      · go_wp2
        go_roundw
        case rel => simp
        case measure => simp [intOf]
      · go_wp2
        go_ret;exact ⟨rfl,rfl⟩
  · obtain rfl:c = 0:=by omega
    go_enter Tryz.func158,Tryz.ntmps158
    go_wp2
    go_loopw [8] (fun i wr => wr = w ∧ (i = .int .i64 0 ∨ i = .int .i64 1 ∨ i = .int .i64 2 ∨ i = .int .i64 3)) (fun i _ => 3 - (intOf i).toNat)
    case atStart => simp
    case round =>
      obtain ⟨e,hrel⟩:=hrel;obtain rfl:=e.symm
      rcases hrel with rfl | rfl | rfl | rfl
      · go_wp2
        go_roundw
        case rel => simp
        case measure => simp [intOf]
      · go_wp2
        go_roundw
        case rel => simp
        case measure => simp [intOf]
      · go_wp2
        go_roundw
        case rel => simp
        case measure => simp [intOf]
      · go_wp2
        go_ret;exact ⟨rfl,rfl⟩
set_option maxHeartbeats 8000000 in
set_option maxRecDepth 100000 in
theorem byNumbers_is (r s:RecD) (cr cs:List Value) (hi hj:Nat) (w:World) (hr:layRec.rd w hi r cr) (hs:layRec.rd w hj s cs) :
    Calls Tryz.prog 142 #[.agg cr.toArray,.agg cs.toArray] w fun e w' => e = .returned (.int .i64 (numC r s)) ∧ Below w.heap.size w w':=by
  obtain ⟨a6,ak6,a7,ak7,a8,ak8,rfl,-⟩:=Rec_rd hr;obtain ⟨b6,bk6,b7,bk7,b8,bk8,rfl,-⟩:=Rec_rd hs;have T0:=two_newb w #[.int .i64 r.kind,.int .i64 r.seq,.string r.name,.int .i64 r.length,.int .i64 r.group,.int .i64 r.row,.slice a6 r.rows.1 ak6,.slice a7 r.data.1 ak7,.slice a8 r.delta.1 ak8] #[.int .i64 s.kind,.int .i64 s.seq,.string s.name,.int .i64 s.length,.int .i64 s.group,.int .i64 s.row,.slice b6 s.rows.1 bk6,.slice b7 s.data.1 bk7,.slice b8 s.delta.1 bk8] 62 62
  go_enter Tryz.func142,Tryz.ntmps142
  go_upto_region 1 with fail
  obtain ⟨W,hW⟩:∃ x,x = (w.alloc (.cells #[.int .i64 r.kind,.int .i64 r.seq,.string r.name,.int .i64 r.length,.int .i64 r.group,.int .i64 r.row,.slice a6 r.rows.1 ak6,.slice a7 r.data.1 ak7,.slice a8 r.delta.1 ak8] 62)).alloc (.cells #[.int .i64 s.kind,.int .i64 s.seq,.string s.name,.int .i64 s.length,.int .i64 s.group,.int .i64 s.row,.slice b6 s.rows.1 bk6,.slice b7 s.data.1 bk7,.slice b8 s.delta.1 bk8] 62):=⟨_,rfl⟩;rw [← hW] at T0 ⊢;clear hW hr hs;have HB:Hid (Below w.heap.size w W):=T0.bel;have zW:w.heap.size + 1 < W.heap.size:=T0.b2.lt;have SW:∀ w',Below W.heap.size W w' → (w'.cell? ⟨w.heap.size,1,none⟩ = some (.int .i64 r.seq) ∧ w'.cell? ⟨w.heap.size,0,none⟩ = some (.int .i64 r.kind) ∧ w'.cell? ⟨w.heap.size,4,none⟩ = some (.int .i64 r.group) ∧ w'.cell? ⟨(w.heap.size + 1),1,none⟩ = some (.int .i64 s.seq) ∧ w'.cell? ⟨(w.heap.size + 1),0,none⟩ = some (.int .i64 s.kind) ∧ w'.cell? ⟨(w.heap.size + 1),4,none⟩ = some (.int .i64 s.group)):=fun w' hb => ⟨(hb.cell (p:=⟨w.heap.size,1,none⟩) (by show w.heap.size < _;omega)).trans (T0.b1.cell 1),(hb.cell (p:=⟨w.heap.size,0,none⟩) (by show w.heap.size < _;omega)).trans (T0.b1.cell 0),(hb.cell (p:=⟨w.heap.size,4,none⟩) (by show w.heap.size < _;omega)).trans (T0.b1.cell 4),(hb.cell (p:=⟨w.heap.size + 1,1,none⟩) (by show w.heap.size + 1 < _;omega)).trans (T0.b2.cell 1),(hb.cell (p:=⟨w.heap.size + 1,0,none⟩) (by show w.heap.size + 1 < _;omega)).trans (T0.b2.cell 0),(hb.cell (p:=⟨w.heap.size + 1,4,none⟩) (by show w.heap.size + 1 < _;omega)).trans (T0.b2.cell 4)⟩;have bA:Below W.heap.size W (W.drew.alloc (.cells #[.int .i64 (cmpI r.seq s.seq),.int .i64 (cmpI r.kind s.kind),.int .i64 (cmpI r.group s.group)] 3)):=((⟨rfl,rfl,rfl,Nat.le_refl _,fun _ _ => rfl⟩:Below W.heap.size W W.drew)).alloc (Nat.le_refl _) _;have CC0:=compare_is r.seq s.seq W.drew;have CC1:=compare_is r.kind s.kind W.drew;have CC2:=compare_is r.group s.group W.drew;have XA:Box (W.drew.alloc (.cells #[.int .i64 (cmpI r.seq s.seq),.int .i64 (cmpI r.kind s.kind),.int .i64 (cmpI r.group s.group)] 3)) W.heap.size #[.int .i64 (cmpI r.seq s.seq),.int .i64 (cmpI r.kind s.kind),.int .i64 (cmpI r.group s.group)] 3:=box_new W.drew _ _;have CO:=or_is (cmpI r.seq s.seq) (cmpI r.kind s.kind) (cmpI r.group s.group) W.heap.size 3 (W.drew.alloc (.cells #[.int .i64 (cmpI r.seq s.seq),.int .i64 (cmpI r.kind s.kind),.int .i64 (cmpI r.group s.group)] 3)) (XA.cell 0) (XA.cell 1) (XA.cell 2);clear T0;refine wp_region_L 17 (fun w' => w'.cell? ⟨w.heap.size,1,none⟩ = some (.int .i64 r.seq) ∧ w'.cell? ⟨w.heap.size,0,none⟩ = some (.int .i64 r.kind) ∧ w'.cell? ⟨w.heap.size,4,none⟩ = some (.int .i64 r.group) ∧ w'.cell? ⟨(w.heap.size + 1),1,none⟩ = some (.int .i64 s.seq) ∧ w'.cell? ⟨(w.heap.size + 1),0,none⟩ = some (.int .i64 s.kind) ∧ w'.cell? ⟨(w.heap.size + 1),4,none⟩ = some (.int .i64 s.group)) (by kernel_rfl) (SW _ ⟨rfl,rfl,rfl,Nat.le_refl _,fun _ _ => rfl⟩) (fun hHeld => ?_)
  refine wpAnyL_take (i:=0) (oi:=_) (v:=?_) 16 rfl (by kernel_rfl) (fun _ _ _ h => h) (Or.inl ⟨by rfl,?_⟩) (by assumption) ?_
  rotate_left
  · intro w' hSw
    try dsimp only at hSw
    obtain ⟨hq0,hq1,hq2,hq3,hq4,hq5⟩:=hSw;go_simp
    try with_reducible rfl
  try simp only [Act.put,SL]
  refine wpAnyL_take (i:=1) (oi:=_) (v:=?_) 16 rfl (by kernel_rfl) (fun _ _ _ h => h) (Or.inl ⟨by rfl,?_⟩) (by assumption) ?_
  rotate_left
  · intro w' hSw
    try dsimp only at hSw
    obtain ⟨hq0,hq1,hq2,hq3,hq4,hq5⟩:=hSw;go_simp
    try with_reducible rfl
  try simp only [Act.put,SL]
  refine wpAnyL_take (i:=2) (oi:=_) (v:=?_) 16 rfl (by kernel_rfl) (fun _ _ _ h => h) (Or.inl ⟨by rfl,?_⟩) (by assumption) ?_
  rotate_left
  · intro w' hSw
    try dsimp only at hSw
    obtain ⟨hq0,hq1,hq2,hq3,hq4,hq5⟩:=hSw;go_simp
    try with_reducible rfl
  try simp only [Act.put,SL]
  refine wpAnyL_take (i:=3) (oi:=_) (v:=?_) 16 rfl (by kernel_rfl) (fun _ _ _ h => h) (Or.inl ⟨by rfl,?_⟩) (by assumption) ?_
  rotate_left
  · intro w' hSw
    try dsimp only at hSw
    obtain ⟨hq0,hq1,hq2,hq3,hq4,hq5⟩:=hSw;go_simp
    try with_reducible rfl
  try simp only [Act.put,SL]
  refine wpAnyL_take (i:=5) (oi:=_) (v:=?_) 16 rfl (by kernel_rfl) (fun _ _ _ h => h) (Or.inl ⟨by rfl,?_⟩) (by assumption) ?_
  rotate_left
  · intro w' hSw
    try dsimp only at hSw
    obtain ⟨hq0,hq1,hq2,hq3,hq4,hq5⟩:=hSw;go_simp
    try with_reducible rfl
  try simp only [Act.put,SL]
  refine wpAnyL_take (i:=6) (oi:=_) (v:=?_) 16 rfl (by kernel_rfl) (fun _ _ _ h => h) (Or.inl ⟨by rfl,?_⟩) (by assumption) ?_
  rotate_left
  · intro w' hSw
    try dsimp only at hSw
    obtain ⟨hq0,hq1,hq2,hq3,hq4,hq5⟩:=hSw;go_simp
    try with_reducible rfl
  try simp only [Act.put,SL]
  refine wpAnyL_take (i:=7) (oi:=_) (v:=?_) 16 rfl (by kernel_rfl) (fun _ _ _ h => h) (Or.inl ⟨by rfl,?_⟩) (by assumption) ?_
  rotate_left
  · intro w' hSw
    try dsimp only at hSw
    obtain ⟨hq0,hq1,hq2,hq3,hq4,hq5⟩:=hSw;go_simp
    try with_reducible rfl
  try simp only [Act.put,SL]
  refine wpAnyL_take (i:=8) (oi:=_) (v:=?_) 16 rfl (by kernel_rfl) (fun _ _ _ h => h) (Or.inl ⟨by rfl,?_⟩) (by assumption) ?_
  rotate_left
  · intro w' hSw
    try dsimp only at hSw
    obtain ⟨hq0,hq1,hq2,hq3,hq4,hq5⟩:=hSw;go_simp
    try with_reducible rfl
  try simp only [Act.put,SL]
  refine wpAnyL_take (i:=10) (oi:=_) (v:=?_) 16 rfl (by kernel_rfl) (fun _ _ _ h => h) (Or.inl ⟨by rfl,?_⟩) (by assumption) ?_
  rotate_left
  · intro w' hSw
    try dsimp only at hSw
    obtain ⟨hq0,hq1,hq2,hq3,hq4,hq5⟩:=hSw;go_simp
    try with_reducible rfl
  try simp only [Act.put,SL]
  refine wpAnyL_take (i:=11) (oi:=_) (v:=?_) 16 rfl (by kernel_rfl) (fun _ _ _ h => h) (Or.inl ⟨by rfl,?_⟩) (by assumption) ?_
  rotate_left
  · intro w' hSw
    try dsimp only at hSw
    obtain ⟨hq0,hq1,hq2,hq3,hq4,hq5⟩:=hSw;go_simp
    try with_reducible rfl
  try simp only [Act.put,SL]
  refine wpAnyL_take (i:=12) (oi:=_) (v:=?_) 16 rfl (by kernel_rfl) (fun _ _ _ h => h) (Or.inl ⟨by rfl,?_⟩) (by assumption) ?_
  rotate_left
  · intro w' hSw
    try dsimp only at hSw
    obtain ⟨hq0,hq1,hq2,hq3,hq4,hq5⟩:=hSw;go_simp
    try with_reducible rfl
  try simp only [Act.put,SL]
  refine wpAnyL_take (i:=13) (oi:=_) (v:=?_) 16 rfl (by kernel_rfl) (fun _ _ _ h => h) (Or.inl ⟨by rfl,?_⟩) (by assumption) ?_
  rotate_left
  · intro w' hSw
    try dsimp only at hSw
    obtain ⟨hq0,hq1,hq2,hq3,hq4,hq5⟩:=hSw;go_simp
    try with_reducible rfl
  try simp only [Act.put,SL]
  refine wpAnyL_one (i:=4) (o:=_) rfl (by kernel_rfl) (fun KC hKC => ?_)
  refine step_call rfl 159 _ _ rfl #[.int .i64 r.seq,.int .i64 s.seq] ?_ Tryz.func159 (by kernel_rfl) (by kernel_rfl) CC0 ?_;(simp [Act.eval,Act.put]);rintro ee w5 ⟨rfl,e5⟩;subst e5;refine ⟨_,rfl,?_⟩
  refine hKC.out _ _ (hHeld) (fun hHeld => ?_);clear hKC KC
  try simp only [Act.put,SL]
  refine wpAnyL_one (i:=9) (o:=_) rfl (by kernel_rfl) (fun KC hKC => ?_)
  refine step_call rfl 159 _ _ rfl #[.int .i64 r.kind,.int .i64 s.kind] ?_ Tryz.func159 (by kernel_rfl) (by kernel_rfl) CC1 ?_;(simp [Act.eval,Act.put]);rintro ee w5 ⟨rfl,e5⟩;subst e5;refine ⟨_,rfl,?_⟩
  refine hKC.out _ _ (hHeld) (fun hHeld => ?_);clear hKC KC
  try simp only [Act.put,SL]
  refine wpAnyL_one (i:=14) (o:=_) rfl (by kernel_rfl) (fun KC hKC => ?_)
  refine step_call rfl 159 _ _ rfl #[.int .i64 r.group,.int .i64 s.group] ?_ Tryz.func159 (by kernel_rfl) (by kernel_rfl) CC2 ?_;(simp [Act.eval,Act.put]);rintro ee w5 ⟨rfl,e5⟩;subst e5;refine ⟨_,rfl,?_⟩
  refine hKC.out _ _ (hHeld) (fun hHeld => ?_);clear hKC KC
  try simp only [Act.put,SL]
  refine wpAnyL_one (i:=15) (o:=_) rfl (by kernel_rfl) (fun KC hKC => ?_);go_simp;refine hKC.out _ _ (SW _ bA) (fun hHeld => ?_);clear hKC KC
  try simp only [Act.put,SL]
  refine wpAnyL_one (i:=16) (o:=_) rfl (by kernel_rfl) (fun KC hKC => ?_)
  refine step_call rfl 158 _ _ rfl #[.slice (some ⟨W.heap.size,0,none⟩) 3 3] ?_ Tryz.func158 (by kernel_rfl) (by kernel_rfl) CO ?_;(simp [Act.eval,Act.put]);rintro ee w5 ⟨rfl,e5⟩;subst e5;refine ⟨_,rfl,?_⟩
  refine hKC.out _ _ (SW _ bA) (fun hHeld => ?_);clear hKC KC
  try simp only [Act.put,SL]
  refine wpAnyL_last (o:=_) rfl (by kernel_rfl) (fun KC hKC => ?_);go_simp;refine hKC.out _ _ ?_;clear hKC KC
  try simp only [Act.put,SL]
  refine wpAnyL_done (by kernel_rfl) ?_ _;go_wp2;go_ret;exact ⟨rfl,HB.out.trans (bA.mono (by omega))⟩
end Go.Proofs.YtaioliojijikaaaGreat
namespace Go.Proofs.YtaioliojijikaaaGreat
open Go.RowKit F256
def numL (x0:Nat → RecD) (i j:Nat):Prop:=numC (x0 i) (x0 j) < 0 ∨ (numC (x0 i) (x0 j) = 0 ∧ i < j)
theorem cmpI_lt {a b:Int}:cmpI a b < 0 ↔ a < b:=by unfold cmpI;split <;> (try split) <;> omega
theorem cmpI_eq {a b:Int}:cmpI a b = 0 ↔ a = b:=by unfold cmpI;split <;> (try split) <;> omega
theorem numC_lt {r s:RecD}:numC r s < 0 ↔ r.seq < s.seq ∨ (r.seq = s.seq ∧ (r.kind < s.kind ∨ (r.kind = s.kind ∧ r.group < s.group))):=by
  unfold numC;have h1:=@cmpI_lt r.seq s.seq;have h2:=@cmpI_eq r.seq s.seq;have h3:=@cmpI_lt r.kind s.kind;have h4:=@cmpI_eq r.kind s.kind;have h5:=@cmpI_lt r.group s.group
  split
  · omega
  · split <;> omega
theorem numC_eq {r s:RecD}:numC r s = 0 ↔ r.seq = s.seq ∧ r.kind = s.kind ∧ r.group = s.group:=by
  unfold numC;have h2:=@cmpI_eq r.seq s.seq;have h4:=@cmpI_eq r.kind s.kind;have h5:=@cmpI_eq r.group s.group
  split
  · omega
  · split <;> omega
theorem numL_ord (x0:Nat → RecD):Sym.Ord (numL x0) where
  trans:=fun {i j k} h1 h2 => by
    unfold numL at *
    rw [numC_lt,numC_eq] at *
    omega
  irr:=fun i h => by
    unfold numL at h;rw [numC_lt] at h;omega
theorem ask_yes {x0:Nat → RecD} {i j:Nat} (h:numC (x0 j) (x0 i) < 0):numL x0 j i:=.inl h
theorem ask_no {x0:Nat → RecD} {i j:Nat} (hij:i < j) (h:¬ numC (x0 j) (x0 i) < 0):numL x0 i j:=by
  unfold numL;rw [numC_lt] at h ⊢;rw [numC_eq];omega
structure Ins (lt:Nat → Nat → Prop) (q:Nat → Nat) (a i j e:Nat):Prop where
  at_:q j = e
  rest:∀ k1 k2,a ≤ k1 → k1 < k2 → k2 ≤ i → k1 ≠ j → k2 ≠ j → lt (q k1) (q k2)
  behind:∀ k,j < k → k ≤ i → lt e (q k)
theorem Ins.start {lt:Nat → Nat → Prop} {q:Nat → Nat} {a i:Nat} (h:Sym.Srt lt q a i):Ins lt q a i i (q i):=⟨rfl,fun k1 k2 h1 h2 h3 h4 h5 => h k1 k2 h1 h2 (by omega),fun k h1 h2 => by omega⟩
theorem Ins.stop {lt:Nat → Nat → Prop} {q:Nat → Nat} {a i j e:Nat} (O:Sym.Ord lt) (h:Ins lt q a i j e) (haj:a ≤ j) (hji:j ≤ i) (hs:j = a ∨ lt (q (j - 1)) e):Sym.Srt lt q a (i + 1):=fun k1 k2 h1 h2 h3 => by
  by_cases c1:k1 = j
  · subst c1
    rw [h.at_];exact h.behind k2 h2 (by omega)
  · by_cases c2:k2 = j
    · subst c2
      rw [h.at_]
      rcases hs with hs | hs
      · omega
      · by_cases c3:k1 = k2 - 1
        · rw [c3];exact hs
        · exact O.trans (h.rest k1 (k2 - 1) h1 (by omega) (by omega) c1 (by omega)) hs
    · exact h.rest k1 k2 h1 h2 (by omega) c1 c2
theorem Ins.step {lt:Nat → Nat → Prop} {q:Nat → Nat} {a i j e:Nat} (h:Ins lt q a i (j + 1) e) (haj:a ≤ j) (hji:j + 1 ≤ i) (hl:lt e (q j)):Ins lt (fun k => q (Sym.swp (j + 1) j k)) a i j e:=by
  have s1:Sym.swp (j + 1) j j = j + 1:=by unfold Sym.swp;rw [if_neg (by omega),if_pos rfl]
  have s2:Sym.swp (j + 1) j (j + 1) = j:=by unfold Sym.swp;rw [if_pos rfl]
  have s3:∀ k,k ≠ j → k ≠ j + 1 → Sym.swp (j + 1) j k = k:=fun k h1 h2 => by unfold Sym.swp;rw [if_neg h2,if_neg h1]
  refine ⟨?_,fun k1 k2 h1 h2 h3 h4 h5 => ?_,fun k h1 h2 => ?_⟩
  · show q (Sym.swp (j + 1) j j) = e
    rw [s1,h.at_]
  · show lt (q (Sym.swp (j + 1) j k1)) (q (Sym.swp (j + 1) j k2))
    by_cases c1:k1 = j + 1
    · rw [c1,s2,s3 k2 h5 (by omega)]
      exact h.rest j k2 haj (by omega) h3 (by omega) (by omega)
    · by_cases c2:k2 = j + 1
      · rw [c2,s2,s3 k1 h4 c1]
        exact h.rest k1 j h1 (by omega) (by omega) (by omega) (by omega)
      · rw [s3 k1 h4 c1,s3 k2 h5 c2]
        exact h.rest k1 k2 h1 h2 h3 c1 c2
  · show lt e (q (Sym.swp (j + 1) j k))
    by_cases c1:k = j + 1
    · rw [c1,s2];exact hl
    · rw [s3 k (by omega) c1]
      exact h.behind k (by omega) h2
end Go.Proofs.YtaioliojijikaaaGreat
namespace Go.Proofs.YtaioliojijikaaaGreat
open Go.RowKit F256
theorem getD_at {l:List Nat} {i:Nat} (h:i < l.length):l.getD i 0 = l[i]:=by rw [List.getD_eq_getElem?_getD,List.getElem?_eq_getElem h];rfl
theorem SameR.trans {a b c:RecD} (h:SameR a b) (k:SameR b c):SameR a c:=by
  obtain ⟨h1,h2,h3,h4,h5,h6,⟨e7,h7⟩,⟨e8,h8⟩,⟨e9,h9⟩⟩:=h;obtain ⟨k1,k2,k3,k4,k5,k6,⟨f7,k7⟩,⟨f8,k8⟩,⟨f9,k9⟩⟩:=k;exact ⟨h1.trans k1,h2.trans k2,h3.trans k3,h4.trans k4,h5.trans k5,h6.trans k6,⟨e7.trans f7,fun i hi => (h7 i hi).trans (k7 i (by omega))⟩,⟨e8.trans f8,fun i hi => (h8 i hi).trans (k8 i (by omega))⟩,⟨e9.trans f9,fun i hi => (h9 i hi).trans (k9 i (by omega))⟩⟩
theorem SameR.num {a b:RecD} (h:SameR a b):numC a b = 0:=numC_eq.2 ⟨h.seq,h.kind,h.group⟩
def Fst (x0:Nat → RecD) (i:Nat):Prop:=∀ j,j < i → ¬ SameR (x0 j) (x0 i)
theorem not_fst {x0:Nat → RecD}:∀ {i j:Nat},j < i → SameR (x0 j) (x0 i) → ∃ j0,j0 < i ∧ SameR (x0 j0) (x0 i) ∧ Fst x0 j0:=by
  intro i j
  induction j using Nat.strongRecOn with
  | _ j ih =>
    intro hj hs
    by_cases c:Fst x0 j
    · exact ⟨j,hj,hs,c⟩
    · obtain ⟨k,hk⟩:∃ k,¬ (k < j → ¬ SameR (x0 k) (x0 j)):=Classical.not_forall.1 c
      have h1:k < j:=Classical.byContradiction fun h => hk (fun h' => absurd h' h);have h2:SameR (x0 k) (x0 j):=Classical.byContradiction fun h => hk (fun _ => h);exact ih k h1 (by omega) (h2.trans hs)
theorem pw_eq {lt:Nat → Nat → Prop} (O:Sym.Ord lt):∀ l l':List Nat,l.Pairwise lt → l'.Pairwise lt → (∀ i,i ∈ l ↔ i ∈ l') → l = l'
  | [],[],_,_,_ => rfl
  | [],b :: t,_,_,h => absurd ((h b).2 (by simp)) (by simp)
  | a :: t,[],_,_,h => absurd ((h a).1 (by simp)) (by simp)
  | a :: s,b :: t,h1,h2,h => by
    obtain ⟨p1,p2⟩:=List.pairwise_cons.1 h1;obtain ⟨q1,q2⟩:=List.pairwise_cons.1 h2
    have e:a = b:=by
      rcases List.mem_cons.1 ((h a).1 (by simp)) with e | m
      · exact e
      · rcases List.mem_cons.1 ((h b).2 (by simp)) with e | m'
        · exact e.symm
        · exact absurd (O.trans (q1 a m) (p1 b m')) (O.irr _)
    subst e;rw [pw_eq O s t p2 q2 (fun i => ⟨fun m => ?_,fun m => ?_⟩)]
    · rcases List.mem_cons.1 ((h i).1 (List.mem_cons_of_mem _ m)) with e | m'
      · subst e;exact absurd (p1 _ m) (O.irr _)
      · exact m'
    · rcases List.mem_cons.1 ((h i).2 (List.mem_cons_of_mem _ m)) with e | m'
      · subst e;exact absurd (q1 _ m) (O.irr _)
      · exact m'
structure Cnt (x0:Nat → RecD) (N:Nat) (l:List Nat):Prop where
  srt:l.Pairwise (numL x0)
  mem:∀ i,i ∈ l ↔ (i < N ∧ Fst x0 i)
theorem Cnt.uniq {x0:Nat → RecD} {N:Nat} {l l':List Nat} (h:Cnt x0 N l) (h':Cnt x0 N l'):l = l':=pw_eq (numL_ord x0) l l' h.srt h'.srt fun i => by rw [h.mem,h'.mem]
theorem Cnt.nil (x0:Nat → RecD):Cnt x0 0 []:=⟨List.Pairwise.nil,fun i => by simp⟩
theorem Cnt.has {x0:Nat → RecD} {N:Nat} {l:List Nat} (h:Cnt x0 N l):(∃ o,o ∈ l ∧ SameR (x0 o) (x0 N)) ↔ ¬ Fst x0 N:=by
  constructor
  · rintro ⟨o,ho,hs⟩ hf
    exact hf o ((h.mem o).1 ho).1 hs
  · intro hf
    obtain ⟨k,hk⟩:∃ k,¬ (k < N → ¬ SameR (x0 k) (x0 N)):=Classical.not_forall.1 hf;have h1:k < N:=Classical.byContradiction fun h => hk (fun h' => absurd h' h);have h2:SameR (x0 k) (x0 N):=Classical.byContradiction fun h => hk (fun _ => h);obtain ⟨j0,a,b,c⟩:=not_fst h1 h2;exact ⟨j0,(h.mem j0).2 ⟨a,c⟩,b⟩
theorem Cnt.skip {x0:Nat → RecD} {N:Nat} {l:List Nat} (h:Cnt x0 N l) (hf:¬ Fst x0 N):Cnt x0 (N + 1) l:=⟨h.srt,fun i => by
  rw [h.mem]
  constructor
  · rintro ⟨a,b⟩;exact ⟨by omega,b⟩
  · rintro ⟨a,b⟩
    refine ⟨?_,b⟩
    by_cases c:i = N
    · subst c;exact absurd b hf
    · omega⟩
theorem Cnt.ins {x0:Nat → RecD} {N:Nat} {l:List Nat} (h:Cnt x0 N l) (hf:Fst x0 N) (at_:Nat) (ha:at_ ≤ l.length)
    (hb:∀ k,at_ ≤ k → k < l.length → numC (x0 N) (x0 (l.getD k 0)) < 0) (hs:at_ = 0 ∨ ¬ numC (x0 N) (x0 (l.getD (at_ - 1) 0)) < 0):Cnt x0 (N + 1) (l.take at_ ++ N :: l.drop at_):=by
  have hD:∀ o,o ∈ l.drop at_ → numL x0 N o:=fun o ho => by
    obtain ⟨k,hk,rfl⟩:=List.mem_iff_getElem.1 ho;rw [List.getElem_drop]
    have hk':at_ + k < l.length:=by rw [List.length_drop] at hk;omega
    have:=hb (at_ + k) (by omega) hk';rw [getD_at hk'] at this;exact ask_yes this
  have hT:∀ o,o ∈ l.take at_ → numL x0 o N:=fun o ho => by
    obtain ⟨k,hk,rfl⟩:=List.mem_iff_getElem.1 ho;rw [List.getElem_take];rw [List.length_take] at hk
    have h1:at_ - 1 < l.length:=by omega
    rcases hs with hs | hs
    · omega
    · rw [getD_at h1] at hs
      have hlt:l[at_ - 1] < N:=((h.mem _).1 (List.getElem_mem h1)).1;have hl:=ask_no hlt hs
      by_cases c:k = at_ - 1
      · subst c;exact hl
      · exact (numL_ord x0).trans (List.pairwise_iff_getElem.1 h.srt k (at_ - 1) (by omega) h1 (by omega)) hl
  refine ⟨?_,fun i => ?_⟩
  · rw [List.pairwise_append]
    refine ⟨h.srt.sublist (List.take_sublist _ _),List.pairwise_cons.2 ⟨hD,h.srt.sublist (List.drop_sublist _ _)⟩,fun a ha b hb => ?_⟩
    rcases List.mem_cons.1 hb with rfl | hb
    · exact hT a ha
    · exact (numL_ord x0).trans (hT a ha) (hD b hb)
  · rw [List.mem_append,List.mem_cons]
    have e:i ∈ l ↔ (i ∈ l.take at_ ∨ i ∈ l.drop at_):=by
      conv => lhs;rw [← List.take_append_drop at_ l]
      exact List.mem_append
    have hm:=h.mem i;rw [e] at hm
    constructor
    · rintro (a | rfl | a)
      · have:=hm.1 (.inl a);exact ⟨by omega,this.2⟩
      · exact ⟨by omega,hf⟩
      · have:=hm.1 (.inr a);exact ⟨by omega,this.2⟩
    · rintro ⟨a,b⟩
      by_cases c:i = N
      · exact .inr (.inl c)
      · rcases hm.2 ⟨by omega,b⟩ with a | a
        · exact .inl a
        · exact .inr (.inr a)
structure CntQ (x0:Nat → RecD) (q:Nat → Nat) (k:Nat) (l:List Nat):Prop where
  srt:l.Pairwise (numL x0)
  mem:∀ i,i ∈ l ↔ ((∃ j,j < k ∧ q j = i) ∧ Fst x0 i)
theorem CntQ.nil (x0:Nat → RecD) (q:Nat → Nat):CntQ x0 q 0 []:=⟨List.Pairwise.nil,fun i => by simp⟩
theorem re_onto {N:Nat} {q:Nat → Nat} (h:Sym.Re 0 N (fun i => i) q) {i:Nat} (hi:i < N):∃ j,j < N ∧ q j = i:=by
  obtain ⟨s,t,h1,h2,h3,h4⟩:=h;refine ⟨t i,?_,by rw [h1,h3]⟩
  by_cases c:t i < N
  · exact c
  · have:=h4 (t i) (by omega)
    rw [h3] at this;omega
theorem re_into {N:Nat} {q:Nat → Nat} (h:Sym.Re 0 N (fun i => i) q) {i:Nat} (hi:i < N):q i < N:=by
  obtain ⟨j,⟨_,hj⟩,e⟩:=h.from (i:=i) ⟨by omega,hi⟩
  rw [e];exact hj
theorem CntQ.all {x0:Nat → RecD} {q:Nat → Nat} {N:Nat} {l:List Nat} (h:CntQ x0 q N l) (hR:Sym.Re 0 N (fun i => i) q):Cnt x0 N l:=⟨h.srt,fun i => by
  rw [h.mem]
  constructor
  · rintro ⟨⟨j,hj,rfl⟩,b⟩;exact ⟨re_into hR hj,b⟩
  · rintro ⟨a,b⟩;exact ⟨re_onto hR a,b⟩⟩
structure Alk (x0:Nat → RecD) (l:List Nat) (al:Nat):Prop where
  nil:l = [] → al = 0
  lt:l ≠ [] → al < l.length
  before:∀ e,e ∈ l.take al → ∀ f,f ∈ l.drop al → numC (x0 e) (x0 f) < 0
  after:∀ e,e ∈ l.drop al → ∀ f,f ∈ l.drop al → numC (x0 e) (x0 f) = 0
theorem Alk.start (x0:Nat → RecD):Alk x0 [] 0:=⟨fun _ => rfl,fun h => absurd rfl h,fun e he => by simp at he,fun e he => by simp at he⟩
theorem numC_lt_eq {a b c:RecD} (h:numC a b < 0) (k:numC b c = 0):numC a c < 0:=by rw [numC_lt] at *;rw [numC_eq] at k;omega
theorem numC_eq_lt {a b c:RecD} (h:numC a b = 0) (k:numC b c < 0):numC a c < 0:=by rw [numC_lt] at *;rw [numC_eq] at h;omega
theorem numC_lt_lt {a b c:RecD} (h:numC a b < 0) (k:numC b c < 0):numC a c < 0:=by rw [numC_lt] at *;omega
theorem numC_eq_eq {a b c:RecD} (h:numC a b = 0) (k:numC b c = 0):numC a c = 0:=by rw [numC_eq] at *;omega
theorem numC_self (a:RecD):numC a a = 0:=numC_eq.2 ⟨rfl,rfl,rfl⟩
theorem numC_sym {a b:RecD} (h:numC a b = 0):numC b a = 0:=by rw [numC_eq] at *;omega
section
variable {x0:Nat → RecD} {q:Nat → Nat} {N k:Nat} {l:List Nat} {al:Nat}
theorem CntQ.behind (h:CntQ x0 q k l) (hS:Sym.Srt (numL x0) q 0 N) (hk:k < N) {o:Nat} (ho:o ∈ l):numL x0 o (q k):=by
  obtain ⟨⟨j,hj,rfl⟩,_⟩:=(h.mem o).1 ho;exact hS j k (by omega) hj hk
theorem Alk.here (a:Alk x0 l al) (hne:l ≠ []):l.getD al 0 ∈ l.drop al:=by
  have:=a.lt hne;rw [getD_at this];exact List.mem_iff_getElem.2 ⟨0,by rw [List.length_drop];omega,by rw [List.getElem_drop];simp⟩
theorem Alk.fresh (a:Alk x0 l al) (h:CntQ x0 q k l) (hS:Sym.Srt (numL x0) q 0 N) (hk:k < N) (hne:l ≠ []) (hn:numC (x0 (l.getD al 0)) (x0 (q k)) ≠ 0):∀ e,e ∈ l → numC (x0 e) (x0 (q k)) < 0:=by
  have hh:=a.here hne;have h1:=h.behind hS hk (List.mem_of_mem_drop hh)
  have h2:numC (x0 (l.getD al 0)) (x0 (q k)) < 0:=by
    rcases h1 with h1 | h1
    · exact h1
    · exact absurd h1.1 hn
  intro e he;rw [← List.take_append_drop al l] at he
  rcases List.mem_append.1 he with he | he
  · exact numC_lt_lt (a.before e he _ hh) h2
  · exact numC_eq_lt (a.after e he _ hh) h2
theorem CntQ.has (h:CntQ x0 q k l) (hS:Sym.Srt (numL x0) q 0 N) (hR:Sym.Re 0 N (fun i => i) q) (hk:k < N) (hb:∀ e,e ∈ l.take al → numC (x0 e) (x0 (q k)) < 0):(∃ o,o ∈ l.drop al ∧ SameR (x0 o) (x0 (q k))) ↔ ¬ Fst x0 (q k):=by
  constructor
  · rintro ⟨o,ho,hs⟩ hf
    have:=h.behind hS hk (List.mem_of_mem_drop ho)
    rcases this with h1 | h1
    · rw [hs.num] at h1;omega
    · exact hf o h1.2 hs
  · intro hf
    obtain ⟨m,hm⟩:∃ m,¬ (m < q k → ¬ SameR (x0 m) (x0 (q k))):=Classical.not_forall.1 hf;have h1:m < q k:=Classical.byContradiction fun h => hm (fun h' => absurd h' h);have h2:SameR (x0 m) (x0 (q k)):=Classical.byContradiction fun h => hm (fun _ => h);obtain ⟨j0,a,b,c⟩:=not_fst h1 h2;have hqk:=re_into hR hk;obtain ⟨k0,hk0,e0⟩:=re_onto hR (i:=j0) (by omega)
    have hlt:k0 < k:=by
      by_cases c1:k0 < k
      · exact c1
      · exfalso
        by_cases c2:k0 = k
        · subst c2;omega
        · have h3:=hS k k0 (by omega) (by omega) hk0
          rw [e0] at h3;have h4:numL x0 j0 (q k):=.inr ⟨b.num,a⟩;exact (numL_ord x0).irr _ ((numL_ord x0).trans h3 h4)
    have hin:j0 ∈ l:=(h.mem j0).2 ⟨⟨k0,hlt,e0⟩,c⟩;rw [← List.take_append_drop al l] at hin
    rcases List.mem_append.1 hin with hin | hin
    · have:=hb j0 hin
      rw [b.num] at this;omega
    · exact ⟨j0,hin,b⟩
theorem CntQ.skip (h:CntQ x0 q k l) (hf:¬ Fst x0 (q k)):CntQ x0 q (k + 1) l:=⟨h.srt,fun i => by
  rw [h.mem]
  constructor
  · rintro ⟨⟨j,hj,e⟩,b⟩;exact ⟨⟨j,by omega,e⟩,b⟩
  · rintro ⟨⟨j,hj,e⟩,b⟩
    refine ⟨⟨j,?_,e⟩,b⟩
    by_cases c:j = k
    · subst c;rw [e] at hf;exact absurd b hf
    · omega⟩
theorem CntQ.more (h:CntQ x0 q k l) (hS:Sym.Srt (numL x0) q 0 N) (hk:k < N) (hf:Fst x0 (q k)):CntQ x0 q (k + 1) (l ++ [q k]):=⟨by
  rw [List.pairwise_append];refine ⟨h.srt,List.pairwise_singleton _ _,fun a ha b hb => ?_⟩;rw [List.mem_singleton] at hb;subst hb
  exact h.behind hS hk ha,fun i => by
  rw [List.mem_append,List.mem_singleton,h.mem]
  constructor
  · rintro (⟨⟨j,hj,e⟩,b⟩ | rfl)
    · exact ⟨⟨j,by omega,e⟩,b⟩
    · exact ⟨⟨k,by omega,rfl⟩,hf⟩
  · rintro ⟨⟨j,hj,e⟩,b⟩
    by_cases c:j = k
    · subst c;exact .inr e.symm
    · exact .inl ⟨⟨j,by omega,e⟩,b⟩⟩
theorem Alk.stay (a:Alk x0 l al) (hne:l ≠ []) {r:Nat} (hn:numC (x0 (l.getD al 0)) (x0 r) = 0):(∀ e,e ∈ l.take al → numC (x0 e) (x0 r) < 0) ∧ Alk x0 (l ++ [r]) al:=by
  have hh:=a.here hne;have h0:=a.lt hne;have hB:∀ e,e ∈ l.take al → numC (x0 e) (x0 r) < 0:=fun e he => numC_lt_eq (a.before e he _ hh) hn;have hA:∀ e,e ∈ l.drop al → numC (x0 e) (x0 r) = 0:=fun e he => numC_eq_eq (a.after e he _ hh) hn;refine ⟨hB,⟨fun h => by simp at h,fun _ => by rw [List.length_append];omega,fun e he f hf => ?_,fun e he f hf => ?_⟩⟩
  · rw [List.take_append_of_le_length (by omega)] at he
    rw [List.drop_append_of_le_length (by omega),List.mem_append,List.mem_singleton] at hf
    rcases hf with hf | rfl
    · exact a.before e he f hf
    · exact hB e he
  · rw [List.drop_append_of_le_length (by omega),List.mem_append,List.mem_singleton] at he hf
    rcases he with he | rfl
    · rcases hf with hf | rfl
      · exact a.after e he f hf
      · exact hA e he
    · rcases hf with hf | rfl
      · exact numC_sym (hA f hf)
      · exact numC_self _
theorem Alk.open_ {r:Nat} (hB:∀ e,e ∈ l → numC (x0 e) (x0 r) < 0):Alk x0 (l ++ [r]) l.length:=by
  refine ⟨fun h => by simp at h,fun _ => by rw [List.length_append];simp,fun e he f hf => ?_,fun e he f hf => ?_⟩
  · rw [List.take_append_of_le_length (by omega),List.take_length] at he
    rw [List.drop_append_of_le_length (by omega),List.drop_length,List.nil_append,List.mem_singleton] at hf;subst hf;exact hB e he
  · rw [List.drop_append_of_le_length (by omega),List.drop_length,List.nil_append,List.mem_singleton] at he hf
    subst he hf;exact numC_self _
end
theorem getD_ap {l:List Nat} {r i:Nat} (c:i < l.length):(l ++ [r]).getD i 0 = l.getD i 0:=by rw [List.getD_eq_getElem?_getD,List.getElem?_append_left c,← List.getD_eq_getElem?_getD]
theorem getD_last {l:List Nat} {r:Nat}:(l ++ [r]).getD l.length 0 = r:=by rw [List.getD_eq_getElem?_getD,List.getElem?_append_right (Nat.le_refl _)];simp
theorem mem_drop_getD {l:List Nat} {al:Nat} {P:Nat → Prop}:(∃ o,o ∈ l.drop al ∧ P o) ↔ ∃ j,j < l.length - al ∧ P (l.getD (al + j) 0):=by
  constructor
  · rintro ⟨o,ho,hp⟩
    obtain ⟨k,hk,rfl⟩:=List.mem_iff_getElem.1 ho;rw [List.length_drop] at hk;refine ⟨k,hk,?_⟩;rw [List.getElem_drop] at hp;rw [getD_at (show al + k < l.length by omega)];exact hp
  · rintro ⟨j,hj,hp⟩
    rw [getD_at (show al + j < l.length by omega)] at hp;exact ⟨_,List.mem_iff_getElem.2 ⟨j,by rw [List.length_drop];omega,by rw [List.getElem_drop]⟩,hp⟩
end Go.Proofs.YtaioliojijikaaaGreat
namespace Go.Proofs.YtaioliojijikaaaGreat
open Go.RowKit F256
theorem run_from9 (g n cap m:Nat) (hm:m ≤ n) (w:World):(Instr.slice 57 (.slice (some ⟨g,0,none⟩) n cap) (some (.int .i64 (m:Int))) none none).run Tryz.prog w = .ok (.slice (if cap = m then some ⟨g,0,none⟩ else some ⟨g,m * 9,none⟩) (n - m) (cap - m)) w:=by
  have e1:(m:Int) ≤ (n:Int):=by omega
  by_cases h:cap = m
  · subst h
    simp [Instr.slice,run_underlying Tryz.underlying57,Instr.sliceBounds,Instr.sliceBound,asIntOf,go_sem,e1,hm]
  · simp [Instr.slice,run_underlying Tryz.underlying57,Instr.sliceBounds,Instr.sliceBound,asIntOf,go_sem,e1,hm,h]
theorem run_upto9 (g n cap m:Nat) (hm:m ≤ n) (hc:n ≤ cap) (w:World):(Instr.slice 57 (.slice (some ⟨g,0,none⟩) n cap) none (some (.int .i64 (m:Int))) none).run Tryz.prog w = .ok (.slice (some ⟨g,0,none⟩) m cap) w:=by
  have e1:(m:Int) ≤ (cap:Int):=by omega
  have e2:m ≤ cap:=by omega
  simp [Instr.slice,run_underlying Tryz.underlying57,Instr.sliceBounds,Instr.sliceBound,asIntOf,go_sem,e1,e2]
theorem run_from0 (w:World):(Instr.slice 57 (.slice none 0 0) (some (.int .i64 ((0:Nat):Int))) none none).run Tryz.prog w = .ok (.slice none 0 0) w:=by
  simp [Instr.slice,run_underlying Tryz.underlying57,Instr.sliceBounds,Instr.sliceBound,asIntOf,go_sem]
theorem run_upto0 (w:World):(Instr.slice 57 (.slice none 0 0) none (some (.int .i64 ((0:Nat):Int))) none).run Tryz.prog w = .ok (.slice none 0 0) w:=by
  simp [Instr.slice,run_underlying Tryz.underlying57,Instr.sliceBounds,Instr.sliceBound,asIntOf,go_sem]
section
variable {w:World} {lo hi n:Nat} {v:Value} {x:Nat → RecD} {ce:Nat → List Value}
theorem View.form2 (h:View layRec 62 w lo hi v n x ce):(v = .slice none 0 0 ∧ n = 0) ∨ ∃ g cap,v = .slice (some ⟨g,0,none⟩) n cap ∧ n ≤ cap ∧ g < w.heap.size:=by
  have hlt:=fun b hb => (h.row.lt b hb).2
  rcases h.row.2 with hn | ⟨g,cap,cur,rfl,hbg,hgg,hnc,hcm,rest⟩
  · exact .inl hn
  · exact .inr ⟨g,cap,rfl,hnc,hlt g rfl⟩
theorem src_rd {ao:Option Addr} {m c:Nat} {y:Nat → RecD} {cy:Nat → List Value} (hs:Src layRec w hi ao m y cy) (hh:hi ≤ w.heap.size) (hm:m ≤ maxLen) (hb:∀ b off,ao = some ⟨b,off,none⟩ → b < w.heap.size):(layRec.slice 62).rd w w.heap.size (m,y) [.slice ao m c]:=by
  refine ⟨ao,c,rfl,hm,fun h0 => ?_⟩;obtain ⟨b,off,e,hc⟩:=hs.1 h0;exact ⟨b,off,e,hb b off e,fun i hi => ⟨cy i,layRec.rd_mono (hs.2 i hi) hh,hc i hi⟩⟩
theorem View.from_ (h:View layRec 62 w lo hi v n x ce) (hh:hi ≤ w.heap.size) {al:Nat} (ha:al ≤ n):∃ ao c,(∀ w',(Instr.slice 57 v (some (.int .i64 (al:Int))) none none).run Tryz.prog w' = .ok (.slice ao (n - al) c) w') ∧ Src layRec w hi ao (n - al) (fun j => x (al + j)) (fun j => ce (al + j)) ∧ (layRec.slice 62).rd w w.heap.size (n - al,fun j => x (al + j)) [.slice ao (n - al) c] ∧ (ao = none → c = 0 ∨ n - al = 0):=by
  have hl:=h.len
  rcases h.form2 with ⟨rfl,rfl⟩ | ⟨g,cap,rfl,hnc,hg⟩
  · obtain rfl:al = 0:=by omega
    have S:Src layRec w hi none 0 (fun j => x (0 + j)) (fun j => ce (0 + j)):=⟨fun h => absurd rfl h,fun j hj => by omega⟩;exact ⟨none,0,run_from0,S,src_rd S hh (by omega) (fun b off e => by cases e),fun _ => .inl rfl⟩
  · have S:Src layRec w hi (if cap = al then some ⟨g,0,none⟩ else some ⟨g,al * 9,none⟩) (n - al) (fun j => x (al + j)) (fun j => ce (al + j)):=⟨fun h0 => by
      rw [if_neg (by omega)];refine ⟨g,al * 9,rfl,fun j hj k hk => ?_⟩;have:=h.cell (i:=al + j) (by omega) hk;rw [← this]
      congr 2
      show al * 9 + (j * 9 + k) = (al + j) * 9 + k
      omega,fun j hj => h.each _ (by omega)⟩
    refine ⟨_,_,run_from9 g n cap al ha,S,src_rd S hh (by omega) (fun b off e => ?_),fun e => ?_⟩
    · split at e <;> cases e <;> exact hg
    · split at e <;> cases e
theorem View.upto_ (h:View layRec 62 w lo hi v n x ce) (hh:hi ≤ w.heap.size) {al:Nat} (ha:al ≤ n):∃ ao c,(∀ w',(Instr.slice 57 v none (some (.int .i64 (al:Int))) none).run Tryz.prog w' = .ok (.slice ao al c) w') ∧ Src layRec w hi ao al x ce ∧ (ao = none → c = 0 ∨ al = 0):=by
  rcases h.form2 with ⟨rfl,rfl⟩ | ⟨g,cap,rfl,hnc,hg⟩
  · obtain rfl:al = 0:=by omega
    exact ⟨none,0,run_upto0,⟨fun h => absurd rfl h,fun j hj => by omega⟩,fun _ => .inl rfl⟩
  · exact ⟨_,_,run_upto9 g n cap al ha hnc,⟨fun h0 => ⟨g,0,rfl,fun j hj k hk => by rw [Nat.zero_add];exact h.cell (by omega) hk⟩,fun j hj => h.each _ (by omega)⟩,fun e => by cases e⟩
theorem src_of {ao:Option Addr} {m c:Nat} {y:Nat → RecD} (h:(layRec.slice 62).rd w hi (m,y) [.slice ao m c]):∃ cy,Src layRec w hi ao m y cy ∧ (ao = none → c = 0 ∨ m = 0):=by
  obtain ⟨ao',cap',e,hm,hc⟩:=h
  simp only [List.cons.injEq,Value.slice.injEq,true_and,and_true] at e
  obtain ⟨rfl,rfl⟩:=e
  by_cases h0:m = 0
  · subst h0
    exact ⟨fun _ => [],⟨fun h => absurd rfl h,fun j hj => by omega⟩,fun _ => .inr rfl⟩
  · obtain ⟨b,off,rfl,hb,hel⟩:=hc h0
    have ch:∀ i,∃ ce,i < m → (layRec.rd w hi (y i) ce ∧ ∀ j,j < layRec.sz → w.cell? ⟨b,off + (i * layRec.sz + j),none⟩ = ce[j]?):=fun i => by
      by_cases c:i < m
      · obtain ⟨ce,h1,h2⟩:=hel i c
        exact ⟨ce,fun _ => ⟨h1,h2⟩⟩
      · exact ⟨[],fun h => absurd h c⟩
    obtain ⟨cy,hcy⟩:=Classical.axiomOfChoice ch;exact ⟨cy,⟨fun _ => ⟨b,off,rfl,fun j hj => (hcy j hj).2⟩,fun j hj => (hcy j hj).1⟩,fun e => by cases e⟩
end
end Go.Proofs.YtaioliojijikaaaGreat
namespace Go.Proofs.YtaioliojijikaaaGreat
open Go.RowKit F256
theorem if_no {c:Bool} {X Y:Prop} (h:c = false) (y:Y):if c = true then X else Y:=by rw [h,if_neg (by decide)];exact y
set_option maxHeartbeats 8000000 in
set_option maxRecDepth 1000000 in
theorem insertion_any (x0:Nat → RecD) (enc:Nat → List Value) (p:Nat → Nat) (N blk cap lo hi:Nat) (w:World) (V:RowsV x0 enc N blk cap lo hi w p) (hlo:hi ≤ lo) (hN:N < 1000000000) (a b:Nat) (hab:a ≤ b) (hb:b ≤ N) (hinc:∀ i j,a ≤ i → i < j → j < b → p i < p j) :
    Calls Tryz.prog 174 #[.slice (some ⟨blk,0,none⟩) N cap,.int .i64 a,.int .i64 b,.func (.func 142) #[] #[]] w fun e w' => e = .returned (.tuple #[]) ∧ ∃ q,RowsV x0 enc N blk cap lo hi w' q ∧ Sym.Re a b p q ∧ Sym.Srt (numL x0) q a b ∧ ChgL [blk] w w':=by
  have HV0:Hid (RowsV x0 enc N blk cap lo hi w p):=V;have HI:Hid (∀ i j,a ≤ i → i < j → j < b → p i < p j):=hinc;have hbl:=(V.row.lt blk rfl);clear V hinc
  have w1:IntKind.i64.wrap ((a:Int) + 1) = ((a + 1:Nat):Int):=by rw [IntKind.wrap_i64];omega
  go_enter Tryz.func174,Tryz.ntmps174
  go_wp2
  go_loopw [8] (fun vi wr => ∃ (i:Nat) (q:Nat → Nat),a + 1 ≤ i ∧ (i ≤ b ∨ (i = a + 1 ∧ q = p)) ∧ vi = .int .i64 i ∧ RowsV x0 enc N blk cap lo hi wr q ∧ Sym.Re a i p q ∧ Sym.Srt (numL x0) q a i ∧ ChgL [blk] w wr) (fun vi _ => b - (intOf vi).toNat)
  case atStart => exact ⟨a + 1,p,Nat.le_refl _,.inr ⟨rfl,rfl⟩,by go_num,HV0.out,Sym.Re.refl _ _ _,fun i j h1 h2 h3 => by omega,ChgL.refl _ _⟩
  case round =>
    obtain ⟨i,q,hai,hib,rfl,V,hRe,hSrt,C⟩:=hrel;have HV:Hid (RowsV x0 enc N blk cap lo hi wr q):=V;have HC:Hid (ChgL [blk] w wr):=C;have HRe:Hid (Sym.Re a i p q):=hRe;have HSrt:Hid (Sym.Srt (numL x0) q a i):=hSrt;clear V C hRe hSrt w1
    by_cases hlt:i < b
    · have t1:(i:Int) < (b:Int):=by omega
      go_wp2
      go_loopw [9] (fun vj wr => ∃ (j:Nat) (q1:Nat → Nat),a ≤ j ∧ j ≤ i ∧ vj = .int .i64 j ∧ RowsV x0 enc N blk cap lo hi wr q1 ∧ Sym.Re a (i + 1) p q1 ∧ Ins (numL x0) q1 a i j (p i) ∧ (∀ k,a ≤ k → k ≤ i → k ≠ j → q1 k < p i) ∧ ChgL [blk] w wr) (fun vj _ => (intOf vj).toNat)
      case atStart => exact ⟨i,q,by omega,Nat.le_refl _,rfl,HV.out,HRe.out.mono (Nat.le_refl _) (by omega),by
        have:=Ins.start HSrt.out;rw [HRe.out.out (.inr (Nat.le_refl _))] at this
        exact this,fun k h1 h2 h3 => by
        obtain ⟨k',hk',e⟩:=HRe.out.from (i:=k) ⟨h1,by omega⟩
        rw [e]
        exact HI.out k' i hk'.1 hk'.2 hlt,HC.out⟩
      case round =>
        obtain ⟨j,q1,haj,hji,rfl,V,hRe,hIns,hTag,C⟩:=hrel;have HV1:Hid (RowsV x0 enc N blk cap lo hi wr q1):=V;have HC1:Hid (ChgL [blk] w wr):=C;have HRe1:Hid (Sym.Re a (i + 1) p q1):=hRe;have HIns:Hid (Ins (numL x0) q1 a i j (p i)):=hIns;have HTag:Hid (∀ k,a ≤ k → k ≤ i → k ≠ j → q1 k < p i):=hTag;clear C hRe hIns hTag HV HC HRe HSrt
        by_cases hja:j = a
        · have d1:decide (a < j) = false:=decide_eq_false (by omega)
          have HJA:Hid (j = a):=hja;have HW:Hid (RowsV x0 enc N blk cap lo hi wr.drew q1):=View.drew V;clear V
          go_upto_region 4 with fail
          refine wp_region_M 14 (fun w' => True) mixedO trivial (fun hHeld => ?_);refine wpAnyM_pure (i:=0) (oi:=_) (v:=?_) rfl (by kernel_rfl) (fun _ _ _ h => h) (Or.inl ⟨by kernel_rfl,?_⟩) (by assumption) ?_
          rotate_left
          · intro w' hSw;go_simp;try with_reducible rfl
          try simp only [Act.put,SL]
          refine wpAnyM_pure (i:=1) (oi:=_) (v:=?_) rfl (by kernel_rfl) (fun _ _ _ h => h) (Or.inl ⟨by kernel_rfl,?_⟩) (by assumption) ?_
          rotate_left
          · intro w' hSw;go_simp;try with_reducible rfl
          try simp only [Act.put,SL]
          refine wpAnyM_pure (i:=2) (oi:=_) (v:=?_) rfl (by kernel_rfl) (fun _ _ _ h => h) (Or.inl ⟨by kernel_rfl,?_⟩) (by assumption) ?_
          rotate_left
          · intro w' hSw;go_simp;try with_reducible rfl
          try simp only [Act.put,SL]
          try rw [d1]
          refine wpAnyM_pure (i:=3) (oi:=_) (v:=?_) rfl (by kernel_rfl) (fun _ _ _ h => h) (Or.inl ⟨by kernel_rfl,?_⟩) (by assumption) ?_
          rotate_left
          · intro w' hSw;go_simp;try with_reducible rfl
          try simp only [Act.put,SL]
          refine wpAnyM_pure (i:=4) (oi:=_) (v:=undef) rfl (by kernel_rfl) (fun _ _ _ h => h) (Or.inr ⟨by kernel_rfl,rfl⟩) (by assumption) ?_
          try simp only [Act.put,SL]
          refine wpAnyM_pure (i:=5) (oi:=_) (v:=undef) rfl (by kernel_rfl) (fun _ _ _ h => h) (Or.inr ⟨by kernel_rfl,rfl⟩) (by assumption) ?_
          try simp only [Act.put,SL]
          refine wpAnyM_pure (i:=6) (oi:=_) (v:=undef) rfl (by kernel_rfl) (fun _ _ _ h => h) (Or.inr ⟨by kernel_rfl,rfl⟩) (by assumption) ?_
          try simp only [Act.put,SL]
          refine wpAnyM_pure (i:=7) (oi:=_) (v:=undef) rfl (by kernel_rfl) (fun _ _ _ h => h) (Or.inr ⟨by kernel_rfl,rfl⟩) (by assumption) ?_
          try simp only [Act.put,SL]
          refine wpAnyM_pure (i:=8) (oi:=_) (v:=undef) rfl (by kernel_rfl) (fun _ _ _ h => h) (Or.inr ⟨by kernel_rfl,rfl⟩) (by assumption) ?_
          try simp only [Act.put,SL]
          refine wpAnyM_pure (i:=9) (oi:=_) (v:=undef) rfl (by kernel_rfl) (fun _ _ _ h => h) (Or.inr ⟨by kernel_rfl,rfl⟩) (by assumption) ?_
          try simp only [Act.put,SL]
          refine wpAnyM_pure (i:=10) (oi:=_) (v:=undef) rfl (by kernel_rfl) (fun _ _ _ h => h) (Or.inr ⟨by kernel_rfl,rfl⟩) (by assumption) ?_
          try simp only [Act.put,SL]
          refine wpAnyM_pure (i:=11) (oi:=_) (v:=undef) rfl (by kernel_rfl) (fun _ _ _ h => h) (Or.inr ⟨by kernel_rfl,rfl⟩) (by assumption) ?_
          try simp only [Act.put,SL]
          refine wpAnyM_pure (i:=12) (oi:=_) (v:=undef) rfl (by kernel_rfl) (fun _ _ _ h => h) (Or.inr ⟨by kernel_rfl,rfl⟩) (by assumption) ?_
          try simp only [Act.put,SL]
          refine wpAnyM_pure (i:=13) (oi:=_) (v:=undef) rfl (by kernel_rfl) (fun _ _ _ h => h) (Or.inr ⟨by kernel_rfl,rfl⟩) (by assumption) ?_
          try simp only [Act.put,SL]
          refine wpAnyM_one (i:=14) (o:=_) rfl (by kernel_rfl) (by kernel_rfl) (fun KC hKC => ?_);refine if_no (by kernel_rfl) (hKC _ _ ?_);clear hKC KC
          try simp only [Act.put,SL]
          refine wpAnyM_pureL (i:=15) (oi:=_) (v:=undef) rfl (by kernel_rfl) (fun _ _ _ h => h) (Or.inr ⟨by kernel_rfl,rfl⟩) ?_
          try simp only [Act.put,SL]
          refine wpAnyM_pureL (i:=16) (oi:=_) (v:=?_) rfl (by kernel_rfl) (fun _ _ _ h => h) (Or.inl ⟨by kernel_rfl,?_⟩) ?_
          rotate_left
          · intro w' hSw;go_simp;try with_reducible rfl
          try simp only [Act.put,SL]
          refine wpAnyM_done (by kernel_rfl) ?_ _;go_wp2
          go_roundw
          case rel => exact ⟨i + 1,q1,by omega,.inl (by omega),by go_num,HW.out,HRe1.out,HIns.out.stop (numL_ord x0) haj hji (.inl HJA.out),HC1.out.trans (ChgL.of_below ⟨rfl,rfl,rfl,Nat.le_refl _,fun _ _ => rfl⟩)⟩
          case measure => simp [intOf];omega
        · obtain ⟨A,hA⟩:∃ A,A = j:=⟨_,rfl⟩
          subst hA;obtain ⟨B,hB⟩:∃ B,A = B + 1:=⟨A - 1,by omega⟩;have HAB:Hid (A = B + 1):=hB;have d1:decide (a < A) = true:=decide_eq_true (by omega)
          have w2:IntKind.i64.wrap ((A:Int) - 1) = (B:Int):=by rw [IntKind.wrap_i64];omega
          have hAN:A < N:=by omega
          have hBN:B < N:=by omega
          have i1:(A:Int) < (N:Int):=by omega
          have i2:(B:Int) < (N:Int):=by omega
          have i3:(0:Int) ≤ (A:Int):=by omega
          have i4:(0:Int) ≤ (B:Int):=by omega
          have hsz:=(V.row.lt blk rfl);have VD:=View.drew V;have rgA:wr.drew.rangeAt blk (A * 9) (enc (q1 A)):=VD.range hAN;have rgB:wr.drew.rangeAt blk (B * 9) (enc (q1 B)):=VD.range hBN;have hsA:(enc (q1 A)).length = 9:=VD.lens A hAN;have hsB:(enc (q1 B)).length = 9:=VD.lens B hBN;have rdA:=VD.each A hAN;have rdB:=VD.each B hBN;obtain ⟨cA,hcA⟩:∃ c,c = enc (q1 A):=⟨_,rfl⟩;obtain ⟨cB,hcB⟩:∃ c,c = enc (q1 B):=⟨_,rfl⟩;rw [← hcA] at rgA hsA;rw [← hcB] at rgB hsB;have CC0:=byNumbers_is _ _ _ _ hi hi wr.drew rdA rdB;rw [← hcA,← hcB] at CC0;obtain ⟨c,hc⟩:∃ c:Int,c = numC (x0 (q1 A)) (x0 (q1 B)):=⟨_,rfl⟩;rw [← hc] at CC0;have HCN:Hid (c = numC (x0 (q1 A)) (x0 (q1 B))):=hc
          have CC:Calls Tryz.prog 142 (#[.agg cA.toArray,.agg cB.toArray] ++ #[]) wr.drew fun e w' => e = .returned (.int .i64 c) ∧ Below wr.drew.heap.size wr.drew w':=by rw [Array.append_empty];exact CC0
          clear CC0 hc hcA hcB rdA rdB hB;have HVD:Hid (RowsV x0 enc N blk cap lo hi wr.drew q1):=VD;clear VD V
          go_upto_region 4 with fail
          refine wp_region_M 14 (fun w' => w'.rangeAt blk (A * 9) cA ∧ w'.rangeAt blk (B * 9) cB) mixedO ⟨rgA,rgB⟩ (fun hHeld => ?_);refine wpAnyM_pure (i:=0) (oi:=_) (v:=?_) rfl (by kernel_rfl) (fun _ _ _ h => h) (Or.inl ⟨by kernel_rfl,?_⟩) (by assumption) ?_
          rotate_left
          · intro w' hSw;go_simp;try with_reducible rfl
          try simp only [Act.put,SL]
          refine wpAnyM_pure (i:=1) (oi:=_) (v:=?_) rfl (by kernel_rfl) (fun _ _ _ h => h) (Or.inl ⟨by kernel_rfl,?_⟩) (by assumption) ?_
          rotate_left
          · intro w' hSw;go_simp;try with_reducible rfl
          try simp only [Act.put,SL]
          refine wpAnyM_pure (i:=2) (oi:=_) (v:=?_) rfl (by kernel_rfl) (fun _ _ _ h => h) (Or.inl ⟨by kernel_rfl,?_⟩) (by assumption) ?_
          rotate_left
          · intro w' hSw;go_simp;try with_reducible rfl
          try simp only [Act.put,SL]
          try rw [d1]
          refine wpAnyM_pure (i:=3) (oi:=_) (v:=?_) rfl (by kernel_rfl) (fun _ _ _ h => h) (Or.inl ⟨by kernel_rfl,?_⟩) (by assumption) ?_
          rotate_left
          · intro w' hSw;go_simp;try with_reducible rfl
          try simp only [Act.put,SL]
          refine wpAnyM_pure (i:=4) (oi:=_) (v:=?_) rfl (by kernel_rfl) (fun _ _ _ h => h) (Or.inl ⟨by kernel_rfl,?_⟩) (by assumption) ?_
          rotate_left
          · intro w' hSw;go_simp;try with_reducible rfl
          try simp only [Act.put,SL]
          refine wpAnyM_pure (i:=5) (oi:=_) (v:=?_) rfl (by kernel_rfl) (fun _ _ _ h => h) (Or.inl ⟨by kernel_rfl,?_⟩) (by assumption) ?_
          rotate_left
          · intro w' hSw;go_simp;try with_reducible rfl
          try simp only [Act.put,SL]
          refine wpAnyM_pure (i:=6) (oi:=_) (v:=?_) rfl (by kernel_rfl) (fun _ _ _ h => h) (Or.inl ⟨by kernel_rfl,?_⟩) (by assumption) ?_
          rotate_left
          · intro w' hSw;go_simp;try with_reducible rfl
          try simp only [Act.put,SL]
          refine wpAnyM_pure (i:=7) (oi:=_) (v:=?_) rfl (by kernel_rfl) (fun _ _ _ h => h) (Or.inl ⟨by kernel_rfl,?_⟩) (by assumption) ?_
          rotate_left
          · intro w' hSw;go_simp;try with_reducible rfl
          try simp only [Act.put,SL]
          refine wpAnyM_take (i:=8) (oi:=_) (v:=.agg cA.toArray) 16 rfl (by kernel_rfl) (fun _ _ _ h => h) (yieldsIf_load_mid (by kernel_rfl) 62 (.tmp 25) rfl blk (A * 9) (by simp [Act.eval,Act.put]) cA _ (fun w h => h.1) Tryz.underlying62 rfl (info_Rec9 hsA)) (by assumption) ?_
          try simp only [Act.put,SL]
          refine wpAnyM_pure (i:=9) (oi:=_) (v:=?_) rfl (by kernel_rfl) (fun _ _ _ h => h) (Or.inl ⟨by kernel_rfl,?_⟩) (by assumption) ?_
          rotate_left
          · intro w' hSw;go_simp;try with_reducible rfl
          try simp only [Act.put,SL]
          refine wpAnyM_pure (i:=10) (oi:=_) (v:=?_) rfl (by kernel_rfl) (fun _ _ _ h => h) (Or.inl ⟨by kernel_rfl,?_⟩) (by assumption) ?_
          rotate_left
          · intro w' hSw;go_simp;try with_reducible rfl
          try simp only [Act.put,SL]
          refine wpAnyM_pure (i:=11) (oi:=_) (v:=?_) rfl (by kernel_rfl) (fun _ _ _ h => h) (Or.inl ⟨by kernel_rfl,?_⟩) (by assumption) ?_
          rotate_left
          · intro w' hSw;go_simp;try with_reducible rfl
          try simp only [Act.put,SL]
          refine wpAnyM_pure (i:=12) (oi:=_) (v:=?_) rfl (by kernel_rfl) (fun _ _ _ h => h) (Or.inl ⟨by kernel_rfl,?_⟩) (by assumption) ?_
          rotate_left
          · intro w' hSw;go_simp;try with_reducible rfl
          try simp only [Act.put,SL]
          refine wpAnyM_take (i:=13) (oi:=_) (v:=.agg cB.toArray) 16 rfl (by kernel_rfl) (fun _ _ _ h => h) (yieldsIf_load_mid (by kernel_rfl) 62 (.tmp 30) rfl blk (B * 9) (by simp [Act.eval,Act.put]) cB _ (fun w h => h.2) Tryz.underlying62 rfl (info_Rec9 hsB)) (by assumption) ?_
          try simp only [Act.put,SL]
          refine wpAnyM_one (i:=14) (o:=_) rfl (by kernel_rfl) (by kernel_rfl) (fun KC hKC => ?_);refine step_callv (by kernel_rfl) (.tmp 22) 142 #[] _ _ rfl (by simp [Act.eval,Act.put]) #[.agg cA.toArray,.agg cB.toArray] (by simp [Act.eval,Act.put]) Tryz.func142 (by kernel_rfl) (by kernel_rfl) CC ?_;rintro ee w5 ⟨rfl,b5⟩;refine ⟨_,rfl,?_⟩;refine hKC _ _ ?_;clear hKC KC
          try simp only [Act.put,SL]
          refine wpAnyM_pureL (i:=15) (oi:=_) (v:=?_) rfl (by kernel_rfl) (fun _ _ _ h => h) (Or.inl ⟨by kernel_rfl,?_⟩) ?_
          rotate_left
          · intro w' hSw;go_simp;try with_reducible rfl
          try simp only [Act.put,SL]
          refine wpAnyM_pureL (i:=16) (oi:=_) (v:=?_) rfl (by kernel_rfl) (fun _ _ _ h => h) (Or.inl ⟨by kernel_rfl,?_⟩) ?_
          rotate_left
          · intro w' hSw;go_simp;try with_reducible rfl
          try simp only [Act.put,SL]
          refine wpAnyM_done (by kernel_rfl) ?_ _;have HV5:Hid (RowsV x0 enc N blk cap lo hi w5 q1):=View.below HVD.out b5 (by show hi ≤ wr.heap.size;omega);have HC5:Hid (ChgL [blk] w w5):=HC1.out.trans ((ChgL.of_below ⟨rfl,rfl,rfl,Nat.le_refl _,fun _ _ => rfl⟩:ChgL [blk] wr wr.drew).trans (ChgL.of_below b5));clear HVD HC1 HV1 rgA rgB hsA hsB b5 hHeld CC hsz;obtain ⟨dd,hdd⟩:∃ d:Bool,d = decide (c < 0):=⟨_,rfl⟩;have HDD:Hid (dd = decide (c < 0)):=hdd
          try rw [← hdd]
          clear hdd
          cases dd
          · go_wp2
            go_roundw
            case rel => exact ⟨i + 1,q1,by omega,.inl (by omega),by go_num,HV5.out,HRe1.out,HIns.out.stop (numL_ord x0) haj hji (.inr (by
              have h1:=HDD.out
              have h2:¬ c < 0:=by simpa using h1
              rw [HCN.out] at h2;have h3:=HTag.out B (by have:=HAB.out;omega) (by have:=HAB.out;omega) (by have:=HAB.out;omega);have h4:=HIns.out.at_;rw [show A - 1 = B by have:=HAB.out;omega,← h4]
              exact ask_no (by rw [h4];exact h3) h2)),HC5.out⟩
            case measure => simp [intOf];omega
          · have V5:=HV5.out
            have VD:=View.drew V5;have rgA:w5.drew.rangeAt blk (A * 9) (enc (q1 A)):=VD.range hAN;have rgB:w5.drew.rangeAt blk (B * 9) (enc (q1 B)):=VD.range hBN;have hsA:(enc (q1 A)).length = 9:=VD.lens A hAN;have hsB:(enc (q1 B)).length = 9:=VD.lens B hBN
            have th1:w5.drew.there blk (A * 9) (enc (q1 B)).length:=by rw [hsB];exact VD.there hAN
            have th2:(w5.drew.setCells blk (A * 9) (enc (q1 B))).there blk (B * 9) (enc (q1 A)).length:=by rw [hsA];exact (VD.put (by decide) hlo hAN (VD.each B hBN)).there hBN
            have oneA:=rdOne_rec _ _ _ _ (VD.each A hAN);have oneB:=rdOne_rec _ _ _ _ (VD.each B hBN);have SW:=view_swap VD hlo hAN hBN;have HSW:Hid (RowsV x0 enc N blk cap lo hi ((w5.drew.setCells blk (A * 9) (enc (q1 B))).setCells blk (B * 9) (enc (q1 A))) (fun k => q1 (Sym.swp A B k))):=SW.1;have HSC:Hid (ChgL [blk] w5 ((w5.drew.setCells blk (A * 9) (enc (q1 B))).setCells blk (B * 9) (enc (q1 A)))):=(ChgL.of_below ⟨rfl,rfl,rfl,Nat.le_refl _,fun _ _ => rfl⟩:ChgL [blk] w5 w5.drew).trans SW.2;obtain ⟨cA,hcA⟩:∃ c,c = enc (q1 A):=⟨_,rfl⟩;obtain ⟨cB,hcB⟩:∃ c,c = enc (q1 B):=⟨_,rfl⟩;rw [← hcA] at rgA th2 hsA oneA HSW HSC;rw [← hcB] at rgB th1 th2 hsB oneB HSW HSC;clear hcA hcB VD SW;clear V5
            go_upto_region 6 with fail
            refine wp_region_M 15 (fun w' => w'.rangeAt blk (A * 9) cA ∧ w'.rangeAt blk (B * 9) cB) mixedO ⟨rgA,rgB⟩ (fun hHeld => ?_);refine wpAnyM_pure (i:=0) (oi:=_) (v:=?_) rfl (by kernel_rfl) (fun _ _ _ h => h) (Or.inl ⟨by rfl,?_⟩) (by assumption) ?_
            rotate_left
            · intro w' hSw;go_simp;try with_reducible rfl
            try simp only [Act.put,SL]
            refine wpAnyM_pure (i:=1) (oi:=_) (v:=?_) rfl (by kernel_rfl) (fun _ _ _ h => h) (Or.inl ⟨by rfl,?_⟩) (by assumption) ?_
            rotate_left
            · intro w' hSw;go_simp;try with_reducible rfl
            try simp only [Act.put,SL]
            refine wpAnyM_pure (i:=2) (oi:=_) (v:=?_) rfl (by kernel_rfl) (fun _ _ _ h => h) (Or.inl ⟨by rfl,?_⟩) (by assumption) ?_
            rotate_left
            · intro w' hSw;go_simp;try with_reducible rfl
            try simp only [Act.put,SL]
            refine wpAnyM_pure (i:=3) (oi:=_) (v:=?_) rfl (by kernel_rfl) (fun _ _ _ h => h) (Or.inl ⟨by rfl,?_⟩) (by assumption) ?_
            rotate_left
            · intro w' hSw;go_simp;try with_reducible rfl
            try simp only [Act.put,SL]
            refine wpAnyM_pure (i:=4) (oi:=_) (v:=?_) rfl (by kernel_rfl) (fun _ _ _ h => h) (Or.inl ⟨by rfl,?_⟩) (by assumption) ?_
            rotate_left
            · intro w' hSw;go_simp;try with_reducible rfl
            try simp only [Act.put,SL]
            refine wpAnyM_pure (i:=5) (oi:=_) (v:=?_) rfl (by kernel_rfl) (fun _ _ _ h => h) (Or.inl ⟨by rfl,?_⟩) (by assumption) ?_
            rotate_left
            · intro w' hSw;go_simp;try with_reducible rfl
            try simp only [Act.put,SL]
            refine wpAnyM_pure (i:=6) (oi:=_) (v:=?_) rfl (by kernel_rfl) (fun _ _ _ h => h) (Or.inl ⟨by rfl,?_⟩) (by assumption) ?_
            rotate_left
            · intro w' hSw;go_simp;try with_reducible rfl
            try simp only [Act.put,SL]
            refine wpAnyM_pure (i:=7) (oi:=_) (v:=?_) rfl (by kernel_rfl) (fun _ _ _ h => h) (Or.inl ⟨by rfl,?_⟩) (by assumption) ?_
            rotate_left
            · intro w' hSw;go_simp;try with_reducible rfl
            try simp only [Act.put,SL]
            refine wpAnyM_pure (i:=8) (oi:=_) (v:=?_) rfl (by kernel_rfl) (fun _ _ _ h => h) (Or.inl ⟨by rfl,?_⟩) (by assumption) ?_
            rotate_left
            · intro w' hSw;go_simp;try with_reducible rfl
            try simp only [Act.put,SL]
            refine wpAnyM_take (i:=9) (oi:=_) (v:=.agg cB.toArray) 16 rfl (by kernel_rfl) (fun _ _ _ h => h) (yieldsIf_load_mid (by rfl) 62 (.tmp 45) rfl blk (B * 9) (by simp [Act.eval,Act.put]) cB _ (fun w h => h.2) Tryz.underlying62 rfl (info_Rec9 hsB)) (by assumption) ?_
            try simp only [Act.put,SL]
            refine wpAnyM_pure (i:=10) (oi:=_) (v:=?_) rfl (by kernel_rfl) (fun _ _ _ h => h) (Or.inl ⟨by rfl,?_⟩) (by assumption) ?_
            rotate_left
            · intro w' hSw;go_simp;try with_reducible rfl
            try simp only [Act.put,SL]
            refine wpAnyM_pure (i:=11) (oi:=_) (v:=?_) rfl (by kernel_rfl) (fun _ _ _ h => h) (Or.inl ⟨by rfl,?_⟩) (by assumption) ?_
            rotate_left
            · intro w' hSw;go_simp;try with_reducible rfl
            try simp only [Act.put,SL]
            refine wpAnyM_pure (i:=12) (oi:=_) (v:=?_) rfl (by kernel_rfl) (fun _ _ _ h => h) (Or.inl ⟨by rfl,?_⟩) (by assumption) ?_
            rotate_left
            · intro w' hSw;go_simp;try with_reducible rfl
            try simp only [Act.put,SL]
            refine wpAnyM_take (i:=13) (oi:=_) (v:=.agg cA.toArray) 16 rfl (by kernel_rfl) (fun _ _ _ h => h) (yieldsIf_load_mid (by rfl) 62 (.tmp 49) rfl blk (A * 9) (by simp [Act.eval,Act.put]) cA _ (fun w h => h.1) Tryz.underlying62 rfl (info_Rec9 hsA)) (by assumption) ?_
            try simp only [Act.put,SL]
            refine wpAnyM_pure (i:=14) (oi:=_) (v:=?_) rfl (by kernel_rfl) (fun _ _ _ h => h) (Or.inl ⟨by rfl,?_⟩) (by assumption) ?_
            rotate_left
            · intro w' hSw;go_simp;try with_reducible rfl
            try simp only [Act.put,SL]
            refine wpAnyM_store (i:=15) rfl (by kernel_rfl) (by kernel_rfl) rfl rfl 62 (.tmp 51) (.tmp 46) rfl blk (A * 9) cB (by simp [Act.eval]) (by simp [Act.eval]) th1 (info_Rec9 hsB) oneB ?_;refine wpAnyM_pureL (i:=16) (oi:=_) (v:=?_) rfl (by kernel_rfl) (fun _ _ _ h => h) (Or.inl ⟨by rfl,?_⟩) ?_
            rotate_left
            · intro w' hSw;go_simp;try with_reducible rfl
            try simp only [Act.put,SL]
            refine wpAnyM_store (i:=17) rfl (by kernel_rfl) (by kernel_rfl) rfl rfl 62 (.tmp 52) (.tmp 50) rfl blk (B * 9) cA (by simp [Act.eval]) (by simp [Act.eval]) th2 (info_Rec9 hsA) oneA ?_;refine wpAnyM_done (by kernel_rfl) ?_ _;go_wp2
            go_roundw
            case rel => 
              have hAB:=HAB.out;refine ⟨B,(fun k => q1 (Sym.swp A B k)),by omega,by omega,by go_num,HSW.out,HRe1.out.trans (Sym.Re.swaps q1 ⟨by omega,by omega⟩ ⟨by omega,by omega⟩),?_,?_,HC5.out.trans HSC.out⟩
              · have h1:=HDD.out
                have h2:c < 0:=by simpa using h1
                rw [HCN.out] at h2;have h4:=HIns.out;have h5:=ask_yes h2;rw [h4.at_] at h5;rw [hAB] at h4 ⊢;exact h4.step (by omega) (by omega) h5
              · intro k k1 k2 k3
                show q1 (Sym.swp A B k) < p i
                unfold Sym.swp
                by_cases c1:k = A
                · rw [if_pos c1]
                  exact HTag.out B (by omega) (by omega) (by omega)
                · rw [if_neg c1,if_neg k3]
                  exact HTag.out k k1 k2 c1
            case measure => have hAB:=HAB.out;simp [intOf];omega
    · have HNL:Hid (¬ i < b):=hlt
      have d0:decide ((i:Int) < (b:Int)) = false:=decide_eq_false (by omega);clear hlt;go_wp2
      go_end0
      refine ⟨rfl,q,HV.out,?_,?_,HC.out⟩
      · rcases hib with h | h
        · exact HRe.out.mono (Nat.le_refl _) (by have:=HNL.out;omega)
        · obtain ⟨h1,rfl⟩:=h
          exact Sym.Re.refl _ _ _
      · exact HSrt.out.sub (Nat.le_refl _) (by have:=HNL.out;omega)
end Go.Proofs.YtaioliojijikaaaGreat
namespace Go.Proofs.YtaioliojijikaaaGreat
open Go.RowKit F256
theorem rot1_step (a k x:Nat) (h:a ≤ k):Sym.rot a (a + 1) (k + 1) (Sym.swp k (k + 1) x) = Sym.rot a (a + 1) (k + 2) x:=by
  unfold Sym.rot Sym.swp
  repeat' split
  all_goals omega
theorem rot1_zero (a x:Nat):Sym.rot a (a + 1) (a + 1) x = x:=by
  unfold Sym.rot
  repeat' split
  all_goals omega
theorem merge1 {lt:Nat → Nat → Prop} (O:Sym.Ord lt) {p:Nat → Nat} {a b i:Nat} (hai:a + 1 ≤ i) (hib:i ≤ b) (h2:Sym.Srt lt p (a + 1) b) (hl:∀ k,a + 1 ≤ k → k < i → lt (p k) (p a)) (hr:∀ k,i ≤ k → k < b → lt (p a) (p k)) :
    Sym.Srt lt (fun k => p (Sym.rot a (a + 1) i k)) a b ∧ Sym.Re a b p (fun k => p (Sym.rot a (a + 1) i k)):=by
  have r1 : ∀ k, a ≤ k → k < i - 1 → Sym.rot a (a + 1) i k = k + 1 := fun k h3 h4 => by unfold Sym.rot;repeat' split
                                                                                        all_goals omega
  have r2 : Sym.rot a (a + 1) i (i - 1) = a := by unfold Sym.rot;repeat' split
                                                  all_goals omega
  have r3 : ∀ k, i ≤ k → Sym.rot a (a + 1) i k = k := fun k h3 => by unfold Sym.rot;repeat' split
                                                                     all_goals omega
  refine ⟨fun x y h3 h4 h5 => ?_,(Sym.Re.rots p (by omega) hai).mono (Nat.le_refl _) hib⟩
  show lt (p (Sym.rot a (a + 1) i x)) (p (Sym.rot a (a + 1) i y))
  by_cases c1:x < i - 1
  · rw [r1 x h3 c1]
    by_cases c2:y < i - 1
    · rw [r1 y (by omega) c2];exact h2 _ _ (by omega) (by omega) (by omega)
    · by_cases c3:y = i - 1
      · rw [c3,r2];exact hl _ (by omega) (by omega)
      · rw [r3 y (by omega)];exact h2 _ _ (by omega) (by omega) (by omega)
  · by_cases c3:x = i - 1
    · rw [c3,r2,r3 y (by omega)];exact hr _ (by omega) h5
    · rw [r3 x (by omega),r3 y (by omega)];exact h2 _ _ (by omega) h4 h5
end Go.Proofs.YtaioliojijikaaaGreat
namespace Go.Proofs.YtaioliojijikaaaGreat
open Go.RowKit F256
set_option maxHeartbeats 8000000 in
set_option maxRecDepth 1000000 in
theorem symMerge_1 (x0:Nat → RecD) (enc:Nat → List Value) (p:Nat → Nat) (N blk cap lo hi:Nat) (w:World) (V:RowsV x0 enc N blk cap lo hi w p) (hlo:hi ≤ lo) (hN:N < 1000000000) (a m b:Nat) (ham:a < m) (hmb:m < b) (hb:b ≤ N) (htag:∀ i j,a ≤ i → i < m → m ≤ j → j < b → p i < p j) (hs1:Sym.Srt (numL x0) p a m) (hs2:Sym.Srt (numL x0) p m b) (h1:m = a + 1) :
    Calls Tryz.prog 175 #[.slice (some ⟨blk,0,none⟩) N cap,.int .i64 a,.int .i64 m,.int .i64 b,.func (.func 142) #[] #[]] w (fun e w' => e = .returned (.tuple #[]) ∧ ∃ q,RowsV x0 enc N blk cap lo hi w' q ∧ Sym.Re a b p q ∧ Sym.Srt (numL x0) q a b ∧ ChgL [blk] w w'):=by
  have HV0:Hid (RowsV x0 enc N blk cap lo hi w p):=V;have HT:Hid (∀ i j,a ≤ i → i < m → m ≤ j → j < b → p i < p j):=htag;have HS2:Hid (Sym.Srt (numL x0) p m b):=hs2;have HM:Hid (m = a + 1):=h1
  have w0:IntKind.i64.wrap ((m:Int) - (a:Int)) = 1:=by rw [IntKind.wrap_i64];omega
  clear V htag hs1 hs2
  go_enter Tryz.func175,Tryz.ntmps175
  go_wp2;clear h1
  go_loopw [10,11] (fun vi vj wr => ∃ (i j:Nat),m ≤ i ∧ i ≤ j ∧ j ≤ b ∧ vi = .int .i64 i ∧ vj = .int .i64 j ∧ RowsV x0 enc N blk cap lo hi wr p ∧ (∀ k,m ≤ k → k < i → numL x0 (p k) (p a)) ∧ (∀ k,j ≤ k → k < b → numL x0 (p a) (p k)) ∧ ChgL [blk] w wr) (fun vi vj _ => (intOf vj).toNat - (intOf vi).toNat)
  case atStart => exact ⟨m,b,Nat.le_refl _,by omega,Nat.le_refl _,by go_num,by go_num,HV0.out,fun k h1 h2 => by omega,fun k h1 h2 => by omega,ChgL.refl _ _⟩
  case round =>
    obtain ⟨i,j,hmi,hij,hjb,rfl,rfl,V,hL,hR,C⟩:=hrel;have HC:Hid (ChgL [blk] w wr):=C;have HL:Hid (∀ k,m ≤ k → k < i → numL x0 (p k) (p a)):=hL;have HR:Hid (∀ k,j ≤ k → k < b → numL x0 (p a) (p k)):=hR;have HV:Hid (RowsV x0 enc N blk cap lo hi wr p):=V;clear C hL hR w0
    by_cases hlt:i < j
    · have t1:(i:Int) < (j:Int):=by omega
      obtain ⟨A,hA⟩:∃ A,A = (i + j) / 2:=⟨_,rfl⟩
      have w1:IntKind.i64.wrap ((i:Int) + (j:Int)) = ((i + j:Nat):Int):=by rw [IntKind.wrap_i64];omega
      have e1:((i:Int) + (j:Int)) / 2 = (A:Int):=by omega
      have hAi:i ≤ A:=by omega
      have hAj:A < j:=by omega
      have hAN:A < N:=by omega
      have hBN:a < N:=by omega
      have i1:(A:Int) < (N:Int):=by omega
      have i2:(a:Int) < (N:Int):=by omega
      have i3:(0:Int) ≤ (A:Int):=by omega
      have i4:(0:Int) ≤ (a:Int):=by omega
      have hsz:=(V.row.lt blk rfl);have VD:=View.drew V;have rgA:wr.drew.rangeAt blk (A * 9) (enc (p A)):=VD.range hAN;have rgB:wr.drew.rangeAt blk (a * 9) (enc (p a)):=VD.range hBN;have hsA:(enc (p A)).length = 9:=VD.lens A hAN;have hsB:(enc (p a)).length = 9:=VD.lens a hBN;have rdA:=VD.each A hAN;have rdB:=VD.each a hBN;obtain ⟨cA,hcA⟩:∃ c,c = enc (p A):=⟨_,rfl⟩;obtain ⟨cB,hcB⟩:∃ c,c = enc (p a):=⟨_,rfl⟩;rw [← hcA] at rgA hsA;rw [← hcB] at rgB hsB;have CC0:=byNumbers_is _ _ _ _ hi hi wr.drew rdA rdB;rw [← hcA,← hcB] at CC0;obtain ⟨c,hc⟩:∃ c:Int,c = numC (x0 (p A)) (x0 (p a)):=⟨_,rfl⟩;rw [← hc] at CC0;have HCN:Hid (c = numC (x0 (p A)) (x0 (p a))):=hc
      have CC:Calls Tryz.prog 142 (#[.agg cA.toArray,.agg cB.toArray] ++ #[]) wr.drew fun e w' => e = .returned (.int .i64 c) ∧ Below wr.drew.heap.size wr.drew w':=by rw [Array.append_empty];exact CC0
      have HVD:Hid (RowsV x0 enc N blk cap lo hi wr.drew p):=VD;clear CC0 hc hcA hcB rdA rdB hA VD V HV
      go_upto_region 5 with fail
      try rw [e1]
      refine wp_region_M 9 (fun w' => w'.rangeAt blk (A * 9) cA ∧ w'.rangeAt blk (a * 9) cB) mixedO ⟨rgA,rgB⟩ (fun hHeld => ?_);refine wpAnyM_pure (i:=0) (oi:=_) (v:=?_) rfl (by kernel_rfl) (fun _ _ _ h => h) (Or.inl ⟨by kernel_rfl,?_⟩) (by assumption) ?_
      rotate_left
      · intro w' hSw;go_simp;try with_reducible rfl
      try simp only [Act.put,SL]
      refine wpAnyM_pure (i:=1) (oi:=_) (v:=?_) rfl (by kernel_rfl) (fun _ _ _ h => h) (Or.inl ⟨by kernel_rfl,?_⟩) (by assumption) ?_
      rotate_left
      · intro w' hSw;go_simp;try with_reducible rfl
      try simp only [Act.put,SL]
      refine wpAnyM_pure (i:=2) (oi:=_) (v:=?_) rfl (by kernel_rfl) (fun _ _ _ h => h) (Or.inl ⟨by kernel_rfl,?_⟩) (by assumption) ?_
      rotate_left
      · intro w' hSw;go_simp;try with_reducible rfl
      try simp only [Act.put,SL]
      refine wpAnyM_pure (i:=3) (oi:=_) (v:=?_) rfl (by kernel_rfl) (fun _ _ _ h => h) (Or.inl ⟨by kernel_rfl,?_⟩) (by assumption) ?_
      rotate_left
      · intro w' hSw;go_simp;try with_reducible rfl
      try simp only [Act.put,SL]
      refine wpAnyM_take (i:=4) (oi:=_) (v:=.agg cA.toArray) 16 rfl (by kernel_rfl) (fun _ _ _ h => h) (yieldsIf_load_mid (by kernel_rfl) 62 (.tmp 43) rfl blk (A * 9) (by simp [Act.eval,Act.put]) cA _ (fun w h => h.1) Tryz.underlying62 rfl (info_Rec9 hsA)) (by assumption) ?_
      try simp only [Act.put,SL]
      refine wpAnyM_pure (i:=5) (oi:=_) (v:=?_) rfl (by kernel_rfl) (fun _ _ _ h => h) (Or.inl ⟨by kernel_rfl,?_⟩) (by assumption) ?_
      rotate_left
      · intro w' hSw;go_simp;try with_reducible rfl
      try simp only [Act.put,SL]
      refine wpAnyM_pure (i:=6) (oi:=_) (v:=?_) rfl (by kernel_rfl) (fun _ _ _ h => h) (Or.inl ⟨by kernel_rfl,?_⟩) (by assumption) ?_
      rotate_left
      · intro w' hSw;go_simp;try with_reducible rfl
      try simp only [Act.put,SL]
      refine wpAnyM_pure (i:=7) (oi:=_) (v:=?_) rfl (by kernel_rfl) (fun _ _ _ h => h) (Or.inl ⟨by kernel_rfl,?_⟩) (by assumption) ?_
      rotate_left
      · intro w' hSw;go_simp;try with_reducible rfl
      try simp only [Act.put,SL]
      refine wpAnyM_take (i:=8) (oi:=_) (v:=.agg cB.toArray) 16 rfl (by kernel_rfl) (fun _ _ _ h => h) (yieldsIf_load_mid (by kernel_rfl) 62 (.tmp 47) rfl blk (a * 9) (by simp [Act.eval,Act.put]) cB _ (fun w h => h.2) Tryz.underlying62 rfl (info_Rec9 hsB)) (by assumption) ?_
      try simp only [Act.put,SL]
      refine wpAnyM_one (i:=9) (o:=_) rfl (by kernel_rfl) (by kernel_rfl) (fun KC hKC => ?_);refine step_callv (by kernel_rfl) (.tmp 40) 142 #[] _ _ rfl (by simp [Act.eval,Act.put]) #[.agg cA.toArray,.agg cB.toArray] (by simp [Act.eval,Act.put]) Tryz.func142 (by kernel_rfl) (by kernel_rfl) CC ?_;rintro ee w5 ⟨rfl,b5⟩;refine ⟨_,rfl,?_⟩;refine hKC _ _ ?_;clear hKC KC
      try simp only [Act.put,SL]
      refine wpAnyM_pureL (i:=10) (oi:=_) (v:=?_) rfl (by kernel_rfl) (fun _ _ _ h => h) (Or.inl ⟨by kernel_rfl,?_⟩) ?_
      rotate_left
      · intro w' hSw;go_simp;try with_reducible rfl
      try simp only [Act.put,SL]
      refine wpAnyM_done (by kernel_rfl) ?_ _;have HV5:Hid (RowsV x0 enc N blk cap lo hi w5 p):=View.below HVD.out b5 (by show hi ≤ wr.heap.size;omega);have HC5:Hid (ChgL [blk] w w5):=HC.out.trans ((ChgL.of_below ⟨rfl,rfl,rfl,Nat.le_refl _,fun _ _ => rfl⟩:ChgL [blk] wr wr.drew).trans (ChgL.of_below b5));clear HVD HC rgA rgB hsA hsB b5 hHeld CC hsz;obtain ⟨dd,hdd⟩:∃ d:Bool,d = decide (c < 0):=⟨_,rfl⟩;have HDD:Hid (dd = decide (c < 0)):=hdd
      try rw [← hdd]
      clear hdd
      cases dd
      · go_wp2
        go_roundw
        case rel => 
          refine ⟨i,A,hmi,hAi,by omega,rfl,by go_num,HV5.out,HL.out,fun k k1 k2 => ?_,HC5.out⟩
          have h2:¬ c < 0:=by simpa using HDD.out
          rw [HCN.out] at h2;have h3:=ask_no (HT.out a A (Nat.le_refl _) (by have:=HM.out;omega) (by omega) (by omega)) h2
          by_cases ck:k = A
          · rw [ck];exact h3
          · exact (numL_ord x0).trans h3 (HS2.out A k (by omega) (by omega) k2)
        case measure => simp [intOf];omega
      · go_wp2
        go_roundw
        case rel =>
          refine ⟨A + 1,j,by omega,by omega,by omega,by go_num,rfl,HV5.out,fun k k1 k2 => ?_,HR.out,HC5.out⟩
          have h2:c < 0:=by simpa using HDD.out
          rw [HCN.out] at h2;have h3:=ask_yes h2
          by_cases ck:k = A
          · rw [ck];exact h3
          · exact (numL_ord x0).trans (HS2.out k A k1 (by omega) (by omega)) h3
        case measure => simp [intOf];omega
    · obtain rfl:i = j:=by omega
      obtain ⟨e,he⟩:∃ e,i = e + 1:=⟨i - 1,by omega⟩;have HE:Hid (i = e + 1):=he
      have w3:IntKind.i64.wrap ((i:Int) - 1) = (e:Int):=by rw [IntKind.wrap_i64];omega
      clear V he hij;go_wp2
      go_loopw [13] (fun vk wr => ∃ k:Nat,a ≤ k ∧ k ≤ e ∧ vk = .int .i64 k ∧ RowsV x0 enc N blk cap lo hi wr (fun x => p (Sym.rot a (a + 1) (k + 1) x)) ∧ ChgL [blk] w wr) (fun vk _ => e - (intOf vk).toNat)
      case atStart => exact ⟨a,Nat.le_refl _,by have h1:=HE.out;have h2:=HM.out;omega,by go_num,HV.out.same (fun x _ => by rw [rot1_zero]),HC.out⟩
      case round =>
        obtain ⟨A,haA,hAe,rfl,V,C⟩:=hrel;have HCr:Hid (ChgL [blk] w wr):=C;clear C
        by_cases hlt:A < e
        · have t2:(A:Int) < (e:Int):=by omega
          obtain ⟨q,hq⟩:∃ q:Nat → Nat,q = fun x => p (Sym.rot a (a + 1) (A + 1) x):=⟨_,rfl⟩;have HQ:Hid (q = fun x => p (Sym.rot a (a + 1) (A + 1) x)):=hq
          have VQ:RowsV x0 enc N blk cap lo hi wr q:=by rw [hq];exact V
          obtain ⟨B,hB⟩:∃ B,B = A + 1:=⟨_,rfl⟩;have HAB:Hid (B = A + 1):=hB
          have hAN:A < N:=by have:=HE.out;omega
          have hBN:B < N:=by have:=HE.out;omega
          have w4:IntKind.i64.wrap ((A:Int) + 1) = (B:Int):=by rw [IntKind.wrap_i64];omega
          have i1:(A:Int) < (N:Int):=by omega
          have i2:(B:Int) < (N:Int):=by omega
          have i3:(0:Int) ≤ (A:Int):=by omega
          have i4:(0:Int) ≤ (B:Int):=by omega
          have VD:=View.drew VQ;have rgA:wr.drew.rangeAt blk (A * 9) (enc (q A)):=VD.range hAN;have rgB:wr.drew.rangeAt blk (B * 9) (enc (q B)):=VD.range hBN;have hsA:(enc (q A)).length = 9:=VD.lens A hAN;have hsB:(enc (q B)).length = 9:=VD.lens B hBN
          have th1:wr.drew.there blk (A * 9) (enc (q B)).length:=by rw [hsB];exact VD.there hAN
          have th2:(wr.drew.setCells blk (A * 9) (enc (q B))).there blk (B * 9) (enc (q A)).length:=by rw [hsA];exact (VD.put (by decide) hlo hAN (VD.each B hBN)).there hBN
          have oneA:=rdOne_rec _ _ _ _ (VD.each A hAN);have oneB:=rdOne_rec _ _ _ _ (VD.each B hBN);have SW:=view_swap VD hlo hAN hBN;have HSW:Hid (RowsV x0 enc N blk cap lo hi ((wr.drew.setCells blk (A * 9) (enc (q B))).setCells blk (B * 9) (enc (q A))) (fun k => q (Sym.swp A B k))):=SW.1;have HSC:Hid (ChgL [blk] wr ((wr.drew.setCells blk (A * 9) (enc (q B))).setCells blk (B * 9) (enc (q A)))):=(ChgL.of_below ⟨rfl,rfl,rfl,Nat.le_refl _,fun _ _ => rfl⟩:ChgL [blk] wr wr.drew).trans SW.2;obtain ⟨cA,hcA⟩:∃ c,c = enc (q A):=⟨_,rfl⟩;obtain ⟨cB,hcB⟩:∃ c,c = enc (q B):=⟨_,rfl⟩;rw [← hcA] at rgA th2 hsA oneA HSW HSC;rw [← hcB] at rgB th1 th2 hsB oneB HSW HSC;clear hcA hcB VD SW;clear hq hB V VQ
          go_upto_region 11 with fail
          refine wp_region_M 15 (fun w' => w'.rangeAt blk (A * 9) cA ∧ w'.rangeAt blk (B * 9) cB) mixedO ⟨rgA,rgB⟩ (fun hHeld => ?_);refine wpAnyM_pure (i:=0) (oi:=_) (v:=?_) rfl (by kernel_rfl) (fun _ _ _ h => h) (Or.inl ⟨by rfl,?_⟩) (by assumption) ?_
          rotate_left
          · intro w' hSw;go_simp;try with_reducible rfl
          try simp only [Act.put,SL]
          refine wpAnyM_pure (i:=1) (oi:=_) (v:=?_) rfl (by kernel_rfl) (fun _ _ _ h => h) (Or.inl ⟨by rfl,?_⟩) (by assumption) ?_
          rotate_left
          · intro w' hSw;go_simp;try with_reducible rfl
          try simp only [Act.put,SL]
          refine wpAnyM_pure (i:=2) (oi:=_) (v:=?_) rfl (by kernel_rfl) (fun _ _ _ h => h) (Or.inl ⟨by rfl,?_⟩) (by assumption) ?_
          rotate_left
          · intro w' hSw;go_simp;try with_reducible rfl
          try simp only [Act.put,SL]
          refine wpAnyM_pure (i:=3) (oi:=_) (v:=?_) rfl (by kernel_rfl) (fun _ _ _ h => h) (Or.inl ⟨by rfl,?_⟩) (by assumption) ?_
          rotate_left
          · intro w' hSw;go_simp;try with_reducible rfl
          try simp only [Act.put,SL]
          refine wpAnyM_pure (i:=4) (oi:=_) (v:=?_) rfl (by kernel_rfl) (fun _ _ _ h => h) (Or.inl ⟨by rfl,?_⟩) (by assumption) ?_
          rotate_left
          · intro w' hSw;go_simp;try with_reducible rfl
          try simp only [Act.put,SL]
          refine wpAnyM_pure (i:=5) (oi:=_) (v:=?_) rfl (by kernel_rfl) (fun _ _ _ h => h) (Or.inl ⟨by rfl,?_⟩) (by assumption) ?_
          rotate_left
          · intro w' hSw;go_simp;try with_reducible rfl
          try simp only [Act.put,SL]
          refine wpAnyM_pure (i:=6) (oi:=_) (v:=?_) rfl (by kernel_rfl) (fun _ _ _ h => h) (Or.inl ⟨by rfl,?_⟩) (by assumption) ?_
          rotate_left
          · intro w' hSw;go_simp;try with_reducible rfl
          try simp only [Act.put,SL]
          refine wpAnyM_pure (i:=7) (oi:=_) (v:=?_) rfl (by kernel_rfl) (fun _ _ _ h => h) (Or.inl ⟨by rfl,?_⟩) (by assumption) ?_
          rotate_left
          · intro w' hSw;go_simp;try with_reducible rfl
          try simp only [Act.put,SL]
          refine wpAnyM_pure (i:=8) (oi:=_) (v:=?_) rfl (by kernel_rfl) (fun _ _ _ h => h) (Or.inl ⟨by rfl,?_⟩) (by assumption) ?_
          rotate_left
          · intro w' hSw;go_simp;try with_reducible rfl
          try simp only [Act.put,SL]
          refine wpAnyM_take (i:=9) (oi:=_) (v:=.agg cB.toArray) 16 rfl (by kernel_rfl) (fun _ _ _ h => h) (yieldsIf_load_mid (by rfl) 62 (.tmp 69) rfl blk (B * 9) (by simp [Act.eval,Act.put]) cB _ (fun w h => h.2) Tryz.underlying62 rfl (info_Rec9 hsB)) (by assumption) ?_
          try simp only [Act.put,SL]
          refine wpAnyM_pure (i:=10) (oi:=_) (v:=?_) rfl (by kernel_rfl) (fun _ _ _ h => h) (Or.inl ⟨by rfl,?_⟩) (by assumption) ?_
          rotate_left
          · intro w' hSw;go_simp;try with_reducible rfl
          try simp only [Act.put,SL]
          refine wpAnyM_pure (i:=11) (oi:=_) (v:=?_) rfl (by kernel_rfl) (fun _ _ _ h => h) (Or.inl ⟨by rfl,?_⟩) (by assumption) ?_
          rotate_left
          · intro w' hSw;go_simp;try with_reducible rfl
          try simp only [Act.put,SL]
          refine wpAnyM_pure (i:=12) (oi:=_) (v:=?_) rfl (by kernel_rfl) (fun _ _ _ h => h) (Or.inl ⟨by rfl,?_⟩) (by assumption) ?_
          rotate_left
          · intro w' hSw;go_simp;try with_reducible rfl
          try simp only [Act.put,SL]
          refine wpAnyM_take (i:=13) (oi:=_) (v:=.agg cA.toArray) 16 rfl (by kernel_rfl) (fun _ _ _ h => h) (yieldsIf_load_mid (by rfl) 62 (.tmp 73) rfl blk (A * 9) (by simp [Act.eval,Act.put]) cA _ (fun w h => h.1) Tryz.underlying62 rfl (info_Rec9 hsA)) (by assumption) ?_
          try simp only [Act.put,SL]
          refine wpAnyM_pure (i:=14) (oi:=_) (v:=?_) rfl (by kernel_rfl) (fun _ _ _ h => h) (Or.inl ⟨by rfl,?_⟩) (by assumption) ?_
          rotate_left
          · intro w' hSw;go_simp;try with_reducible rfl
          try simp only [Act.put,SL]
          refine wpAnyM_store (i:=15) rfl (by kernel_rfl) (by kernel_rfl) rfl rfl 62 (.tmp 75) (.tmp 70) rfl blk (A * 9) cB (by simp [Act.eval]) (by simp [Act.eval]) th1 (info_Rec9 hsB) oneB ?_;refine wpAnyM_pureL (i:=16) (oi:=_) (v:=?_) rfl (by kernel_rfl) (fun _ _ _ h => h) (Or.inl ⟨by rfl,?_⟩) ?_
          rotate_left
          · intro w' hSw;go_simp;try with_reducible rfl
          try simp only [Act.put,SL]
          refine wpAnyM_store (i:=17) rfl (by kernel_rfl) (by kernel_rfl) rfl rfl 62 (.tmp 76) (.tmp 74) rfl blk (B * 9) cA (by simp [Act.eval]) (by simp [Act.eval]) th2 (info_Rec9 hsA) oneA ?_;refine wpAnyM_done (by kernel_rfl) ?_ _;go_wp2
          go_roundw
          case rel =>
            have hAB:=HAB.out
            have e9:∀ x,q (Sym.swp A B x) = p (Sym.rot a (a + 1) (B + 1) x):=fun x => by
              rw [HQ.out,hAB]
              show p (Sym.rot a (a + 1) (A + 1) (Sym.swp A (A + 1) x)) = _
              rw [rot1_step a A x haA]
            exact ⟨B,by omega,by omega,by go_num,HSW.out.same (fun x _ => e9 x),HCr.out.trans HSC.out⟩
          case measure => have hAB:=HAB.out;simp [intOf];omega
        · obtain rfl:A = e:=by omega
          have HVA:Hid (RowsV x0 enc N blk cap lo hi wr (fun x => p (Sym.rot a (a + 1) (A + 1) x))):=V;clear V;go_wp2;refine bodyPost_ret (results_none rfl _ _ _) rfl ?_;have hm:=HM.out;have he:=HE.out;have h2:=HS2.out;rw [hm] at h2;have M:=merge1 (numL_ord x0) (p:=p) (a:=a) (b:=b) (i:=A + 1) (by omega) (by omega) h2 (fun k h3 h4 => HL.out k (by omega) (by omega)) (fun k h3 h4 => HR.out k (by omega) h4);exact ⟨rfl,_,HVA.out,M.2,M.1,HCr.out⟩
end Go.Proofs.YtaioliojijikaaaGreat
namespace Go.Proofs.YtaioliojijikaaaGreat
open Go.RowKit F256
theorem rot2_step (m k x:Nat) (h:k + 1 ≤ m):Sym.rot (k + 1) m (m + 1) (Sym.swp (k + 1) k x) = Sym.rot k m (m + 1) x:=by
  unfold Sym.rot Sym.swp
  repeat' split
  all_goals omega
theorem rot2_zero (m x:Nat):Sym.rot m m (m + 1) x = x:=by
  unfold Sym.rot
  repeat' split
  all_goals omega
theorem merge2 {lt:Nat → Nat → Prop} {p:Nat → Nat} {a m i:Nat} (hai:a ≤ i) (him:i ≤ m) (h1:Sym.Srt lt p a m) (hl:∀ k,a ≤ k → k < i → lt (p k) (p m)) (hr:∀ k,i ≤ k → k < m → lt (p m) (p k)) :
    Sym.Srt lt (fun k => p (Sym.rot i m (m + 1) k)) a (m + 1) ∧ Sym.Re a (m + 1) p (fun k => p (Sym.rot i m (m + 1) k)):=by
  have r1 : ∀ k, i < k → k ≤ m → Sym.rot i m (m + 1) k = k - 1 := fun k h3 h4 => by unfold Sym.rot;repeat' split
                                                                                    all_goals omega
  have r2 : Sym.rot i m (m + 1) i = m := by unfold Sym.rot;repeat' split
                                            all_goals omega
  have r3 : ∀ k, k < i → Sym.rot i m (m + 1) k = k := fun k h3 => by unfold Sym.rot;repeat' split
                                                                     all_goals omega
  refine ⟨fun x y h3 h4 h5 => ?_,(Sym.Re.rots p him (by omega)).mono hai (Nat.le_refl _)⟩
  show lt (p (Sym.rot i m (m + 1) x)) (p (Sym.rot i m (m + 1) y))
  by_cases c1:x < i
  · rw [r3 x c1]
    by_cases c2:y < i
    · rw [r3 y c2];exact h1 _ _ (by omega) (by omega) (by omega)
    · by_cases c3:y = i
      · rw [c3,r2];exact hl _ h3 c1
      · rw [r1 y (by omega) (by omega)];exact h1 _ _ (by omega) (by omega) (by omega)
  · by_cases c3:x = i
    · rw [c3,r2,r1 y (by omega) (by omega)];exact hr _ (by omega) (by omega)
    · rw [r1 x (by omega) (by omega),r1 y (by omega) (by omega)];exact h1 _ _ (by omega) (by omega) (by omega)
set_option maxHeartbeats 8000000 in
set_option maxRecDepth 1000000 in
theorem symMerge_2 (x0:Nat → RecD) (enc:Nat → List Value) (p:Nat → Nat) (N blk cap lo hi:Nat) (w:World) (V:RowsV x0 enc N blk cap lo hi w p) (hlo:hi ≤ lo) (hN:N < 1000000000) (a m b:Nat) (ham:a < m) (hmb:m < b) (hb:b ≤ N) (htag:∀ i j,a ≤ i → i < m → m ≤ j → j < b → p i < p j) (hs1:Sym.Srt (numL x0) p a m) (hs2:Sym.Srt (numL x0) p m b) (h0:m ≠ a + 1) (h1:b = m + 1) :
    Calls Tryz.prog 175 #[.slice (some ⟨blk,0,none⟩) N cap,.int .i64 a,.int .i64 m,.int .i64 b,.func (.func 142) #[] #[]] w (fun e w' => e = .returned (.tuple #[]) ∧ ∃ q,RowsV x0 enc N blk cap lo hi w' q ∧ Sym.Re a b p q ∧ Sym.Srt (numL x0) q a b ∧ ChgL [blk] w w'):=by
  have HV0:Hid (RowsV x0 enc N blk cap lo hi w p):=V;have HT:Hid (∀ i j,a ≤ i → i < m → m ≤ j → j < b → p i < p j):=htag;have HS1:Hid (Sym.Srt (numL x0) p a m):=hs1;have HM:Hid (b = m + 1):=h1;obtain ⟨D,hD⟩:∃ D,D = m - a:=⟨_,rfl⟩
  have w0:IntKind.i64.wrap ((m:Int) - (a:Int)) = (D:Int):=by rw [IntKind.wrap_i64];omega
  have d0:((D:Int) == 1) = false:=by simp;omega
  have w9:IntKind.i64.wrap ((b:Int) - (m:Int)) = 1:=by rw [IntKind.wrap_i64];omega
  clear V htag hs1 hs2 h0 h1 hD
  go_enter Tryz.func175,Tryz.ntmps175
  go_wp2
  go_loopw [14,15] (fun vi vj wr => ∃ (i j:Nat),a ≤ i ∧ i ≤ j ∧ j ≤ m ∧ vi = .int .i64 i ∧ vj = .int .i64 j ∧ RowsV x0 enc N blk cap lo hi wr p ∧ (∀ k,a ≤ k → k < i → numL x0 (p k) (p m)) ∧ (∀ k,j ≤ k → k < m → numL x0 (p m) (p k)) ∧ ChgL [blk] w wr) (fun vi vj _ => (intOf vj).toNat - (intOf vi).toNat)
  case atStart => exact ⟨a,m,Nat.le_refl _,by omega,Nat.le_refl _,by go_num,by go_num,HV0.out,fun k h1 h2 => by omega,fun k h1 h2 => by omega,ChgL.refl _ _⟩
  case round =>
    obtain ⟨i,j,hmi,hij,hjb,rfl,rfl,V,hL,hR,C⟩:=hrel;have HC:Hid (ChgL [blk] w wr):=C;have HL:Hid (∀ k,a ≤ k → k < i → numL x0 (p k) (p m)):=hL;have HR:Hid (∀ k,j ≤ k → k < m → numL x0 (p m) (p k)):=hR;have HV:Hid (RowsV x0 enc N blk cap lo hi wr p):=V;clear C hL hR w0 w9 d0
    by_cases hlt:i < j
    · have t1:(i:Int) < (j:Int):=by omega
      obtain ⟨B,hB⟩:∃ B,B = (i + j) / 2:=⟨_,rfl⟩
      have w1:IntKind.i64.wrap ((i:Int) + (j:Int)) = ((i + j:Nat):Int):=by rw [IntKind.wrap_i64];omega
      have e1:((i:Int) + (j:Int)) / 2 = (B:Int):=by omega
      have hBi:i ≤ B:=by omega
      have hBj:B < j:=by omega
      have hAN:m < N:=by omega
      have hBN:B < N:=by omega
      have i1:(m:Int) < (N:Int):=by omega
      have i2:(B:Int) < (N:Int):=by omega
      have i3:(0:Int) ≤ (m:Int):=by omega
      have i4:(0:Int) ≤ (B:Int):=by omega
      have hsz:=(V.row.lt blk rfl);have VD:=View.drew V;have rgA:wr.drew.rangeAt blk (m * 9) (enc (p m)):=VD.range hAN;have rgB:wr.drew.rangeAt blk (B * 9) (enc (p B)):=VD.range hBN;have hsA:(enc (p m)).length = 9:=VD.lens m hAN;have hsB:(enc (p B)).length = 9:=VD.lens B hBN;have rdA:=VD.each m hAN;have rdB:=VD.each B hBN;obtain ⟨cA,hcA⟩:∃ c,c = enc (p m):=⟨_,rfl⟩;obtain ⟨cB,hcB⟩:∃ c,c = enc (p B):=⟨_,rfl⟩;rw [← hcA] at rgA hsA;rw [← hcB] at rgB hsB;have CC0:=byNumbers_is _ _ _ _ hi hi wr.drew rdA rdB;rw [← hcA,← hcB] at CC0;obtain ⟨c,hc⟩:∃ c:Int,c = numC (x0 (p m)) (x0 (p B)):=⟨_,rfl⟩;rw [← hc] at CC0;have HCN:Hid (c = numC (x0 (p m)) (x0 (p B))):=hc
      have CC:Calls Tryz.prog 142 (#[.agg cA.toArray,.agg cB.toArray] ++ #[]) wr.drew fun e w' => e = .returned (.int .i64 c) ∧ Below wr.drew.heap.size wr.drew w':=by rw [Array.append_empty];exact CC0
      have HVD:Hid (RowsV x0 enc N blk cap lo hi wr.drew p):=VD;clear CC0 hc hcA hcB rdA rdB hB VD V HV
      go_upto_region 17 with fail
      try rw [e1]
      refine wp_region_M 9 (fun w' => w'.rangeAt blk (m * 9) cA ∧ w'.rangeAt blk (B * 9) cB) mixedO ⟨rgA,rgB⟩ (fun hHeld => ?_);refine wpAnyM_pure (i:=0) (oi:=_) (v:=?_) rfl (by kernel_rfl) (fun _ _ _ h => h) (Or.inl ⟨by kernel_rfl,?_⟩) (by assumption) ?_
      rotate_left
      · intro w' hSw;go_simp;try with_reducible rfl
      try simp only [Act.put,SL]
      refine wpAnyM_pure (i:=1) (oi:=_) (v:=?_) rfl (by kernel_rfl) (fun _ _ _ h => h) (Or.inl ⟨by kernel_rfl,?_⟩) (by assumption) ?_
      rotate_left
      · intro w' hSw;go_simp;try with_reducible rfl
      try simp only [Act.put,SL]
      refine wpAnyM_pure (i:=2) (oi:=_) (v:=?_) rfl (by kernel_rfl) (fun _ _ _ h => h) (Or.inl ⟨by kernel_rfl,?_⟩) (by assumption) ?_
      rotate_left
      · intro w' hSw;go_simp;try with_reducible rfl
      try simp only [Act.put,SL]
      refine wpAnyM_pure (i:=3) (oi:=_) (v:=?_) rfl (by kernel_rfl) (fun _ _ _ h => h) (Or.inl ⟨by kernel_rfl,?_⟩) (by assumption) ?_
      rotate_left
      · intro w' hSw;go_simp;try with_reducible rfl
      try simp only [Act.put,SL]
      refine wpAnyM_take (i:=4) (oi:=_) (v:=.agg cA.toArray) 16 rfl (by kernel_rfl) (fun _ _ _ h => h) (yieldsIf_load_mid (by kernel_rfl) 62 (.tmp 95) rfl blk (m * 9) (by simp [Act.eval,Act.put]) cA _ (fun w h => h.1) Tryz.underlying62 rfl (info_Rec9 hsA)) (by assumption) ?_
      try simp only [Act.put,SL]
      refine wpAnyM_pure (i:=5) (oi:=_) (v:=?_) rfl (by kernel_rfl) (fun _ _ _ h => h) (Or.inl ⟨by kernel_rfl,?_⟩) (by assumption) ?_
      rotate_left
      · intro w' hSw;go_simp;try with_reducible rfl
      try simp only [Act.put,SL]
      refine wpAnyM_pure (i:=6) (oi:=_) (v:=?_) rfl (by kernel_rfl) (fun _ _ _ h => h) (Or.inl ⟨by kernel_rfl,?_⟩) (by assumption) ?_
      rotate_left
      · intro w' hSw;go_simp;try with_reducible rfl
      try simp only [Act.put,SL]
      refine wpAnyM_pure (i:=7) (oi:=_) (v:=?_) rfl (by kernel_rfl) (fun _ _ _ h => h) (Or.inl ⟨by kernel_rfl,?_⟩) (by assumption) ?_
      rotate_left
      · intro w' hSw;go_simp;try with_reducible rfl
      try simp only [Act.put,SL]
      refine wpAnyM_take (i:=8) (oi:=_) (v:=.agg cB.toArray) 16 rfl (by kernel_rfl) (fun _ _ _ h => h) (yieldsIf_load_mid (by kernel_rfl) 62 (.tmp 99) rfl blk (B * 9) (by simp [Act.eval,Act.put]) cB _ (fun w h => h.2) Tryz.underlying62 rfl (info_Rec9 hsB)) (by assumption) ?_
      try simp only [Act.put,SL]
      refine wpAnyM_one (i:=9) (o:=_) rfl (by kernel_rfl) (by kernel_rfl) (fun KC hKC => ?_);refine step_callv (by kernel_rfl) (.tmp 92) 142 #[] _ _ rfl (by simp [Act.eval,Act.put]) #[.agg cA.toArray,.agg cB.toArray] (by simp [Act.eval,Act.put]) Tryz.func142 (by kernel_rfl) (by kernel_rfl) CC ?_;rintro ee w5 ⟨rfl,b5⟩;refine ⟨_,rfl,?_⟩;refine hKC _ _ ?_;clear hKC KC
      try simp only [Act.put,SL]
      refine wpAnyM_pureL (i:=10) (oi:=_) (v:=?_) rfl (by kernel_rfl) (fun _ _ _ h => h) (Or.inl ⟨by kernel_rfl,?_⟩) ?_
      rotate_left
      · intro w' hSw;go_simp;try with_reducible rfl
      try simp only [Act.put,SL]
      obtain ⟨dd,hdd⟩:∃ d:Bool,d = decide (c < 0):=⟨_,rfl⟩;have HDD:Hid (dd = decide (c < 0)):=hdd;rw [← hdd];clear hdd;refine wpAnyM_pureL (i:=11) (oi:=_) (v:=?_) rfl (by kernel_rfl) (fun _ _ _ h => h) (Or.inl ⟨by kernel_rfl,?_⟩) ?_
      rotate_left
      · intro w' hSw;go_simp;try with_reducible rfl
      try simp only [Act.put,SL]
      refine wpAnyM_done (by kernel_rfl) ?_ _;have HV5:Hid (RowsV x0 enc N blk cap lo hi w5 p):=View.below HVD.out b5 (by show hi ≤ wr.heap.size;omega);have HC5:Hid (ChgL [blk] w w5):=HC.out.trans ((ChgL.of_below ⟨rfl,rfl,rfl,Nat.le_refl _,fun _ _ => rfl⟩:ChgL [blk] wr wr.drew).trans (ChgL.of_below b5));clear HVD HC rgA rgB hsA hsB b5 hHeld CC hsz
      cases dd
      · go_wp2
        go_roundw
        case rel =>
          refine ⟨B + 1,j,by omega,by omega,by omega,by go_num,rfl,HV5.out,fun k k1 k2 => ?_,HR.out,HC5.out⟩
          have h2:¬ c < 0:=by simpa using HDD.out
          rw [HCN.out] at h2;have h3:=ask_no (HT.out B m (by omega) (by omega) (Nat.le_refl _) (by omega)) h2
          by_cases ck:k = B
          · rw [ck];exact h3
          · exact (numL_ord x0).trans (HS1.out k B k1 (by omega) (by omega)) h3
        case measure => simp [intOf];omega
      · go_wp2
        go_roundw
        case rel =>
          refine ⟨i,B,hmi,hBi,by omega,rfl,by go_num,HV5.out,HL.out,fun k k1 k2 => ?_,HC5.out⟩
          have h2:c < 0:=by simpa using HDD.out
          rw [HCN.out] at h2;have h3:=ask_yes h2
          by_cases ck:k = B
          · rw [ck];exact h3
          · exact (numL_ord x0).trans h3 (HS1.out B k (by omega) (by omega) k2)
        case measure => simp [intOf];omega
    · obtain rfl:i = j:=by omega
      clear V hij;go_wp2
      go_loopw [17] (fun vk wr => ∃ k:Nat,i ≤ k ∧ k ≤ m ∧ vk = .int .i64 k ∧ RowsV x0 enc N blk cap lo hi wr (fun x => p (Sym.rot k m (m + 1) x)) ∧ ChgL [blk] w wr) (fun vk _ => (intOf vk).toNat)
      case atStart => exact ⟨m,hjb,Nat.le_refl _,by go_num,HV.out.same (fun x _ => by rw [rot2_zero]),HC.out⟩
      case round =>
        obtain ⟨A,haA,hAe,rfl,V,C⟩:=hrel;have HCr:Hid (ChgL [blk] w wr):=C;clear C
        by_cases hlt:i < A
        · have t2:(i:Int) < (A:Int):=by omega
          obtain ⟨q,hq⟩:∃ q:Nat → Nat,q = fun x => p (Sym.rot A m (m + 1) x):=⟨_,rfl⟩;have HQ:Hid (q = fun x => p (Sym.rot A m (m + 1) x)):=hq
          have VQ:RowsV x0 enc N blk cap lo hi wr q:=by rw [hq];exact V
          obtain ⟨B,hB⟩:∃ B,A = B + 1:=⟨A - 1,by omega⟩;have HAB:Hid (A = B + 1):=hB
          have hAN:A < N:=by omega
          have hBN:B < N:=by omega
          have w4:IntKind.i64.wrap ((A:Int) - 1) = (B:Int):=by rw [IntKind.wrap_i64];omega
          have i1:(A:Int) < (N:Int):=by omega
          have i2:(B:Int) < (N:Int):=by omega
          have i3:(0:Int) ≤ (A:Int):=by omega
          have i4:(0:Int) ≤ (B:Int):=by omega
          have VD:=View.drew VQ;have rgA:wr.drew.rangeAt blk (A * 9) (enc (q A)):=VD.range hAN;have rgB:wr.drew.rangeAt blk (B * 9) (enc (q B)):=VD.range hBN;have hsA:(enc (q A)).length = 9:=VD.lens A hAN;have hsB:(enc (q B)).length = 9:=VD.lens B hBN
          have th1:wr.drew.there blk (A * 9) (enc (q B)).length:=by rw [hsB];exact VD.there hAN
          have th2:(wr.drew.setCells blk (A * 9) (enc (q B))).there blk (B * 9) (enc (q A)).length:=by rw [hsA];exact (VD.put (by decide) hlo hAN (VD.each B hBN)).there hBN
          have oneA:=rdOne_rec _ _ _ _ (VD.each A hAN);have oneB:=rdOne_rec _ _ _ _ (VD.each B hBN);have SW:=view_swap VD hlo hAN hBN;have HSW:Hid (RowsV x0 enc N blk cap lo hi ((wr.drew.setCells blk (A * 9) (enc (q B))).setCells blk (B * 9) (enc (q A))) (fun k => q (Sym.swp A B k))):=SW.1;have HSC:Hid (ChgL [blk] wr ((wr.drew.setCells blk (A * 9) (enc (q B))).setCells blk (B * 9) (enc (q A)))):=(ChgL.of_below ⟨rfl,rfl,rfl,Nat.le_refl _,fun _ _ => rfl⟩:ChgL [blk] wr wr.drew).trans SW.2;obtain ⟨cA,hcA⟩:∃ c,c = enc (q A):=⟨_,rfl⟩;obtain ⟨cB,hcB⟩:∃ c,c = enc (q B):=⟨_,rfl⟩;rw [← hcA] at rgA th2 hsA oneA HSW HSC;rw [← hcB] at rgB th1 th2 hsB oneB HSW HSC;clear hcA hcB VD SW;clear hq hB V VQ
          go_upto_region 23 with fail
          refine wp_region_M 15 (fun w' => w'.rangeAt blk (A * 9) cA ∧ w'.rangeAt blk (B * 9) cB) mixedO ⟨rgA,rgB⟩ (fun hHeld => ?_);refine wpAnyM_pure (i:=0) (oi:=_) (v:=?_) rfl (by kernel_rfl) (fun _ _ _ h => h) (Or.inl ⟨by rfl,?_⟩) (by assumption) ?_
          rotate_left
          · intro w' hSw;go_simp;try with_reducible rfl
          try simp only [Act.put,SL]
          refine wpAnyM_pure (i:=1) (oi:=_) (v:=?_) rfl (by kernel_rfl) (fun _ _ _ h => h) (Or.inl ⟨by rfl,?_⟩) (by assumption) ?_
          rotate_left
          · intro w' hSw;go_simp;try with_reducible rfl
          try simp only [Act.put,SL]
          refine wpAnyM_pure (i:=2) (oi:=_) (v:=?_) rfl (by kernel_rfl) (fun _ _ _ h => h) (Or.inl ⟨by rfl,?_⟩) (by assumption) ?_
          rotate_left
          · intro w' hSw;go_simp;try with_reducible rfl
          try simp only [Act.put,SL]
          refine wpAnyM_pure (i:=3) (oi:=_) (v:=?_) rfl (by kernel_rfl) (fun _ _ _ h => h) (Or.inl ⟨by rfl,?_⟩) (by assumption) ?_
          rotate_left
          · intro w' hSw;go_simp;try with_reducible rfl
          try simp only [Act.put,SL]
          refine wpAnyM_pure (i:=4) (oi:=_) (v:=?_) rfl (by kernel_rfl) (fun _ _ _ h => h) (Or.inl ⟨by rfl,?_⟩) (by assumption) ?_
          rotate_left
          · intro w' hSw;go_simp;try with_reducible rfl
          try simp only [Act.put,SL]
          refine wpAnyM_pure (i:=5) (oi:=_) (v:=?_) rfl (by kernel_rfl) (fun _ _ _ h => h) (Or.inl ⟨by rfl,?_⟩) (by assumption) ?_
          rotate_left
          · intro w' hSw;go_simp;try with_reducible rfl
          try simp only [Act.put,SL]
          refine wpAnyM_pure (i:=6) (oi:=_) (v:=?_) rfl (by kernel_rfl) (fun _ _ _ h => h) (Or.inl ⟨by rfl,?_⟩) (by assumption) ?_
          rotate_left
          · intro w' hSw;go_simp;try with_reducible rfl
          try simp only [Act.put,SL]
          refine wpAnyM_pure (i:=7) (oi:=_) (v:=?_) rfl (by kernel_rfl) (fun _ _ _ h => h) (Or.inl ⟨by rfl,?_⟩) (by assumption) ?_
          rotate_left
          · intro w' hSw;go_simp;try with_reducible rfl
          try simp only [Act.put,SL]
          refine wpAnyM_pure (i:=8) (oi:=_) (v:=?_) rfl (by kernel_rfl) (fun _ _ _ h => h) (Or.inl ⟨by rfl,?_⟩) (by assumption) ?_
          rotate_left
          · intro w' hSw;go_simp;try with_reducible rfl
          try simp only [Act.put,SL]
          refine wpAnyM_take (i:=9) (oi:=_) (v:=.agg cB.toArray) 16 rfl (by kernel_rfl) (fun _ _ _ h => h) (yieldsIf_load_mid (by rfl) 62 (.tmp 121) rfl blk (B * 9) (by simp [Act.eval,Act.put]) cB _ (fun w h => h.2) Tryz.underlying62 rfl (info_Rec9 hsB)) (by assumption) ?_
          try simp only [Act.put,SL]
          refine wpAnyM_pure (i:=10) (oi:=_) (v:=?_) rfl (by kernel_rfl) (fun _ _ _ h => h) (Or.inl ⟨by rfl,?_⟩) (by assumption) ?_
          rotate_left
          · intro w' hSw;go_simp;try with_reducible rfl
          try simp only [Act.put,SL]
          refine wpAnyM_pure (i:=11) (oi:=_) (v:=?_) rfl (by kernel_rfl) (fun _ _ _ h => h) (Or.inl ⟨by rfl,?_⟩) (by assumption) ?_
          rotate_left
          · intro w' hSw;go_simp;try with_reducible rfl
          try simp only [Act.put,SL]
          refine wpAnyM_pure (i:=12) (oi:=_) (v:=?_) rfl (by kernel_rfl) (fun _ _ _ h => h) (Or.inl ⟨by rfl,?_⟩) (by assumption) ?_
          rotate_left
          · intro w' hSw;go_simp;try with_reducible rfl
          try simp only [Act.put,SL]
          refine wpAnyM_take (i:=13) (oi:=_) (v:=.agg cA.toArray) 16 rfl (by kernel_rfl) (fun _ _ _ h => h) (yieldsIf_load_mid (by rfl) 62 (.tmp 125) rfl blk (A * 9) (by simp [Act.eval,Act.put]) cA _ (fun w h => h.1) Tryz.underlying62 rfl (info_Rec9 hsA)) (by assumption) ?_
          try simp only [Act.put,SL]
          refine wpAnyM_pure (i:=14) (oi:=_) (v:=?_) rfl (by kernel_rfl) (fun _ _ _ h => h) (Or.inl ⟨by rfl,?_⟩) (by assumption) ?_
          rotate_left
          · intro w' hSw;go_simp;try with_reducible rfl
          try simp only [Act.put,SL]
          refine wpAnyM_store (i:=15) rfl (by kernel_rfl) (by kernel_rfl) rfl rfl 62 (.tmp 127) (.tmp 122) rfl blk (A * 9) cB (by simp [Act.eval]) (by simp [Act.eval]) th1 (info_Rec9 hsB) oneB ?_;refine wpAnyM_pureL (i:=16) (oi:=_) (v:=?_) rfl (by kernel_rfl) (fun _ _ _ h => h) (Or.inl ⟨by rfl,?_⟩) ?_
          rotate_left
          · intro w' hSw;go_simp;try with_reducible rfl
          try simp only [Act.put,SL]
          refine wpAnyM_store (i:=17) rfl (by kernel_rfl) (by kernel_rfl) rfl rfl 62 (.tmp 128) (.tmp 126) rfl blk (B * 9) cA (by simp [Act.eval]) (by simp [Act.eval]) th2 (info_Rec9 hsA) oneA ?_;refine wpAnyM_done (by kernel_rfl) ?_ _;go_wp2
          go_roundw
          case rel =>
            have hAB:=HAB.out
            have e9:∀ x,q (Sym.swp A B x) = p (Sym.rot B m (m + 1) x):=fun x => by
              rw [HQ.out,hAB]
              show p (Sym.rot (B + 1) m (m + 1) (Sym.swp (B + 1) B x)) = _
              rw [rot2_step m B x (by omega)]
            exact ⟨B,by omega,by omega,by go_num,HSW.out.same (fun x _ => e9 x),HCr.out.trans HSC.out⟩
          case measure => have hAB:=HAB.out;simp [intOf];omega
        · obtain rfl:A = i:=by omega
          have HVA:Hid (RowsV x0 enc N blk cap lo hi wr (fun x => p (Sym.rot A m (m + 1) x))):=V;clear V;go_wp2;refine bodyPost_ret (results_none rfl _ _ _) rfl ?_;have M:=merge2 (p:=p) (a:=a) (m:=m) (i:=A) hmi (by omega) HS1.out (fun k h3 h4 => HL.out k h3 h4) (fun k h3 h4 => HR.out k h3 h4);rw [← HM.out] at M;exact ⟨rfl,_,by rw [← HM.out] at HVA;exact HVA.out,M.2,M.1,HCr.out⟩
end Go.Proofs.YtaioliojijikaaaGreat