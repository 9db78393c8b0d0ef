/- What CountedRecs tells, and how much it is. -/
import Derived.Test.YtfoidpcoiankoaaGreatZPfreerae
import Derived.Test.YtfoidpcoiankoaaGreatZPfreeraf
import Derived.Test.YtfoidpcoiankoaaGreatZPfreerag
import Derived.Test.YtfoidpcoiankoaaGreatZPfreerac
import Derived.Test.YtfoidpcoiankoaaGreatZPfreerad
import Derived.Deep.DeepCutAuto
import Derived.Deep.RegionLaw
import Derived.Test.YtfoidpcoiankoaaGreatZPfreerah
set_option linter.unusedVariables false
set_option linter.unusedSimpArgs false
namespace Go.Proofs.YtfoidpcoiankoaaGreat
open Go.RowKit F256
theorem sumN_cong {f g:Nat → Nat}:∀ {n:Nat},(∀ i,i < n → f i = g i) → sumN f n = sumN g n
  | 0,_ => rfl
  | n + 1,h => by rw [sumN_succ,sumN_succ,sumN_cong (fun i hi => h i (by omega)),h n (by omega)]
theorem sumN_cat (f g:Nat → Nat) (n:Nat):∀ m,sumN (fun i => if i < n then f i else g (i - n)) (n + m) = sumN f n + sumN g m
  | 0 => by rw [Nat.add_zero];exact sumN_cong (fun i hi => if_pos hi)
  | m + 1 => by
    rw [← Nat.add_assoc,sumN_succ,sumN_cat f g n m,sumN_succ,if_neg (by omega),show n + m - n = m by omega];omega
theorem sumN_map (f:Nat → Nat) (l:List Nat):sumN (fun i => f (l.getD i 0)) l.length = (l.map f).sum:=by
  generalize hn:l.length = n
  induction n generalizing l with
  | zero => obtain rfl:l = []:=List.eq_nil_of_length_eq_zero hn;rfl
  | succ n ih =>
    have hne:l ≠ []:=fun h => by rw [h] at hn;simp at hn
    have e:=List.dropLast_concat_getLast hne
    have hl:l.dropLast.length = n:=by rw [List.length_dropLast];omega
    have h1:=ih l.dropLast hl;rw [sumN_succ]
    conv => rhs;rw [← e]
    rw [List.map_append,List.sum_append,← h1]
    congr 1
    · exact sumN_cong (fun i hi => by
        have:l.getD i 0 = l.dropLast.getD i 0:=by
          conv => lhs;rw [← e]
          exact getD_ap (by rw [hl];exact hi)
        rw [this])
    · have:l.getD n 0 = l.getLast hne:=by
        conv => lhs;rw [← e]
        rw [← hl];exact getD_last
      rw [this]
      simp
theorem sub_sum (f:Nat → Nat):∀ (N:Nat) (l:List Nat),l.Nodup → (∀ i,i ∈ l → i < N) → (l.map f).sum ≤ sumN f N ∧ l.length ≤ N
  | 0,l,_,h => by
    cases l with
    | nil => exact ⟨Nat.le_refl _,Nat.le_refl _⟩
    | cons a t => exact absurd (h a (by simp)) (by omega)
  | N + 1,l,nd,h => by
    by_cases c:N ∈ l
    · have p:=List.perm_cons_erase c
      obtain ⟨h1,h2⟩:=sub_sum f N (l.erase N) (nd.erase N) (fun i hi => by
        have h3:=(nd.mem_erase_iff).1 hi;have:=h i h3.2
        omega)
      have e1:=(p.map f).sum_nat;have e2:=p.length_eq
      simp only [List.map_cons,List.sum_cons,List.length_cons] at e1 e2
      rw [sumN_succ];omega
    · obtain ⟨h1,h2⟩:=sub_sum f N l nd (fun i hi => by
        have:=h i hi
        by_cases c2:i = N
        · subst c2;exact absurd hi c
        · omega)
      rw [sumN_succ];omega
theorem Cnt.nodup {x0:Nat → RecD} {N:Nat} {l:List Nat} (h:Cnt x0 N l):l.Nodup:=h.srt.imp (fun {a b} hab e => by subst e;exact (numL_ord x0).irr _ hab)
theorem Cnt.sum {x0:Nat → RecD} {N:Nat} {l:List Nat} (h:Cnt x0 N l) (f:RecD → Nat):sumN (fun i => f (x0 (l.getD i 0))) l.length ≤ sumN (fun i => f (x0 i)) N ∧ l.length ≤ N:=by
  have:=sub_sum (fun i => f (x0 i)) N l h.nodup (fun i hi => ((h.mem i).1 hi).1);rw [← sumN_map (fun i => f (x0 i))] at this;exact this
theorem cnt_place (x0:Nat → RecD) (M:Nat) (l:List Nat):∀ k,k ≤ l.length → (∀ j,k ≤ j → j < l.length → numC (x0 M) (x0 (l.getD j 0)) < 0) → ∃ a,a ≤ l.length ∧ (∀ j,a ≤ j → j < l.length → numC (x0 M) (x0 (l.getD j 0)) < 0) ∧ (a = 0 ∨ ¬ numC (x0 M) (x0 (l.getD (a - 1) 0)) < 0)
  | 0,h,hb => ⟨0,h,hb,.inl rfl⟩
  | k + 1,h,hb => by
    by_cases c:numC (x0 M) (x0 (l.getD k 0)) < 0
    · exact cnt_place x0 M l k (by omega) (fun j h1 h2 => by
        by_cases e:j = k
        · subst e;exact c
        · exact hb j (by omega) h2)
    · exact ⟨k + 1,h,hb,.inr c⟩
theorem cnt_ex (x0:Nat → RecD):∀ N,∃ l,Cnt x0 N l
  | 0 => ⟨[],Cnt.nil x0⟩
  | N + 1 => by
    obtain ⟨l,h⟩:=cnt_ex x0 N
    by_cases c:Fst x0 N
    · obtain ⟨a,h1,h2,h3⟩:=cnt_place x0 N l l.length (Nat.le_refl _) (fun j h1 h2 => by omega)
      exact ⟨_,h.ins c a h1 h2 h3⟩
    · exact ⟨l,h.skip c⟩
end Go.Proofs.YtfoidpcoiankoaaGreat
namespace Go.Proofs.YtfoidpcoiankoaaGreat
open Go.RowKit F256
end Go.Proofs.YtfoidpcoiankoaaGreat
namespace Go.Proofs.YtfoidpcoiankoaaGreat
open Go.RowKit F256
end Go.Proofs.YtfoidpcoiankoaaGreat
namespace Go.Proofs.YtfoidpcoiankoaaGreat
open Go.RowKit F256
open Go.Maps (Keyed)
theorem Ldg.keepAll {w w':World} {lo B:Nat} {s:Nat → Int} {m k:Nat} {x:Nat → RecD} {ce:Nat → List Value} {v:Value} {b1 b2 b3 b4 b5:Nat} (h:Ldg w lo B s m k x ce v b1 b2 b3 b4 b5) (hb:∀ b,b < w.heap.size → w'.heap[b]? = w.heap[b]?):Ldg w' lo B s m k x ce v b1 b2 b3 b4 b5:=by
  refine ⟨(hb B h.box.lt).trans h.box,⟨h.row.1,?_⟩,h.m1.block (hb _ h.m1.lt),h.m2.block (hb _ h.m2.lt),h.m3.block (hb _ h.m3.lt),h.m4.block (hb _ h.m4.lt),h.m5.block (hb _ h.m5.lt),h.nd,h.low,h.apart⟩
  rcases h.row.2 with hn | ⟨g,cap,cur,rfl,q1,q2,q3⟩
  · exact .inl hn
  · exact .inr ⟨g,cap,cur,rfl,q1,(hb g (Array.getElem?_eq_some_iff.1 q2).1).trans q2,q3⟩
set_option maxHeartbeats 4000000 in
theorem entryOf_kd (kd:Int) (r:RecD) (ao6 ao7 ao8:Option Addr) (cap6 cap7 cap8:Nat) (w:World) :
    Calls Tryz.prog 64 #[.agg #[.int .i64 kd,.int .i64 r.seq,.string r.name,.int .i64 r.length,.int .i64 r.group,.int .i64 r.row,.slice ao6 r.rows.1 cap6,.slice ao7 r.data.1 cap7,.slice ao8 r.delta.1 cap8]] w fun e w' => e = .returned (entV kd [.int .i64 kd,.int .i64 r.seq,.string r.name,.int .i64 r.length,.int .i64 r.group,.int .i64 r.row,.slice ao6 r.rows.1 cap6,.slice ao7 r.data.1 cap7,.slice ao8 r.delta.1 cap8]) ∧ Below w.heap.size w w':=by
  have T0:=(one_new w #[.int .i64 kd,.int .i64 r.seq,.string r.name,.int .i64 r.length,.int .i64 r.group,.int .i64 r.row,.slice ao6 r.rows.1 cap6,.slice ao7 r.data.1 cap7,.slice ao8 r.delta.1 cap8] 66).bel;unfold entV entT
  by_cases h1:kd = 1
  · subst h1
    go_enter Tryz.func64,Tryz.ntmps64
    go_wp2;go_ret;exact ⟨rfl,T0⟩
  · rw [if_neg h1]
    by_cases h2:kd = 2
    · subst h2
      go_enter Tryz.func64,Tryz.ntmps64
      go_wp2;go_ret;exact ⟨rfl,T0⟩
    · rw [if_neg h2]
      by_cases h3:kd = 3
      · subst h3
        go_enter Tryz.func64,Tryz.ntmps64
        go_wp2;go_ret;exact ⟨rfl,T0⟩
      · rw [if_neg h3]
        go_enter Tryz.func64,Tryz.ntmps64
        go_wp2;go_ret;exact ⟨rfl,T0⟩
theorem enter_any {w w0:World} {lo B hi:Nat} {s:Nat → Int} {k:Nat} {x:Nat → RecD} {ce:Nat → List Value} {v:Value} {b1 b2 b3 b4 b5:Nat} (h:Ldg w lo B s k k x ce v b1 b2 b3 b4 b5) (hk:k ≤ 1000000) (hlo:lo ≤ w.heap.size) (hr:layRec.rd w0 hi (x k) (ce k)) (hkd:InP (x k).kind 1 4) :
    Calls Tryz.prog 63 #[.pointer (some ⟨B,0,none⟩),entV (x k).kind (ce k)] w fun e w' => e = .returned (.tuple #[]) ∧ (∃ v',Ldg w' lo B s (k + 1) (k + 1) x ce v' b1 b2 b3 b4 b5 ∧ EntQ w w' v v' [B,b1,b2,b3,b4,b5]) ∧ Below lo w w':=by
  obtain ⟨ao6,cap6,ao7,cap7,ao8,cap8,e,_,_,_,k0,k1,k2,k3,k4,k5⟩:=Rec_rd hr;obtain ⟨q1,q2⟩:=hkd
  have hc:(x k).kind = 1 ∨ (x k).kind = 2 ∨ (x k).kind = 3 ∨ (x k).kind = 4:=by omega
  rcases hc with c | c | c | c
  · have:=enter_item h hk hlo rfl e c k2 k1 k4 k5
    rw [show entV (x k).kind (ce k) = .iface 118 (.agg #[.int .i64 (x k).kind,.int .i64 (x k).seq,.string (x k).name,.int .i64 (x k).length,.int .i64 (x k).group,.int .i64 (x k).row,.slice ao6 (x k).rows.1 cap6,.slice ao7 (x k).data.1 cap7,.slice ao8 (x k).delta.1 cap8]) by unfold entV entT;rw [e];simp [c]];exact this
  · have:=enter_move h hk hlo rfl e c k2 k1 k4 k5
    rw [show entV (x k).kind (ce k) = .iface 147 (.agg #[.int .i64 (x k).kind,.int .i64 (x k).seq,.string (x k).name,.int .i64 (x k).length,.int .i64 (x k).group,.int .i64 (x k).row,.slice ao6 (x k).rows.1 cap6,.slice ao7 (x k).data.1 cap7,.slice ao8 (x k).delta.1 cap8]) by unfold entV entT;rw [e];simp [c]];exact this
  · have:=enter_done h hk hlo rfl e c k2 k1 k4 k5
    rw [show entV (x k).kind (ce k) = .iface 148 (.agg #[.int .i64 (x k).kind,.int .i64 (x k).seq,.string (x k).name,.int .i64 (x k).length,.int .i64 (x k).group,.int .i64 (x k).row,.slice ao6 (x k).rows.1 cap6,.slice ao7 (x k).data.1 cap7,.slice ao8 (x k).delta.1 cap8]) by unfold entV entT;rw [e];simp [c]];exact this
  · have:=enter_share h hk hlo rfl e c k2 k1 k4 k5
    rw [show entV (x k).kind (ce k) = .iface 151 (.agg #[.int .i64 (x k).kind,.int .i64 (x k).seq,.string (x k).name,.int .i64 (x k).length,.int .i64 (x k).group,.int .i64 (x k).row,.slice ao6 (x k).rows.1 cap6,.slice ao7 (x k).data.1 cap7,.slice ao8 (x k).delta.1 cap8]) by unfold entV entT;rw [e];simp [c]];exact this
theorem MapV.alloc {w:World} {k:TypeId} {b n:Nat} {f:Value → Option Value} (h:MapV w k b n f) (q:Obj):MapV (w.alloc q) k b n f:=h.block (Below.heap_alloc w q b h.lt)
theorem cntF_zero (p:Nat → Prop) (key:Nat → Value):cntF p key 0 = fun _ => none:=by
  funext y
  simp [cntF,cN]
theorem ldg_start (u:World) (s:Nat → Int) (x:Nat → RecD) (ce:Nat → List Value) :
    Ldg ((((((u.alloc (.map #[] 0)).alloc (.map #[] 0)).alloc (.map #[] 0)).alloc (.map #[] 0)).alloc (.map #[] 0)).alloc (.cells #[.int .i64 (s 0),.int .i64 (s 1),.int .i64 (s 2),.int .i64 (s 3),.int .i64 (s 4),.int .i64 (s 5),.int .i64 (s 6),.int .i64 (s 7),.int .i64 (s 8),.slice none 0 0,.map (some u.heap.size),.map (some (u.heap.size + 1)),.map (some (u.heap.size + 1 + 1)),.map (some (u.heap.size + 1 + 1 + 1)),.map (some (u.heap.size + 1 + 1 + 1 + 1))] 104)) u.heap.size (u.heap.size + 1 + 1 + 1 + 1 + 1) s 0 0 x ce (.slice none 0 0) (u.heap.size) (u.heap.size + 1) (u.heap.size + 1 + 1) (u.heap.size + 1 + 1 + 1) (u.heap.size + 1 + 1 + 1 + 1):=by
  have a1:(u.alloc (.map #[] 0)).heap.size = u.heap.size + 1:=by simp
  have a2:((u.alloc (.map #[] 0)).alloc (.map #[] 0)).heap.size = u.heap.size + 1 + 1:=by simp
  have a3:(((u.alloc (.map #[] 0)).alloc (.map #[] 0)).alloc (.map #[] 0)).heap.size = u.heap.size + 1 + 1 + 1:=by simp
  have a4:((((u.alloc (.map #[] 0)).alloc (.map #[] 0)).alloc (.map #[] 0)).alloc (.map #[] 0)).heap.size = u.heap.size + 1 + 1 + 1 + 1:=by simp
  have a5:(((((u.alloc (.map #[] 0)).alloc (.map #[] 0)).alloc (.map #[] 0)).alloc (.map #[] 0)).alloc (.map #[] 0)).heap.size = u.heap.size + 1 + 1 + 1 + 1 + 1:=by simp
  have m1:=mapV_made u 9;have m2:=mapV_made (u.alloc (.map #[] 0)) 2;have m3:=mapV_made ((u.alloc (.map #[] 0)).alloc (.map #[] 0)) 150;have m4:=mapV_made (((u.alloc (.map #[] 0)).alloc (.map #[] 0)).alloc (.map #[] 0)) 2;have m5:=mapV_made ((((u.alloc (.map #[] 0)).alloc (.map #[] 0)).alloc (.map #[] 0)).alloc (.map #[] 0)) 153;have X:=box_new (((((u.alloc (.map #[] 0)).alloc (.map #[] 0)).alloc (.map #[] 0)).alloc (.map #[] 0)).alloc (.map #[] 0)) #[.int .i64 (s 0),.int .i64 (s 1),.int .i64 (s 2),.int .i64 (s 3),.int .i64 (s 4),.int .i64 (s 5),.int .i64 (s 6),.int .i64 (s 7),.int .i64 (s 8),.slice none 0 0,.map (some u.heap.size),.map (some (u.heap.size + 1)),.map (some (u.heap.size + 1 + 1)),.map (some (u.heap.size + 1 + 1 + 1)),.map (some (u.heap.size + 1 + 1 + 1 + 1))] 104;rw [a1] at m2;rw [a2] at m3;rw [a3] at m4;rw [a4] at m5;rw [a5] at X;refine ⟨X,World.ownsRow_nil _ _ _ _,(((((m1.alloc _).alloc _).alloc _).alloc _).alloc _),?_,?_,?_,(m5.alloc _),by simp <;> omega,by omega,fun g hg => by cases hg⟩
  · rw [show movF x 0 = fun _ => none from cntF_zero _ _]
    exact (((m2.alloc _).alloc _).alloc _).alloc _
  · rw [show donF x 0 = fun _ => none from cntF_zero _ _]
    exact ((m3.alloc _).alloc _).alloc _
  · rw [show endF x 0 = fun _ => none from cntF_zero _ _]
    exact (m4.alloc _).alloc _
theorem recT_ok {d:WorldD} (hok:OkWorld d) {i:Nat} (hi:i < lenT d.tapes.2 2):InP (recT d.tapes.2 2 i).kind 1 4:=by
  have h2:d.tapes.1 = 2:=hok.form.2.2
  have key:∀ t j,t < 2 → j < (d.tapes.2 t).recs.1 → InP ((d.tapes.2 t).recs.2 j).kind 1 4:=fun t j ht hj => by
    have:=hok.recs t (by omega) j hj
    rcases this with ⟨_,h⟩ | ⟨_,h⟩
    · omega
    rcases h with ⟨_,h⟩ | ⟨h,_⟩
    · omega
    exact h
  have e1:lenT d.tapes.2 1 = (d.tapes.2 0).recs.1:=by simp [lenT]
  have e2:lenT d.tapes.2 2 = (d.tapes.2 0).recs.1 + (d.tapes.2 1).recs.1:=by simp [lenT]
  rw [e2] at hi
  show InP (cat2 (recT d.tapes.2 1) (lenT d.tapes.2 1) (d.tapes.2 1).recs.2 i).kind 1 4
  unfold cat2
  split
  · rename_i c
    rw [e1] at c
    show InP (cat2 (recT d.tapes.2 0) (lenT d.tapes.2 0) (d.tapes.2 0).recs.2 i).kind 1 4
    unfold cat2;rw [if_neg (by show ¬ i < 0;omega)];exact key 0 (i - 0) (by omega) (by omega)
  · rename_i c
    rw [e1] at c ⊢;exact key 1 _ (by omega) (by omega)
def TapesP (d:WorldD) (hi:Nat) (w:World) (e:Ending) (w':World):Prop :=
  ∃ B l ce v b1 b2 b3 b4 b5,e = .returned (.pointer (some ⟨B,0,none⟩)) ∧ Cnt (recT d.tapes.2 2) (lenT d.tapes.2 2) l ∧ Ldg w' (w.heap.size + 1) B d.shape l.length l.length (fun i => recT d.tapes.2 2 (l.getD i 0)) ce v b1 b2 b3 b4 b5 ∧ (∀ i,i < l.length → layRec.rd w' hi (recT d.tapes.2 2 (l.getD i 0)) (ce i)) ∧ Below w.heap.size w w'
set_option maxHeartbeats 16000000 in
set_option maxRecDepth 20000 in
theorem readTapes_any (d:WorldD) (cs:List Value) (hi:Nat) (w:World) (h:layWorld.rd w hi d cs) (hhi:hi ≤ w.heap.size) (hok:OkWorld d) :
    Calls Tryz.prog 28 #[.agg cs.toArray] w (TapesP d hi w):=by
  have h':=h;obtain ⟨ao1,cap1,ao2,cap2,ao3,cap3,rfl,g1,g2,g3,k0,k4,k5⟩:=World_rd h';have HG3:Hid ((layTape.slice 87).rd w hi d.tapes [.slice ao3 d.tapes.1 cap3]):=g3;have HOK:Hid (OkWorld d):=hok;clear h h' g1 g2 g3 k0 k4 k5 hok;have T0:=one_new w #[.int .i64 (d.shape 0),.int .i64 (d.shape 1),.int .i64 (d.shape 2),.int .i64 (d.shape 3),.int .i64 (d.shape 4),.int .i64 (d.shape 5),.int .i64 (d.shape 6),.int .i64 (d.shape 7),.int .i64 (d.shape 8),.slice ao1 d.groups.1 cap1,.slice ao2 d.on.1 cap2,.slice ao3 d.tapes.1 cap3,.int .i64 d.writes,.int .i64 d.stop,.bool d.down] 37;have hmm:=@run_makeMap Tryz.prog
  go_enter Tryz.func28,Tryz.ntmps28
  go_upto_region 2 with fail
  have L0:=ldg_start (w.alloc (.cells #[.int .i64 (d.shape 0),.int .i64 (d.shape 1),.int .i64 (d.shape 2),.int .i64 (d.shape 3),.int .i64 (d.shape 4),.int .i64 (d.shape 5),.int .i64 (d.shape 6),.int .i64 (d.shape 7),.int .i64 (d.shape 8),.slice ao1 d.groups.1 cap1,.slice ao2 d.on.1 cap2,.slice ao3 d.tapes.1 cap3,.int .i64 d.writes,.int .i64 d.stop,.bool d.down] 37)) d.shape
  have zA:(w.alloc (.cells #[.int .i64 (d.shape 0),.int .i64 (d.shape 1),.int .i64 (d.shape 2),.int .i64 (d.shape 3),.int .i64 (d.shape 4),.int .i64 (d.shape 5),.int .i64 (d.shape 6),.int .i64 (d.shape 7),.int .i64 (d.shape 8),.slice ao1 d.groups.1 cap1,.slice ao2 d.on.1 cap2,.slice ao3 d.tapes.1 cap3,.int .i64 d.writes,.int .i64 d.stop,.bool d.down] 37)).heap.size = w.heap.size + 1:=by simp
  rw [zA] at L0;have bW:Below w.heap.size w (((((((w.alloc (.cells #[.int .i64 (d.shape 0),.int .i64 (d.shape 1),.int .i64 (d.shape 2),.int .i64 (d.shape 3),.int .i64 (d.shape 4),.int .i64 (d.shape 5),.int .i64 (d.shape 6),.int .i64 (d.shape 7),.int .i64 (d.shape 8),.slice ao1 d.groups.1 cap1,.slice ao2 d.on.1 cap2,.slice ao3 d.tapes.1 cap3,.int .i64 d.writes,.int .i64 d.stop,.bool d.down] 37)).alloc (.map #[] 0)).alloc (.map #[] 0)).alloc (.map #[] 0)).alloc (.map #[] 0)).alloc (.map #[] 0)).alloc (.cells #[.int .i64 (d.shape 0),.int .i64 (d.shape 1),.int .i64 (d.shape 2),.int .i64 (d.shape 3),.int .i64 (d.shape 4),.int .i64 (d.shape 5),.int .i64 (d.shape 6),.int .i64 (d.shape 7),.int .i64 (d.shape 8),.slice none 0 0,.map (some (w.heap.size + 1)),.map (some (w.heap.size + 1 + 1)),.map (some (w.heap.size + 1 + 1 + 1)),.map (some (w.heap.size + 1 + 1 + 1 + 1)),.map (some (w.heap.size + 1 + 1 + 1 + 1 + 1))] 104)):=((((((T0.bel.alloc (by simp) _).alloc (by simp <;> omega) _).alloc (by simp <;> omega) _).alloc (by simp <;> omega) _).alloc (by simp <;> omega) _).alloc (by simp <;> omega) _);have XW:Box (((((((w.alloc (.cells #[.int .i64 (d.shape 0),.int .i64 (d.shape 1),.int .i64 (d.shape 2),.int .i64 (d.shape 3),.int .i64 (d.shape 4),.int .i64 (d.shape 5),.int .i64 (d.shape 6),.int .i64 (d.shape 7),.int .i64 (d.shape 8),.slice ao1 d.groups.1 cap1,.slice ao2 d.on.1 cap2,.slice ao3 d.tapes.1 cap3,.int .i64 d.writes,.int .i64 d.stop,.bool d.down] 37)).alloc (.map #[] 0)).alloc (.map #[] 0)).alloc (.map #[] 0)).alloc (.map #[] 0)).alloc (.map #[] 0)).alloc (.cells #[.int .i64 (d.shape 0),.int .i64 (d.shape 1),.int .i64 (d.shape 2),.int .i64 (d.shape 3),.int .i64 (d.shape 4),.int .i64 (d.shape 5),.int .i64 (d.shape 6),.int .i64 (d.shape 7),.int .i64 (d.shape 8),.slice none 0 0,.map (some (w.heap.size + 1)),.map (some (w.heap.size + 1 + 1)),.map (some (w.heap.size + 1 + 1 + 1)),.map (some (w.heap.size + 1 + 1 + 1 + 1)),.map (some (w.heap.size + 1 + 1 + 1 + 1 + 1))] 104)) w.heap.size #[.int .i64 (d.shape 0),.int .i64 (d.shape 1),.int .i64 (d.shape 2),.int .i64 (d.shape 3),.int .i64 (d.shape 4),.int .i64 (d.shape 5),.int .i64 (d.shape 6),.int .i64 (d.shape 7),.int .i64 (d.shape 8),.slice ao1 d.groups.1 cap1,.slice ao2 d.on.1 cap2,.slice ao3 d.tapes.1 cap3,.int .i64 d.writes,.int .i64 d.stop,.bool d.down] 37:=((((((T0.b1.allocd _).allocd _).allocd _).allocd _).allocd _).allocd _);obtain ⟨W1,hW1⟩:∃ y,y = (((((((w.alloc (.cells #[.int .i64 (d.shape 0),.int .i64 (d.shape 1),.int .i64 (d.shape 2),.int .i64 (d.shape 3),.int .i64 (d.shape 4),.int .i64 (d.shape 5),.int .i64 (d.shape 6),.int .i64 (d.shape 7),.int .i64 (d.shape 8),.slice ao1 d.groups.1 cap1,.slice ao2 d.on.1 cap2,.slice ao3 d.tapes.1 cap3,.int .i64 d.writes,.int .i64 d.stop,.bool d.down] 37)).alloc (.map #[] 0)).alloc (.map #[] 0)).alloc (.map #[] 0)).alloc (.map #[] 0)).alloc (.map #[] 0)).alloc (.cells #[.int .i64 (d.shape 0),.int .i64 (d.shape 1),.int .i64 (d.shape 2),.int .i64 (d.shape 3),.int .i64 (d.shape 4),.int .i64 (d.shape 5),.int .i64 (d.shape 6),.int .i64 (d.shape 7),.int .i64 (d.shape 8),.slice none 0 0,.map (some (w.heap.size + 1)),.map (some (w.heap.size + 1 + 1)),.map (some (w.heap.size + 1 + 1 + 1)),.map (some (w.heap.size + 1 + 1 + 1 + 1)),.map (some (w.heap.size + 1 + 1 + 1 + 1 + 1))] 104)):=⟨_,rfl⟩
  rw [← hW1] at bW XW ⊢
  have HL0:Hid (∀ x ce,Ldg W1 (w.heap.size + 1) (w.heap.size + 1 + 1 + 1 + 1 + 1 + 1) d.shape 0 0 x ce (.slice none 0 0) (w.heap.size + 1) (w.heap.size + 1 + 1) (w.heap.size + 1 + 1 + 1) (w.heap.size + 1 + 1 + 1 + 1) (w.heap.size + 1 + 1 + 1 + 1 + 1)):=fun x ce => by rw [hW1];exact L0 x ce
  have z1:w.heap.size + 7 ≤ W1.heap.size:=by rw [hW1];simp
  clear hW1 L0 zA hmm;have h2:d.tapes.1 = 2:=HOK.out.form.2.2;have hn0:(d.tapes.2 0).recs.1 ≤ 400000:=Nat.le_trans (HOK.out.few 0 (by omega)) (by decide);have hn1:(d.tapes.2 1).recs.1 ≤ 400000:=Nat.le_trans (HOK.out.few 1 (by omega)) (by decide)
  have x11:W1.cell? ⟨w.heap.size,11,none⟩ = some (.slice ao3 2 cap3):=by have:=XW.cell 11;rw [h2] at this;exact this
  have G3:(layTape.slice 87).rd W1 hi (2,d.tapes.2) [.slice ao3 2 cap3]:=by
    have:=Lay.rd_below _ HG3.out bW hhi;rw [h2] at this;rw [show d.tapes = (2,d.tapes.2) from Prod.ext h2 rfl] at this;exact this
  have CC:=countOnce_any d.tapes.2 (.slice ao3 2 cap3) hi W1 G3 (by have:=bW.size;omega) hn0 hn1;have HBW:Hid (Below w.heap.size w W1):=bW;clear G3 bW T0 XW
  go_wp2_with fail
  refine CC.mono ?_;rintro e w2 ⟨v2,l,ce,lo,rfl,hCt,hlo,V,b2⟩;have HCt:Hid (Cnt (recT d.tapes.2 2) (lenT d.tapes.2 2) l):=hCt
  have hNl:l.length ≤ 800000:=by
    have e2:lenT d.tapes.2 2 = (d.tapes.2 0).recs.1 + (d.tapes.2 1).recs.1:=by simp [lenT]
    have:=(hCt.sum (fun _ => 0)).2;omega
  obtain ⟨x,hx⟩:∃ x:Nat → RecD,x = fun i => recT d.tapes.2 2 (l.getD i 0):=⟨_,rfl⟩;have HX:Hid (x = fun i => recT d.tapes.2 2 (l.getD i 0)):=hx
  have HKD:Hid (∀ i,i < l.length → InP (x i).kind 1 4):=fun i hi' => by
    rw [hx];exact recT_ok HOK.out ((hCt.mem _).1 (by rw [getD_at hi'];exact List.getElem_mem hi')).1
  rw [← hx] at V;obtain ⟨N,hN⟩:∃ N,N = l.length:=⟨_,rfl⟩;have HN:Hid (N = l.length):=hN;rw [← hN] at V HKD hNl;have HRD:Hid (∀ i,i < N → layRec.rd w2 hi (x i) (ce i)):=fun i hi' => V.each i hi';obtain ⟨a2,c2,rfl⟩:=V.form;have L2:Ldg w2 (w.heap.size + 1) (w.heap.size + 1 + 1 + 1 + 1 + 1 + 1) d.shape 0 0 x ce (.slice none 0 0) (w.heap.size + 1) (w.heap.size + 1 + 1) (w.heap.size + 1 + 1 + 1) (w.heap.size + 1 + 1 + 1 + 1) (w.heap.size + 1 + 1 + 1 + 1 + 1):=(HL0.out x ce).keepAll (fun b hb => b2.block b hb);have HB2:Hid (Below w.heap.size w w2):=HBW.out.trans (b2.mono (by omega));have z2:W1.heap.size ≤ w2.heap.size:=b2.size
  have AP:∀ g,(Value.slice a2 N c2).ownBlock = some g → w.heap.size + 7 ≤ g:=fun g hg => by
    rcases V.row.2 with ⟨q,_⟩ | ⟨g',cap',cur,q,q1,_⟩
    · cases q
      cases hg
    · cases q
      cases hg
      show w.heap.size + 7 ≤ g'
      omega
  have HV:Hid (View layRec 66 w2 lo hi (.slice a2 N c2) N x ce):=V
  have HAP:Hid (∀ g,(Value.slice a2 N c2).ownBlock = some g → w.heap.size + 7 ≤ g ∧ g < w2.heap.size):=fun g hg => ⟨AP g hg,by
    rcases V.row.2 with ⟨q,_⟩ | ⟨g',cap',cur,q,q1,q2,_⟩
    · cases q
      cases hg
    · cases q
      cases hg
      exact (Array.getElem?_eq_some_iff.1 q2).1⟩
  clear V AP CC b2 hCt hx hN x11 hn0 hn1 h2 hlo;go_wp2
  go_loopw [19] (fun i wr => ∃ (k:Nat) (v:Value),k ≤ N ∧ i = .int .i64 k ∧ Ldg wr (w.heap.size + 1) (w.heap.size + 1 + 1 + 1 + 1 + 1 + 1) d.shape k k x ce v (w.heap.size + 1) (w.heap.size + 1 + 1) (w.heap.size + 1 + 1 + 1) (w.heap.size + 1 + 1 + 1 + 1) (w.heap.size + 1 + 1 + 1 + 1 + 1) ∧ (∀ g,(Value.slice a2 N c2).ownBlock = some g → v.ownBlock ≠ some g ∧ wr.heap[g]? = w2.heap[g]?) ∧ Below (w.heap.size + 1) w2 wr) (fun i _ => N - (intOf i).toNat)
  case atStart => exact ⟨0,_,Nat.zero_le _,rfl,L2,fun g hg => ⟨(fun e => by cases e),rfl⟩,Below.refl _ _⟩
  case round =>
    clear L2;obtain ⟨k,v,hk,rfl,hL,hA,hb⟩:=hrel;have zr:w2.heap.size ≤ wr.heap.size:=hb.size
    by_cases hlt:k < N
    · have HL:Hid (Ldg wr (w.heap.size + 1) (w.heap.size + 1 + 1 + 1 + 1 + 1 + 1) d.shape k k x ce v (w.heap.size + 1) (w.heap.size + 1 + 1) (w.heap.size + 1 + 1 + 1) (w.heap.size + 1 + 1 + 1 + 1) (w.heap.size + 1 + 1 + 1 + 1 + 1)):=hL
      have HA:Hid (∀ g,(Value.slice a2 N c2).ownBlock = some g → v.ownBlock ≠ some g ∧ wr.heap[g]? = w2.heap[g]?):=hA;have HBr:Hid (Below (w.heap.size + 1) w2 wr):=hb;have Vr:View layRec 66 wr lo hi (.slice a2 N c2) N x ce:=HV.out.kept (fun b hb' => (hA b hb').2) (hb.mono (by omega));obtain ⟨g,cg,hgg⟩:=Vr.form0 (by omega)
      have hga:a2 = some ⟨g,0,none⟩:=by cases hgg;rfl
      have hcg:c2 = cg:=by cases hgg;rfl
      subst hga;subst hcg;have hrk:=HRD.out k hlt;obtain ⟨ao6,cap6,ao7,cap7,ao8,cap8,ec,-⟩:=Rec_rd hrk;have HRK:Hid (layRec.rd w2 hi (x k) (ce k)):=hrk;have HEC:Hid (ce k = [.int .i64 (x k).kind,.int .i64 (x k).seq,.string (x k).name,.int .i64 (x k).length,.int .i64 (x k).group,.int .i64 (x k).row,.slice ao6 (x k).rows.1 cap6,.slice ao7 (x k).data.1 cap7,.slice ao8 (x k).delta.1 cap8]):=ec
      have hcell:∀ j,j < 9 → wr.cell? ⟨g,k * 9 + j,none⟩ = ([.int .i64 (x k).kind,.int .i64 (x k).seq,.string (x k).name,.int .i64 (x k).length,.int .i64 (x k).group,.int .i64 (x k).row,.slice ao6 (x k).rows.1 cap6,.slice ao7 (x k).data.1 cap7,.slice ao8 (x k).delta.1 cap8]:List Value)[j]?:=fun j hj => by rw [← ec];exact Vr.cell hlt hj
      obtain ⟨r,hr⟩:∃ r,r = x k:=⟨_,rfl⟩;rw [← hr] at hcell;have HR:Hid (r = x k):=hr
      have t1:(k:Int) < (N:Int):=by omega
      have y0:wr.cell? ⟨g,k * 9,none⟩ = some (.int .i64 r.kind):=hcell 0 (by decide);have y1:wr.cell? ⟨g,k * 9 + 1,none⟩ = some (.int .i64 r.seq):=hcell 1 (by decide);have y2:wr.cell? ⟨g,k * 9 + 2,none⟩ = some (.string r.name):=hcell 2 (by decide);have y3:wr.cell? ⟨g,k * 9 + 3,none⟩ = some (.int .i64 r.length):=hcell 3 (by decide);have y4:wr.cell? ⟨g,k * 9 + 4,none⟩ = some (.int .i64 r.group):=hcell 4 (by decide);have y5:wr.cell? ⟨g,k * 9 + 5,none⟩ = some (.int .i64 r.row):=hcell 5 (by decide);have y6:wr.cell? ⟨g,k * 9 + 6,none⟩ = some (.slice ao6 r.rows.1 cap6):=hcell 6 (by decide);have y7:wr.cell? ⟨g,k * 9 + 7,none⟩ = some (.slice ao7 r.data.1 cap7):=hcell 7 (by decide);have y8:wr.cell? ⟨g,k * 9 + 8,none⟩ = some (.slice ao8 r.delta.1 cap8):=hcell 8 (by decide)
      have hkN:k ≤ 1000000:=by omega
      clear hL hA hb Vr hrk ec hcell hr
      go_wp2_with fail
      refine (entryOf_kd r.kind r ao6 ao7 ao8 cap6 cap7 cap8 _).mono ?_;rintro e w3 ⟨rfl,b3⟩;have b3':Below wr.heap.size wr w3:=((Below.refl wr.heap.size wr).alloc (Nat.le_refl _) _).trans (b3.mono (by simp));have L3:=HL.out.keepAll (fun b hb' => b3'.block b hb');have z3:wr.heap.size ≤ w3.heap.size:=b3'.size;have CE:=enter_any L3 hkN (by omega) HRK.out (HKD.out k hlt);rw [HEC.out,← HR.out] at CE;have HB3:Hid (Below wr.heap.size wr w3):=b3';clear b3 b3' L3
      go_wp2_with fail
      refine CE.mono ?_;rintro e w4 ⟨rfl,⟨v',L4,q1,q2⟩,b4⟩;have HL4:Hid (Ldg w4 (w.heap.size + 1) (w.heap.size + 1 + 1 + 1 + 1 + 1 + 1) d.shape (k + 1) (k + 1) x ce v' (w.heap.size + 1) (w.heap.size + 1 + 1) (w.heap.size + 1 + 1 + 1) (w.heap.size + 1 + 1 + 1 + 1) (w.heap.size + 1 + 1 + 1 + 1 + 1)):=L4;have HB4:Hid (Below (w.heap.size + 1) w2 w4):=(HBr.out.trans (HB3.out.mono (by omega))).trans b4
      have HA4:Hid (∀ g',(Value.slice (some ⟨g,0,none⟩) N c2).ownBlock = some g' → v'.ownBlock ≠ some g' ∧ w4.heap[g']? = w2.heap[g']?):=fun g' hg' => by
        obtain ⟨p1,p2⟩:=HA.out g' hg';obtain ⟨p3,p4⟩:=HAP.out g' hg';refine ⟨?_,?_⟩
        · rcases q1 with e | ⟨g9,e1,e2⟩
          · rw [e];exact p1
          · rw [e2]
            intro e3
            cases e3
            omega
        · rw [q2 g' (by omega) (by simp;omega) p1,HB3.out.block g' (by omega)]
          exact p2
      clear L4 q1 q2 b4 CE y0 y1 y2 y3 y4 y5 y6 y7 y8;go_wp2
      go_roundw
      case rel => exact ⟨k + 1,v',by omega,by go_num,HL4.out,HA4.out,HB4.out⟩
      case measure => simp [intOf];omega
    · obtain rfl:k = N:=by omega
      have hL':=hL;rw [HN.out,HX.out] at hL';have HL:Hid (Ldg wr (w.heap.size + 1) (w.heap.size + 1 + 1 + 1 + 1 + 1 + 1) d.shape l.length l.length (fun i => recT d.tapes.2 2 (l.getD i 0)) ce v (w.heap.size + 1) (w.heap.size + 1 + 1) (w.heap.size + 1 + 1 + 1) (w.heap.size + 1 + 1 + 1 + 1) (w.heap.size + 1 + 1 + 1 + 1 + 1)):=hL'
      have HRr:Hid (∀ i,i < l.length → layRec.rd wr hi (recT d.tapes.2 2 (l.getD i 0)) (ce i)):=fun i hi' => by
        have:=HRD.out i (by rw [HN.out];exact hi');rw [HX.out] at this;exact layRec.rd_below this (hb.mono (Nat.le_trans hhi (Nat.le_succ _))) (Nat.le_refl _)
      have HBr:Hid (Below w.heap.size w wr):=HB2.out.trans (hb.mono (Nat.le_succ _));clear hL hL' hA hb;go_wp2;go_ret;exact ⟨_,l,ce,v,_,_,_,_,_,rfl,HCt.out,HL.out,HRr.out,HBr.out⟩
end Go.Proofs.YtfoidpcoiankoaaGreat
namespace Go.Proofs.YtfoidpcoiankoaaGreat
open Go.RowKit F256
theorem run_appendW {α:Type} {E:Lay α} {T e:TypeId} {by_:Nat} {zs:List Value} (I:ElInfo E T e by_ zs) (R1:RdOne E) (ty:TypeId) {W:World} {lo hi n:Nat} {v:Value} {x:Nat → α} {ce:Nat → List Value} (h:View E e W lo hi v n x ce)
    {ao:Option Addr} {m:Nat} (c:Nat) {y:Nat → α} {cy:Nat → List Value} (hs:Src E W hi ao m y cy) (hlo:lo ≤ W.heap.size) (hhi:hi ≤ lo) (hn:n + m ≤ 10000000) (hc0:ao = none → c = 0 ∨ m = 0) :
    ∃ v' w',(Builtin.append_ #[T,T] ty #[v,.slice ao m c]).run Tryz.prog W = .ok v' w' ∧ View E e w' lo hi v' (n + m) (cat2 x n y) (cat2 ce n cy) ∧ W.grownBy w' v.ownBlock ∧ Below lo W w' ∧ (v'.ownBlock = v.ownBlock ∨ v'.ownBlock = some W.heap.size):=by
  obtain ⟨hz,hzs,hu,hinf,few⟩:=I
  obtain ⟨i0,hi0⟩:∃ i0,Tryz.prog.info? e = some i0:=by
    cases h:Tryz.prog.info? e with
    | none => rw [h] at hinf;cases hinf
    | some i0 => exact ⟨i0,rfl⟩
  rw [hi0] at hinf
  simp only [Option.map_some,Option.some.injEq,Prod.mk.injEq] at hinf
  obtain ⟨h1,h2,h3⟩:=hinf
  obtain ⟨z,hz0,hzc⟩:∃ z,i0.zero = some z ∧ z.cells = zs.toArray:=by
    cases h:i0.zero with
    | none => rw [h] at h1;cases h1
    | some z => rw [h] at h1;exact ⟨z,rfl,by simpa using h1⟩
  obtain ⟨hcell,hrd⟩:=hs;have hlen:(catN m cy).length = m * E.sz:=catN_len (fun j hj => E.rd_len (hrd j hj))
  have big:∀ ad,ao = some ad → (∀ j u,(catN m cy)[j]? = some u → W.cell? (ad.add j) = some u) → ∃ v' w',(Builtin.append_ #[T,T] ty #[v,.slice ao m c]).run Tryz.prog W = .ok v' w' ∧ View E e w' lo hi v' (n + m) (cat2 x n y) (cat2 ce n cy) ∧ W.grownBy w' v.ownBlock ∧ Below lo W w' ∧ (v'.ownBlock = v.ownBlock ∨ v'.ownBlock = some W.heap.size):=fun ad ha hc => by
    subst ha
    obtain ⟨v',w',hr,r1,r2,r3,r4⟩:=run_append_own_at (P:=Tryz.prog) W lo T ty e i0 z E.sz by_ hu hi0 hz0 h2 h3 (by rw [hzc];simpa using hzs) hz v n (catN n ce) h.row ad m c (catN m cy) hlen hc
      (fun u hu => by
        obtain ⟨i,hi,hm⟩:=mem_catN.1 hu
        exact R1 _ _ _ _ (hrd i hi) u hm) (by unfold maxLen;omega) (by
        have:(n + m) * by_ ≤ 10000000 * 1000:=Nat.mul_le_mul hn few
        omega) hlo
    have hb:Below lo W w':=(Below.refl _ _).grown r2 hlo (fun k hk => (h.row.lt k hk).1);refine ⟨v',w',hr,⟨by rw [catN_cat2];exact r1,fun i hi => ?_⟩,r2,hb,r4⟩
    by_cases c1:i < n
    · rw [cat2_lt x y c1,cat2_lt ce cy c1]
      exact E.rd_below (h.each i c1) hb hhi
    · obtain ⟨k,rfl⟩:∃ k,i = n + k:=⟨i - n,by omega⟩
      rw [cat2_ge,cat2_ge];exact E.rd_below (hrd k (by omega)) hb hhi
  by_cases hm:m = 0
  · subst hm
    cases ao with
    | some ad => exact big ad rfl (fun j u hj => by rw [catN_zero] at hj;simp at hj)
    | none =>
      refine ⟨v,W,run_append_none' W lo T ty e i0 E.sz hu hi0 v n c _ h.row,⟨by rw [catN_cat2,catN_zero,List.append_nil];exact h.row,fun i hi => ?_⟩,⟨rfl,rfl,rfl,Nat.le_refl _,fun _ _ _ => rfl⟩,Below.refl _ _,.inl rfl⟩
      have hi':i < n:=by omega
      rw [cat2_lt x y hi',cat2_lt ce cy hi'];exact h.each i hi'
  · obtain ⟨b,off,rfl,hcc⟩:=hcell hm
    refine big _ rfl (fun j u hj => ?_)
    have hj':j < m * E.sz:=by rw [← hlen];exact (List.getElem?_eq_some_iff.1 hj).1
    have e1:j / E.sz < m:=Nat.div_lt_of_lt_mul (by rw [Nat.mul_comm];exact hj');have e2:j % E.sz < E.sz:=Nat.mod_lt _ hz
    have e3:j / E.sz * E.sz + j % E.sz = j:=by rw [Nat.mul_comm];exact Nat.div_add_mod j E.sz
    rw [add_oo,← e3,hcc _ e1 _ e2,← catN_get (fun j hj => E.rd_len (hrd j hj)) e1 e2,e3];exact hj
theorem wp_build1R {ops:Array Oper} {rest:List Oper} {o:Oper} {a:Act} {W:World} {Q:Exit → Act → World → Prop} (hg:o.guard = none) (x:Operand) (hop:o.op = Op.buildSlice 54 1 #[(0,x)]) {w0:World} {hi0:Nat} {r:RecD} {cs:List Value} (hr:layRec.rd w0 hi0 r cs) (hx:a.eval x = .agg cs.toArray)
    (h:wpList Tryz.prog ops Q rest (a.put o.dst (.slice (some ⟨W.heap.size,0,none⟩) 1 1)) (W.alloc (.cells cs.toArray 66))):wpList Tryz.prog ops Q (o :: rest) a W:=by
  refine wpList_plain hg fun K hK' => ?_;have:=step_build1R (ops:=ops) (K:=K) (Q:=Q) (F:=True) hg x hop hr hx (hK' _ _ h);rw [if_pos (by simp [Region.wanted,hg])] at this;exact this
end Go.Proofs.YtfoidpcoiankoaaGreat
namespace Go.Proofs.YtfoidpcoiankoaaGreat
open Go.RowKit F256
theorem rec_kind {s:Nat → Int} {r:RecD} (h:RecAns s r 0):KindP s r:=by
  rcases h with ⟨_,h⟩ | ⟨_,h⟩
  · cases h
  rcases h with ⟨_,h⟩ | ⟨_,h⟩
  · cases h
  rcases h with ⟨_,h⟩ | ⟨_,h⟩
  · cases h
  rcases h with ⟨_,h⟩ | ⟨_,h⟩
  · cases h
  rcases h with ⟨_,h⟩ | ⟨h,_⟩
  · cases h
  · exact h
theorem recT_kind {d:WorldD} (hok:OkWorld d) {i:Nat} (hi:i < lenT d.tapes.2 2):KindP d.shape (recT d.tapes.2 2 i):=by
  have h2:d.tapes.1 = 2:=hok.form.2.2;have key:∀ t j,t < 2 → j < (d.tapes.2 t).recs.1 → KindP d.shape ((d.tapes.2 t).recs.2 j):=fun t j ht hj => rec_kind (hok.recs t (by omega) j hj)
  have e1:lenT d.tapes.2 1 = (d.tapes.2 0).recs.1:=by simp [lenT]
  have e2:lenT d.tapes.2 2 = (d.tapes.2 0).recs.1 + (d.tapes.2 1).recs.1:=by simp [lenT]
  rw [e2] at hi
  show KindP d.shape (cat2 (recT d.tapes.2 1) (lenT d.tapes.2 1) (d.tapes.2 1).recs.2 i)
  unfold cat2
  split
  · rename_i c
    rw [e1] at c
    show KindP d.shape (cat2 (recT d.tapes.2 0) (lenT d.tapes.2 0) (d.tapes.2 0).recs.2 i)
    unfold cat2;rw [if_neg (by show ¬ i < 0;omega)];exact key 0 (i - 0) (by omega) (by omega)
  · rename_i c
    rw [e1] at c ⊢;exact key 1 _ (by omega) (by omega)
theorem item_len {s:Nat → Int} {r:RecD} (h:KindP s r) (hk:r.kind = 1):r.length < 0 ↔ r.length = -1:=by
  rcases h with ⟨_,h⟩ | ⟨h,_⟩ | ⟨h,_⟩ | ⟨h,_⟩
  · rcases h with ⟨h,_⟩ | ⟨_,h,_⟩ <;> omega
  · omega
  · omega
  · omega
theorem l_kind {d:WorldD} (hok:OkWorld d) {l:List Nat} (hCt:Cnt (recT d.tapes.2 2) (lenT d.tapes.2 2) l) {i:Nat} (hi:i < l.length):KindP d.shape (recT d.tapes.2 2 (l.getD i 0)) :=
  recT_kind hok ((hCt.mem _).1 (by rw [getD_at hi];exact List.getElem_mem hi)).1
end Go.Proofs.YtfoidpcoiankoaaGreat
namespace Go.Proofs.YtfoidpcoiankoaaGreat
open Go.RowKit F256
theorem el_I:ElInfo layI 25 2 8 [.int .i64 0]:=⟨by decide,rfl,Tryz.underlying25,by kernel_rfl,by decide⟩
theorem rdOne_I:RdOne layI:=rdOne_plain _ _ _
theorem viewI_rd {w:World} {lo n:Nat} {v:Value} {x:Nat → Int} {ce:Nat → List Value} (h:View layI 2 w lo 0 v n x ce):RdI w w.heap.size v n x:=by
  obtain ⟨ao,cap,hv,hm,hc⟩:=h.rd (Nat.zero_le _);refine ⟨ao,cap,by simpa using hv,hm,fun h0 => ?_⟩;obtain ⟨b,off,e1,e2,e3⟩:=hc h0;refine ⟨b,off,e1,e2,fun i hi => ?_⟩;obtain ⟨cs,⟨rfl,_⟩,hcell⟩:=e3 i hi;have:=hcell 0 (show 0 < 1 by decide);rw [show layI.sz = 1 from rfl,Nat.mul_one,Nat.add_zero] at this;exact this
theorem src_rows {w:World} {hi m cap:Nat} {f:Nat → Int} {ao:Option Addr} (h:layInts.rd w hi (m,f) [.slice ao m cap]):Src layI w 0 ao m f (fun i => [.int .i64 (f i)]) ∧ (ao = none → cap = 0 ∨ m = 0):=by
  obtain ⟨v,hv,⟨⟨ao',cap',hv',_,hc⟩,_⟩,hb⟩:=h
  obtain rfl:v = .slice ao m cap:=by simpa using hv.symm
  simp only [Value.slice.injEq,true_and] at hv'
  obtain ⟨rfl,rfl⟩:=hv';refine ⟨⟨fun h0 => ?_,fun j hj => ⟨rfl,hb j⟩⟩,fun e => ?_⟩
  · obtain ⟨b,off,e1,e2,e3⟩:=hc h0
    refine ⟨b,off,e1,fun j hj k hk => ?_⟩
    obtain rfl:k = 0:=by have:k < 1:=hk;omega
    rw [show layI.sz = 1 from rfl,Nat.mul_one,Nat.add_zero,e3 j hj];rfl
  · by_cases h0:m = 0
    · exact .inr h0
    · obtain ⟨b,off,e1,_⟩:=hc h0
      rw [e] at e1
      cases e1
theorem src_num (W:World) (r:Int) (hr:-9223372036854775808 ≤ r ∧ r ≤ 9223372036854775807):Src layI (W.alloc (.cells #[.int .i64 r] 2)) 0 (some ⟨W.heap.size,0,none⟩) 1 (fun _ => r) (fun _ => [.int .i64 r]) :=
  src_one (b:=W.heap.size) (fun k hk => by
    obtain rfl:k = 0:=by have:k < 1:=hk;omega
    exact (box_new W #[.int .i64 r] 2).cell 0) ⟨rfl,hr⟩
theorem has_cat {n m:Nat} {x y:Nat → Int} {r:Int}:HasP (n + m) (cat2 x n y) r ↔ HasP n x r ∨ HasP m y r:=by
  constructor
  · rintro ⟨i,hi,e⟩
    by_cases c:i < n
    · rw [cat2_lt _ _ c] at e
      exact .inl ⟨i,c,e⟩
    · obtain ⟨j,rfl⟩:∃ j,i = n + j:=⟨i - n,by omega⟩
      rw [cat2_ge] at e;exact .inr ⟨j,by omega,e⟩
  · rintro (⟨i,hi,e⟩ | ⟨j,hj,e⟩)
    · exact ⟨i,by omega,by rw [cat2_lt _ _ hi];exact e⟩
    · exact ⟨n + j,by omega,by rw [cat2_ge];exact e⟩
structure Gth (w2 wr:World) (p:Nat) (u:Value) (n:Nat) (y:Nat → Int) (cy:Nat → List Value):Prop where
  vw:View layI 2 wr p 0 u n y cy
  ch:ChgL [p] w2 wr
  ap:∀ b,u.ownBlock = some b → b = p ∨ w2.heap.size ≤ b
theorem Gth.next {w2 W W':World} {p n:Nat} {u:Value} {y:Nat → Int} {cy:Nat → List Value} (h:Gth w2 W p u n y cy) (b:Below W.heap.size W W'):Gth w2 W' p u n y cy:=⟨h.vw.below b (Nat.zero_le _),h.ch.trans (ChgL.of_below b),h.ap⟩
theorem Gth.app {w2 W:World} {p n:Nat} {u:Value} {y:Nat → Int} {cy:Nat → List Value} (h:Gth w2 W p u n y cy) (hp:p ≤ W.heap.size) {ao:Option Addr} {m:Nat} (c:Nat) {f:Nat → Int} {cf:Nat → List Value} (hs:Src layI W 0 ao m f cf) (hc0:ao = none → c = 0 ∨ m = 0) (hn:n + m ≤ 10000000) :
    ∃ u' W',(Builtin.append_ #[25,25] 25 #[u,.slice ao m c]).run Tryz.prog W = .ok u' W' ∧ Gth w2 W' p u' (n + m) (cat2 y n f) (cat2 cy n cf):=by
  obtain ⟨v',w',hrun,V,gr,bl,loc⟩:=run_appendW el_I rdOne_I 25 h.vw c hs hp (Nat.zero_le _) hn hc0;refine ⟨v',w',hrun,V,⟨bl.os.trans h.ch.os,bl.tape.trans h.ch.tape,bl.output.trans h.ch.output,Nat.le_trans h.ch.size bl.size,fun b hb hbp => ?_⟩,fun b hb => ?_⟩
  · refine (gr.block b (Nat.lt_of_lt_of_le hb h.ch.size) (fun e => ?_)).trans (h.ch.block b hb hbp)
    rcases h.ap b e.symm with rfl | h2
    · exact hbp (by simp)
    · omega
  · rcases loc with e | e
    · rw [e] at hb
      exact h.ap b hb
    · rw [e] at hb
      cases hb
      exact .inr h.ch.size
def homeS (s:Nat → Int) (nm:ByteArray):Int:=(nameSum nm nm.size:Int) % s 0
def U1 (s:Nat → Int) (x:Nat → RecD) (m:List Nat) (g:Int) (k:Nat) (r:Int):Prop:=∃ j,j < k ∧ homeS s (x (m.getD j 0)).name = g ∧ HasP (x (m.getD j 0)).rows.1 (x (m.getD j 0)).rows.2 r
def U2 (x:Nat → RecD) (g:Int) (k:Nat) (r:Int):Prop:=∃ i,i < k ∧ (((x i).kind = 2 ∧ (x i).group = g) ∨ (x i).kind = 4) ∧ (x i).row = r
theorem U1.zero (s:Nat → Int) (x:Nat → RecD) (m:List Nat) (g r:Int):¬ U1 s x m g 0 r:=fun ⟨j,h,_⟩ => by omega
theorem U1.succ (s:Nat → Int) (x:Nat → RecD) (m:List Nat) (g:Int) (k:Nat) (r:Int):U1 s x m g (k + 1) r ↔ U1 s x m g k r ∨ (homeS s (x (m.getD k 0)).name = g ∧ HasP (x (m.getD k 0)).rows.1 (x (m.getD k 0)).rows.2 r):=by
  constructor
  · rintro ⟨j,hj,h⟩
    by_cases e:j = k
    · subst e;exact .inr h
    · exact .inl ⟨j,by omega,h⟩
  · rintro (⟨j,hj,h⟩ | h)
    · exact ⟨j,by omega,h⟩
    · exact ⟨k,by omega,h⟩
theorem U2.zero (x:Nat → RecD) (g r:Int):¬ U2 x g 0 r:=fun ⟨j,h,_⟩ => by omega
theorem U2.succ (x:Nat → RecD) (g:Int) (k:Nat) (r:Int):U2 x g (k + 1) r ↔ U2 x g k r ∨ ((((x k).kind = 2 ∧ (x k).group = g) ∨ (x k).kind = 4) ∧ (x k).row = r):=by
  constructor
  · rintro ⟨j,hj,h⟩
    by_cases e:j = k
    · subst e;exact .inr h
    · exact .inl ⟨j,by omega,h⟩
  · rintro (⟨j,hj,h⟩ | h)
    · exact ⟨j,by omega,h⟩
    · exact ⟨k,by omega,h⟩
open Classical in
noncomputable def freeB (s:Nat → Int) (x:Nat → RecD) (N:Nat) (m:List Nat) (g:Int):Nat → Bool:=fun k => decide (¬ (U1 s x m g m.length (k:Int) ∨ U2 x g N (k:Int)))
theorem freeB_is (s:Nat → Int) (x:Nat → RecD) (N:Nat) (m:List Nat) (g:Int) (k:Nat):freeB s x N m g k = true ↔ ¬ (U1 s x m g m.length (k:Int) ∨ U2 x g N (k:Int)):=by unfold freeB;simp only [decide_eq_true_eq]
noncomputable def freeF (s:Nat → Int) (x:Nat → RecD) (N:Nat) (m:List Nat) (g:Int) (R:Nat):Nat → Int:=fun i => (pickF (freeB s x N m g) R i:Int)
theorem item_rows {s:Nat → Int} (hok:OkShape s) {r:RecD} (h:KindP s r) (hk:r.kind = 1):r.rows.1 ≤ 3:=by
  have hb:=okB hok
  rcases h with ⟨_,h⟩ | ⟨h,_⟩ | ⟨h,_⟩ | ⟨h,_⟩
  · rcases h with ⟨_,_,h⟩ | ⟨_,_,h3,h⟩
    · omega
    · rcases h with ⟨_,_,h⟩ | ⟨_,h,_⟩
      · omega
      · have hq:(0:Int) < s 2 * 4:=by omega
        have:=Int.ediv_lt_of_lt_mul hq (show r.length + s 2 * 4 - 1 < 4 * (s 2 * 4) by omega);omega
  · omega
  · omega
  · omega
theorem rec_named {s:Nat → Int} {r:RecD} (h:RecAns s r 0):NamedP r:=by
  rcases h with ⟨_,h⟩ | ⟨_,h⟩
  · cases h
  rcases h with ⟨_,h⟩ | ⟨_,h⟩
  · cases h
  rcases h with ⟨_,h⟩ | ⟨_,h⟩
  · cases h
  rcases h with ⟨_,h⟩ | ⟨h,_⟩
  · cases h
  · exact h
theorem calls_appF {n:Nat} {args:Array Value} {w:World} {R:Ending → World → Prop} (h:Calls Tryz.prog n args w R):Calls Tryz.prog n (args ++ #[]) w R:=by rw [Array.append_empty];exact h
theorem mixedF:Tryz.prog.follows Departure.mixedOrders = true:=by kernel_rfl
theorem info_S9F {cs:List Value} (h:cs.length = 9):(Tryz.prog.info? 33).map (·.size) = some cs.length:=by rw [h];kernel_rfl
set_option maxHeartbeats 16000000 in
set_option maxRecDepth 20000 in
theorem l6Free_any (s:Nat → Int) (hok:OkShape s) (v:Value) (N:Nat) (x:Nat → RecD) (g:Int) (hi:Nat) (w:World) (h:(layRec.slice 66).rd w hi (N,x) [v]) (hhi:hi ≤ w.heap.size) (hNb:N ≤ 800000) (hkd:∀ i,i < N → (x i).kind = 1 → OkName (x i).name ∧ (x i).rows.1 ≤ 3) :
    Calls Tryz.prog 35 #[shapeV s,v,.int .i64 g] w (fun e w' => ∃ m v',e = .returned v' ∧ Live x N m ∧ OwnI w' w.heap.size w'.heap.size v' (pickI (freeB s x N m g) (s 4).toNat).length (freeF s x N m g (s 4).toNat) ∧ Below w.heap.size w w'):=by
  obtain ⟨ao0,cap0,ev,hrest⟩:=h
  obtain rfl:v = .slice ao0 N cap0:=by simpa using ev
  have HRS:Hid (∀ w',Below w.heap.size w w' → (layRec.slice 66).rd w' hi (N,x) [.slice ao0 N cap0]):=fun w' hb => Lay.rd_below _ ⟨ao0,cap0,ev,hrest⟩ hb hhi;have HKD:Hid (∀ i,i < N → (x i).kind = 1 → OkName (x i).name ∧ (x i).rows.1 ≤ 3):=hkd;have HOK:Hid (OkShape s):=hok;have hsb:=okB hok;obtain ⟨R,hR⟩:∃ R:Nat,s 4 = (R:Int):=⟨(s 4).toNat,by omega⟩
  have hR6:R ≤ 6:=by omega
  have HR:Hid (s 4 = (R:Int)):=hR
  have hRt:(s 4).toNat = R:=by rw [hR];rfl
  rw [hRt];obtain ⟨cS,hcS,hlS⟩:∃ c:List Value,shapeV s = .agg c.toArray ∧ c.length = 9:=⟨[.int .i64 (s 0),.int .i64 (s 1),.int .i64 (s 2),.int .i64 (s 3),.int .i64 (s 4),.int .i64 (s 5),.int .i64 (s 6),.int .i64 (s 7),.int .i64 (s 8)],rfl,rfl⟩;have HCS:Hid (shapeV s = .agg cS.toArray):=hcS
  have HC4:Hid (cS[4]? = some (.int .i64 (R:Int))):=by
    have e:(Value.agg cS.toArray) = .agg [.int .i64 (s 0),.int .i64 (s 1),.int .i64 (s 2),.int .i64 (s 3),.int .i64 (s 4),.int .i64 (s 5),.int .i64 (s 6),.int .i64 (s 7),.int .i64 (s 8)].toArray:=hcS.symm
    have e2:cS = [.int .i64 (s 0),.int .i64 (s 1),.int .i64 (s 2),.int .i64 (s 3),.int .i64 (s 4),.int .i64 (s 5),.int .i64 (s 6),.int .i64 (s 7),.int .i64 (s 8)]:=by simpa using e
    rw [e2,← hR];rfl
  rw [hcS];have T0:=one_new w cS.toArray 33;have bL:Below (w.alloc (.cells cS.toArray 33)).heap.size (w.alloc (.cells cS.toArray 33)) ((w.alloc (.cells cS.toArray 33)).alloc (.cells #[] 2)):=(Below.refl _ _).alloc (Nat.le_refl _) _;have V0:=View.lit0 (E:=layI) (t:=2) (fun _ => (0:Int)) (fun _ => []) (w.alloc (.cells cS.toArray 33)) 0;have T1:=T0.call bL
  have e0:(w.alloc (.cells cS.toArray 33)).heap.size = w.heap.size + 1:=by simp
  have e1:((w.alloc (.cells cS.toArray 33)).alloc (.cells #[] 2)).heap.size = w.heap.size + 2:=by simp
  rw [e0] at V0;have CL:=l6Live_any (.slice ao0 N cap0) N x hi ((w.alloc (.cells cS.toArray 33)).alloc (.cells #[] 2)) (HRS.out _ T1.bel) (Nat.le_trans hhi T1.bel.size) hNb;clear ev hrest hkd hok hR hRt hcS
  go_enter Tryz.func35,Tryz.ntmps35
  go_wp2_with fail
  refine CL.mono ?_;rintro e w2 ⟨v2,m,cm,lo2,rfl,hLM,hlo2,VM,b2⟩;have HLM:Hid (Live x N m):=hLM;have T2:=T1.call b2;have HT2:Hid (One w w2 cS.toArray 33):=T2;rw [e1] at hlo2
  have z2:w.heap.size + 2 ≤ w2.heap.size:=by
    have h1:=b2.size;omega
  have V2:=V0.below b2 (Nat.zero_le _);obtain ⟨M,hM⟩:∃ M,M = m.length:=⟨_,rfl⟩;have HM:Hid (M = m.length):=hM
  have hMN:M ≤ 800000:=by
    have:=(sub_sum (fun _ => 0) N m hLM.nodup (fun i hi => hLM.lt hi)).2;omega
  rw [← hM] at VM;have HVM:Hid (View layRec 66 w2 lo2 hi v2 M (fun i => x (m.getD i 0)) cm):=VM
  have HKM:Hid (∀ k,k < M → OkName (x (m.getD k 0)).name ∧ (x (m.getD k 0)).rows.1 ≤ 3):=fun k hk => by
    have hkm:k < m.length:=by rw [← hM];exact hk
    have hmm:=(hLM.1 (m.getD k 0)).1 (by rw [List.getD_eq_getElem?_getD,List.getElem?_eq_getElem hkm];exact List.getElem_mem hkm);exact HKD.out _ hmm.1 hmm.2.1
  obtain ⟨aM,cM,hvM⟩:=VM.form;subst hvM;have HV2:Hid (View layI 2 w2 (w.heap.size + 1) 0 (.slice (some ⟨w.heap.size + 1,0,none⟩) 0 0) 0 (fun _ => (0:Int)) (fun _ => [])):=V2;have HBW2:Hid (Below w.heap.size w w2):=T2.bel;have HG0:Hid (Gth w2 w2 (w.heap.size + 1) (.slice (some ⟨w.heap.size + 1,0,none⟩) 0 0) 0 (fun _ => (0:Int)) (fun _ => [])):=⟨V2,ChgL.refl _ _,fun b hb => .inl (by simpa [Value.ownBlock] using hb.symm)⟩;clear CL hLM VM hM T0 T1 T2 bL V0 b2 V2 e0 e1;go_wp2
  go_loopw [7,9] (fun u i wr => ∃ (k n:Nat) (y:Nat → Int) (cy:Nat → List Value),k ≤ M ∧ i = .int .i64 k ∧ n ≤ 3 * k ∧ Gth w2 wr (w.heap.size + 1) u n y cy ∧ (∀ r,HasP n y r ↔ U1 s x m g k r)) (fun _ i _ => M - (intOf i).toNat)
  case atStart => exact ⟨0,0,_,_,Nat.zero_le _,rfl,by omega,HG0.out,fun r => ⟨fun ⟨i,hi,_⟩ => by omega,fun h => absurd h (U1.zero s x m g r)⟩⟩
  case round =>
    obtain ⟨k,n,y,cy,hk,rfl,hn3,hG,hU⟩:=hrel;have HG:Hid (Gth w2 wr (w.heap.size + 1) u7 n y cy):=hG;have HU:Hid (∀ r,HasP n y r ↔ U1 s x m g k r):=hU;have zr:w2.heap.size ≤ wr.heap.size:=hG.ch.size;have bW:Below w.heap.size w2 wr:=hG.ch.bel (fun b hb => by simp at hb;omega) (by omega);have HBW:Hid (Below w.heap.size w wr):=HBW2.out.trans bW;have XS:Box wr w.heap.size cS.toArray 33:=HT2.out.b1.chgl hG.ch (by simp);have HXS:Hid (Box wr w.heap.size cS.toArray 33):=XS;have VMr:=HVM.out.kept (w':=wr) (fun b hb => hG.ch.block b (by have:=HVM.out.row.lt b hb;omega) (by have:=HVM.out.row.lt b hb;simp;omega)) (bW.mono (by omega));obtain ⟨au,cau,hu⟩:=hG.vw.form;subst hu
    by_cases hlt:k < M
    · obtain ⟨gM,cM',hgM⟩:=VMr.form0 (by omega)
      have hgM2:=hgM
      obtain ⟨rfl,rfl⟩:aM = some ⟨gM,0,none⟩ ∧ cM = cM':=by simpa using hgM2
      have rg:=VMr.range hlt;obtain ⟨r,hr⟩:∃ r,r = x (m.getD k 0):=⟨_,rfl⟩;have HRR:Hid (r = x (m.getD k 0)):=hr;have hkm:=HKM.out k hlt;rw [← hr] at hkm;have hsz8:r.name.size ≤ 8:=hkm.1.2.1;obtain ⟨ao6,cap6,ao7,cap7,ao8,cap8,hce,h6,-⟩:=Rec_rd (VMr.each k hlt);have y2:wr.cell? ⟨gM,k * 9 + 2,none⟩ = some (.string r.name):=rg 2 _ (by rw [hce,hr];rfl);have y6:wr.cell? ⟨gM,k * 9 + 6,none⟩ = some (.slice ao6 r.rows.1 cap6):=rg 6 _ (by rw [hce,hr];rfl)
      have h6':layInts.rd wr hi (r.rows.1,r.rows.2) [.slice ao6 r.rows.1 cap6]:=by rw [hr];exact h6
      have H6:Hid (layInts.rd wr hi (r.rows.1,r.rows.2) [.slice ao6 r.rows.1 cap6]):=h6';have hgMl:gM < wr.heap.size:=block_lt_of_cell y2;have CH0:=specHome_in s r.name hsz8 (by omega) (by omega) wr.drew;rw [HCS.out] at CH0;obtain ⟨hv,hhv⟩:∃ h,h = homeS s r.name:=⟨_,rfl⟩;have HHV:Hid (hv = homeS s r.name):=hhv;rw [show (nameSum r.name r.name.size:Int) % s 0 = hv from hhv.symm] at CH0;have CH:=calls_appF CH0
      have i1:(0:Int) ≤ (k:Int):=by omega
      have i2:(k:Int) < (M:Int):=by omega
      have rS:wr.drew.rangeAt w.heap.size 0 cS ∧ wr.drew.cell? ⟨gM,k * 9 + 2,none⟩ = some (.string r.name):=⟨rangeB XS,y2⟩;clear VMr hgM hgM2 rg hce h6 h6' CH0 hr hhv hG hU bW XS hkm
      go_upto_region 6 with fail
      refine wp_region_M 6 (fun w' => w'.rangeAt w.heap.size 0 cS ∧ w'.cell? ⟨gM,k * 9 + 2,none⟩ = some (.string r.name)) mixedF rS (fun hHeld => ?_);refine wpAnyM_take (i:=0) (oi:=_) (v:=.agg cS.toArray) 16 rfl (by kernel_rfl) (fun _ _ _ h => h) (yieldsIf_load_mid (by kernel_rfl) 33 (.tmp 3) rfl w.heap.size (0) (by simp [Act.eval,Act.put]) cS _ (fun w h => h.1) Tryz.underlying33 rfl (info_S9F hlS)) (by assumption) ?_
      try simp only [Act.put,SL]
      refine wpAnyM_pure (i:=1) (oi:=_) (v:=?_) rfl (by kernel_rfl) (fun _ _ _ h => h) (Or.inl ⟨by kernel_rfl,?_⟩) (by assumption) ?_
      rotate_left
      · intro w' hSw;go_simp;try with_reducible rfl
      try simp only [Act.put,SL]
      refine wpAnyM_pure (i:=2) (oi:=_) (v:=?_) rfl (by kernel_rfl) (fun _ _ _ h => h) (Or.inl ⟨by kernel_rfl,?_⟩) (by assumption) ?_
      rotate_left
      · intro w' hSw;go_simp;try with_reducible rfl
      try simp only [Act.put,SL]
      refine wpAnyM_pure (i:=3) (oi:=_) (v:=?_) rfl (by kernel_rfl) (fun _ _ _ h => h) (Or.inl ⟨by kernel_rfl,?_⟩) (by assumption) ?_
      rotate_left
      · intro w' hSw;go_simp;try with_reducible rfl
      try simp only [Act.put,SL]
      refine wpAnyM_pure (i:=4) (oi:=_) (v:=?_) rfl (by kernel_rfl) (fun _ _ _ h => h) (Or.inl ⟨by kernel_rfl,?_⟩) (by assumption) ?_
      rotate_left
      · intro w' hSw;go_simp;try with_reducible rfl
      try simp only [Act.put,SL]
      refine wpAnyM_take (i:=5) (oi:=_) (v:=?_) 16 rfl (by kernel_rfl) (fun _ _ _ h => h) (Or.inl ⟨by kernel_rfl,?_⟩) (by assumption) ?_
      rotate_left
      · intro w' hSw
        try dsimp only at hSw
        obtain ⟨q1,q2⟩:=hSw;go_simp
        try with_reducible rfl
      try simp only [Act.put,SL]
      refine wpAnyM_pure (i:=7) (oi:=_) (v:=?_) rfl (by kernel_rfl) (fun _ _ _ h => h) (Or.inl ⟨by kernel_rfl,?_⟩) (by assumption) ?_
      rotate_left
      · intro w' hSw;go_simp;try with_reducible rfl
      try simp only [Act.put,SL]
      refine wpAnyM_one (i:=6) (o:=_) rfl (by kernel_rfl) (by kernel_rfl) (fun KC hKC => ?_);refine step_callv (by kernel_rfl) (.func 69) 69 #[] _ _ rfl (by simp [Act.eval,Act.put]) #[.agg cS.toArray,.string r.name] (by simp [Act.eval,Act.put]) Tryz.func69 (by kernel_rfl) (by kernel_rfl) CH ?_;rintro e w9 ⟨rfl,b9d⟩;refine ⟨_,rfl,?_⟩;refine hKC _ _ ?_;clear hKC KC
      try simp only [Act.put,SL]
      refine wpAnyM_pureL (i:=8) (oi:=_) (v:=?_) rfl (by kernel_rfl) (fun _ _ _ h => h) (Or.inl ⟨by kernel_rfl,?_⟩) ?_
      rotate_left
      · intro w' hSw;go_simp;try with_reducible rfl
      try simp only [Act.put,SL]
      refine wpAnyM_done (by kernel_rfl) ?_ _;have b9:Below wr.heap.size wr w9:=(show Below wr.heap.size wr wr.drew from ⟨rfl,rfl,rfl,Nat.le_refl _,fun _ _ => rfl⟩).trans b9d;have G9:=HG.out.next b9;have z9:wr.heap.size ≤ w9.heap.size:=b9.size;have y6':w9.cell? ⟨gM,k * 9 + 6,none⟩ = some (.slice ao6 r.rows.1 cap6):=(b9.cell (p:=⟨gM,k * 9 + 6,none⟩) hgMl).trans y6;have H69:layInts.rd w9 hi (r.rows.1,r.rows.2) [.slice ao6 r.rows.1 cap6]:=layInts.rd_below H6.out b9 (by omega);have HG9:Hid (Gth w2 w9 (w.heap.size + 1) (.slice au n cau) n y cy):=G9;clear b9d CH hHeld rS y2 y6 G9
      by_cases hh:hv = g
      · have dh:(hv == g) = true:=by simp [hh]
        have HH:Hid (homeS s (x (m.getD k 0)).name = g):=by
          show homeS s (x (m.getD k 0)).name = g
          rw [← HRR.out,← HHV.out];exact hh
        obtain ⟨hsrc,hc0⟩:=src_rows H69
        have hr3:r.rows.1 ≤ 3:=by have:=(HKM.out k hlt).2;rw [← HRR.out] at this;exact this
        obtain ⟨u',W',hrun,hG'⟩:=HG9.out.app (by omega) cap6 hsrc hc0 (by omega);have HG':Hid (Gth w2 W' (w.heap.size + 1) u' (n + r.rows.1) (cat2 y n r.rows.2) (cat2 cy n (fun i => [.int .i64 (r.rows.2 i)]))):=hG';obtain ⟨au',cau',hu'⟩:=hG'.vw.form;have HUF:Hid (u' = .slice au' (n + r.rows.1) cau'):=hu';clear hsrc hc0 hG' hu' H69 hh
        go_wp2_with (at_builtin;refine wp_run2 rfl (.tmp 31) (.tmp 36) rfl ?_ ?_ hrun ?_;(simp [Act.eval,Act.put]);(simp [Act.eval,Act.put]))
        clear hrun;go_wp2
        go_roundw
        case rel => exact ⟨k + 1,n + r.rows.1,_,_,by omega,by go_num,by omega,HG'.out,fun q => by rw [has_cat,HU.out,U1.succ,← HRR.out];exact ⟨fun h => h.elim .inl (fun h => .inr ⟨by rw [HRR.out];exact HH.out,h⟩),fun h => h.elim .inl (fun h => .inr h.2)⟩⟩
        case measure => simp [intOf];omega
      · have dh:(hv == g) = false:=by simp [hh]
        have HH:Hid (¬ homeS s (x (m.getD k 0)).name = g):=by
          show ¬ homeS s (x (m.getD k 0)).name = g
          rw [← HRR.out,← HHV.out];exact hh
        clear hh H69 y6';go_wp2
        go_roundw
        case rel => exact ⟨k + 1,n,y,cy,by omega,by go_num,by omega,HG9.out,fun q => by rw [HU.out,U1.succ];exact ⟨.inl,fun h => h.elim id (fun h => absurd h.1 HH.out)⟩⟩
        case measure => simp [intOf];omega
    · obtain rfl:k = M:=by omega
      clear VMr XS bW hG hU
      have HU0:Hid (∀ r,HasP n y r ↔ U1 s x m g k r ∨ U2 x g 0 r):=fun r => by rw [HU.out];exact ⟨.inl,fun h => h.elim id (fun h => absurd h (U2.zero x g r))⟩
      have HGa:Hid (Gth w2 wr (w.heap.size + 1) (.slice au n cau) n y cy):=HG;go_wp2
      go_loopw [7,10] (fun u i wr => ∃ (q n:Nat) (y:Nat → Int) (cy:Nat → List Value),q ≤ N ∧ i = .int .i64 q ∧ n ≤ 3 * k + q ∧ Gth w2 wr (w.heap.size + 1) u n y cy ∧ (∀ r,HasP n y r ↔ U1 s x m g k r ∨ U2 x g q r)) (fun _ i _ => N - (intOf i).toNat)
      case atStart => exact ⟨0,n,y,cy,Nat.zero_le _,rfl,by omega,HGa.out,HU0.out⟩
      case round =>
        clear HU0 HGa HU HG HBW HXS zr hn3 hlt hk;obtain ⟨q,n,y,cy,hq,rfl,hn3,hG,hU⟩:=hrel;have HG:Hid (Gth w2 wr (w.heap.size + 1) u7 n y cy):=hG;have HU:Hid (∀ r,HasP n y r ↔ U1 s x m g k r ∨ U2 x g q r):=hU;have zr:w2.heap.size ≤ wr.heap.size:=hG.ch.size;have bW:Below w.heap.size w2 wr:=hG.ch.bel (fun b hb => by simp at hb;omega) (by omega);have HBW:Hid (Below w.heap.size w wr):=HBW2.out.trans bW;have HXS:Hid (Box wr w.heap.size cS.toArray 33):=HT2.out.b1.chgl hG.ch (by simp);obtain ⟨au,cau,hu⟩:=hG.vw.form;subst hu;have hrs:=HRS.out wr HBW.out;clear hG hU bW
        by_cases hlt:q < N
        · obtain ⟨cz,hS,-⟩:=src_of hrs
          obtain ⟨b,off,hrb,hcell⟩:=hS.1 (by omega);subst hrb;obtain ⟨r,hr⟩:∃ r,r = x q:=⟨_,rfl⟩;have HRR:Hid (r = x q):=hr;have rdq:=hS.2 q hlt;rw [← hr] at rdq;obtain ⟨ao6,cap6,ao7,cap7,ao8,cap8,hce,-,-,-,k0,k1,k2,k3,k4,k5⟩:=Rec_rd rdq;have c0:=hcell q hlt;rw [hce] at c0
          have y0:wr.cell? ⟨b,off + q * 9,none⟩ = some (.int .i64 r.kind):=by have:=c0 0 (by decide);exact this
          have y4:wr.cell? ⟨b,off + q * 9 + 4,none⟩ = some (.int .i64 r.group):=by have:=c0 4 (by decide);exact this
          have y5:wr.cell? ⟨b,off + q * 9 + 5,none⟩ = some (.int .i64 r.row):=by have:=c0 5 (by decide);exact this
          have i1:(0:Int) ≤ (q:Int):=by omega
          have i2:(q:Int) < (N:Int):=by omega
          have bA:Below wr.heap.size wr (wr.alloc (.cells #[.int .i64 r.row] 2)):=(Below.refl _ _).alloc (Nat.le_refl _) _;obtain ⟨u',W',hrun,hG'⟩:=(HG.out.next bA).app (by have:=bA.size;omega) 1 (src_num wr r.row k5) (fun e => by cases e) (by omega);have HG':Hid (Gth w2 W' (w.heap.size + 1) u' (n + 1) (cat2 y n (fun _ => r.row)) (cat2 cy n (fun _ => [.int .i64 r.row]))):=hG';obtain ⟨au',cau',hu'⟩:=hG'.vw.form;have HUF:Hid (u' = .slice au' (n + 1) cau'):=hu';have HONE:Hid (∀ z,HasP 1 (fun _ => r.row) z ↔ r.row = z):=fun z => ⟨fun ⟨_,_,e⟩ => e,fun e => ⟨0,by omega,e⟩⟩;clear hrs hS hcell rdq hce c0 hr k0 k1 k2 k3 k4 k5 hG' hu' bA
          have yes:((r.kind = 2 ∧ r.group = g) ∨ r.kind = 4) → ∀ z,HasP (n + 1) (cat2 y n (fun _ => r.row)) z ↔ U1 s x m g k z ∨ U2 x g (q + 1) z:=fun hc z => by
            rw [has_cat,HU.out,HONE.out,U2.succ,← HRR.out];exact ⟨fun h => h.elim (fun h => h.elim .inl (fun h => .inr (.inl h))) (fun h => .inr (.inr ⟨hc,h⟩)),fun h => h.elim (fun h => .inl (.inl h)) (fun h => h.elim (fun h => .inl (.inr h)) (fun h => .inr h.2))⟩
          have no:¬ ((r.kind = 2 ∧ r.group = g) ∨ r.kind = 4) → ∀ z,HasP n y z ↔ U1 s x m g k z ∨ U2 x g (q + 1) z:=fun hc z => by
            rw [HU.out,U2.succ,← HRR.out];exact ⟨fun h => h.elim .inl (fun h => .inr (.inl h)),fun h => h.elim .inl (fun h => h.elim .inr (fun h => absurd h.1 hc))⟩
          have HYES:Hid (((r.kind = 2 ∧ r.group = g) ∨ r.kind = 4) → ∀ z,HasP (n + 1) (cat2 y n (fun _ => r.row)) z ↔ U1 s x m g k z ∨ U2 x g (q + 1) z):=yes;have HNO:Hid (¬ ((r.kind = 2 ∧ r.group = g) ∨ r.kind = 4) → ∀ z,HasP n y z ↔ U1 s x m g k z ∨ U2 x g (q + 1) z):=no;clear yes no
          by_cases c1:r.kind = 2
          · have d1:(r.kind == 2) = true:=by simp [c1]
            have d4:(r.kind == 4) = false:=by simp [c1]
            have HC1:Hid (r.kind = 2):=c1;clear c1
            by_cases c2:r.group = g
            · have d2:(r.group == g) = true:=by simp [c2]
              have HC2:Hid (r.group = g):=c2;clear c2 d4
              go_wp2_with (at_builtin;refine wp_run2 rfl (.tmp 67) (.tmp 73) rfl ?_ ?_ hrun ?_;(simp [Act.eval,Act.put]);(simp [Act.eval,Act.put]))
              clear hrun;go_wp2
              go_roundw
              case rel => exact ⟨q + 1,n + 1,_,_,by omega,by go_num,by omega,HG'.out,HYES.out (.inl ⟨HC1.out,HC2.out⟩)⟩
              case measure => simp [intOf];omega
            · have d2:(r.group == g) = false:=by simp [c2]
              have HN4:Hid (¬ ((r.kind = 2 ∧ r.group = g) ∨ r.kind = 4)):=fun h => h.elim (fun h => c2 h.2) (fun h => by have:=HC1.out;omega);clear c2 hrun;go_wp2
              go_roundw
              case rel => exact ⟨q + 1,n,y,cy,by omega,by go_num,by omega,HG.out,HNO.out HN4.out⟩
              case measure => simp [intOf];omega
          · have d1:(r.kind == 2) = false:=by simp [c1]
            have HC1:Hid (¬ r.kind = 2):=c1;clear c1
            by_cases c4:r.kind = 4
            · have d4:(r.kind == 4) = true:=by simp [c4]
              have HC4':Hid (r.kind = 4):=c4;clear c4
              go_wp2_with (at_builtin;refine wp_run2 rfl (.tmp 67) (.tmp 73) rfl ?_ ?_ hrun ?_;(simp [Act.eval,Act.put]);(simp [Act.eval,Act.put]))
              clear hrun;go_wp2
              go_roundw
              case rel => exact ⟨q + 1,n + 1,_,_,by omega,by go_num,by omega,HG'.out,HYES.out (.inr HC4'.out)⟩
              case measure => simp [intOf];omega
            · have d4:(r.kind == 4) = false:=by simp [c4]
              have HN4:Hid (¬ ((r.kind = 2 ∧ r.group = g) ∨ r.kind = 4)):=fun h => h.elim (fun h => HC1.out h.1) c4;clear c4 hrun;go_wp2
              go_roundw
              case rel => exact ⟨q + 1,n,y,cy,by omega,by go_num,by omega,HG.out,HNO.out HN4.out⟩
              case measure => simp [intOf];omega
        · obtain rfl:q = N:=by omega
          obtain ⟨w3,hw3⟩:∃ z,z = wr:=⟨_,rfl⟩;rw [← hw3] at HG HXS HBW zr ⊢;clear hrs hlt hw3;have hRD:=viewI_rd HG.out.vw;have HRD:Hid (RdI w3 w3.heap.size (.slice au n cau) n y):=hRD;have I0:=ownI_lit0 w3 (freeF s x q m g R);have bL:Below w3.heap.size w3 (w3.alloc (.cells #[] 2)):=(Below.refl _ _).alloc (Nat.le_refl _) _
          have HUN:Hid (∀ z,HasP n y z ↔ U1 s x m g m.length z ∨ U2 x g q z):=by
            have:=HU.out;rw [HM.out] at this;exact this
          clear hRD HG HU;go_wp2
          go_loopw [11,12] (fun vo i wr => ∃ j:Nat,j ≤ R ∧ i = .int .i64 j ∧ OwnI wr w3.heap.size wr.heap.size vo (pickI (freeB s x q m g) j).length (freeF s x q m g R) ∧ Below w3.heap.size w3 wr) (fun _ i _ => R - (intOf i).toNat)
          case atStart => exact ⟨0,Nat.zero_le _,rfl,I0,bL⟩
          case round =>
            clear I0 bL;obtain ⟨j,hj,rfl,hI,bw⟩:=hrel;obtain ⟨wx,rfl⟩:∃ y,y = wr:=⟨_,rfl⟩;obtain ⟨c,hc⟩:∃ c,c = (pickI (freeB s x q m g) j).length:=⟨_,rfl⟩;have HC:Hid (c = (pickI (freeB s x q m g) j).length):=hc;rw [← hc] at hI
            have hck:c ≤ j:=by rw [hc];exact pick_le _ _
            obtain ⟨aoo,capo,hvo⟩:=hI.slice;subst hvo;have HI5:Hid (OwnI wx w3.heap.size wx.heap.size (.slice aoo c capo) c (freeF s x q m g R)):=hI;have HBX:Hid (Below w3.heap.size w3 wx):=bw;have zx:w3.heap.size ≤ wx.heap.size:=bw.size
            have x4:wx.cell? ⟨w.heap.size,4,none⟩ = some (.int .i64 (R:Int)):=by
              have h1:=(HXS.out.below bw HXS.out.lt).cell 4;rw [h1]
              simpa using HC4.out
            have RDx:=HRD.out.below bw (Nat.le_refl _);clear hI hc bw
            by_cases hlt:j < R
            · obtain ⟨t,ht⟩:=exB (HasP n y (j:Int))
              have CT:=det_b (l1Has_any (.slice au n cau) n y w3.heap.size (j:Int) wx RDx) ht
              have t1:(j:Int) < (R:Int):=by omega
              have HW:Hid (freeB s x q m g j = !t):=by
                show freeB s x q m g j = !t
                have h1:=freeB_is s x q m g j;rw [← HUN.out] at h1
                cases t with
                | true =>
                  cases hf:freeB s x q m g j with
                  | false => rfl
                  | true => exact absurd (ht.1 rfl) (h1.1 hf)
                | false => exact h1.2 (fun h => by have:=ht.2 h;cases this)
              clear ht RDx
              go_wp2_with fail
              refine CT.mono ?_;rintro e w5 ⟨rfl,b5⟩;have z5:wx.heap.size ≤ w5.heap.size:=b5.size;have HI6:Hid (OwnI w5 w3.heap.size w5.heap.size (.slice aoo c capo) c (freeF s x q m g R)):=(HI5.out.below b5 (Nat.le_refl _)).mono z5;have HB5:Hid (Below w3.heap.size w3 w5):=HBX.out.trans (b5.mono zx);clear b5 CT x4
              cases t with
              | true =>
                go_wp2
                go_roundw
                case rel => exact ⟨j + 1,by omega,by go_num,by rw [pick_skip HW.out,← HC.out];exact HI6.out,HB5.out⟩
                case measure => simp [intOf];omega
              | false =>
                have HF:Hid (freeF s x q m g R c = (j:Int)):=by
                  show freeF s x q m g R c = (j:Int)
                  have:=(pickF_at (p:=freeB s x q m g) HW.out R hlt).1;unfold freeF;rw [HC.out,this]
                go_wp2_with (at_builtin;refine wp_appendI rfl (.tmp 86) (.tmp 88) rfl w3.heap.size w5.heap.size (.slice aoo c capo) c (freeF s x q m g R) ?_ ?_ w5.heap.size 1 ?_ ?_ (by omega) ?_ ?_;(simp [Act.eval]);exact HI6.out.alloc _;(simp [Act.eval]);(rw [HF.out];simp);(simp;omega);intro v7 w7 o7 b7)
                have b8:Below w3.heap.size w5 w7:=((Below.refl w3.heap.size w5).alloc (by omega) _).trans b7;have HB7:Hid (Below w3.heap.size w3 w7):=HB5.out.trans b8;have HI7:Hid (OwnI w7 w3.heap.size w7.heap.size v7 (c + 1) (freeF s x q m g R)):=o7;clear o7 b7 b8 HI6;go_wp2
                go_roundw
                case rel => exact ⟨j + 1,by omega,by go_num,by
                  have e:(pickI (freeB s x q m g) (j + 1)).length = c + 1:=by rw [pick_succ,if_pos (show freeB s x q m g j = true from HW.out),List.length_append,← HC.out];rfl
                  rw [e];exact HI7.out,HB7.out⟩
                case measure => simp [intOf];omega
            · obtain rfl:j = R:=by omega
              have HO:Hid (OwnI wx w.heap.size wx.heap.size (.slice aoo c capo) c (freeF s x q m g j)):=HI5.out.weaken (by have:=HBW.out.size;omega) (Nat.le_refl _);have HBZ:Hid (Below w.heap.size w wx):=HBW.out.trans (HBX.out.mono HBW.out.size);clear RDx hlt;go_wp2;go_ret;exact ⟨m,_,rfl,HLM.out,by rw [← HC.out];exact HO.out,HBZ.out⟩
end Go.Proofs.YtfoidpcoiankoaaGreat
namespace Go.Proofs.YtfoidpcoiankoaaGreat
open Go.RowKit Go.Maps Go.Sort F256
theorem size_le {w:World} {b n:Nat} {D:DataW Value} (h:w.ownsMap Tryz.prog 9 heldR b n D):Maps.size D ≤ n:=by
  obtain ⟨es,clock,_,_,h1,rfl⟩:=h;rw [Maps.size_eq];refine Nat.le_trans ?_ h1;have:=(WideShapes.sorted_perm (es.toList.map (WideElems.rg Tryz.prog 9 heldR))).length_eq;rw [this]
  simp
theorem ownsRow_low {w:World} {base base' size n:Nat} {e:TypeId} {v:Value} {xs:List Value} (h:w.ownsRow base e size v n xs) (hb:base' ≤ base):w.ownsRow base' e size v n xs :=
  ⟨h.1,h.2.elim Or.inl (fun ⟨g,cap,cur,hv,hg,r⟩ => Or.inr ⟨g,cap,cur,hv,Nat.le_trans hb hg,r⟩)⟩
theorem take_snoc {β:Type} (l:List β) {k:Nat} (h:k < l.length):l.take (k + 1) = l.take k ++ [l[k]]:=by rw [List.take_add_one,List.getElem?_eq_getElem h];rfl
theorem getD_snoc_lt {l:List Nat} {a i:Nat} (h:i < l.length):(l ++ [a]).getD i 0 = l.getD i 0:=by
  rw [List.getD_eq_getElem?_getD,List.getD_eq_getElem?_getD,List.getElem?_append_left h]
theorem getD_snoc_at {l:List Nat} {a:Nat}:(l ++ [a]).getD l.length 0 = a:=by
  rw [List.getD_eq_getElem?_getD,List.getElem?_append_right (Nat.le_refl _)]
  simp
set_option maxHeartbeats 16000000 in
set_option maxRecDepth 20000 in
theorem items_any {w:World} {lo B hi:Nat} {s:Nat → Int} {m N:Nat} {x:Nat → RecD} {ce:Nat → List Value} {v:Value} {b1 b2 b3 b4 b5:Nat} (h:Ldg w lo B s m N x ce v b1 b2 b3 b4 b5) (hN:N ≤ 1000000) (hhi:hi ≤ w.heap.size) (hr:∀ i,i < N → layRec.rd w hi (x i) (ce i)) (hk:∀ i,i < N → (x i).kind = 1 → ((x i).length < 0 ↔ (x i).length = -1)) :
    Calls Tryz.prog 29 #[.pointer (some ⟨B,0,none⟩)] w fun e w' => ∃ u cu l,e = .returned u ∧ Live x N l ∧ View layRec 66 w' w.heap.size hi u l.length (fun i => x (l.getD i 0)) cu ∧ Below w.heap.size w w':=by
  have HL:Hid (Ldg w lo B s m N x ce v b1 b2 b3 b4 b5):=h;have HR:Hid (∀ i,i < N → layRec.rd w hi (x i) (ce i)):=hr;have HK:Hid (∀ i,i < N → (x i).kind = 1 → ((x i).length < 0 ↔ (x i).length = -1)):=hk;obtain ⟨D,hown,hf⟩:=h.m1;have hsz:=size_le hown;have d4:w.cell? ⟨B,10,none⟩ = some (.map (some b1)):=h.box.cell 10
  have HF:Hid (∀ ss:List (List UInt8),ss.Perm (strKeys D) → Names x N (ss.mergeSort (fun x y => decide (x ≤ y)))):=fun ss hS => names_ok hown hf (fun i hi' => by
    obtain ⟨ao6,cap6,ao7,cap7,ao8,cap8,-,-,-,-,-,-,k2,-⟩:=Rec_rd (hr i hi')
    exact k2) hS
  have HSZ:Hid (∀ ss:List (List UInt8),ss.Perm (strKeys D) → ss.length ≤ 1000000):=fun ss hS => by
    have e1:=hS.length_eq;obtain ⟨es,rfl,_⟩:=hown.keysOf
    have e2:(strKeys (.map es:DataW Value)).length = es.length:=by show (es.map _).length = _;simp
    rw [Maps.size_eq] at hsz;omega
  have CK:=callsIn_wide.1 (itMapsKeys (some b1) w);have CS:=callsIn_wide.1 (itSortedKeys b1 N D heldR w hown (by unfold maxLen;omega) (by omega));clear h hr hk hown hf hsz
  go_enter Tryz.func29,Tryz.ntmps29
  go_wp2_with fail
  refine CK.mono ?_;rintro e w1 ⟨rfl,rfl⟩
  go_wp2_with fail
  refine CS.mono ?_;rintro e w2 ⟨vs,ss,rfl,hS,hrow,hnil,hb2⟩;have hNm:=HF.out ss hS;have hlen:=HSZ.out ss hS;obtain ⟨ns,hns⟩:∃ ns,ns = ss.mergeSort (fun x y => decide (x ≤ y)):=⟨_,rfl⟩
  have hnl:ns.length = ss.length:=by rw [hns];exact (List.mergeSort_perm ss _).length_eq
  rw [← hns] at hNm hrow;rw [← hnl] at hrow hlen;have HNM:Hid (Names x N ns):=hNm;have bel2:Below w.heap.size w w2:=((Below.refl _ w).alloc (Nat.le_refl _) _).trans (hb2.mono (by simp));have HB2:Hid (Below w.heap.size w w2):=bel2;have z2:w.heap.size ≤ w2.heap.size:=bel2.size
  obtain ⟨ao,cap,hvs⟩:∃ ao cap,vs = .slice ao ns.length cap:=by
    rcases hrow.2 with ⟨rfl,e⟩ | ⟨g,c,cur,rfl,_⟩
    · exact ⟨none,0,by rw [e]⟩
    · exact ⟨_,_,rfl⟩
  subst hvs;have HROW:Hid (w2.ownsRow (w.alloc (.cells #[.map (some b1)] 98)).heap.size 9 1 (.slice ao ns.length cap) ns.length (ns.map encStr)):=hrow;obtain ⟨M,hM⟩:∃ M,M = ns.length:=⟨_,rfl⟩;have HM:Hid (M = ns.length):=hM;rw [← hM] at hlen ⊢;clear CK CS hS hrow hnil hb2 hns hnl hNm bel2 d4 hM;go_wp2
  go_loopw [3,14] (fun u i wr => ∃ (k:Nat) (cu:Nat → List Value),k ≤ M ∧ i = .int .i64 k ∧ View layRec 66 wr w2.heap.size hi u (lvL x N (ns.take k)).length (fun i => x ((lvL x N (ns.take k)).getD i 0)) cu ∧ Below w2.heap.size w2 wr) (fun _ i _ => M - (intOf i).toNat)
  case atStart => exact ⟨0,fun _ => [],Nat.zero_le _,rfl,View.nil _ _ _ _ _,Below.refl _ _⟩
  case round =>
    obtain ⟨k,cu,hk,rfl,hV,hb⟩:=hrel;obtain ⟨c,hc⟩:∃ c,c = (lvL x N (ns.take k)).length:=⟨_,rfl⟩;have HC:Hid (c = (lvL x N (ns.take k)).length):=hc;rw [← hc] at hV
    have hck:c ≤ k:=by
      have h1:=lvL_len x N (ns.take k);have h2:=List.length_take_le k ns;omega
    obtain ⟨au,cau,hu⟩:=hV.form;subst hu;have HV:Hid (View layRec 66 wr w2.heap.size hi (.slice au c cau) c (fun i => x ((lvL x N (ns.take k)).getD i 0)) cu):=hV;have HB:Hid (Below w2.heap.size w2 wr):=hb;have zr:w2.heap.size ≤ wr.heap.size:=hb.size;have HBW:Hid (Below w.heap.size w wr):=HB2.out.trans (hb.mono z2)
    by_cases hlt:k < M
    · have hkn:k < ns.length:=by rw [← HM.out];exact hlt
      obtain ⟨gs,hga,ye⟩:∃ gs,ao = some ⟨gs,0,none⟩ ∧ wr.cell? ⟨gs,k,none⟩ = some (encStr (ns[k])):=by
        rcases HROW.out.2 with ⟨_,e⟩ | ⟨g,c0,cur,e,q1,q2,q3,q4,q5,q6⟩
        · omega
        · cases e
          refine ⟨g,rfl,?_⟩
          have hg:g < w2.heap.size:=by
            obtain ⟨hh,_⟩:=Array.getElem?_eq_some_iff.1 q2;exact hh
          have e1:cur.toList[k]? = some (encStr (ns[k])):=by
            have:(cur.toList.take (ns.length * 1))[k]? = some (encStr (ns[k])):=by
              rw [q6,List.getElem?_map,List.getElem?_eq_getElem hkn];rfl
            rw [List.getElem?_take,if_pos (by omega)] at this;exact this
          rw [hb.cell (p:=⟨g,k,none⟩) hg,cell_of_row w2 g k cur _ _ q2]
          simpa using e1
      subst hga;obtain ⟨nk,hnk⟩:∃ nk,nk = ns[k]:=⟨_,rfl⟩;rw [← hnk] at ye
      have hmem:nk ∈ ns:=by rw [hnk];exact List.getElem_mem hkn
      obtain ⟨j1,j2,j3,j4⟩:=HNM.out.idx_is hmem;have hll:=(HNM.out.at_ nk hmem).1;obtain ⟨j,hj⟩:∃ j,j = idx x N nk:=⟨_,rfl⟩;rw [← hj] at j1 j2 j3 j4;obtain ⟨kl,hkl⟩:=keyOf_S (s:=⟨nk.toArray⟩) (by show nk.toArray.size ≤ maxLen;simpa using hll);have Lr:=HL.out.keepAll (fun b hb' => HBW.out.block b hb');have hlook:=Lr.m1.look keyS Tryz.underlying98 (zeroIE _) hkl;rw [(newF_at x ce _ N).2 j j2] at hlook;have hlk:(Instr.lookup 98 (.map (some b1)) (.string ⟨nk.toArray⟩) false).run Tryz.prog wr = .ok (.agg (ce j).toArray) wr:=hlook;have d4:wr.cell? ⟨B,10,none⟩ = some (.map (some b1)):=Lr.box.cell 10;have ye':wr.cell? ⟨gs,k,none⟩ = some (.string ⟨nk.toArray⟩):=ye;have HJ:Hid (j < N):=j1;have hiff:=HK.out j j1 j3;obtain ⟨r,hrr⟩:∃ r,r = x j:=⟨_,rfl⟩;have HRR:Hid (r = x j):=hrr;rw [← hrr] at hiff
      have rdj:layRec.rd wr hi r (ce j):=by rw [hrr];exact layRec.rd_below (HR.out j j1) HBW.out hhi
      have hcl:(ce j).length = 9:=layRec.rd_len rdj;have hone:=layRec_one rdj
      have HSN:Hid (lvL x N (ns.take (k + 1)) = lvL x N (ns.take k) ++ (if r.length = -1 then [] else [j])):=by
        show lvL x N (ns.take (k + 1)) = lvL x N (ns.take k) ++ (if r.length = -1 then [] else [j])
        rw [take_snoc ns hkn,lvL_snoc,← hnk,← hj,hrr]
      have t1:(k:Int) < (M:Int):=by omega
      have i1:(0:Int) ≤ (k:Int):=by omega
      have bA:Below wr.heap.size wr (wr.alloc (.cells (ce j).toArray 118)):=(Below.refl _ _).alloc (Nat.le_refl _) _;have X6:Box (wr.alloc (.cells (ce j).toArray 118)) wr.heap.size (ce j).toArray 118:=box_new _ _ _
      have y3:(wr.alloc (.cells (ce j).toArray 118)).cell? ⟨wr.heap.size,3,none⟩ = some (.int .i64 r.length):=by
        obtain ⟨ao6,cap6,ao7,cap7,ao8,cap8,hce,-⟩:=Rec_rd rdj;rw [X6.cell 3,hce];rfl
      obtain ⟨W6,hW6⟩:∃ y,y = wr.alloc (.cells (ce j).toArray 118):=⟨_,rfl⟩;rw [← hW6] at bA X6 y3;have HBA:Hid (Below wr.heap.size wr W6):=bA;have z6:wr.heap.size < W6.heap.size:=X6.lt;have HX6:Hid (Box W6 wr.heap.size (ce j).toArray 118):=X6;have HV6:Hid (View layRec 66 W6 w2.heap.size hi (.slice au c cau) c (fun i => x ((lvL x N (ns.take k)).getD i 0)) cu):=HV.out.below bA (by omega);have rd6:layRec.rd W6 hi r (ce j):=layRec.rd_below rdj bA (by omega);have HB6:Hid (Below w2.heap.size w2 W6):=HB.out.trans (bA.mono zr);clear hV hb hc Lr hlook ye hmem j1 j2 j3 j4 hj hkl hnk hrr bA X6
      by_cases hm:r.length = -1
      · have HE:Hid (lvL x N (ns.take (k + 1)) = lvL x N (ns.take k)):=by
          show lvL x N (ns.take (k + 1)) = lvL x N (ns.take k)
          rw [HSN.out,if_pos hm,List.append_nil]
        have dm:(r.length != -1) = false:=by simp [hm]
        clear hm hiff
        go_wp2_with (refine wp_allocStore 118 6 (.tmp 23) (ce j) _ 9 rfl rfl rfl rfl rfl rfl (by simp [Act.eval,Act.put]) (by simp [Act.eval,Act.put]) info_IE rfl hcl hone ?_;rw [← hW6];clear hW6)
        go_roundw
        case rel => exact ⟨k + 1,cu,by omega,by go_num,by rw [HE.out,← HC.out];exact HV6.out,HB6.out⟩
        case measure => simp [intOf];omega
      · have HE:Hid (lvL x N (ns.take (k + 1)) = lvL x N (ns.take k) ++ [j]):=by
          show lvL x N (ns.take (k + 1)) = lvL x N (ns.take k) ++ [j]
          rw [HSN.out,if_neg hm]
        have dm:(r.length != -1) = true:=by simp [hm]
        have bS:Below W6.heap.size W6 (W6.alloc (.cells (ce j).toArray 66)):=(Below.refl _ _).alloc (Nat.le_refl _) _;obtain ⟨v8,w8,hrun,V8,_,b8⟩:=run_appendV el_Rec rdOne_rec 54 (HV6.out.below bS (by omega)) 1 (src_one (b:=W6.heap.size) (hi:=hi) (y:=r) (cs:=ce j) (fun q hq => ((box_new W6 (ce j).toArray 66).cell q).trans (by simp)) (layRec.rd_below rd6 bS (by omega))) (by simp;omega) (by omega) (by omega) (fun e => by cases e)
        have HV8:Hid (View layRec 66 w8 w2.heap.size hi v8 (c + 1) (fun i => x ((lvL x N (ns.take (k + 1))).getD i 0)) (cat2 cu c (fun _ => ce j))):=by
          refine V8.congr (fun i hi' => ?_);rw [HE.out]
          by_cases c1:i < c
          · rw [cat2_lt _ _ c1,getD_snoc_lt (by rw [← HC.out];exact c1)]
          · obtain rfl:i = c:=by omega
            have e9:=cat2_ge (fun i => x ((lvL x N (ns.take k)).getD i 0)) i (fun _ => r) 0;rw [Nat.add_zero] at e9;rw [e9,HRR.out];have:=@getD_snoc_at (lvL x N (ns.take k)) j;rw [← HC.out] at this;rw [this]
        have HB8:Hid (Below w2.heap.size w2 w8):=HB6.out.trans ((bS.mono (by omega)).trans b8);obtain ⟨a8,c8,hv8⟩:=V8.form;have HV8F:Hid (v8 = .slice a8 (c + 1) c8):=hv8;have rg6:W6.rangeAt wr.heap.size 0 (ce j):=rangeB HX6.out;clear V8 b8 bS hv8 hm hiff
        go_wp2_with (first | (refine wp_allocStore 118 6 (.tmp 23) (ce j) _ 9 rfl rfl rfl rfl rfl rfl (by simp [Act.eval,Act.put]) (by simp [Act.eval,Act.put]) info_IE rfl hcl hone ?_;rw [← hW6];clear hW6) | (refine wpList_load_mid rfl 66 (.tmp 31) rfl wr.heap.size 0 (by simp [Act.eval,Act.put]) (ce j) _ rg6 Tryz.underlying66 rfl (info_Rec9 hcl) ?_) | (refine wp_build1R rfl (.tmp 32) rfl rd6 (by simp [Act.eval,Act.put]) ?_) | (at_builtin;refine wp_run2 rfl (.tmp 29) (.tmp 33) rfl ?_ ?_ hrun ?_;(simp [Act.eval,Act.put]);(simp [Act.eval,Act.put])))
        clear hrun;go_wp2
        go_roundw
        case rel => exact ⟨k + 1,_,by omega,by go_num,by rw [show (lvL x N (ns.take (k + 1))).length = c + 1 by rw [HE.out,List.length_append,← HC.out];rfl];exact HV8.out,HB8.out⟩
        case measure => simp [intOf];omega
    · obtain rfl:k = M:=by omega
      have e:ns.take k = ns:=by rw [HM.out];exact List.take_length
      have HLV:Hid (Live x N (lvL x N (ns.take k))):=by
        show Live x N (lvL x N (ns.take k))
        rw [e];exact lv_live HNM.out HK.out
      have HV9:Hid (View layRec 66 wr w.heap.size hi (.slice au c cau) c (fun i => x ((lvL x N (ns.take k)).getD i 0)) cu):=⟨ownsRow_low HV.out.row z2,HV.out.each⟩;clear hV hb e;go_wp2;go_ret;exact ⟨_,cu,lvL x N (ns.take k),rfl,HLV.out,by rw [← HC.out];exact HV9.out,HBW.out⟩
end Go.Proofs.YtfoidpcoiankoaaGreat
namespace Go.Proofs.YtfoidpcoiankoaaGreat
open Go.RowKit F256
open Go.Maps (Keyed)
def DonP (x:Nat → RecD) (N:Nat) (q g:Int):Prop:=∃ j,j < N ∧ (x j).kind = 3 ∧ (x j).seq = q ∧ (x j).group = g
noncomputable def und (s:Nat → Int) (g:Int) (x:Nat → RecD) (N:Nat):Nat → Bool:=fun i => @decide ((x i).kind = 2 ∧ ((x i).group = g ∨ ¬ InP g 0 (s 0 - 1)) ∧ ¬ DonP x N (x i).seq g) (Classical.propDecidable _)
theorem ta_other {k:Int} (cs:List Value) (h1:InP k 1 4) (h2:k ≠ 2):∀ w,(Instr.typeAssert (entV k cs) 108 147 true).run Tryz.prog w = .ok (.tuple #[.agg #[.int .i64 0,.int .i64 0,.string ByteArray.empty,.int .i64 0,.int .i64 0,.int .i64 0,.slice none 0 0,.slice none 0 0,.slice none 0 0],.bool false]) w:=fun w => by
  obtain ⟨q1,q2⟩:=h1
  have hc:k = 1 ∨ k = 3 ∨ k = 4:=by omega
  unfold entV entT
  rcases hc with rfl | rfl | rfl
  · exact ta01 _ w
  · exact ta21 _ w
  · exact ta31 _ w
theorem ta_move (cs:List Value):entV 2 cs = .iface 147 (.agg cs.toArray):=by
  unfold entV entT
  simp
end Go.Proofs.YtfoidpcoiankoaaGreat
namespace Go.Proofs.YtfoidpcoiankoaaGreat
open Go.RowKit F256
set_option maxHeartbeats 4000000 in
theorem implHomeOf_any (s:Nat → Int) (b:ByteArray) (hb:b.size ≤ 1048576) (w:World) :
    Calls Tryz.prog 105 #[shapeV s,.string b] w fun e w' => ∃ x c,e = .returned (intR c x) ∧ HoAns s b x c ∧ Below w.heap.size w w':=by
  unfold shapeV
  go_enter Tryz.func105,Tryz.ntmps105
  go_wp2_with fail
  refine (implShape_any s _).mono ?_;rintro e w1 ⟨x,rfl,hx,B1'⟩;obtain ⟨X1,X2,B1,z1⟩:=two_new B1';obtain ⟨x0,x1,x2,x3,x4,x5,x6,x7,x8⟩:=box9 X1;obtain ⟨y0,y1,y2,y3⟩:=res_cells X2;have HX:Hid (Box w1 (w.heap.size + 1) #[.int .i64 0,.int .i64 0] 31):=X2;clear B1' X1 X2
  rcases hx with ⟨rfl,hx⟩ | ⟨rfl,hx⟩
  · have HN:Hid (¬ OkShape s):=hx
    clear hx;go_wp2;exact bodyPost_ret (v:=intR 3 0) (by simp [results,Tryz.results105,go_sem,intR,y0,y1]) rfl ⟨0,3,rfl,.inl ⟨HN.out,rfl,rfl⟩,(B1.setCell (Nat.le_succ _) _).setCell (Nat.le_succ _) _⟩
  · have HO:Hid (OkShape s):=hx
    clear hx
    go_wp2_with fail
    refine (implName_any b hb _).mono ?_;rintro e w2 ⟨x,rfl,hx,hw⟩;obtain rfl:=hw.symm
    rcases hx with ⟨rfl,hx⟩ | ⟨rfl,hx⟩
    · have HN:Hid (¬ OkName b):=hx
      clear hx;go_wp2;exact bodyPost_ret (v:=intR 5 0) (by simp [results,Tryz.results105,go_sem,intR,y0,y1]) rfl ⟨0,5,rfl,.inr (.inl ⟨HO.out,HN.out,rfl,rfl⟩),(B1.setCell (Nat.le_succ _) _).setCell (Nat.le_succ _) _⟩
    · have HN:Hid (OkName b):=hx
      clear hx
      have hg:1 ≤ s 0:=by have:=HO.out.1;unfold Shp3 at this;omega
      have hg2:s 0 ≤ 1000:=by have:=HO.out.1;unfold Shp3 at this;omega
      have hb8:b.size ≤ 8:=HN.out.2.1;have HM0:Hid (∀ m:Int,m = (nameSum b b.size:Int) % s 0 → HoAns s b m 0):=fun m hm => .inr (.inr ⟨HO.out,HN.out,rfl,hm⟩);obtain ⟨a0,h0⟩:∃ a,a = s 0:=⟨_,rfl⟩;rw [← h0] at hg hg2 HM0 x0 ⊢;clear h0 HX;go_wp2
      go_loop [7,23] (fun n i => ∃ k:Nat,k ≤ b.size ∧ n = .int .i64 (nameSum b k:Int) ∧ i = .int .i64 k) (fun n i => b.size - (intOf i).toNat)
      case atStart => exact ⟨0,Nat.zero_le _,rfl,rfl⟩
      case round =>
        obtain ⟨k,hk,rfl,rfl⟩:=hrel;have hs1:=nameSum_lt b k
        by_cases hlt:k < b.size
        · have hik:=index_name b k hlt
          have hz0:=nameByte_lt b k;have HS:Hid (nameSum b (k + 1) = nameSum b k + nameByte b k):=rfl;obtain ⟨z,hz⟩:∃ z,z = nameByte b k:=⟨_,rfl⟩;rw [← hz] at hik HS hz0;clear hz;obtain ⟨m,hm⟩:∃ m,m = nameSum b k:=⟨_,rfl⟩;rw [← hm] at hs1 HS ⊢;clear hm;go_wp2
          go_round
          case rel => exact ⟨k + 1,by omega,by rw [HS.out];go_num,by go_num⟩
          case measure => simp [intOf];omega
        · obtain rfl:k = b.size:=by omega
          obtain ⟨m,hm⟩:∃ m,m = nameSum b b.size:=⟨_,rfl⟩;rw [← hm] at hs1 ⊢;have HM:Hid (m = nameSum b b.size):=hm;clear hm;go_wp2;exact bodyPost_ret (v:=intR 0 ((m:Int) % a0)) (by simp [results,Tryz.results105,go_sem,intR,y0,y1]) rfl ⟨(m:Int) % a0,0,rfl,HM0.out _ (by rw [HM.out]),(B1.setCell (Nat.le_succ _) _).setCell (Nat.le_succ _) _⟩
end Go.Proofs.YtfoidpcoiankoaaGreat
namespace Go.Proofs.YtfoidpcoiankoaaGreat
open Go.RowKit F256
theorem ldg_range {w:World} {lo B:Nat} {s:Nat → Int} {m k:Nat} {x:Nat → RecD} {ce:Nat → List Value} {v:Value} {b1 b2 b3 b4 b5:Nat} (h:Ldg w lo B s m k x ce v b1 b2 b3 b4 b5):w.rangeAt B 0 [.int .i64 (s 0),.int .i64 (s 1),.int .i64 (s 2),.int .i64 (s 3),.int .i64 (s 4),.int .i64 (s 5),.int .i64 (s 6),.int .i64 (s 7),.int .i64 (s 8)]:=fun j v hv => by
  rw [Nat.zero_add];have hj:j < 9:=(List.getElem?_eq_some_iff.1 hv).1;refine (h.box.cell j).trans ?_;rw [← hv]
  match j,hj with
  | 0,_ => rfl
  | 1,_ => rfl
  | 2,_ => rfl
  | 3,_ => rfl
  | 4,_ => rfl
  | 5,_ => rfl
  | 6,_ => rfl
  | 7,_ => rfl
  | 8,_ => rfl
theorem fieldN (c z:Int) (w':World):(Instr.field 31 (.agg #[.int .i64 c,.int .i64 z]) 1).run Tryz.prog w' = .ok (.int .i64 z) w':=by kernel_rfl
theorem home_det {s:Nat → Int} {b:ByteArray} (hok:OkShape s) (hn:OkName b) (w:World):Calls Tryz.prog 105 #[shapeV s,.string b] w fun e w' => e = .returned (.agg #[.int .i64 0,.int .i64 (homeS s b)]) ∧ Below w.heap.size w w' :=
  (implHomeOf_any s b (Nat.le_trans hn.2.1 (by decide)) w).mono fun e w' ⟨z,c,h1,h2,h3⟩ => by
    rcases h2 with ⟨h,_⟩ | ⟨_,h,_⟩ | ⟨_,_,rfl,rfl⟩
    · exact absurd hok h
    · exact absurd hn h
    · exact ⟨h1,h3⟩
theorem ta_otherS {k:Int} (cs:List Value) (h1:InP k 1 4) (h2:k ≠ 4):∀ w,(Instr.typeAssert (entV k cs) 108 151 true).run Tryz.prog w = .ok (.tuple #[.agg #[.int .i64 0,.int .i64 0,.string ByteArray.empty,.int .i64 0,.int .i64 0,.int .i64 0,.slice none 0 0,.slice none 0 0,.slice none 0 0],.bool false]) w:=fun w => by
  obtain ⟨q1,q2⟩:=h1
  have hc:k = 1 ∨ k = 2 ∨ k = 3:=by omega
  unfold entV entT
  rcases hc with rfl | rfl | rfl
  · exact ta03 _ w
  · exact ta13 _ w
  · exact ta23 _ w
theorem ta_share (cs:List Value):entV 4 cs = .iface 151 (.agg cs.toArray):=by
  unfold entV entT
  simp
set_option maxHeartbeats 16000000 in
set_option maxRecDepth 20000 in
theorem takenRows_any {w:World} {lo B hi:Nat} {s:Nat → Int} {N:Nat} {x:Nat → RecD} {ce:Nat → List Value} {v:Value} {b1 b2 b3 b4 b5:Nat} (h:Ldg w lo B s N N x ce v b1 b2 b3 b4 b5) (hok:OkShape s) (hN:N ≤ 800000) (hhi:hi ≤ w.heap.size) (hr:∀ i,i < N → layRec.rd w hi (x i) (ce i)) (hkl:∀ i,i < N → (x i).kind = 1 → ((x i).length < 0 ↔ (x i).length = -1)) (hkd:∀ i,i < N → (x i).kind = 1 → OkName (x i).name ∧ (x i).rows.1 ≤ 3) (hk4:∀ i,i < N → InP (x i).kind 1 4) (g:Int) :
    Calls Tryz.prog 71 #[.pointer (some ⟨B,0,none⟩),.int .i64 g] w (fun e w' => ∃ m u n y,e = .returned u ∧ Live x N m ∧ RdI w' w'.heap.size u n y ∧ (∀ r,HasP n y r ↔ U1 s x m g m.length r ∨ U2 x g N r) ∧ Below w.heap.size w w'):=by
  have HL:Hid (Ldg w lo B s N N x ce v b1 b2 b3 b4 b5):=h;have HOK:Hid (OkShape s):=hok;have HR:Hid (∀ i,i < N → layRec.rd w hi (x i) (ce i)):=hr;have HKD:Hid (∀ i,i < N → (x i).kind = 1 → OkName (x i).name ∧ (x i).rows.1 ≤ 3):=hkd;have HK4:Hid (∀ i,i < N → InP (x i).kind 1 4):=hk4;have CI:=items_any h (by omega) hhi hr hkl;obtain ⟨ao,cap,hv⟩:=rowE_slice h.row;subst hv;obtain ⟨cS,hcS,hlS⟩:∃ c:List Value,c = [.int .i64 (s 0),.int .i64 (s 1),.int .i64 (s 2),.int .i64 (s 3),.int .i64 (s 4),.int .i64 (s 5),.int .i64 (s 6),.int .i64 (s 7),.int .i64 (s 8)] ∧ c.length = 9:=⟨_,rfl,rfl⟩;have HCS:Hid (cS = [.int .i64 (s 0),.int .i64 (s 1),.int .i64 (s 2),.int .i64 (s 3),.int .i64 (s 4),.int .i64 (s 5),.int .i64 (s 6),.int .i64 (s 7),.int .i64 (s 8)]):=hcS;clear h hok hr hkl hkd hk4 hcS
  go_enter Tryz.func71,Tryz.ntmps71
  go_wp2_with fail
  refine CI.mono ?_;rintro e w2 ⟨v2,cm,m,rfl,hLM,VM,bb2⟩;have HLM:Hid (Live x N m):=hLM;have z2:w.heap.size ≤ w2.heap.size:=bb2.size;have HB2:Hid (Below w.heap.size w w2):=bb2;obtain ⟨M,hM⟩:∃ M,M = m.length:=⟨_,rfl⟩;have HM:Hid (M = m.length):=hM
  have hMN:M ≤ 800000:=by
    have:=(sub_sum (fun _ => 0) N m hLM.nodup (fun i hi => hLM.lt hi)).2;omega
  rw [← hM] at VM;have HVM:Hid (View layRec 66 w2 w.heap.size hi v2 M (fun i => x (m.getD i 0)) cm):=VM
  have HKM:Hid (∀ k,k < M → OkName (x (m.getD k 0)).name ∧ (x (m.getD k 0)).rows.1 ≤ 3):=fun k hk => by
    have hkm:k < m.length:=by rw [← hM];exact hk
    have hmm:=(hLM.1 (m.getD k 0)).1 (by rw [List.getD_eq_getElem?_getD,List.getElem?_eq_getElem hkm];exact List.getElem_mem hkm);exact HKD.out _ hmm.1 hmm.2.1
  have HL2:Hid (Ldg w2 lo B s N N x ce (.slice ao N cap) b1 b2 b3 b4 b5):=HL.out.keepAll (fun b hb => bb2.block b hb);obtain ⟨aM,cM,hvM⟩:=VM.form;subst hvM;have HG0:Hid (Gth w2 w2 w2.heap.size (.slice none 0 0) 0 (fun _ => (0:Int)) (fun _ => [])):=⟨View.nil _ _ _ _ _,ChgL.refl _ _,fun b hb => by cases hb⟩;clear CI hLM VM hM bb2;go_wp2
  go_loopw [5,15] (fun u i wr => ∃ (k n:Nat) (y:Nat → Int) (cy:Nat → List Value),k ≤ M ∧ i = .int .i64 k ∧ n ≤ 3 * k ∧ Gth w2 wr w2.heap.size u n y cy ∧ (∀ r,HasP n y r ↔ U1 s x m g k r)) (fun _ i _ => M - (intOf i).toNat)
  case atStart => exact ⟨0,0,_,_,Nat.zero_le _,rfl,by omega,HG0.out,fun r => ⟨fun ⟨i,hi,_⟩ => by omega,fun h => absurd h (U1.zero s x m g r)⟩⟩
  case round =>
    obtain ⟨k,n,y,cy,hk,rfl,hn3,hG,hU⟩:=hrel;have HG:Hid (Gth w2 wr w2.heap.size u5 n y cy):=hG;have HU:Hid (∀ r,HasP n y r ↔ U1 s x m g k r):=hU;have zr:w2.heap.size ≤ wr.heap.size:=hG.ch.size;have bW:Below w2.heap.size w2 wr:=hG.ch.bel (fun b hb => by simp at hb;omega) (Nat.le_refl _);have HBW:Hid (Below w2.heap.size w2 wr):=bW;obtain ⟨au,cau,hu⟩:=hG.vw.form;subst hu
    by_cases hlt:k < M
    · have VMr:=HVM.out.below bW (by omega)
      obtain ⟨gM,cM',hgM⟩:=VMr.form0 (by omega);have hgM2:=hgM
      obtain ⟨rfl,rfl⟩:aM = some ⟨gM,0,none⟩ ∧ cM = cM':=by simpa using hgM2
      have rg:=VMr.range hlt;obtain ⟨r,hr⟩:∃ r,r = x (m.getD k 0):=⟨_,rfl⟩;have HRR:Hid (r = x (m.getD k 0)):=hr;have hkm:=HKM.out k hlt;rw [← hr] at hkm;obtain ⟨cR,hcR⟩:∃ c,c = cm k:=⟨_,rfl⟩;have rdk:=VMr.each k hlt;rw [← hcR,← hr] at rdk;rw [← hcR] at rg;have rg9:wr.rangeAt gM (k * 9) cR:=rg;have hcl:cR.length = 9:=layRec.rd_len rdk;have hone:=layRec_one rdk;obtain ⟨ao6,cap6,ao7,cap7,ao8,cap8,hce,h6,-⟩:=Rec_rd rdk;have bA:Below wr.heap.size wr (wr.alloc (.cells cR.toArray 66)):=(Below.refl _ _).alloc (Nat.le_refl _) _;have XA:Box (wr.alloc (.cells cR.toArray 66)) wr.heap.size cR.toArray 66:=box_new _ _ _;obtain ⟨W,hW⟩:∃ y,y = wr.alloc (.cells cR.toArray 66):=⟨_,rfl⟩;rw [← hW] at bA XA
      have y2:W.cell? ⟨wr.heap.size,2,none⟩ = some (.string r.name):=by rw [XA.cell 2,hce];rfl
      have y6:W.cell? ⟨wr.heap.size,6,none⟩ = some (.slice ao6 r.rows.1 cap6):=by rw [XA.cell 6,hce];rfl
      have zW:wr.heap.size < W.heap.size:=XA.lt;have H6:Hid (layInts.rd W hi (r.rows.1,r.rows.2) [.slice ao6 r.rows.1 cap6]):=layInts.rd_below h6 bA (by omega);have GW:Hid (Gth w2 W w2.heap.size (.slice au n cau) n y cy):=HG.out.next bA;have LW:=HL2.out.keepAll (fun b hb => (bW.trans (bA.mono zr)).block b hb);have CH0:=home_det HOK.out hkm.1 W.drew;rw [show shapeV s = .agg cS.toArray by rw [HCS.out];rfl] at CH0;obtain ⟨hv,hhv⟩:∃ h,h = homeS s r.name:=⟨_,rfl⟩;have HHV:Hid (hv = homeS s r.name):=hhv;rw [← hhv] at CH0;have CH:=calls_appF CH0;have rS:W.drew.rangeAt B 0 cS ∧ W.drew.cell? ⟨wr.heap.size,2,none⟩ = some (.string r.name):=⟨by rw [HCS.out];show W.rangeAt B 0 _;exact ldg_range LW,y2⟩;have fN:=fieldN
      have i1:(0:Int) ≤ (k:Int):=by omega
      have i2:(k:Int) < (M:Int):=by omega
      have hr3:r.rows.1 ≤ 3:=hkm.2;clear VMr hgM hgM2 rg hce h6 CH0 hr hhv hG hU bW bA XA hkm LW rdk hcR
      go_upto_region 5 with (first | (refine wpList_load_mid rfl 66 (.tmp 17) rfl gM (k * 9) (by simp [Act.eval,Act.put]) cR _ rg9 Tryz.underlying66 rfl (info_Rec9 hcl) ?_) | (refine wp_allocStore 66 7 (.tmp 18) cR _ 9 rfl rfl rfl rfl rfl rfl (by simp [Act.eval,Act.put]) (by simp [Act.eval,Act.put]) info_RecZ rfl hcl hone ?_;rw [← hW];clear hW))
      refine wp_region_M 6 (fun w' => w'.rangeAt B 0 cS ∧ w'.cell? ⟨wr.heap.size,2,none⟩ = some (.string r.name)) mixedF rS (fun hHeld => ?_);refine wpAnyM_pure (i:=0) (oi:=_) (v:=?_) rfl (by kernel_rfl) (fun _ _ _ h => h) (Or.inl ⟨by kernel_rfl,?_⟩) (by assumption) ?_
      rotate_left
      · intro w' hSw;go_simp;try with_reducible rfl
      try simp only [Act.put,SL]
      refine wpAnyM_pure (i:=1) (oi:=_) (v:=?_) rfl (by kernel_rfl) (fun _ _ _ h => h) (Or.inl ⟨by kernel_rfl,?_⟩) (by assumption) ?_
      rotate_left
      · intro w' hSw;go_simp;try with_reducible rfl
      try simp only [Act.put,SL]
      refine wpAnyM_pure (i:=2) (oi:=_) (v:=?_) rfl (by kernel_rfl) (fun _ _ _ h => h) (Or.inl ⟨by kernel_rfl,?_⟩) (by assumption) ?_
      rotate_left
      · intro w' hSw;go_simp;try with_reducible rfl
      try simp only [Act.put,SL]
      refine wpAnyM_take (i:=3) (oi:=_) (v:=.agg cS.toArray) 16 rfl (by kernel_rfl) (fun _ _ _ h => h) (yieldsIf_load_mid (by kernel_rfl) 33 (.tmp 21) rfl B (0) (by simp [Act.eval,Act.put]) cS _ (fun w h => h.1) Tryz.underlying33 rfl (info_S9F hlS)) (by assumption) ?_
      try simp only [Act.put,SL]
      refine wpAnyM_pure (i:=4) (oi:=_) (v:=?_) rfl (by kernel_rfl) (fun _ _ _ h => h) (Or.inl ⟨by kernel_rfl,?_⟩) (by assumption) ?_
      rotate_left
      · intro w' hSw;go_simp;try with_reducible rfl
      try simp only [Act.put,SL]
      refine wpAnyM_take (i:=5) (oi:=_) (v:=?_) 16 rfl (by kernel_rfl) (fun _ _ _ h => h) (Or.inl ⟨by kernel_rfl,?_⟩) (by assumption) ?_
      rotate_left
      · intro w' hSw
        try dsimp only at hSw
        obtain ⟨q1,q2⟩:=hSw;go_simp
        try with_reducible rfl
      try simp only [Act.put,SL]
      refine wpAnyM_pure (i:=8) (oi:=_) (v:=?_) rfl (by kernel_rfl) (fun _ _ _ h => h) (Or.inl ⟨by kernel_rfl,?_⟩) (by assumption) ?_
      rotate_left
      · intro w' hSw;go_simp;try with_reducible rfl
      try simp only [Act.put,SL]
      refine wpAnyM_one (i:=6) (o:=_) rfl (by kernel_rfl) (by kernel_rfl) (fun KC hKC => ?_);refine step_callv (by kernel_rfl) (.func 105) 105 #[] _ _ rfl (by simp [Act.eval,Act.put]) #[.agg cS.toArray,.string r.name] (by simp [Act.eval,Act.put]) Tryz.func105 (by kernel_rfl) (by kernel_rfl) CH ?_;rintro e w9 ⟨rfl,b9d⟩;refine ⟨_,rfl,?_⟩;refine hKC _ _ ?_;clear hKC KC
      try simp only [Act.put,SL]
      refine wpAnyM_pureL (i:=7) (oi:=_) (v:=?_) rfl (by kernel_rfl) (fun _ _ _ h => h) (Or.inl ⟨by kernel_rfl,?_⟩) ?_
      rotate_left
      · intro w' hSw;go_simp;try with_reducible rfl
      try simp only [Act.put,SL]
      refine wpAnyM_pureL (i:=9) (oi:=_) (v:=?_) rfl (by kernel_rfl) (fun _ _ _ h => h) (Or.inl ⟨by kernel_rfl,?_⟩) ?_
      rotate_left
      · intro w' hSw;go_simp;try with_reducible rfl
      try simp only [Act.put,SL]
      refine wpAnyM_done (by kernel_rfl) ?_ _;have b9:Below W.heap.size W w9:=(show Below W.heap.size W W.drew from ⟨rfl,rfl,rfl,Nat.le_refl _,fun _ _ => rfl⟩).trans b9d;have HG9:Hid (Gth w2 w9 w2.heap.size (.slice au n cau) n y cy):=GW.out.next b9;have z9:W.heap.size ≤ w9.heap.size:=b9.size;have y6':w9.cell? ⟨wr.heap.size,6,none⟩ = some (.slice ao6 r.rows.1 cap6):=(b9.cell (p:=⟨wr.heap.size,6,none⟩) zW).trans y6;have H69:layInts.rd w9 hi (r.rows.1,r.rows.2) [.slice ao6 r.rows.1 cap6]:=layInts.rd_below H6.out b9 (by omega);clear b9d CH hHeld rS y2 y6 fN
      by_cases hh:hv = g
      · have dh:(hv == g) = true:=by simp [hh]
        have HH:Hid (homeS s (x (m.getD k 0)).name = g):=by
          show homeS s (x (m.getD k 0)).name = g
          rw [← HRR.out,← HHV.out];exact hh
        obtain ⟨hsrc,hc0⟩:=src_rows H69;obtain ⟨u',W',hrun,hG'⟩:=HG9.out.app (by omega) cap6 hsrc hc0 (by omega);have HG':Hid (Gth w2 W' w2.heap.size u' (n + r.rows.1) (cat2 y n r.rows.2) (cat2 cy n (fun i => [.int .i64 (r.rows.2 i)]))):=hG';obtain ⟨au',cau',hu'⟩:=hG'.vw.form;have HUF:Hid (u' = .slice au' (n + r.rows.1) cau'):=hu';clear hsrc hc0 hG' hu' H69 hh
        go_wp2_with (at_builtin;refine wp_run2 rfl (.tmp 29) (.tmp 31) rfl ?_ ?_ hrun ?_;(simp [Act.eval,Act.put]);(simp [Act.eval,Act.put]))
        clear hrun;go_wp2
        go_roundw
        case rel => exact ⟨k + 1,n + r.rows.1,_,_,by omega,by go_num,by omega,HG'.out,fun q => by rw [has_cat,HU.out,U1.succ,← HRR.out];exact ⟨fun h => h.elim .inl (fun h => .inr ⟨by rw [HRR.out];exact HH.out,h⟩),fun h => h.elim .inl (fun h => .inr h.2)⟩⟩
        case measure => simp [intOf];omega
      · have dh:(hv == g) = false:=by simp [hh]
        have HH:Hid (¬ homeS s (x (m.getD k 0)).name = g):=by
          show ¬ homeS s (x (m.getD k 0)).name = g
          rw [← HRR.out,← HHV.out];exact hh
        clear hh H69 y6';go_wp2
        go_roundw
        case rel => exact ⟨k + 1,n,y,cy,by omega,by go_num,by omega,HG9.out,fun q => by rw [HU.out,U1.succ];exact ⟨.inl,fun h => h.elim id (fun h => absurd h.1 HH.out)⟩⟩
        case measure => simp [intOf];omega
    · obtain rfl:k = M:=by omega
      have HU0:Hid (∀ r,HasP n y r ↔ U1 s x m g k r ∨ U2 x g 0 r):=fun r => by rw [HU.out];exact ⟨.inl,fun h => h.elim id (fun h => absurd h (U2.zero x g r))⟩
      have HGa:Hid (Gth w2 wr w2.heap.size (.slice au n cau) n y cy):=HG;have Lr:=HL2.out.keepAll (fun b hb => bW.block b hb);have x9:wr.cell? ⟨B,9,none⟩ = some (.slice ao N cap):=Lr.box.cell 9;clear hG hU bW Lr;go_wp2
      go_loopw [5,39] (fun u i wr => ∃ (q n:Nat) (y:Nat → Int) (cy:Nat → List Value),q ≤ N ∧ i = .int .i64 q ∧ n ≤ 3 * k + q ∧ Gth w2 wr w2.heap.size u n y cy ∧ (∀ r,HasP n y r ↔ U1 s x m g k r ∨ U2 x g q r)) (fun _ i _ => N - (intOf i).toNat)
      case atStart => exact ⟨0,n,y,cy,Nat.zero_le _,rfl,by omega,HGa.out,HU0.out⟩
      case round =>
        clear HU0 HGa HU HG HBW zr hn3 hlt hk x9;obtain ⟨q,n,y,cy,hq,rfl,hn3,hG,hU⟩:=hrel;have HG:Hid (Gth w2 wr w2.heap.size u5 n y cy):=hG;have HU:Hid (∀ r,HasP n y r ↔ U1 s x m g k r ∨ U2 x g q r):=hU;have zr:w2.heap.size ≤ wr.heap.size:=hG.ch.size;have bW:Below w2.heap.size w2 wr:=hG.ch.bel (fun b hb => by simp at hb;omega) (Nat.le_refl _);have HBW:Hid (Below w2.heap.size w2 wr):=bW;obtain ⟨au,cau,hu⟩:=hG.vw.form;subst hu
        by_cases hlt:q < N
        · have Lr:=HL2.out.keepAll (fun b hb' => bW.block b hb')
          obtain ⟨ge,cge,cur,hge,p1,p2,p3,p4,p5,p6⟩:∃ g0 cap0 cur,(Value.slice ao N cap) = .slice (some ⟨g0,0,none⟩) N cap0 ∧ lo ≤ g0 ∧ wr.heap[g0]? = some (.cells cur 108 (0,0)) ∧ N ≤ cap0 ∧ cap0 ≤ maxLen ∧ cur.size = cap0 * 1 ∧ cur.toList.take (N * 1) = entL x ce N:=by
            rcases Lr.row.2 with ⟨_,e⟩ | h
            · omega
            · exact h
          have hga:ao = some ⟨ge,0,none⟩:=by cases hge;rfl
          have hcg:cap = cge:=by cases hge;rfl
          subst hga;subst hcg
          have ye:wr.cell? ⟨ge,q,none⟩ = some (entV (x q).kind (ce q)):=by
            have e1:cur.toList[q]? = some (entV (x q).kind (ce q)):=by
              have:(cur.toList.take (N * 1))[q]? = some (entV (x q).kind (ce q)):=by
                rw [p6];unfold entL;rw [List.getElem?_map,List.getElem?_range hlt];rfl
              rw [List.getElem?_take,if_pos (by omega)] at this;exact this
            rw [cell_of_row wr ge q cur _ _ p2]
            simpa using e1
          have t1:(q:Int) < (N:Int):=by omega
          have i1:(0:Int) ≤ (q:Int):=by omega
          obtain ⟨ao6,cap6,ao7,cap7,ao8,cap8,ec,-,-,-,k0,k1,k2,k3,k4,k5⟩:=Rec_rd (HR.out q hlt);obtain ⟨r,hrr⟩:∃ r,r = x q:=⟨_,rfl⟩;have HRR:Hid (r = x q):=hrr;have hk14:=HK4.out q hlt;rw [← hrr] at ye k5 hk14 ec;have HONE:Hid (∀ z,HasP 1 (fun _ => r.row) z ↔ r.row = z):=fun z => ⟨fun ⟨_,_,e⟩ => e,fun e => ⟨0,by omega,e⟩⟩
          have HYES:Hid (((r.kind = 2 ∧ r.group = g) ∨ r.kind = 4) → ∀ z,HasP (n + 1) (cat2 y n (fun _ => r.row)) z ↔ U1 s x m g k z ∨ U2 x g (q + 1) z):=fun hc z => by
            rw [has_cat,HU.out,HONE.out,U2.succ,← HRR.out];exact ⟨fun h => h.elim (fun h => h.elim .inl (fun h => .inr (.inl h))) (fun h => .inr (.inr ⟨hc,h⟩)),fun h => h.elim (fun h => .inl (.inl h)) (fun h => h.elim (fun h => .inl (.inr h)) (fun h => .inr h.2))⟩
          have HNO:Hid (¬ ((r.kind = 2 ∧ r.group = g) ∨ r.kind = 4) → ∀ z,HasP n y z ↔ U1 s x m g k z ∨ U2 x g (q + 1) z):=fun hc z => by
            rw [HU.out,U2.succ,← HRR.out];exact ⟨fun h => h.elim .inl (fun h => .inr (.inl h)),fun h => h.elim .inl (fun h => h.elim .inr (fun h => absurd h.1 hc))⟩
          clear hG hU bW hge p1 p2 p3 p4 p5 p6 Lr hrr k0 k1 k2 k3 k4
          by_cases hk2:r.kind = 2
          · have TA:=ta11
            rw [hk2,ta_move,ec,show ([.int .i64 r.kind,.int .i64 r.seq,.string r.name,.int .i64 r.length,.int .i64 r.group,.int .i64 r.row,.slice ao6 r.rows.1 cap6,.slice ao7 r.data.1 cap7,.slice ao8 r.delta.1 cap8]:List Value).toArray = #[.int .i64 r.kind,.int .i64 r.seq,.string r.name,.int .i64 r.length,.int .i64 r.group,.int .i64 r.row,.slice ao6 r.rows.1 cap6,.slice ao7 r.data.1 cap7,.slice ao8 r.delta.1 cap8] from rfl] at ye;have HC1:Hid (r.kind = 2):=hk2;clear ec hk2 hk14
            go_upto_region 14 with fail
            have bA:Below wr.heap.size wr (wr.alloc (.cells #[.int .i64 r.kind,.int .i64 r.seq,.string r.name,.int .i64 r.length,.int .i64 r.group,.int .i64 r.row,.slice ao6 r.rows.1 cap6,.slice ao7 r.data.1 cap7,.slice ao8 r.delta.1 cap8] 147)):=(Below.refl _ _).alloc (Nat.le_refl _) _;have X6:Box (wr.alloc (.cells #[.int .i64 r.kind,.int .i64 r.seq,.string r.name,.int .i64 r.length,.int .i64 r.group,.int .i64 r.row,.slice ao6 r.rows.1 cap6,.slice ao7 r.data.1 cap7,.slice ao8 r.delta.1 cap8] 147)) wr.heap.size #[.int .i64 r.kind,.int .i64 r.seq,.string r.name,.int .i64 r.length,.int .i64 r.group,.int .i64 r.row,.slice ao6 r.rows.1 cap6,.slice ao7 r.data.1 cap7,.slice ao8 r.delta.1 cap8] 147:=box_new _ _ _;obtain ⟨W6,hW6⟩:∃ y,y = wr.alloc (.cells #[.int .i64 r.kind,.int .i64 r.seq,.string r.name,.int .i64 r.length,.int .i64 r.group,.int .i64 r.row,.slice ao6 r.rows.1 cap6,.slice ao7 r.data.1 cap7,.slice ao8 r.delta.1 cap8] 147):=⟨_,rfl⟩;rw [← hW6] at bA X6 ⊢;have y4:W6.cell? ⟨wr.heap.size,4,none⟩ = some (.int .i64 r.group):=X6.cell 4;have y5:W6.cell? ⟨wr.heap.size,5,none⟩ = some (.int .i64 r.row):=X6.cell 5;have HG6:Hid (Gth w2 W6 w2.heap.size (.slice au n cau) n y cy):=HG.out.next bA;have z6:wr.heap.size < W6.heap.size:=X6.lt;clear hW6 bA X6 TA ye
            by_cases c2:r.group = g
            · have d2:(r.group == g) = true:=by simp [c2]
              have HC2:Hid (r.group = g):=c2;clear c2;have bS:Below W6.heap.size W6 (W6.alloc (.cells #[.int .i64 r.row] 2)):=(Below.refl _ _).alloc (Nat.le_refl _) _;obtain ⟨u',W',hrun,hG'⟩:=(HG6.out.next bS).app (by have:=bS.size;omega) 1 (src_num W6 r.row k5) (fun e => by cases e) (by omega);have HG':Hid (Gth w2 W' w2.heap.size u' (n + 1) (cat2 y n (fun _ => r.row)) (cat2 cy n (fun _ => [.int .i64 r.row]))):=hG';obtain ⟨au',cau',hu'⟩:=hG'.vw.form;have HUF:Hid (u' = .slice au' (n + 1) cau'):=hu';clear hG' hu' bS
              go_wp2_with (at_builtin;refine wp_run2 rfl (.tmp 53) (.tmp 58) rfl ?_ ?_ hrun ?_;(simp [Act.eval,Act.put]);(simp [Act.eval,Act.put]))
              clear hrun;go_wp2
              go_roundw
              case rel => exact ⟨q + 1,n + 1,_,_,by omega,by go_num,by omega,HG'.out,HYES.out (.inl ⟨HC1.out,HC2.out⟩)⟩
              case measure => simp [intOf];omega
            · have d2:(r.group == g) = false:=by simp [c2]
              have HN4:Hid (¬ ((r.kind = 2 ∧ r.group = g) ∨ r.kind = 4)):=fun h => h.elim (fun h => c2 h.2) (fun h => by have:=HC1.out;omega);clear c2;go_wp2
              go_roundw
              case rel => exact ⟨q + 1,n,y,cy,by omega,by go_num,by omega,HG6.out,HNO.out HN4.out⟩
              case measure => simp [intOf];omega
          · by_cases hk4':r.kind = 4
            · have TA1:=ta31
              have TA:=ta33;rw [hk4',ta_share,ec,show ([.int .i64 r.kind,.int .i64 r.seq,.string r.name,.int .i64 r.length,.int .i64 r.group,.int .i64 r.row,.slice ao6 r.rows.1 cap6,.slice ao7 r.data.1 cap7,.slice ao8 r.delta.1 cap8]:List Value).toArray = #[.int .i64 r.kind,.int .i64 r.seq,.string r.name,.int .i64 r.length,.int .i64 r.group,.int .i64 r.row,.slice ao6 r.rows.1 cap6,.slice ao7 r.data.1 cap7,.slice ao8 r.delta.1 cap8] from rfl] at ye;have HC4:Hid (r.kind = 4):=hk4';clear ec hk2 hk4' hk14
              go_upto_region 18 with fail
              have bA:Below wr.heap.size wr (wr.alloc (.cells #[.int .i64 r.kind,.int .i64 r.seq,.string r.name,.int .i64 r.length,.int .i64 r.group,.int .i64 r.row,.slice ao6 r.rows.1 cap6,.slice ao7 r.data.1 cap7,.slice ao8 r.delta.1 cap8] 151)):=(Below.refl _ _).alloc (Nat.le_refl _) _;have X6:Box (wr.alloc (.cells #[.int .i64 r.kind,.int .i64 r.seq,.string r.name,.int .i64 r.length,.int .i64 r.group,.int .i64 r.row,.slice ao6 r.rows.1 cap6,.slice ao7 r.data.1 cap7,.slice ao8 r.delta.1 cap8] 151)) wr.heap.size #[.int .i64 r.kind,.int .i64 r.seq,.string r.name,.int .i64 r.length,.int .i64 r.group,.int .i64 r.row,.slice ao6 r.rows.1 cap6,.slice ao7 r.data.1 cap7,.slice ao8 r.delta.1 cap8] 151:=box_new _ _ _;obtain ⟨W6,hW6⟩:∃ y,y = wr.alloc (.cells #[.int .i64 r.kind,.int .i64 r.seq,.string r.name,.int .i64 r.length,.int .i64 r.group,.int .i64 r.row,.slice ao6 r.rows.1 cap6,.slice ao7 r.data.1 cap7,.slice ao8 r.delta.1 cap8] 151):=⟨_,rfl⟩;rw [← hW6] at bA X6 ⊢;have y5:W6.cell? ⟨wr.heap.size,5,none⟩ = some (.int .i64 r.row):=X6.cell 5;have HG6:Hid (Gth w2 W6 w2.heap.size (.slice au n cau) n y cy):=HG.out.next bA;have z6:wr.heap.size < W6.heap.size:=X6.lt;clear hW6 bA X6 TA TA1 ye;have bS:Below W6.heap.size W6 (W6.alloc (.cells #[.int .i64 r.row] 2)):=(Below.refl _ _).alloc (Nat.le_refl _) _;obtain ⟨u',W',hrun,hG'⟩:=(HG6.out.next bS).app (by have:=bS.size;omega) 1 (src_num W6 r.row k5) (fun e => by cases e) (by omega);have HG':Hid (Gth w2 W' w2.heap.size u' (n + 1) (cat2 y n (fun _ => r.row)) (cat2 cy n (fun _ => [.int .i64 r.row]))):=hG';obtain ⟨au',cau',hu'⟩:=hG'.vw.form;have HUF:Hid (u' = .slice au' (n + 1) cau'):=hu';clear hG' hu' bS
              go_wp2_with (at_builtin;refine wp_run2 rfl (.tmp 63) (.tmp 68) rfl ?_ ?_ hrun ?_;(simp [Act.eval,Act.put]);(simp [Act.eval,Act.put]))
              clear hrun;go_wp2
              go_roundw
              case rel => exact ⟨q + 1,n + 1,_,_,by omega,by go_num,by omega,HG'.out,HYES.out (.inr HC4.out)⟩
              case measure => simp [intOf];omega
            · have TA1:=ta_other (ce q) hk14 hk2
              have TA2:=ta_otherS (ce q) hk14 hk4';have HN4:Hid (¬ ((r.kind = 2 ∧ r.group = g) ∨ r.kind = 4)):=fun h => h.elim (fun h => hk2 h.1) hk4';obtain ⟨ev,hev⟩:∃ ev,ev = entV r.kind (ce q):=⟨_,rfl⟩;rw [← hev] at ye TA1 TA2;clear hev hk2 hk4' hk14 ec;go_wp2
              go_roundw
              case rel => exact ⟨q + 1,n,y,cy,by omega,by go_num,by omega,HG.out,HNO.out HN4.out⟩
              case measure => simp [intOf];omega
        · obtain rfl:q = N:=by omega
          have HRD:Hid (RdI wr wr.heap.size (.slice au n cau) n y):=viewI_rd HG.out.vw
          have HUN:Hid (∀ z,HasP n y z ↔ U1 s x m g m.length z ∨ U2 x g q z):=by
            have:=HU.out;rw [HM.out] at this;exact this
          have HBZ:Hid (Below w.heap.size w wr):=HB2.out.trans (bW.mono z2);clear hG hU bW;go_wp2;go_ret;exact ⟨m,_,n,y,rfl,HLM.out,HRD.out,HUN.out,HBZ.out⟩
end Go.Proofs.YtfoidpcoiankoaaGreat