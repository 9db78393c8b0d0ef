/- The ledger: entries by their kinds; what both tapes say is read. -/
import Derived.Test.YtodedamnclhbnaaGreatZPundonag
import Derived.Test.YtodedamnclhbnaaGreatZPundonam
import Derived.Deep.DeepCutAuto
import Derived.Test.YtodedamnclhbnaaGreatZPundonac
import Derived.Test.YtodedamnclhbnaaGreatZPundonak
import Derived.Test.YtodedamnclhbnaaGreatZPundonae
import Derived.Test.YtodedamnclhbnaaGreatZPundonaf
import Derived.Test.YtodedamnclhbnaaGreatZPundonad
import Derived.Test.YtodedamnclhbnaaGreatZPundonaj
set_option linter.unusedVariables false
set_option linter.unusedSimpArgs false
namespace Go.Proofs.YtodedamnclhbnaaGreat
open Go.RowKit F256
open Go.Maps (Keyed)
theorem Ldg.keepAll {w w':World} {lo B:Nat} {s:Nat → Int} {m k:Nat} {x:Nat → RecD} {ce:Nat → List Value} {v:Value} {b1 b2 b3 b4 b5:Nat} (h:Ldg w lo B s m k x ce v b1 b2 b3 b4 b5) (hb:∀ b,b < w.heap.size → w'.heap[b]? = w.heap[b]?):Ldg w' lo B s m k x ce v b1 b2 b3 b4 b5:=by
  refine ⟨(hb B h.box.lt).trans h.box,⟨h.row.1,?_⟩,h.m1.block (hb _ h.m1.lt),h.m2.block (hb _ h.m2.lt),h.m3.block (hb _ h.m3.lt),h.m4.block (hb _ h.m4.lt),h.m5.block (hb _ h.m5.lt),h.nd,h.low,h.apart⟩
  rcases h.row.2 with hn | ⟨g,cap,cur,rfl,q1,q2,q3⟩
  · exact .inl hn
  · exact .inr ⟨g,cap,cur,rfl,q1,(hb g (Array.getElem?_eq_some_iff.1 q2).1).trans q2,q3⟩
set_option maxHeartbeats 4000000 in
theorem entryOf_kd (kd:Int) (r:RecD) (ao6 ao7 ao8:Option Addr) (cap6 cap7 cap8:Nat) (w:World) :
    Calls Tryz.prog 71 #[.agg #[.int .i64 kd,.int .i64 r.seq,.string r.name,.int .i64 r.length,.int .i64 r.group,.int .i64 r.row,.slice ao6 r.rows.1 cap6,.slice ao7 r.data.1 cap7,.slice ao8 r.delta.1 cap8]] w fun e w' => e = .returned (entV kd [.int .i64 kd,.int .i64 r.seq,.string r.name,.int .i64 r.length,.int .i64 r.group,.int .i64 r.row,.slice ao6 r.rows.1 cap6,.slice ao7 r.data.1 cap7,.slice ao8 r.delta.1 cap8]) ∧ Below w.heap.size w w':=by
  have T0:=(one_new w #[.int .i64 kd,.int .i64 r.seq,.string r.name,.int .i64 r.length,.int .i64 r.group,.int .i64 r.row,.slice ao6 r.rows.1 cap6,.slice ao7 r.data.1 cap7,.slice ao8 r.delta.1 cap8] 58).bel;unfold entV entT
  by_cases h1:kd = 1
  · subst h1
    go_enter Tryz.func71,Tryz.ntmps71
    go_wp2;go_ret;exact ⟨rfl,T0⟩
  · rw [if_neg h1]
    by_cases h2:kd = 2
    · subst h2
      go_enter Tryz.func71,Tryz.ntmps71
      go_wp2;go_ret;exact ⟨rfl,T0⟩
    · rw [if_neg h2]
      by_cases h3:kd = 3
      · subst h3
        go_enter Tryz.func71,Tryz.ntmps71
        go_wp2;go_ret;exact ⟨rfl,T0⟩
      · rw [if_neg h3]
        go_enter Tryz.func71,Tryz.ntmps71
        go_wp2;go_ret;exact ⟨rfl,T0⟩
theorem enter_any {w w0:World} {lo B hi:Nat} {s:Nat → Int} {k:Nat} {x:Nat → RecD} {ce:Nat → List Value} {v:Value} {b1 b2 b3 b4 b5:Nat} (h:Ldg w lo B s k k x ce v b1 b2 b3 b4 b5) (hk:k ≤ 1000000) (hlo:lo ≤ w.heap.size) (hr:layRec.rd w0 hi (x k) (ce k)) (hkd:InP (x k).kind 1 4) :
    Calls Tryz.prog 70 #[.pointer (some ⟨B,0,none⟩),entV (x k).kind (ce k)] w fun e w' => e = .returned (.tuple #[]) ∧ (∃ v',Ldg w' lo B s (k + 1) (k + 1) x ce v' b1 b2 b3 b4 b5 ∧ EntQ w w' v v' [B,b1,b2,b3,b4,b5]) ∧ Below lo w w':=by
  obtain ⟨ao6,cap6,ao7,cap7,ao8,cap8,e,_,_,_,k0,k1,k2,k3,k4,k5⟩:=Rec_rd hr;obtain ⟨q1,q2⟩:=hkd
  have hc:(x k).kind = 1 ∨ (x k).kind = 2 ∨ (x k).kind = 3 ∨ (x k).kind = 4:=by omega
  rcases hc with c | c | c | c
  · have:=enter_item h hk hlo rfl e c k2 k1 k4 k5
    rw [show entV (x k).kind (ce k) = .iface 67 (.agg #[.int .i64 (x k).kind,.int .i64 (x k).seq,.string (x k).name,.int .i64 (x k).length,.int .i64 (x k).group,.int .i64 (x k).row,.slice ao6 (x k).rows.1 cap6,.slice ao7 (x k).data.1 cap7,.slice ao8 (x k).delta.1 cap8]) by unfold entV entT;rw [e];simp [c]];exact this
  · have:=enter_move h hk hlo rfl e c k2 k1 k4 k5
    rw [show entV (x k).kind (ce k) = .iface 126 (.agg #[.int .i64 (x k).kind,.int .i64 (x k).seq,.string (x k).name,.int .i64 (x k).length,.int .i64 (x k).group,.int .i64 (x k).row,.slice ao6 (x k).rows.1 cap6,.slice ao7 (x k).data.1 cap7,.slice ao8 (x k).delta.1 cap8]) by unfold entV entT;rw [e];simp [c]];exact this
  · have:=enter_done h hk hlo rfl e c k2 k1 k4 k5
    rw [show entV (x k).kind (ce k) = .iface 157 (.agg #[.int .i64 (x k).kind,.int .i64 (x k).seq,.string (x k).name,.int .i64 (x k).length,.int .i64 (x k).group,.int .i64 (x k).row,.slice ao6 (x k).rows.1 cap6,.slice ao7 (x k).data.1 cap7,.slice ao8 (x k).delta.1 cap8]) by unfold entV entT;rw [e];simp [c]];exact this
  · have:=enter_share h hk hlo rfl e c k2 k1 k4 k5
    rw [show entV (x k).kind (ce k) = .iface 160 (.agg #[.int .i64 (x k).kind,.int .i64 (x k).seq,.string (x k).name,.int .i64 (x k).length,.int .i64 (x k).group,.int .i64 (x k).row,.slice ao6 (x k).rows.1 cap6,.slice ao7 (x k).data.1 cap7,.slice ao8 (x k).delta.1 cap8]) by unfold entV entT;rw [e];simp [c]];exact this
theorem MapV.alloc {w:World} {k:TypeId} {b n:Nat} {f:Value → Option Value} (h:MapV w k b n f) (q:Obj):MapV (w.alloc q) k b n f:=h.block (Below.heap_alloc w q b h.lt)
theorem cntF_zero (p:Nat → Prop) (key:Nat → Value):cntF p key 0 = fun _ => none:=by
  funext y
  simp [cntF,cN]
theorem ldg_start (u:World) (s:Nat → Int) (x:Nat → RecD) (ce:Nat → List Value) :
    Ldg ((((((u.alloc (.map #[] 0)).alloc (.map #[] 0)).alloc (.map #[] 0)).alloc (.map #[] 0)).alloc (.map #[] 0)).alloc (.cells #[.int .i64 (s 0),.int .i64 (s 1),.int .i64 (s 2),.int .i64 (s 3),.int .i64 (s 4),.int .i64 (s 5),.int .i64 (s 6),.int .i64 (s 7),.int .i64 (s 8),.slice none 0 0,.map (some u.heap.size),.map (some (u.heap.size + 1)),.map (some (u.heap.size + 1 + 1)),.map (some (u.heap.size + 1 + 1 + 1)),.map (some (u.heap.size + 1 + 1 + 1 + 1))] 75)) u.heap.size (u.heap.size + 1 + 1 + 1 + 1 + 1) s 0 0 x ce (.slice none 0 0) (u.heap.size) (u.heap.size + 1) (u.heap.size + 1 + 1) (u.heap.size + 1 + 1 + 1) (u.heap.size + 1 + 1 + 1 + 1):=by
  have a1:(u.alloc (.map #[] 0)).heap.size = u.heap.size + 1:=by simp
  have a2:((u.alloc (.map #[] 0)).alloc (.map #[] 0)).heap.size = u.heap.size + 1 + 1:=by simp
  have a3:(((u.alloc (.map #[] 0)).alloc (.map #[] 0)).alloc (.map #[] 0)).heap.size = u.heap.size + 1 + 1 + 1:=by simp
  have a4:((((u.alloc (.map #[] 0)).alloc (.map #[] 0)).alloc (.map #[] 0)).alloc (.map #[] 0)).heap.size = u.heap.size + 1 + 1 + 1 + 1:=by simp
  have a5:(((((u.alloc (.map #[] 0)).alloc (.map #[] 0)).alloc (.map #[] 0)).alloc (.map #[] 0)).alloc (.map #[] 0)).heap.size = u.heap.size + 1 + 1 + 1 + 1 + 1:=by simp
  have m1:=mapV_made u 9;have m2:=mapV_made (u.alloc (.map #[] 0)) 2;have m3:=mapV_made ((u.alloc (.map #[] 0)).alloc (.map #[] 0)) 159;have m4:=mapV_made (((u.alloc (.map #[] 0)).alloc (.map #[] 0)).alloc (.map #[] 0)) 2;have m5:=mapV_made ((((u.alloc (.map #[] 0)).alloc (.map #[] 0)).alloc (.map #[] 0)).alloc (.map #[] 0)) 162;have X:=box_new (((((u.alloc (.map #[] 0)).alloc (.map #[] 0)).alloc (.map #[] 0)).alloc (.map #[] 0)).alloc (.map #[] 0)) #[.int .i64 (s 0),.int .i64 (s 1),.int .i64 (s 2),.int .i64 (s 3),.int .i64 (s 4),.int .i64 (s 5),.int .i64 (s 6),.int .i64 (s 7),.int .i64 (s 8),.slice none 0 0,.map (some u.heap.size),.map (some (u.heap.size + 1)),.map (some (u.heap.size + 1 + 1)),.map (some (u.heap.size + 1 + 1 + 1)),.map (some (u.heap.size + 1 + 1 + 1 + 1))] 75;rw [a1] at m2;rw [a2] at m3;rw [a3] at m4;rw [a4] at m5;rw [a5] at X;refine ⟨X,World.ownsRow_nil _ _ _ _,(((((m1.alloc _).alloc _).alloc _).alloc _).alloc _),?_,?_,?_,(m5.alloc _),by simp <;> omega,by omega,fun g hg => by cases hg⟩
  · rw [show movF x 0 = fun _ => none from cntF_zero _ _]
    exact (((m2.alloc _).alloc _).alloc _).alloc _
  · rw [show donF x 0 = fun _ => none from cntF_zero _ _]
    exact ((m3.alloc _).alloc _).alloc _
  · rw [show endF x 0 = fun _ => none from cntF_zero _ _]
    exact (m4.alloc _).alloc _
theorem recT_ok {d:WorldD} (hok:OkWorld d) {i:Nat} (hi:i < lenT d.tapes.2 2):InP (recT d.tapes.2 2 i).kind 1 4:=by
  have h2:d.tapes.1 = 2:=hok.form.2.2
  have key:∀ t j,t < 2 → j < (d.tapes.2 t).recs.1 → InP ((d.tapes.2 t).recs.2 j).kind 1 4:=fun t j ht hj => by
    have:=hok.recs t (by omega) j hj
    rcases this with ⟨_,h⟩ | ⟨_,h⟩
    · omega
    rcases h with ⟨_,h⟩ | ⟨h,_⟩
    · omega
    exact h
  have e1:lenT d.tapes.2 1 = (d.tapes.2 0).recs.1:=by simp [lenT]
  have e2:lenT d.tapes.2 2 = (d.tapes.2 0).recs.1 + (d.tapes.2 1).recs.1:=by simp [lenT]
  rw [e2] at hi
  show InP (cat2 (recT d.tapes.2 1) (lenT d.tapes.2 1) (d.tapes.2 1).recs.2 i).kind 1 4
  unfold cat2
  split
  · rename_i c
    rw [e1] at c
    show InP (cat2 (recT d.tapes.2 0) (lenT d.tapes.2 0) (d.tapes.2 0).recs.2 i).kind 1 4
    unfold cat2;rw [if_neg (by show ¬ i < 0;omega)];exact key 0 (i - 0) (by omega) (by omega)
  · rename_i c
    rw [e1] at c ⊢;exact key 1 _ (by omega) (by omega)
def TapesP (d:WorldD) (hi:Nat) (w:World) (e:Ending) (w':World):Prop :=
  ∃ B l ce v b1 b2 b3 b4 b5,e = .returned (.pointer (some ⟨B,0,none⟩)) ∧ Cnt (recT d.tapes.2 2) (lenT d.tapes.2 2) l ∧ Ldg w' (w.heap.size + 1) B d.shape l.length l.length (fun i => recT d.tapes.2 2 (l.getD i 0)) ce v b1 b2 b3 b4 b5 ∧ (∀ i,i < l.length → layRec.rd w' hi (recT d.tapes.2 2 (l.getD i 0)) (ce i)) ∧ Below w.heap.size w w'
set_option maxHeartbeats 16000000 in
set_option maxRecDepth 20000 in
theorem readTapes_any (d:WorldD) (cs:List Value) (hi:Nat) (w:World) (h:layWorld.rd w hi d cs) (hhi:hi ≤ w.heap.size) (hok:OkWorld d) :
    Calls Tryz.prog 31 #[.agg cs.toArray] w (TapesP d hi w):=by
  have h':=h;obtain ⟨ao1,cap1,ao2,cap2,ao3,cap3,rfl,g1,g2,g3,k0,k4,k5⟩:=World_rd h';have HG3:Hid ((layTape.slice 104).rd w hi d.tapes [.slice ao3 d.tapes.1 cap3]):=g3;have HOK:Hid (OkWorld d):=hok;clear h h' g1 g2 g3 k0 k4 k5 hok;have T0:=one_new w #[.int .i64 (d.shape 0),.int .i64 (d.shape 1),.int .i64 (d.shape 2),.int .i64 (d.shape 3),.int .i64 (d.shape 4),.int .i64 (d.shape 5),.int .i64 (d.shape 6),.int .i64 (d.shape 7),.int .i64 (d.shape 8),.slice ao1 d.groups.1 cap1,.slice ao2 d.on.1 cap2,.slice ao3 d.tapes.1 cap3,.int .i64 d.writes,.int .i64 d.stop,.bool d.down] 38;have hmm:=@run_makeMap Tryz.prog
  go_enter Tryz.func31,Tryz.ntmps31
  go_upto_region 2 with fail
  have L0:=ldg_start (w.alloc (.cells #[.int .i64 (d.shape 0),.int .i64 (d.shape 1),.int .i64 (d.shape 2),.int .i64 (d.shape 3),.int .i64 (d.shape 4),.int .i64 (d.shape 5),.int .i64 (d.shape 6),.int .i64 (d.shape 7),.int .i64 (d.shape 8),.slice ao1 d.groups.1 cap1,.slice ao2 d.on.1 cap2,.slice ao3 d.tapes.1 cap3,.int .i64 d.writes,.int .i64 d.stop,.bool d.down] 38)) d.shape
  have zA:(w.alloc (.cells #[.int .i64 (d.shape 0),.int .i64 (d.shape 1),.int .i64 (d.shape 2),.int .i64 (d.shape 3),.int .i64 (d.shape 4),.int .i64 (d.shape 5),.int .i64 (d.shape 6),.int .i64 (d.shape 7),.int .i64 (d.shape 8),.slice ao1 d.groups.1 cap1,.slice ao2 d.on.1 cap2,.slice ao3 d.tapes.1 cap3,.int .i64 d.writes,.int .i64 d.stop,.bool d.down] 38)).heap.size = w.heap.size + 1:=by simp
  rw [zA] at L0;have bW:Below w.heap.size w (((((((w.alloc (.cells #[.int .i64 (d.shape 0),.int .i64 (d.shape 1),.int .i64 (d.shape 2),.int .i64 (d.shape 3),.int .i64 (d.shape 4),.int .i64 (d.shape 5),.int .i64 (d.shape 6),.int .i64 (d.shape 7),.int .i64 (d.shape 8),.slice ao1 d.groups.1 cap1,.slice ao2 d.on.1 cap2,.slice ao3 d.tapes.1 cap3,.int .i64 d.writes,.int .i64 d.stop,.bool d.down] 38)).alloc (.map #[] 0)).alloc (.map #[] 0)).alloc (.map #[] 0)).alloc (.map #[] 0)).alloc (.map #[] 0)).alloc (.cells #[.int .i64 (d.shape 0),.int .i64 (d.shape 1),.int .i64 (d.shape 2),.int .i64 (d.shape 3),.int .i64 (d.shape 4),.int .i64 (d.shape 5),.int .i64 (d.shape 6),.int .i64 (d.shape 7),.int .i64 (d.shape 8),.slice none 0 0,.map (some (w.heap.size + 1)),.map (some (w.heap.size + 1 + 1)),.map (some (w.heap.size + 1 + 1 + 1)),.map (some (w.heap.size + 1 + 1 + 1 + 1)),.map (some (w.heap.size + 1 + 1 + 1 + 1 + 1))] 75)):=((((((T0.bel.alloc (by simp) _).alloc (by simp <;> omega) _).alloc (by simp <;> omega) _).alloc (by simp <;> omega) _).alloc (by simp <;> omega) _).alloc (by simp <;> omega) _);have XW:Box (((((((w.alloc (.cells #[.int .i64 (d.shape 0),.int .i64 (d.shape 1),.int .i64 (d.shape 2),.int .i64 (d.shape 3),.int .i64 (d.shape 4),.int .i64 (d.shape 5),.int .i64 (d.shape 6),.int .i64 (d.shape 7),.int .i64 (d.shape 8),.slice ao1 d.groups.1 cap1,.slice ao2 d.on.1 cap2,.slice ao3 d.tapes.1 cap3,.int .i64 d.writes,.int .i64 d.stop,.bool d.down] 38)).alloc (.map #[] 0)).alloc (.map #[] 0)).alloc (.map #[] 0)).alloc (.map #[] 0)).alloc (.map #[] 0)).alloc (.cells #[.int .i64 (d.shape 0),.int .i64 (d.shape 1),.int .i64 (d.shape 2),.int .i64 (d.shape 3),.int .i64 (d.shape 4),.int .i64 (d.shape 5),.int .i64 (d.shape 6),.int .i64 (d.shape 7),.int .i64 (d.shape 8),.slice none 0 0,.map (some (w.heap.size + 1)),.map (some (w.heap.size + 1 + 1)),.map (some (w.heap.size + 1 + 1 + 1)),.map (some (w.heap.size + 1 + 1 + 1 + 1)),.map (some (w.heap.size + 1 + 1 + 1 + 1 + 1))] 75)) w.heap.size #[.int .i64 (d.shape 0),.int .i64 (d.shape 1),.int .i64 (d.shape 2),.int .i64 (d.shape 3),.int .i64 (d.shape 4),.int .i64 (d.shape 5),.int .i64 (d.shape 6),.int .i64 (d.shape 7),.int .i64 (d.shape 8),.slice ao1 d.groups.1 cap1,.slice ao2 d.on.1 cap2,.slice ao3 d.tapes.1 cap3,.int .i64 d.writes,.int .i64 d.stop,.bool d.down] 38:=((((((T0.b1.allocd _).allocd _).allocd _).allocd _).allocd _).allocd _);obtain ⟨W1,hW1⟩:∃ y,y = (((((((w.alloc (.cells #[.int .i64 (d.shape 0),.int .i64 (d.shape 1),.int .i64 (d.shape 2),.int .i64 (d.shape 3),.int .i64 (d.shape 4),.int .i64 (d.shape 5),.int .i64 (d.shape 6),.int .i64 (d.shape 7),.int .i64 (d.shape 8),.slice ao1 d.groups.1 cap1,.slice ao2 d.on.1 cap2,.slice ao3 d.tapes.1 cap3,.int .i64 d.writes,.int .i64 d.stop,.bool d.down] 38)).alloc (.map #[] 0)).alloc (.map #[] 0)).alloc (.map #[] 0)).alloc (.map #[] 0)).alloc (.map #[] 0)).alloc (.cells #[.int .i64 (d.shape 0),.int .i64 (d.shape 1),.int .i64 (d.shape 2),.int .i64 (d.shape 3),.int .i64 (d.shape 4),.int .i64 (d.shape 5),.int .i64 (d.shape 6),.int .i64 (d.shape 7),.int .i64 (d.shape 8),.slice none 0 0,.map (some (w.heap.size + 1)),.map (some (w.heap.size + 1 + 1)),.map (some (w.heap.size + 1 + 1 + 1)),.map (some (w.heap.size + 1 + 1 + 1 + 1)),.map (some (w.heap.size + 1 + 1 + 1 + 1 + 1))] 75)):=⟨_,rfl⟩
  rw [← hW1] at bW XW ⊢
  have HL0:Hid (∀ x ce,Ldg W1 (w.heap.size + 1) (w.heap.size + 1 + 1 + 1 + 1 + 1 + 1) d.shape 0 0 x ce (.slice none 0 0) (w.heap.size + 1) (w.heap.size + 1 + 1) (w.heap.size + 1 + 1 + 1) (w.heap.size + 1 + 1 + 1 + 1) (w.heap.size + 1 + 1 + 1 + 1 + 1)):=fun x ce => by rw [hW1];exact L0 x ce
  have z1:w.heap.size + 7 ≤ W1.heap.size:=by rw [hW1];simp
  clear hW1 L0 zA hmm;have h2:d.tapes.1 = 2:=HOK.out.form.2.2;have hn0:(d.tapes.2 0).recs.1 ≤ 400000:=Nat.le_trans (HOK.out.few 0 (by omega)) (by decide);have hn1:(d.tapes.2 1).recs.1 ≤ 400000:=Nat.le_trans (HOK.out.few 1 (by omega)) (by decide)
  have x11:W1.cell? ⟨w.heap.size,11,none⟩ = some (.slice ao3 2 cap3):=by have:=XW.cell 11;rw [h2] at this;exact this
  have G3:(layTape.slice 104).rd W1 hi (2,d.tapes.2) [.slice ao3 2 cap3]:=by
    have:=Lay.rd_below _ HG3.out bW hhi;rw [h2] at this;rw [show d.tapes = (2,d.tapes.2) from Prod.ext h2 rfl] at this;exact this
  have CC:=countOnce_any d.tapes.2 (.slice ao3 2 cap3) hi W1 G3 (by have:=bW.size;omega) hn0 hn1;have HBW:Hid (Below w.heap.size w W1):=bW;clear G3 bW T0 XW
  go_wp2_with fail
  refine CC.mono ?_;rintro e w2 ⟨v2,l,ce,lo,rfl,hCt,hlo,V,b2⟩;have HCt:Hid (Cnt (recT d.tapes.2 2) (lenT d.tapes.2 2) l):=hCt
  have hNl:l.length ≤ 800000:=by
    have e2:lenT d.tapes.2 2 = (d.tapes.2 0).recs.1 + (d.tapes.2 1).recs.1:=by simp [lenT]
    have:=(hCt.sum (fun _ => 0)).2;omega
  obtain ⟨x,hx⟩:∃ x:Nat → RecD,x = fun i => recT d.tapes.2 2 (l.getD i 0):=⟨_,rfl⟩;have HX:Hid (x = fun i => recT d.tapes.2 2 (l.getD i 0)):=hx
  have HKD:Hid (∀ i,i < l.length → InP (x i).kind 1 4):=fun i hi' => by
    rw [hx];exact recT_ok HOK.out ((hCt.mem _).1 (by rw [getD_at hi'];exact List.getElem_mem hi')).1
  rw [← hx] at V;obtain ⟨N,hN⟩:∃ N,N = l.length:=⟨_,rfl⟩;have HN:Hid (N = l.length):=hN;rw [← hN] at V HKD hNl;have HRD:Hid (∀ i,i < N → layRec.rd w2 hi (x i) (ce i)):=fun i hi' => V.each i hi';obtain ⟨a2,c2,rfl⟩:=V.form;have L2:Ldg w2 (w.heap.size + 1) (w.heap.size + 1 + 1 + 1 + 1 + 1 + 1) d.shape 0 0 x ce (.slice none 0 0) (w.heap.size + 1) (w.heap.size + 1 + 1) (w.heap.size + 1 + 1 + 1) (w.heap.size + 1 + 1 + 1 + 1) (w.heap.size + 1 + 1 + 1 + 1 + 1):=(HL0.out x ce).keepAll (fun b hb => b2.block b hb);have HB2:Hid (Below w.heap.size w w2):=HBW.out.trans (b2.mono (by omega));have z2:W1.heap.size ≤ w2.heap.size:=b2.size
  have AP:∀ g,(Value.slice a2 N c2).ownBlock = some g → w.heap.size + 7 ≤ g:=fun g hg => by
    rcases V.row.2 with ⟨q,_⟩ | ⟨g',cap',cur,q,q1,_⟩
    · cases q
      cases hg
    · cases q
      cases hg
      show w.heap.size + 7 ≤ g'
      omega
  have HV:Hid (View layRec 58 w2 lo hi (.slice a2 N c2) N x ce):=V
  have HAP:Hid (∀ g,(Value.slice a2 N c2).ownBlock = some g → w.heap.size + 7 ≤ g ∧ g < w2.heap.size):=fun g hg => ⟨AP g hg,by
    rcases V.row.2 with ⟨q,_⟩ | ⟨g',cap',cur,q,q1,q2,_⟩
    · cases q
      cases hg
    · cases q
      cases hg
      exact (Array.getElem?_eq_some_iff.1 q2).1⟩
  clear V AP CC b2 hCt hx hN x11 hn0 hn1 h2 hlo;go_wp2
  go_loopw [19] (fun i wr => ∃ (k:Nat) (v:Value),k ≤ N ∧ i = .int .i64 k ∧ Ldg wr (w.heap.size + 1) (w.heap.size + 1 + 1 + 1 + 1 + 1 + 1) d.shape k k x ce v (w.heap.size + 1) (w.heap.size + 1 + 1) (w.heap.size + 1 + 1 + 1) (w.heap.size + 1 + 1 + 1 + 1) (w.heap.size + 1 + 1 + 1 + 1 + 1) ∧ (∀ g,(Value.slice a2 N c2).ownBlock = some g → v.ownBlock ≠ some g ∧ wr.heap[g]? = w2.heap[g]?) ∧ Below (w.heap.size + 1) w2 wr) (fun i _ => N - (intOf i).toNat)
  case atStart => exact ⟨0,_,Nat.zero_le _,rfl,L2,fun g hg => ⟨(fun e => by cases e),rfl⟩,Below.refl _ _⟩
  case round =>
    clear L2;obtain ⟨k,v,hk,rfl,hL,hA,hb⟩:=hrel;have zr:w2.heap.size ≤ wr.heap.size:=hb.size
    by_cases hlt:k < N
    · have HL:Hid (Ldg wr (w.heap.size + 1) (w.heap.size + 1 + 1 + 1 + 1 + 1 + 1) d.shape k k x ce v (w.heap.size + 1) (w.heap.size + 1 + 1) (w.heap.size + 1 + 1 + 1) (w.heap.size + 1 + 1 + 1 + 1) (w.heap.size + 1 + 1 + 1 + 1 + 1)):=hL
      have HA:Hid (∀ g,(Value.slice a2 N c2).ownBlock = some g → v.ownBlock ≠ some g ∧ wr.heap[g]? = w2.heap[g]?):=hA;have HBr:Hid (Below (w.heap.size + 1) w2 wr):=hb;have Vr:View layRec 58 wr lo hi (.slice a2 N c2) N x ce:=HV.out.kept (fun b hb' => (hA b hb').2) (hb.mono (by omega));obtain ⟨g,cg,hgg⟩:=Vr.form0 (by omega)
      have hga:a2 = some ⟨g,0,none⟩:=by cases hgg;rfl
      have hcg:c2 = cg:=by cases hgg;rfl
      subst hga;subst hcg;have hrk:=HRD.out k hlt;obtain ⟨ao6,cap6,ao7,cap7,ao8,cap8,ec,-⟩:=Rec_rd hrk;have HRK:Hid (layRec.rd w2 hi (x k) (ce k)):=hrk;have HEC:Hid (ce k = [.int .i64 (x k).kind,.int .i64 (x k).seq,.string (x k).name,.int .i64 (x k).length,.int .i64 (x k).group,.int .i64 (x k).row,.slice ao6 (x k).rows.1 cap6,.slice ao7 (x k).data.1 cap7,.slice ao8 (x k).delta.1 cap8]):=ec
      have hcell:∀ j,j < 9 → wr.cell? ⟨g,k * 9 + j,none⟩ = ([.int .i64 (x k).kind,.int .i64 (x k).seq,.string (x k).name,.int .i64 (x k).length,.int .i64 (x k).group,.int .i64 (x k).row,.slice ao6 (x k).rows.1 cap6,.slice ao7 (x k).data.1 cap7,.slice ao8 (x k).delta.1 cap8]:List Value)[j]?:=fun j hj => by rw [← ec];exact Vr.cell hlt hj
      obtain ⟨r,hr⟩:∃ r,r = x k:=⟨_,rfl⟩;rw [← hr] at hcell;have HR:Hid (r = x k):=hr
      have t1:(k:Int) < (N:Int):=by omega
      have y0:wr.cell? ⟨g,k * 9,none⟩ = some (.int .i64 r.kind):=hcell 0 (by decide);have y1:wr.cell? ⟨g,k * 9 + 1,none⟩ = some (.int .i64 r.seq):=hcell 1 (by decide);have y2:wr.cell? ⟨g,k * 9 + 2,none⟩ = some (.string r.name):=hcell 2 (by decide);have y3:wr.cell? ⟨g,k * 9 + 3,none⟩ = some (.int .i64 r.length):=hcell 3 (by decide);have y4:wr.cell? ⟨g,k * 9 + 4,none⟩ = some (.int .i64 r.group):=hcell 4 (by decide);have y5:wr.cell? ⟨g,k * 9 + 5,none⟩ = some (.int .i64 r.row):=hcell 5 (by decide);have y6:wr.cell? ⟨g,k * 9 + 6,none⟩ = some (.slice ao6 r.rows.1 cap6):=hcell 6 (by decide);have y7:wr.cell? ⟨g,k * 9 + 7,none⟩ = some (.slice ao7 r.data.1 cap7):=hcell 7 (by decide);have y8:wr.cell? ⟨g,k * 9 + 8,none⟩ = some (.slice ao8 r.delta.1 cap8):=hcell 8 (by decide)
      have hkN:k ≤ 1000000:=by omega
      clear hL hA hb Vr hrk ec hcell hr
      go_wp2_with fail
      refine (entryOf_kd r.kind r ao6 ao7 ao8 cap6 cap7 cap8 _).mono ?_;rintro e w3 ⟨rfl,b3⟩;have b3':Below wr.heap.size wr w3:=((Below.refl wr.heap.size wr).alloc (Nat.le_refl _) _).trans (b3.mono (by simp));have L3:=HL.out.keepAll (fun b hb' => b3'.block b hb');have z3:wr.heap.size ≤ w3.heap.size:=b3'.size;have CE:=enter_any L3 hkN (by omega) HRK.out (HKD.out k hlt);rw [HEC.out,← HR.out] at CE;have HB3:Hid (Below wr.heap.size wr w3):=b3';clear b3 b3' L3
      go_wp2_with fail
      refine CE.mono ?_;rintro e w4 ⟨rfl,⟨v',L4,q1,q2⟩,b4⟩;have HL4:Hid (Ldg w4 (w.heap.size + 1) (w.heap.size + 1 + 1 + 1 + 1 + 1 + 1) d.shape (k + 1) (k + 1) x ce v' (w.heap.size + 1) (w.heap.size + 1 + 1) (w.heap.size + 1 + 1 + 1) (w.heap.size + 1 + 1 + 1 + 1) (w.heap.size + 1 + 1 + 1 + 1 + 1)):=L4;have HB4:Hid (Below (w.heap.size + 1) w2 w4):=(HBr.out.trans (HB3.out.mono (by omega))).trans b4
      have HA4:Hid (∀ g',(Value.slice (some ⟨g,0,none⟩) N c2).ownBlock = some g' → v'.ownBlock ≠ some g' ∧ w4.heap[g']? = w2.heap[g']?):=fun g' hg' => by
        obtain ⟨p1,p2⟩:=HA.out g' hg';obtain ⟨p3,p4⟩:=HAP.out g' hg';refine ⟨?_,?_⟩
        · rcases q1 with e | ⟨g9,e1,e2⟩
          · rw [e];exact p1
          · rw [e2]
            intro e3
            cases e3
            omega
        · rw [q2 g' (by omega) (by simp;omega) p1,HB3.out.block g' (by omega)]
          exact p2
      clear L4 q1 q2 b4 CE y0 y1 y2 y3 y4 y5 y6 y7 y8;go_wp2
      go_roundw
      case rel => exact ⟨k + 1,v',by omega,by go_num,HL4.out,HA4.out,HB4.out⟩
      case measure => simp [intOf];omega
    · obtain rfl:k = N:=by omega
      have hL':=hL;rw [HN.out,HX.out] at hL';have HL:Hid (Ldg wr (w.heap.size + 1) (w.heap.size + 1 + 1 + 1 + 1 + 1 + 1) d.shape l.length l.length (fun i => recT d.tapes.2 2 (l.getD i 0)) ce v (w.heap.size + 1) (w.heap.size + 1 + 1) (w.heap.size + 1 + 1 + 1) (w.heap.size + 1 + 1 + 1 + 1) (w.heap.size + 1 + 1 + 1 + 1 + 1)):=hL'
      have HRr:Hid (∀ i,i < l.length → layRec.rd wr hi (recT d.tapes.2 2 (l.getD i 0)) (ce i)):=fun i hi' => by
        have:=HRD.out i (by rw [HN.out];exact hi');rw [HX.out] at this;exact layRec.rd_below this (hb.mono (Nat.le_trans hhi (Nat.le_succ _))) (Nat.le_refl _)
      have HBr:Hid (Below w.heap.size w wr):=HB2.out.trans (hb.mono (Nat.le_succ _));clear hL hL' hA hb;go_wp2;go_ret;exact ⟨_,l,ce,v,_,_,_,_,_,rfl,HCt.out,HL.out,HRr.out,HBr.out⟩
end Go.Proofs.YtodedamnclhbnaaGreat
namespace Go.Proofs.YtodedamnclhbnaaGreat
def pickI (p:Nat → Bool) (n:Nat):List Nat:=(List.range n).filter p
theorem pick_succ (p:Nat → Bool) (n:Nat):pickI p (n + 1) = pickI p n ++ (if p n then [n] else []):=by
  unfold pickI;rw [List.range_succ,List.filter_append]
  cases h:p n <;> simp [h]
theorem pick_lt {p:Nat → Bool} {n i:Nat} (h:i ∈ pickI p n):i < n:=by
  unfold pickI at h;exact List.mem_range.1 (List.mem_filter.1 h).1
theorem pick_le (p:Nat → Bool) (n:Nat):(pickI p n).length ≤ n:=by
  have:=List.length_filter_le p (List.range n);unfold pickI
  simpa using this
theorem pick_nodup (p:Nat → Bool) (n:Nat):(pickI p n).Nodup:=List.Pairwise.filter _ List.nodup_range
def pickF (p:Nat → Bool) (n:Nat):Nat → Nat:=fun m => (pickI p n).getD m 0
theorem pickF_more {p:Nat → Bool} {n m:Nat} (h:m < (pickI p n).length):pickF p (n + 1) m = pickF p n m:=by
  unfold pickF;rw [pick_succ,List.getD_eq_getElem?_getD,List.getD_eq_getElem?_getD,List.getElem?_append_left h]
theorem pickF_last {p:Nat → Bool} {n:Nat} (h:p n = true):pickF p (n + 1) (pickI p n).length = n:=by
  unfold pickF;rw [pick_succ,List.getD_eq_getElem?_getD,List.getElem?_append_right (Nat.le_refl _),Nat.sub_self,if_pos h];rfl
theorem pick_skip {p:Nat → Bool} {n:Nat} (h:p n = false):pickI p (n + 1) = pickI p n:=by rw [pick_succ,if_neg (by simp [h])];simp
end Go.Proofs.YtodedamnclhbnaaGreat
namespace Go.Proofs.YtodedamnclhbnaaGreat
open Go.RowKit F256
open Go.Maps (Keyed)
theorem cN_pos (p:Nat → Prop) (key:Nat → Value) (y:Value):∀ k,0 < cN p key y k ↔ ∃ j,j < k ∧ p j ∧ key j = y
  | 0 => ⟨fun h => by simp [cN] at h,fun ⟨j,h,_⟩ => by omega⟩
  | k + 1 => by
    have ih:=cN_pos p key y k;unfold cN
    by_cases c:p k ∧ key k = y
    · rw [if_pos c]
      exact ⟨fun _ => ⟨k,by omega,c⟩,fun _ => by omega⟩
    · rw [if_neg c,Nat.add_zero,ih]
      constructor
      · rintro ⟨j,h1,h2⟩
        exact ⟨j,by omega,h2⟩
      · rintro ⟨j,h1,h2⟩
        exact ⟨j,by
          by_cases e:j = k
          · subst e;exact absurd h2 c
          · omega,h2⟩
def DonP (x:Nat → RecD) (N:Nat) (q g:Int):Prop:=∃ j,j < N ∧ (x j).kind = 3 ∧ (x j).seq = q ∧ (x j).group = g
theorem donP_cN (x:Nat → RecD) (N:Nat) (q g:Int):0 < cN (fun i => (x i).kind = 3) (fun i => .agg #[.int .i64 (x i).seq,.int .i64 (x i).group]) (.agg #[.int .i64 q,.int .i64 g]) N ↔ DonP x N q g:=by
  rw [cN_pos]
  constructor
  · rintro ⟨j,h1,h2,h3⟩
    simp only [Value.agg.injEq,Array.mk.injEq,List.cons.injEq,Value.int.injEq,true_and,and_true] at h3
    exact ⟨j,h1,h2,h3.1,h3.2⟩
  · rintro ⟨j,h1,h2,h3,h4⟩
    exact ⟨j,h1,h2,by rw [h3,h4]⟩
set_option maxHeartbeats 4000000 in
theorem isDone_any {w:World} {lo B:Nat} {s:Nat → Int} {m N:Nat} {x:Nat → RecD} {ce:Nat → List Value} {v:Value} {b1 b2 b3 b4 b5:Nat} (h:Ldg w lo B s m N x ce v b1 b2 b3 b4 b5) (q g:Int) (hq:-9223372036854775808 ≤ q ∧ q ≤ 9223372036854775807) (hg:-9223372036854775808 ≤ g ∧ g ≤ 9223372036854775807) :
    Calls Tryz.prog 85 #[.pointer (some ⟨B,0,none⟩),.int .i64 q,.int .i64 g] w (BoolP (DonP x N q g) w):=by
  obtain ⟨kl,hkl⟩:=keyOf_step hq hg;have hlook:=h.m3.look keyStep Tryz.underlying72 (zero64 _) hkl;rw [show donF x N (.agg #[.int .i64 q,.int .i64 g]) = cntF (fun i => (x i).kind = 3) (fun i => .agg #[.int .i64 (x i).seq,.int .i64 (x i).group]) N (.agg #[.int .i64 q,.int .i64 g]) from rfl,cntF_get] at hlook;obtain ⟨c,hc⟩:∃ c,c = cN (fun i => (x i).kind = 3) (fun i => .agg #[.int .i64 (x i).seq,.int .i64 (x i).group]) (.agg #[.int .i64 q,.int .i64 g]) N:=⟨_,rfl⟩
  have HC:Hid (0 < c ↔ DonP x N q g):=by
    show 0 < c ↔ DonP x N q g
    rw [hc];exact donP_cN x N q g
  rw [← hc] at hlook;have d4:w.cell? ⟨B,12,none⟩ = some (.map (some b3)):=h.box.cell 12;clear hc hkl h
  by_cases hc0:0 < c
  · have HP:Hid (DonP x N q g):=HC.out.1 hc0
    have t1:(0:Int) < (c:Int):=by omega
    clear HC
    go_enter Tryz.func85,Tryz.ntmps85
    go_wp2;go_ret;exact ⟨true,rfl,⟨fun _ => HP.out,fun _ => rfl⟩,Below.refl _ _⟩
  · have HP:Hid (¬ DonP x N q g):=fun h => hc0 (HC.out.2 h)
    obtain rfl:c = 0:=by omega
    clear HC
    go_enter Tryz.func85,Tryz.ntmps85
    go_wp2;go_ret;exact ⟨false,rfl,⟨(fun h => by cases h),fun h => absurd h HP.out⟩,Below.refl _ _⟩
set_option maxHeartbeats 4000000 in
theorem concerns_any (s:Nat → Int) (hok:OkShape s) (r:RecD) (ao6 ao7 ao8:Option Addr) (cap6 cap7 cap8:Nat) (g:Int) (w:World) :
    Calls Tryz.prog 84 #[shapeV s,.agg #[.int .i64 r.kind,.int .i64 r.seq,.string r.name,.int .i64 r.length,.int .i64 r.group,.int .i64 r.row,.slice ao6 r.rows.1 cap6,.slice ao7 r.data.1 cap7,.slice ao8 r.delta.1 cap8],.int .i64 g] w (BoolP (r.group = g ∨ ¬ InP g 0 (s 0 - 1)) w):=by
  obtain ⟨t,ht⟩:=exB (InP g 0 (s 0 - 1));have CI:=isDataGroup_b hok ht;have T0:=two_newb w #[.int .i64 (s 0),.int .i64 (s 1),.int .i64 (s 2),.int .i64 (s 3),.int .i64 (s 4),.int .i64 (s 5),.int .i64 (s 6),.int .i64 (s 7),.int .i64 (s 8)] #[.int .i64 r.kind,.int .i64 r.seq,.string r.name,.int .i64 r.length,.int .i64 r.group,.int .i64 r.row,.slice ao6 r.rows.1 cap6,.slice ao7 r.data.1 cap7,.slice ao8 r.delta.1 cap8] 34 58;have Ht:Hid (t = true ↔ InP g 0 (s 0 - 1)):=ht
  unfold shapeV at *
  clear ht hok
  by_cases hg:r.group = g
  · have HG:Hid (r.group = g):=hg
    have hd:(r.group == g) = true:=by simp [hg]
    obtain ⟨rg,hrg⟩:∃ y,y = r.group:=⟨_,rfl⟩;clear hg;have HB:Hid (Below w.heap.size w ((w.alloc (.cells #[.int .i64 (s 0),.int .i64 (s 1),.int .i64 (s 2),.int .i64 (s 3),.int .i64 (s 4),.int .i64 (s 5),.int .i64 (s 6),.int .i64 (s 7),.int .i64 (s 8)] 34)).alloc (.cells #[.int .i64 r.kind,.int .i64 r.seq,.string r.name,.int .i64 r.length,.int .i64 r.group,.int .i64 r.row,.slice ao6 r.rows.1 cap6,.slice ao7 r.data.1 cap7,.slice ao8 r.delta.1 cap8] 58))):=T0.bel;clear T0 hrg
    go_enter Tryz.func84,Tryz.ntmps84
    go_wp2;go_ret;exact ⟨true,rfl,⟨fun _ => .inl HG.out,fun _ => rfl⟩,HB.out⟩
  · have hd:(r.group == g) = false:=by simp [hg]
    have HG:Hid (¬ r.group = g):=hg;clear hg
    go_enter Tryz.func84,Tryz.ntmps84
    go_wp2_with fail
    refine (CI _).mono ?_;rintro e w1 ⟨rfl,b1⟩;have HB:Hid (Below w.heap.size w w1):=(T0.call b1).bel;clear T0 b1 CI
    cases t with
    | true =>
      have HP:Hid (InP g 0 (s 0 - 1)):=Ht.out.1 rfl;go_wp2;go_ret;exact ⟨false,rfl,⟨(fun h => by cases h),fun h => h.elim (fun e => absurd e HG.out) (fun e => absurd HP.out e)⟩,HB.out⟩
    | false =>
      have HP:Hid (¬ InP g 0 (s 0 - 1)):=fun h => by have:=Ht.out.2 h;cases this
      go_wp2;go_ret;exact ⟨true,rfl,⟨fun _ => .inr HP.out,fun _ => rfl⟩,HB.out⟩
noncomputable def und (s:Nat → Int) (g:Int) (x:Nat → RecD) (N:Nat):Nat → Bool:=fun i => @decide ((x i).kind = 2 ∧ ((x i).group = g ∨ ¬ InP g 0 (s 0 - 1)) ∧ ¬ DonP x N (x i).seq g) (Classical.propDecidable _)
theorem und_is (s:Nat → Int) (g:Int) (x:Nat → RecD) (N i:Nat):und s g x N i = true ↔ ((x i).kind = 2 ∧ ((x i).group = g ∨ ¬ InP g 0 (s 0 - 1)) ∧ ¬ DonP x N (x i).seq g):=by unfold und;exact @decide_eq_true_iff _ (Classical.propDecidable _)
theorem und_no {s:Nat → Int} {g:Int} {x:Nat → RecD} {N i:Nat} (h:¬ ((x i).kind = 2 ∧ ((x i).group = g ∨ ¬ InP g 0 (s 0 - 1)) ∧ ¬ DonP x N (x i).seq g)):und s g x N i = false:=Bool.eq_false_iff.2 (fun e => h ((und_is s g x N i).1 e))
theorem pickF_atU {p:Nat → Bool} {k:Nat} (hp:p k = true):∀ n,k < n → pickF p n (pickI p k).length = k ∧ (pickI p k).length < (pickI p n).length
  | 0,h => by omega
  | n + 1,h => by
    by_cases c:k = n
    · subst c
      exact ⟨pickF_last hp,by rw [pick_succ,if_pos hp];simp⟩
    · obtain ⟨h1,h2⟩:=pickF_atU hp n (by omega)
      exact ⟨(pickF_more h2).trans h1,by rw [pick_succ,List.length_append];omega⟩
theorem ta_other {k:Int} (cs:List Value) (h1:InP k 1 4) (h2:k ≠ 2):∀ w,(Instr.typeAssert (entV k cs) 117 126 true).run Tryz.prog w = .ok (.tuple #[.agg #[.int .i64 0,.int .i64 0,.string ByteArray.empty,.int .i64 0,.int .i64 0,.int .i64 0,.slice none 0 0,.slice none 0 0,.slice none 0 0],.bool false]) w:=fun w => by
  obtain ⟨q1,q2⟩:=h1
  have hc:k = 1 ∨ k = 3 ∨ k = 4:=by omega
  unfold entV entT
  rcases hc with rfl | rfl | rfl
  · exact ta01 _ w
  · exact ta21 _ w
  · exact ta31 _ w
theorem ta_move (cs:List Value):entV 2 cs = .iface 126 (.agg cs.toArray):=by
  unfold entV entT
  simp
set_option maxHeartbeats 16000000 in
set_option maxRecDepth 20000 in
theorem undoneAt_any {w:World} {lo B hi:Nat} {s:Nat → Int} {N:Nat} {x:Nat → RecD} {ce:Nat → List Value} {v:Value} {b1 b2 b3 b4 b5:Nat} (h:Ldg w lo B s N N x ce v b1 b2 b3 b4 b5) (hok:OkShape s) (hN:N ≤ 1000000) (hhi:hi ≤ w.heap.size) (hr:∀ i,i < N → layRec.rd w hi (x i) (ce i)) (hkd:∀ i,i < N → InP (x i).kind 1 4) (g:Int) (hg:-9223372036854775808 ≤ g ∧ g ≤ 9223372036854775807) :
    Calls Tryz.prog 48 #[.pointer (some ⟨B,0,none⟩),.int .i64 g] w fun e w' => ∃ u cu,e = .returned u ∧ View layRec 58 w' w.heap.size hi u (pickI (und s g x N) N).length (fun i => x (pickF (und s g x N) N i)) cu ∧ Below w.heap.size w w':=by
  have HL:Hid (Ldg w lo B s N N x ce v b1 b2 b3 b4 b5):=h;have HOK:Hid (OkShape s):=hok;have HR:Hid (∀ i,i < N → layRec.rd w hi (x i) (ce i)):=hr;have HKD:Hid (∀ i,i < N → InP (x i).kind 1 4):=hkd;obtain ⟨ao,cap,hv⟩:=rowE_slice h.row;subst hv;have x9:w.cell? ⟨B,9,none⟩ = some (.slice ao N cap):=h.box.cell 9;clear h hok hr hkd
  go_enter Tryz.func48,Tryz.ntmps48
  go_wp2
  go_loopw [5,15] (fun u i wr => ∃ (k:Nat) (cu:Nat → List Value),k ≤ N ∧ i = .int .i64 k ∧ View layRec 58 wr w.heap.size hi u (pickI (und s g x N) k).length (fun i => x (pickF (und s g x N) N i)) cu ∧ Below w.heap.size w wr) (fun _ i _ => N - (intOf i).toNat)
  case atStart => exact ⟨0,fun _ => [],Nat.zero_le _,rfl,View.nil _ _ _ _ _,Below.refl _ _⟩
  case round =>
    clear x9;obtain ⟨k,cu,hk,rfl,hV,hb⟩:=hrel;obtain ⟨c,hc⟩:∃ c,c = (pickI (und s g x N) k).length:=⟨_,rfl⟩;have HC:Hid (c = (pickI (und s g x N) k).length):=hc;rw [← hc] at hV
    have hck:c ≤ k:=by rw [hc];exact pick_le _ _
    obtain ⟨au,cau,hu⟩:=hV.form;subst hu;have HV:Hid (View layRec 58 wr w.heap.size hi (.slice au c cau) c (fun i => x (pickF (und s g x N) N i)) cu):=hV;have HB:Hid (Below w.heap.size w wr):=hb;have zr:w.heap.size ≤ wr.heap.size:=hb.size
    by_cases hlt:k < N
    · have Lr:=HL.out.keepAll (fun b hb' => hb.block b hb')
      obtain ⟨ge,cge,cur,hge,q1,q2,q3,q4,q5,q6⟩:∃ g0 cap0 cur,(Value.slice ao N cap) = .slice (some ⟨g0,0,none⟩) N cap0 ∧ lo ≤ g0 ∧ wr.heap[g0]? = some (.cells cur 117 (0,0)) ∧ N ≤ cap0 ∧ cap0 ≤ maxLen ∧ cur.size = cap0 * 1 ∧ cur.toList.take (N * 1) = entL x ce N:=by
        rcases Lr.row.2 with ⟨_,e⟩ | h
        · omega
        · exact h
      have hga:ao = some ⟨ge,0,none⟩:=by cases hge;rfl
      have hcg:cap = cge:=by cases hge;rfl
      subst hga;subst hcg
      have ye:wr.cell? ⟨ge,k,none⟩ = some (entV (x k).kind (ce k)):=by
        have e1:cur.toList[k]? = some (entV (x k).kind (ce k)):=by
          have:(cur.toList.take (N * 1))[k]? = some (entV (x k).kind (ce k)):=by
            rw [q6];unfold entL;rw [List.getElem?_map,List.getElem?_range hlt];rfl
          rw [List.getElem?_take,if_pos (by omega)] at this;exact this
        rw [cell_of_row wr ge k cur _ _ q2]
        simpa using e1
      have t1:(k:Int) < (N:Int):=by omega
      have i1:(0:Int) ≤ (k:Int):=by omega
      clear hV hb hc hge q1 q2 q3 q4 q5 q6;have HLr:Hid (Ldg wr lo B s N N x ce (.slice (some ⟨ge,0,none⟩) N cap) b1 b2 b3 b4 b5):=Lr;clear Lr
      by_cases hk2:(x k).kind = 2
      · obtain ⟨ao6,cap6,ao7,cap7,ao8,cap8,ec,-,-,-,k0,k1,k2,k3,k4,k5⟩:=Rec_rd (HR.out k hlt)
        have TA:=ta11;rw [hk2,ta_move,ec,show ([.int .i64 (x k).kind,.int .i64 (x k).seq,.string (x k).name,.int .i64 (x k).length,.int .i64 (x k).group,.int .i64 (x k).row,.slice ao6 (x k).rows.1 cap6,.slice ao7 (x k).data.1 cap7,.slice ao8 (x k).delta.1 cap8]:List Value).toArray = #[.int .i64 (x k).kind,.int .i64 (x k).seq,.string (x k).name,.int .i64 (x k).length,.int .i64 (x k).group,.int .i64 (x k).row,.slice ao6 (x k).rows.1 cap6,.slice ao7 (x k).data.1 cap7,.slice ao8 (x k).delta.1 cap8] from rfl] at ye;have HEC:Hid (ce k = [.int .i64 (x k).kind,.int .i64 (x k).seq,.string (x k).name,.int .i64 (x k).length,.int .i64 (x k).group,.int .i64 (x k).row,.slice ao6 (x k).rows.1 cap6,.slice ao7 (x k).data.1 cap7,.slice ao8 (x k).delta.1 cap8]):=ec;obtain ⟨r,hrr⟩:∃ r,r = x k:=⟨_,rfl⟩;have HRR:Hid (r = x k):=hrr;rw [← hrr] at ye k1
        have HK2:Hid (r.kind = 2):=by rw [hrr];exact hk2
        clear ec hk2 hrr k0 k2 k3 k4 k5;obtain ⟨tc,htc⟩:=exB (r.group = g ∨ ¬ InP g 0 (s 0 - 1));obtain ⟨td,htd⟩:=exB (DonP x N r.seq g)
        have HU:Hid (und s g x N k = (tc && !td)):=by
          show und s g x N k = (tc && !td)
          have e:=und_is s g x N k;rw [← HRR.out] at e
          cases tc with
          | false => exact und_no (fun q => by rw [← HRR.out] at q;have:=htc.2 q.2.1;cases this)
          | true =>
            cases td with
            | true => exact und_no (fun q => by rw [← HRR.out] at q;exact q.2.2 (htd.1 rfl))
            | false => exact e.2 ⟨HK2.out,htc.1 rfl,fun d => by have:=htd.2 d;cases this⟩
        have HTC:Hid (tc = true ↔ (r.group = g ∨ ¬ InP g 0 (s 0 - 1))):=htc;have HTD:Hid (td = true ↔ DonP x N r.seq g):=htd;clear htc htd
        go_upto_region 6 with fail
        have HBA:Hid (Below wr.heap.size wr (wr.alloc (.cells #[.int .i64 r.kind,.int .i64 r.seq,.string r.name,.int .i64 r.length,.int .i64 r.group,.int .i64 r.row,.slice ao6 r.rows.1 cap6,.slice ao7 r.data.1 cap7,.slice ao8 r.delta.1 cap8] 126))):=(Below.refl _ _).alloc (Nat.le_refl _) _;have X6:Box (wr.alloc (.cells #[.int .i64 r.kind,.int .i64 r.seq,.string r.name,.int .i64 r.length,.int .i64 r.group,.int .i64 r.row,.slice ao6 r.rows.1 cap6,.slice ao7 r.data.1 cap7,.slice ao8 r.delta.1 cap8] 126)) wr.heap.size #[.int .i64 r.kind,.int .i64 r.seq,.string r.name,.int .i64 r.length,.int .i64 r.group,.int .i64 r.row,.slice ao6 r.rows.1 cap6,.slice ao7 r.data.1 cap7,.slice ao8 r.delta.1 cap8] 126:=box_new _ _ _;obtain ⟨W6,hW6⟩:∃ y,y = wr.alloc (.cells #[.int .i64 r.kind,.int .i64 r.seq,.string r.name,.int .i64 r.length,.int .i64 r.group,.int .i64 r.row,.slice ao6 r.rows.1 cap6,.slice ao7 r.data.1 cap7,.slice ao8 r.delta.1 cap8] 126):=⟨_,rfl⟩;rw [← hW6] at HBA X6 ⊢;have L6:=HLr.out.keepAll (fun b hb' => HBA.out.block b hb');have HL6:Hid (Ldg W6 lo B s N N x ce (.slice (some ⟨ge,0,none⟩) N cap) b1 b2 b3 b4 b5):=L6;have HX6:Hid (Box W6 wr.heap.size #[.int .i64 r.kind,.int .i64 r.seq,.string r.name,.int .i64 r.length,.int .i64 r.group,.int .i64 r.row,.slice ao6 r.rows.1 cap6,.slice ao7 r.data.1 cap7,.slice ao8 r.delta.1 cap8] 126):=X6;have cC:=q_below (W:=W6) (fun w' _ => det_b (concerns_any s HOK.out r ao6 ao7 ao8 cap6 cap7 cap8 g w') HTC.out);have cD:=q_below (W:=W6) (fun w' hb' => det_b (isDone_any (HL6.out.keepAll (fun b hb2 => hb'.block b hb2)) r.seq g k1 hg) HTD.out);unfold shapeV at cC;have s0:W6.cell? ⟨B,0,none⟩ = some (.int .i64 (s 0)):=L6.box.cell 0;have sk0:=cell_regrown s0;have s1:W6.cell? ⟨B,1,none⟩ = some (.int .i64 (s 1)):=L6.box.cell 1;have sk1:=cell_regrown s1;have s2:W6.cell? ⟨B,2,none⟩ = some (.int .i64 (s 2)):=L6.box.cell 2;have sk2:=cell_regrown s2;have s3:W6.cell? ⟨B,3,none⟩ = some (.int .i64 (s 3)):=L6.box.cell 3;have sk3:=cell_regrown s3;have s4:W6.cell? ⟨B,4,none⟩ = some (.int .i64 (s 4)):=L6.box.cell 4;have sk4:=cell_regrown s4;have s5:W6.cell? ⟨B,5,none⟩ = some (.int .i64 (s 5)):=L6.box.cell 5;have sk5:=cell_regrown s5;have s6:W6.cell? ⟨B,6,none⟩ = some (.int .i64 (s 6)):=L6.box.cell 6;have sk6:=cell_regrown s6;have s7:W6.cell? ⟨B,7,none⟩ = some (.int .i64 (s 7)):=L6.box.cell 7;have sk7:=cell_regrown s7;have s8:W6.cell? ⟨B,8,none⟩ = some (.int .i64 (s 8)):=L6.box.cell 8;have sk8:=cell_regrown s8;have y0:W6.cell? ⟨wr.heap.size,0,none⟩ = some (.int .i64 r.kind):=X6.cell 0;have yk0:=cell_regrown y0;have y1:W6.cell? ⟨wr.heap.size,1,none⟩ = some (.int .i64 r.seq):=X6.cell 1;have yk1:=cell_regrown y1;have y2:W6.cell? ⟨wr.heap.size,2,none⟩ = some (.string r.name):=X6.cell 2;have yk2:=cell_regrown y2;have y3:W6.cell? ⟨wr.heap.size,3,none⟩ = some (.int .i64 r.length):=X6.cell 3
        have yk3:=cell_regrown y3;have y4:W6.cell? ⟨wr.heap.size,4,none⟩ = some (.int .i64 r.group):=X6.cell 4;have yk4:=cell_regrown y4;have y5:W6.cell? ⟨wr.heap.size,5,none⟩ = some (.int .i64 r.row):=X6.cell 5;have yk5:=cell_regrown y5;have y6:W6.cell? ⟨wr.heap.size,6,none⟩ = some (.slice ao6 r.rows.1 cap6):=X6.cell 6;have yk6:=cell_regrown y6;have y7:W6.cell? ⟨wr.heap.size,7,none⟩ = some (.slice ao7 r.data.1 cap7):=X6.cell 7;have yk7:=cell_regrown y7;have y8:W6.cell? ⟨wr.heap.size,8,none⟩ = some (.slice ao8 r.delta.1 cap8):=X6.cell 8;have yk8:=cell_regrown y8;clear hW6 TA ye L6 X6
        have hst:(tc = false) ∨ (tc = true ∧ td = false) ∨ (tc = true ∧ td = true):=by cases tc <;> cases td <;> simp
        rcases hst with rfl | ⟨rfl,rfl⟩ | ⟨rfl,rfl⟩
        all_goals
          refine WQ.region (by kernel_rfl) (by kernel_rfl) ?_
          repeat (first | (apply WQ.skip;(case hw => rfl);intro K hK;go_simp;apply hK;clear hK K) | (apply WQ.want;(case hw => rfl);intro K hK;go_simp;first | (apply hK;clear hK K) | (apply Exists.intro;apply And.intro;(case left => intro p;(first | (go_at_call 84;exact cC _ _) | (go_at_call 85;exact cD _ _)));apply hK;clear hK K)))
          refine WQ.nil ?_;intro w7 hw7;have b7:=below_rg hw7;have X7:=HX6.out.call b7;have HV7:Hid (View layRec 58 w7 w.heap.size hi (.slice au c cau) c (fun i => x (pickF (und s g x N) N i)) cu):=HV.out.below (HBA.out.trans (b7.mono HBA.out.size)) (by omega);have HB7:Hid (Below w.heap.size w w7):=HB.out.trans ((HBA.out.trans (b7.mono HBA.out.size)).mono zr);have HX7:Hid (Box w7 wr.heap.size #[.int .i64 r.kind,.int .i64 r.seq,.string r.name,.int .i64 r.length,.int .i64 r.group,.int .i64 r.row,.slice ao6 r.rows.1 cap6,.slice ao7 r.data.1 cap7,.slice ao8 r.delta.1 cap8] 126):=X7;have z7:wr.heap.size < w7.heap.size:=X7.lt;clear b7 hw7 s0 sk0 s1 sk1 s2 sk2 s3 sk3 s4 sk4 s5 sk5 s6 sk6 s7 sk7 s8 sk8 y0 yk0 y1 yk1 y2 yk2 y3 yk3 y4 yk4 y5 yk5 y6 yk6 y7 yk7 y8 yk8 cC cD
        · clear X7
          go_wp2
          go_roundw
          case rel => exact ⟨k + 1,cu,by omega,by go_num,by rw [pick_skip HU.out,← HC.out];exact HV7.out,HB7.out⟩
          case measure => simp [intOf];omega
        · have HRK:Hid (layRec.rd w7 hi r [.int .i64 r.kind,.int .i64 r.seq,.string r.name,.int .i64 r.length,.int .i64 r.group,.int .i64 r.row,.slice ao6 r.rows.1 cap6,.slice ao7 r.data.1 cap7,.slice ao8 r.delta.1 cap8]):=by
            show layRec.rd w7 hi r [.int .i64 r.kind,.int .i64 r.seq,.string r.name,.int .i64 r.length,.int .i64 r.group,.int .i64 r.row,.slice ao6 r.rows.1 cap6,.slice ao7 r.data.1 cap7,.slice ao8 r.delta.1 cap8]
            have:=layRec.rd_below (HR.out k hlt) HB7.out hhi;rw [HEC.out,← HRR.out] at this;exact this
          have bA:Below w7.heap.size w7 (w7.alloc (.cells #[.int .i64 r.kind,.int .i64 r.seq,.string r.name,.int .i64 r.length,.int .i64 r.group,.int .i64 r.row,.slice ao6 r.rows.1 cap6,.slice ao7 r.data.1 cap7,.slice ao8 r.delta.1 cap8] 58)):=(Below.refl _ _).alloc (Nat.le_refl _) _;obtain ⟨v8,w8,hrun,V8,_,b8⟩:=run_appendV el_Rec rdOne_rec 30 (HV7.out.below bA (by omega)) 1 (src_one (b:=w7.heap.size) (hi:=hi) (y:=r) (cs:=[.int .i64 r.kind,.int .i64 r.seq,.string r.name,.int .i64 r.length,.int .i64 r.group,.int .i64 r.row,.slice ao6 r.rows.1 cap6,.slice ao7 r.data.1 cap7,.slice ao8 r.delta.1 cap8]) (fun j hj => ((box_new w7 #[.int .i64 r.kind,.int .i64 r.seq,.string r.name,.int .i64 r.length,.int .i64 r.group,.int .i64 r.row,.slice ao6 r.rows.1 cap6,.slice ao7 r.data.1 cap7,.slice ao8 r.delta.1 cap8] 58).cell j).trans (by simp)) (layRec.rd_below HRK.out bA (by omega))) (by simp;omega) (by omega) (by omega) (fun e => by cases e)
          have HE:Hid (pickI (und s g x N) (k + 1) = pickI (und s g x N) k ++ [k]):=by
            show pickI (und s g x N) (k + 1) = pickI (und s g x N) k ++ [k]
            rw [pick_succ,if_pos (show und s g x N k = true from HU.out)]
          have HV8:Hid (View layRec 58 w8 w.heap.size hi v8 (c + 1) (fun i => x (pickF (und s g x N) N i)) (cat2 cu c (fun _ => [.int .i64 r.kind,.int .i64 r.seq,.string r.name,.int .i64 r.length,.int .i64 r.group,.int .i64 r.row,.slice ao6 r.rows.1 cap6,.slice ao7 r.data.1 cap7,.slice ao8 r.delta.1 cap8]))):=by
            refine V8.congr (fun i hi' => ?_)
            by_cases c1:i < c
            · rw [cat2_lt _ _ c1]
            · obtain rfl:i = c:=by omega
              have e9:=cat2_ge (fun i => x (pickF (und s g x N) N i)) i (fun _ => r) 0;rw [Nat.add_zero] at e9;rw [e9,HRR.out];have:=(pickF_atU (p:=und s g x N) HU.out N hlt).1;rw [← HC.out] at this;rw [this]
          have HB8:Hid (Below w.heap.size w w8):=HB7.out.trans ((bA.mono (by omega)).trans b8);obtain ⟨a8,c8,hv8⟩:=V8.form;have HV8F:Hid (v8 = .slice a8 (c + 1) c8):=hv8;clear V8 b8 bA hv8;have y0:w7.cell? ⟨wr.heap.size,0,none⟩ = some (.int .i64 r.kind):=X7.cell 0;have y1:w7.cell? ⟨wr.heap.size,1,none⟩ = some (.int .i64 r.seq):=X7.cell 1;have y2:w7.cell? ⟨wr.heap.size,2,none⟩ = some (.string r.name):=X7.cell 2;have y3:w7.cell? ⟨wr.heap.size,3,none⟩ = some (.int .i64 r.length):=X7.cell 3;have y4:w7.cell? ⟨wr.heap.size,4,none⟩ = some (.int .i64 r.group):=X7.cell 4;have y5:w7.cell? ⟨wr.heap.size,5,none⟩ = some (.int .i64 r.row):=X7.cell 5;have y6:w7.cell? ⟨wr.heap.size,6,none⟩ = some (.slice ao6 r.rows.1 cap6):=X7.cell 6;have y7:w7.cell? ⟨wr.heap.size,7,none⟩ = some (.slice ao7 r.data.1 cap7):=X7.cell 7;have y8:w7.cell? ⟨wr.heap.size,8,none⟩ = some (.slice ao8 r.delta.1 cap8):=X7.cell 8;clear X7
          go_wp2_with (at_builtin;refine wp_run2 rfl (.tmp 46) (.tmp 50) rfl ?_ ?_ hrun ?_;(simp [Act.eval]);(simp [Act.eval]))
          clear hrun;go_wp2
          go_roundw
          case rel => exact ⟨k + 1,_,by omega,by go_num,by rw [HE.out,List.length_append,← HC.out];exact HV8.out,HB8.out⟩
          case measure => simp [intOf];omega
        · clear X7
          go_wp2
          go_roundw
          case rel => exact ⟨k + 1,cu,by omega,by go_num,by rw [pick_skip HU.out,← HC.out];exact HV7.out,HB7.out⟩
          case measure => simp [intOf];omega
      · have HU:Hid (und s g x N k = false):=und_no (fun h => hk2 h.1)
        have TA:=ta_other (ce k) (HKD.out k hlt) hk2;obtain ⟨ev,hev⟩:∃ ev,ev = entV (x k).kind (ce k):=⟨_,rfl⟩;rw [← hev] at ye TA;clear hev hk2
        go_upto_region 6 with fail
        have HBA:Hid (Below wr.heap.size wr (wr.alloc (.cells #[.int .i64 0,.int .i64 0,.string ByteArray.empty,.int .i64 0,.int .i64 0,.int .i64 0,.slice none 0 0,.slice none 0 0,.slice none 0 0] 126))):=(Below.refl _ _).alloc (Nat.le_refl _) _;obtain ⟨W6,hW6⟩:∃ y,y = wr.alloc (.cells #[.int .i64 0,.int .i64 0,.string ByteArray.empty,.int .i64 0,.int .i64 0,.int .i64 0,.slice none 0 0,.slice none 0 0,.slice none 0 0] 126):=⟨_,rfl⟩;rw [← hW6] at HBA ⊢;clear hW6 TA ye;refine WQ.region (by kernel_rfl) (by kernel_rfl) ?_
        repeat (first | (apply WQ.skip;(case hw => rfl);intro K hK;go_simp;apply hK;clear hK K) | (apply WQ.want;(case hw => rfl);intro K hK;go_simp;first | (apply hK;clear hK K) | (apply Exists.intro;apply And.intro;(case left => intro p;(first | fail));apply hK;clear hK K)))
        refine WQ.nil ?_;intro w7 hw7;have b7:=below_rg hw7;have HV7:Hid (View layRec 58 w7 w.heap.size hi (.slice au c cau) c (fun i => x (pickF (und s g x N) N i)) cu):=HV.out.below (HBA.out.trans (b7.mono HBA.out.size)) (by omega);have HB7:Hid (Below w.heap.size w w7):=HB.out.trans ((HBA.out.trans (b7.mono HBA.out.size)).mono zr);clear b7 hw7;go_wp2
        go_roundw
        case rel => exact ⟨k + 1,cu,by omega,by go_num,by rw [pick_skip HU.out,← HC.out];exact HV7.out,HB7.out⟩
        case measure => simp [intOf];omega
    · obtain rfl:k = N:=by omega
      rw [HC.out] at hV;have HV2:Hid (View layRec 58 wr w.heap.size hi (.slice au (pickI (und s g x k) k).length cau) (pickI (und s g x k) k).length (fun i => x (pickF (und s g x k) k i)) cu):=hV;clear hV hb;go_wp2;go_ret;exact ⟨_,cu,rfl,by rw [← HC.out];have:=HV2.out;rw [← HC.out] at this;exact this,HB.out⟩
end Go.Proofs.YtodedamnclhbnaaGreat
namespace Go.Proofs.YtodedamnclhbnaaGreat
open Go.RowKit F256
open Go.Maps (Keyed)
set_option maxHeartbeats 16000000 in
set_option maxRecDepth 20000 in
theorem l6Done_any (v:Value) (n:Nat) (x:Nat → RecD) (q g:Int) (hi:Nat) (w:World) (h:(layRec.slice 58).rd w hi (n,x) [v]) (hhi:hi ≤ w.heap.size) (hn:n ≤ 1048576) :
    Calls Tryz.prog 82 #[v,.int .i64 q,.int .i64 g] w (BoolP (DonP x n q g) w):=by
  obtain ⟨ao,cap,e,hmm,hc⟩:=h
  obtain rfl:v = .slice ao n cap:=by simpa using e
  have HC:Hid (n ≠ 0 → ∃ b off,ao = some ⟨b,off,none⟩ ∧ b < hi ∧ ∀ i,i < n → ∃ ce,layRec.rd w hi (x i) ce ∧ ∀ j,j < layRec.sz → w.cell? ⟨b,off + (i * layRec.sz + j),none⟩ = ce[j]?):=hc;clear e hmm hc
  go_enter Tryz.func82,Tryz.ntmps82
  go_wp2
  go_loopw [7] (fun z wr => ∃ k:Nat,k ≤ n ∧ z = .int .i64 k ∧ (∀ t,t < k → ¬ ((x t).kind = 3 ∧ (x t).seq = q ∧ (x t).group = g)) ∧ Below w.heap.size w wr) (fun z _ => n - (intOf z).toNat)
  case atStart => exact ⟨0,Nat.zero_le _,rfl,fun t ht => by omega,Below.refl _ _⟩
  case round =>
    obtain ⟨k,hk,rfl,hall,hbl⟩:=hrel;have HALL:Hid (∀ t,t < k → ¬ ((x t).kind = 3 ∧ (x t).seq = q ∧ (x t).group = g)):=hall;have HB:Hid (Below w.heap.size w wr):=hbl;clear hall
    by_cases hlt:k < n
    · obtain ⟨b,off,rfl,hbh,hel⟩:=HC.out (by omega)
      obtain ⟨ce,hy,hcell⟩:=elem_rd (t:=58) hel hbl hhi hbh hlt;obtain ⟨ao6,cap6,ao7,cap7,ao8,cap8,rfl,-,-,-,-⟩:=Rec_rd hy;obtain ⟨r,hr⟩:∃ r,r = x k:=⟨_,rfl⟩;have HRR:Hid (r = x k):=hr;rw [← hr] at hcell
      have y0:wr.cell? ⟨b,off + k * 9,none⟩ = some (.int .i64 r.kind):=by have:=hcell 0 (by decide);exact this
      have y1:wr.cell? ⟨b,off + k * 9 + 1,none⟩ = some (.int .i64 r.seq):=by have:=hcell 1 (by decide);exact this
      have y4:wr.cell? ⟨b,off + k * 9 + 4,none⟩ = some (.int .i64 r.group):=by have:=hcell 4 (by decide);exact this
      have i1:(0:Int) ≤ (k:Int):=by omega
      have i2:(k:Int) < (n:Int):=by omega
      clear hcell hel hy hr hbl
      by_cases c1:r.kind = 3
      · have d1:(r.kind == 3) = true:=by simp [c1]
        have HC1:Hid (r.kind = 3):=c1;clear c1
        by_cases c2:r.seq = q
        · have d2:(r.seq == q) = true:=by simp [c2]
          have HC2:Hid (r.seq = q):=c2;clear c2
          by_cases c3:r.group = g
          · have d3:(r.group == g) = true:=by simp [c3]
            have HC3:Hid (r.group = g):=c3;clear c3;go_wp2;go_ret;exact ⟨true,rfl,⟨fun _ => ⟨k,hlt,by rw [← HRR.out];exact HC1.out,by rw [← HRR.out];exact HC2.out,by rw [← HRR.out];exact HC3.out⟩,fun _ => rfl⟩,HB.out⟩
          · have d3:(r.group == g) = false:=by simp [c3]
            have HC3:Hid (¬ r.group = g):=c3;clear c3;go_wp2
            go_roundw
            case rel => exact ⟨k + 1,by omega,by go_num,fun t ht => (by
              by_cases c:t = k
              · subst c;rw [← HRR.out];exact fun h => HC3.out h.2.2
              · exact HALL.out t (by omega)),HB.out⟩
            case measure => simp [intOf];omega
        · have d2:(r.seq == q) = false:=by simp [c2]
          have HC2:Hid (¬ r.seq = q):=c2;clear c2;go_wp2
          go_roundw
          case rel => exact ⟨k + 1,by omega,by go_num,fun t ht => (by
            by_cases c:t = k
            · subst c;rw [← HRR.out];exact fun h => HC2.out h.2.1
            · exact HALL.out t (by omega)),HB.out⟩
          case measure => simp [intOf];omega
      · have d1:(r.kind == 3) = false:=by simp [c1]
        have HC1:Hid (¬ r.kind = 3):=c1;clear c1;go_wp2
        go_roundw
        case rel => exact ⟨k + 1,by omega,by go_num,fun t ht => (by
          by_cases c:t = k
          · subst c;rw [← HRR.out];exact fun h => HC1.out h.1
          · exact HALL.out t (by omega)),HB.out⟩
        case measure => simp [intOf];omega
    · obtain rfl:k = n:=by omega
      clear hbl;go_wp2;go_ret;exact ⟨false,rfl,⟨(fun h => by cases h),fun ⟨j,h1,h2⟩ => absurd h2 (HALL.out j h1)⟩,HB.out⟩
set_option maxHeartbeats 16000000 in
set_option maxRecDepth 20000 in
theorem l6Undone_any (s:Nat → Int) (v:Value) (n:Nat) (x:Nat → RecD) (g:Int) (hi:Nat) (w:World) (h:(layRec.slice 58).rd w hi (n,x) [v]) (hhi:hi ≤ w.heap.size) (hn:n ≤ 1048576) (hg:0 ≤ g) :
    Calls Tryz.prog 46 #[shapeV s,v,.int .i64 g] w (fun e w' => ∃ u,e = .returned u ∧ (layRec.slice 58).rd w' w'.heap.size ((pickI (und s g x n) n).length,fun i => x (pickF (und s g x n) n i)) [u] ∧ Below w.heap.size w w'):=by
  obtain ⟨ao,cap,e,hmm,hc⟩:=id h
  obtain rfl:v = .slice ao n cap:=by simpa using e
  have HRD:Hid ((layRec.slice 58).rd w hi (n,x) [.slice ao n cap]):=h;have HC:Hid (n ≠ 0 → ∃ b off,ao = some ⟨b,off,none⟩ ∧ b < hi ∧ ∀ i,i < n → ∃ ce,layRec.rd w hi (x i) ce ∧ ∀ j,j < layRec.sz → w.cell? ⟨b,off + (i * layRec.sz + j),none⟩ = ce[j]?):=hc;have B0:=one_new w #[.int .i64 (s 0),.int .i64 (s 1),.int .i64 (s 2),.int .i64 (s 3),.int .i64 (s 4),.int .i64 (s 5),.int .i64 (s 6),.int .i64 (s 7),.int .i64 (s 8)] 34
  have V0:View layRec 58 ((w.alloc (.cells #[.int .i64 (s 0),.int .i64 (s 1),.int .i64 (s 2),.int .i64 (s 3),.int .i64 (s 4),.int .i64 (s 5),.int .i64 (s 6),.int .i64 (s 7),.int .i64 (s 8)] 34)).alloc (.cells #[] 58)) (w.heap.size + 1) hi (.slice (some ⟨w.heap.size + 1,0,none⟩) 0 0) 0 (fun i => x (pickF (und s g x n) n i)) (fun _ => []):=by
    have:=View.lit0 (E:=layRec) (t:=58) (fun i => x (pickF (und s g x n) n i)) (fun _ => []) (w.alloc (.cells #[.int .i64 (s 0),.int .i64 (s 1),.int .i64 (s 2),.int .i64 (s 3),.int .i64 (s 4),.int .i64 (s 5),.int .i64 (s 6),.int .i64 (s 7),.int .i64 (s 8)] 34)) hi;rw [show (w.alloc (.cells #[.int .i64 (s 0),.int .i64 (s 1),.int .i64 (s 2),.int .i64 (s 3),.int .i64 (s 4),.int .i64 (s 5),.int .i64 (s 6),.int .i64 (s 7),.int .i64 (s 8)] 34)).heap.size = w.heap.size + 1 from by unfold World.alloc;exact Array.size_push _] at this;exact this
  have bE:Below (w.alloc (.cells #[.int .i64 (s 0),.int .i64 (s 1),.int .i64 (s 2),.int .i64 (s 3),.int .i64 (s 4),.int .i64 (s 5),.int .i64 (s 6),.int .i64 (s 7),.int .i64 (s 8)] 34)).heap.size (w.alloc (.cells #[.int .i64 (s 0),.int .i64 (s 1),.int .i64 (s 2),.int .i64 (s 3),.int .i64 (s 4),.int .i64 (s 5),.int .i64 (s 6),.int .i64 (s 7),.int .i64 (s 8)] 34)) ((w.alloc (.cells #[.int .i64 (s 0),.int .i64 (s 1),.int .i64 (s 2),.int .i64 (s 3),.int .i64 (s 4),.int .i64 (s 5),.int .i64 (s 6),.int .i64 (s 7),.int .i64 (s 8)] 34)).alloc (.cells #[] 58)):=(Below.refl _ _).alloc (Nat.le_refl _) _;have HB0:Hid (One w ((w.alloc (.cells #[.int .i64 (s 0),.int .i64 (s 1),.int .i64 (s 2),.int .i64 (s 3),.int .i64 (s 4),.int .i64 (s 5),.int .i64 (s 6),.int .i64 (s 7),.int .i64 (s 8)] 34)).alloc (.cells #[] 58)) #[.int .i64 (s 0),.int .i64 (s 1),.int .i64 (s 2),.int .i64 (s 3),.int .i64 (s 4),.int .i64 (s 5),.int .i64 (s 6),.int .i64 (s 7),.int .i64 (s 8)] 34):=B0.call bE;have HV0:Hid (View layRec 58 ((w.alloc (.cells #[.int .i64 (s 0),.int .i64 (s 1),.int .i64 (s 2),.int .i64 (s 3),.int .i64 (s 4),.int .i64 (s 5),.int .i64 (s 6),.int .i64 (s 7),.int .i64 (s 8)] 34)).alloc (.cells #[] 58)) (w.heap.size + 1) hi (.slice (some ⟨w.heap.size + 1,0,none⟩) 0 0) 0 (fun i => x (pickF (und s g x n) n i)) (fun _ => [])):=V0;unfold shapeV;clear e hmm hc h B0 V0 bE
  go_enter Tryz.func46,Tryz.ntmps46
  go_wp2
  go_loopw [7,8] (fun vo z wr => ∃ (k:Nat) (cu:Nat → List Value),k ≤ n ∧ z = .int .i64 k ∧ View layRec 58 wr (w.heap.size + 1) hi vo (pickI (und s g x n) k).length (fun i => x (pickF (und s g x n) n i)) cu ∧ Box wr w.heap.size #[.int .i64 (s 0),.int .i64 (s 1),.int .i64 (s 2),.int .i64 (s 3),.int .i64 (s 4),.int .i64 (s 5),.int .i64 (s 6),.int .i64 (s 7),.int .i64 (s 8)] 34 ∧ Below w.heap.size w wr) (fun _ z _ => n - (intOf z).toNat)
  case atStart => exact ⟨0,fun _ => [],Nat.zero_le _,rfl,HV0.out,HB0.out.b1,HB0.out.bel⟩
  case round =>
    clear HV0 HB0;obtain ⟨k,cu,hk,rfl,hV,hS,hbl⟩:=hrel;obtain ⟨c,hc⟩:∃ c,c = (pickI (und s g x n) k).length:=⟨_,rfl⟩;have HC0:Hid (c = (pickI (und s g x n) k).length):=hc;rw [← hc] at hV
    have hck:c ≤ k:=by rw [hc];exact pick_le _ _
    obtain ⟨au,cau,hu⟩:=hV.form;subst hu;have HV:Hid (View layRec 58 wr (w.heap.size + 1) hi (.slice au c cau) c (fun i => x (pickF (und s g x n) n i)) cu):=hV;have HB:Hid (Below w.heap.size w wr):=hbl;have HS:Hid (Box wr w.heap.size #[.int .i64 (s 0),.int .i64 (s 1),.int .i64 (s 2),.int .i64 (s 3),.int .i64 (s 4),.int .i64 (s 5),.int .i64 (s 6),.int .i64 (s 7),.int .i64 (s 8)] 34):=hS;have zr:w.heap.size < wr.heap.size:=hS.lt;clear hV hS hc
    by_cases hlt:k < n
    · obtain ⟨b,off,rfl,hbh,hel⟩:=HC.out (by omega)
      obtain ⟨ce,hy,hcell⟩:=elem_rd (t:=58) hel hbl hhi hbh hlt;have hy0:=hy;obtain ⟨ao6,cap6,ao7,cap7,ao8,cap8,rfl,-,-,-,-⟩:=Rec_rd hy0;obtain ⟨r,hr⟩:∃ r,r = x k:=⟨_,rfl⟩;have HRR:Hid (r = x k):=hr;rw [← hr] at hcell hy;have HRW:Hid (layRec.rd wr hi r [.int .i64 r.kind,.int .i64 r.seq,.string r.name,.int .i64 r.length,.int .i64 r.group,.int .i64 r.row,.slice ao6 r.rows.1 cap6,.slice ao7 r.data.1 cap7,.slice ao8 r.delta.1 cap8]):=hy
      have r1:wr.rangeAt b (off + k * 9) [.int .i64 r.kind,.int .i64 r.seq,.string r.name,.int .i64 r.length,.int .i64 r.group,.int .i64 r.row,.slice ao6 r.rows.1 cap6,.slice ao7 r.data.1 cap7,.slice ao8 r.delta.1 cap8]:=fun j v hv => by
        have hj:j < 9:=by have e:j < ([.int .i64 r.kind,.int .i64 r.seq,.string r.name,.int .i64 r.length,.int .i64 r.group,.int .i64 r.row,.slice ao6 r.rows.1 cap6,.slice ao7 r.data.1 cap7,.slice ao8 r.delta.1 cap8]:List Value).length:=(List.getElem?_eq_some_iff.1 hv).1;exact e
        have:=hcell j hj;rw [← Nat.add_assoc] at this;exact this.trans hv
      have i1:(0:Int) ≤ (k:Int):=by omega
      have i2:(k:Int) < (n:Int):=by omega
      clear hcell hel hy hy0 hr hbl
      go_upto_region 6 with (refine wpList_load_mid rfl 58 (.tmp 19) rfl b (off + k * 9) (by simp [Act.eval,Act.put]) [.int .i64 r.kind,.int .i64 r.seq,.string r.name,.int .i64 r.length,.int .i64 r.group,.int .i64 r.row,.slice ao6 r.rows.1 cap6,.slice ao7 r.data.1 cap7,.slice ao8 r.delta.1 cap8] _ r1 Tryz.underlying58 rfl (info_Rec9 rfl) ?_)
      have bA:Below wr.heap.size wr (wr.alloc (.cells #[.int .i64 r.kind,.int .i64 r.seq,.string r.name,.int .i64 r.length,.int .i64 r.group,.int .i64 r.row,.slice ao6 r.rows.1 cap6,.slice ao7 r.data.1 cap7,.slice ao8 r.delta.1 cap8] 58)):=(Below.refl _ _).alloc (Nat.le_refl _) _;have X6:Box (wr.alloc (.cells #[.int .i64 r.kind,.int .i64 r.seq,.string r.name,.int .i64 r.length,.int .i64 r.group,.int .i64 r.row,.slice ao6 r.rows.1 cap6,.slice ao7 r.data.1 cap7,.slice ao8 r.delta.1 cap8] 58)) wr.heap.size #[.int .i64 r.kind,.int .i64 r.seq,.string r.name,.int .i64 r.length,.int .i64 r.group,.int .i64 r.row,.slice ao6 r.rows.1 cap6,.slice ao7 r.data.1 cap7,.slice ao8 r.delta.1 cap8] 58:=box_new _ _ _;obtain ⟨W6,hW6⟩:∃ y,y = wr.alloc (.cells #[.int .i64 r.kind,.int .i64 r.seq,.string r.name,.int .i64 r.length,.int .i64 r.group,.int .i64 r.row,.slice ao6 r.rows.1 cap6,.slice ao7 r.data.1 cap7,.slice ao8 r.delta.1 cap8] 58):=⟨_,rfl⟩;rw [← hW6] at bA X6 ⊢;have HX6:Hid (Box W6 wr.heap.size #[.int .i64 r.kind,.int .i64 r.seq,.string r.name,.int .i64 r.length,.int .i64 r.group,.int .i64 r.row,.slice ao6 r.rows.1 cap6,.slice ao7 r.data.1 cap7,.slice ao8 r.delta.1 cap8] 58):=X6;have HV6:Hid (View layRec 58 W6 (w.heap.size + 1) hi (.slice au c cau) c (fun i => x (pickF (und s g x n) n i)) cu):=HV.out.below bA (by omega);have HS6:Hid (Box W6 w.heap.size #[.int .i64 (s 0),.int .i64 (s 1),.int .i64 (s 2),.int .i64 (s 3),.int .i64 (s 4),.int .i64 (s 5),.int .i64 (s 6),.int .i64 (s 7),.int .i64 (s 8)] 34):=HS.out.call bA;have HB6:Hid (Below w.heap.size w W6):=HB.out.trans (bA.mono (by omega));have HRW6:Hid (layRec.rd W6 hi r [.int .i64 r.kind,.int .i64 r.seq,.string r.name,.int .i64 r.length,.int .i64 r.group,.int .i64 r.row,.slice ao6 r.rows.1 cap6,.slice ao7 r.data.1 cap7,.slice ao8 r.delta.1 cap8]):=layRec.rd_below HRW.out bA (by omega);have y0:W6.cell? ⟨wr.heap.size,0,none⟩ = some (.int .i64 r.kind):=X6.cell 0;have y1:W6.cell? ⟨wr.heap.size,1,none⟩ = some (.int .i64 r.seq):=X6.cell 1;have y4:W6.cell? ⟨wr.heap.size,4,none⟩ = some (.int .i64 r.group):=X6.cell 4;have s0:W6.cell? ⟨w.heap.size,0,none⟩ = some (.int .i64 (s 0)):=HS6.out.cell 0;have z6:wr.heap.size < W6.heap.size:=X6.lt;clear hW6 bA X6 r1 HV HS HB HRW
      by_cases c1:r.kind = 2
      · have d1:(r.kind == 2) = true:=by simp [c1]
        have HK2:Hid (r.kind = 2):=c1;clear c1
        by_cases c2:s 0 ≤ g
        · have HC2:Hid (¬ InP g 0 (s 0 - 1)):=fun h => by unfold InP at h;omega
          obtain ⟨td,htd⟩:=exB (DonP x n r.seq g);have HTD:Hid (td = true ↔ DonP x n r.seq g):=htd;have CD:=det_b (l6Done_any (.slice (some ⟨b,off,none⟩) n cap) n x r.seq g hi W6 (Lay.rd_below _ HRD.out HB6.out hhi) (by omega) hn) htd;clear htd
          go_wp2_with fail
          refine CD.mono ?_;rintro e w7 ⟨rfl,b7⟩;have HX7:Hid (Box w7 wr.heap.size #[.int .i64 r.kind,.int .i64 r.seq,.string r.name,.int .i64 r.length,.int .i64 r.group,.int .i64 r.row,.slice ao6 r.rows.1 cap6,.slice ao7 r.data.1 cap7,.slice ao8 r.delta.1 cap8] 58):=HX6.out.call b7;have z7:wr.heap.size < w7.heap.size:=HX7.out.lt;have HV7:Hid (View layRec 58 w7 (w.heap.size + 1) hi (.slice au c cau) c (fun i => x (pickF (und s g x n) n i)) cu):=HV6.out.below b7 (by omega);have HS7:Hid (Box w7 w.heap.size #[.int .i64 (s 0),.int .i64 (s 1),.int .i64 (s 2),.int .i64 (s 3),.int .i64 (s 4),.int .i64 (s 5),.int .i64 (s 6),.int .i64 (s 7),.int .i64 (s 8)] 34):=HS6.out.call b7;have HB7:Hid (Below w.heap.size w w7):=HB6.out.trans (b7.mono (by omega));have HRW7:Hid (layRec.rd w7 hi r [.int .i64 r.kind,.int .i64 r.seq,.string r.name,.int .i64 r.length,.int .i64 r.group,.int .i64 r.row,.slice ao6 r.rows.1 cap6,.slice ao7 r.data.1 cap7,.slice ao8 r.delta.1 cap8]):=layRec.rd_below HRW6.out b7 (by omega);clear b7 CD y0 y1 y4 s0
          cases td with
          | true =>
            have HU:Hid (und s g x n k = false):=und_no (fun h => by rw [← HRR.out] at h;exact h.2.2 (HTD.out.1 rfl));go_wp2
            go_roundw
            case rel => exact ⟨k + 1,cu,by omega,by go_num,by rw [pick_skip HU.out,← HC0.out];exact HV7.out,HS7.out,HB7.out⟩
            case measure => simp [intOf];omega
          | false =>
            have HU:Hid (und s g x n k = true):=(und_is s g x n k).2 (by rw [← HRR.out];exact ⟨HK2.out,.inr HC2.out,fun d => by have:=HTD.out.2 d;cases this⟩);have bA:Below w7.heap.size w7 (w7.alloc (.cells #[.int .i64 r.kind,.int .i64 r.seq,.string r.name,.int .i64 r.length,.int .i64 r.group,.int .i64 r.row,.slice ao6 r.rows.1 cap6,.slice ao7 r.data.1 cap7,.slice ao8 r.delta.1 cap8] 58)):=(Below.refl _ _).alloc (Nat.le_refl _) _;obtain ⟨v8,w8,hrun,V8,_,b8⟩:=run_appendV el_Rec rdOne_rec 30 (HV7.out.below bA (by omega)) 1 (src_one (b:=w7.heap.size) (hi:=hi) (y:=r) (cs:=[.int .i64 r.kind,.int .i64 r.seq,.string r.name,.int .i64 r.length,.int .i64 r.group,.int .i64 r.row,.slice ao6 r.rows.1 cap6,.slice ao7 r.data.1 cap7,.slice ao8 r.delta.1 cap8]) (fun j hj => ((box_new w7 #[.int .i64 r.kind,.int .i64 r.seq,.string r.name,.int .i64 r.length,.int .i64 r.group,.int .i64 r.row,.slice ao6 r.rows.1 cap6,.slice ao7 r.data.1 cap7,.slice ao8 r.delta.1 cap8] 58).cell j).trans (by simp)) (layRec.rd_below HRW7.out bA (by omega))) (by simp;omega) (by omega) (by omega) (fun e => by cases e)
            have HE:Hid (pickI (und s g x n) (k + 1) = pickI (und s g x n) k ++ [k]):=by
              show pickI (und s g x n) (k + 1) = pickI (und s g x n) k ++ [k]
              rw [pick_succ,if_pos (show und s g x n k = true from HU.out)]
            have HV8:Hid (View layRec 58 w8 (w.heap.size + 1) hi v8 (c + 1) (fun i => x (pickF (und s g x n) n i)) (cat2 cu c (fun _ => [.int .i64 r.kind,.int .i64 r.seq,.string r.name,.int .i64 r.length,.int .i64 r.group,.int .i64 r.row,.slice ao6 r.rows.1 cap6,.slice ao7 r.data.1 cap7,.slice ao8 r.delta.1 cap8]))):=by
              refine V8.congr (fun i hi' => ?_)
              by_cases c1:i < c
              · rw [cat2_lt _ _ c1]
              · obtain rfl:i = c:=by omega
                have e9:=cat2_ge (fun i => x (pickF (und s g x n) n i)) i (fun _ => r) 0;rw [Nat.add_zero] at e9;rw [e9,HRR.out];have:=(pickF_atU (p:=und s g x n) HU.out n hlt).1;rw [← HC0.out] at this;rw [this]
            have b78:Below (w.heap.size + 1) w7 w8:=(bA.mono (by omega)).trans b8;have HB8:Hid (Below w.heap.size w w8):=HB7.out.trans (b78.mono (by omega));have HS8:Hid (Box w8 w.heap.size #[.int .i64 (s 0),.int .i64 (s 1),.int .i64 (s 2),.int .i64 (s 3),.int .i64 (s 4),.int .i64 (s 5),.int .i64 (s 6),.int .i64 (s 7),.int .i64 (s 8)] 34):=HS7.out.below b78 (by omega);clear V8 b8 bA b78;have y0:w7.cell? ⟨wr.heap.size,0,none⟩ = some (.int .i64 r.kind):=HX7.out.cell 0;have y1:w7.cell? ⟨wr.heap.size,1,none⟩ = some (.int .i64 r.seq):=HX7.out.cell 1;have y2:w7.cell? ⟨wr.heap.size,2,none⟩ = some (.string r.name):=HX7.out.cell 2;have y3:w7.cell? ⟨wr.heap.size,3,none⟩ = some (.int .i64 r.length):=HX7.out.cell 3;have y4:w7.cell? ⟨wr.heap.size,4,none⟩ = some (.int .i64 r.group):=HX7.out.cell 4;have y5:w7.cell? ⟨wr.heap.size,5,none⟩ = some (.int .i64 r.row):=HX7.out.cell 5;have y6:w7.cell? ⟨wr.heap.size,6,none⟩ = some (.slice ao6 r.rows.1 cap6):=HX7.out.cell 6;have y7:w7.cell? ⟨wr.heap.size,7,none⟩ = some (.slice ao7 r.data.1 cap7):=HX7.out.cell 7;have y8:w7.cell? ⟨wr.heap.size,8,none⟩ = some (.slice ao8 r.delta.1 cap8):=HX7.out.cell 8
            go_wp2_with (at_builtin;refine wp_run2 rfl (.tmp 44) (.tmp 46) rfl ?_ ?_ hrun ?_;(simp [Act.eval]);(simp [Act.eval]))
            clear hrun;go_wp2
            go_roundw
            case rel => exact ⟨k + 1,_,by omega,by go_num,by rw [HE.out,List.length_append,← HC0.out];exact HV8.out,HS8.out,HB8.out⟩
            case measure => simp [intOf];omega
        · have c2':decide (s 0 ≤ g) = false:=by simp;omega
          have HC2:Hid (InP g 0 (s 0 - 1)):=by show InP g 0 (s 0 - 1);unfold InP;omega
          by_cases c3:r.group = g
          · have d3:(r.group == g) = true:=by simp [c3]
            have HC3:Hid (r.group = g):=c3;clear c3;obtain ⟨td,htd⟩:=exB (DonP x n r.seq g);have HTD:Hid (td = true ↔ DonP x n r.seq g):=htd;have CD:=det_b (l6Done_any (.slice (some ⟨b,off,none⟩) n cap) n x r.seq g hi W6 (Lay.rd_below _ HRD.out HB6.out hhi) (by omega) hn) htd;clear htd
            go_wp2_with fail
            refine CD.mono ?_;rintro e w7 ⟨rfl,b7⟩;have HX7:Hid (Box w7 wr.heap.size #[.int .i64 r.kind,.int .i64 r.seq,.string r.name,.int .i64 r.length,.int .i64 r.group,.int .i64 r.row,.slice ao6 r.rows.1 cap6,.slice ao7 r.data.1 cap7,.slice ao8 r.delta.1 cap8] 58):=HX6.out.call b7;have z7:wr.heap.size < w7.heap.size:=HX7.out.lt;have HV7:Hid (View layRec 58 w7 (w.heap.size + 1) hi (.slice au c cau) c (fun i => x (pickF (und s g x n) n i)) cu):=HV6.out.below b7 (by omega);have HS7:Hid (Box w7 w.heap.size #[.int .i64 (s 0),.int .i64 (s 1),.int .i64 (s 2),.int .i64 (s 3),.int .i64 (s 4),.int .i64 (s 5),.int .i64 (s 6),.int .i64 (s 7),.int .i64 (s 8)] 34):=HS6.out.call b7;have HB7:Hid (Below w.heap.size w w7):=HB6.out.trans (b7.mono (by omega));have HRW7:Hid (layRec.rd w7 hi r [.int .i64 r.kind,.int .i64 r.seq,.string r.name,.int .i64 r.length,.int .i64 r.group,.int .i64 r.row,.slice ao6 r.rows.1 cap6,.slice ao7 r.data.1 cap7,.slice ao8 r.delta.1 cap8]):=layRec.rd_below HRW6.out b7 (by omega);clear b7 CD y0 y1 y4 s0
            cases td with
            | true =>
              have HU:Hid (und s g x n k = false):=und_no (fun h => by rw [← HRR.out] at h;exact h.2.2 (HTD.out.1 rfl));go_wp2
              go_roundw
              case rel => exact ⟨k + 1,cu,by omega,by go_num,by rw [pick_skip HU.out,← HC0.out];exact HV7.out,HS7.out,HB7.out⟩
              case measure => simp [intOf];omega
            | false =>
              have HU:Hid (und s g x n k = true):=(und_is s g x n k).2 (by rw [← HRR.out];exact ⟨HK2.out,.inl HC3.out,fun d => by have:=HTD.out.2 d;cases this⟩);have bA:Below w7.heap.size w7 (w7.alloc (.cells #[.int .i64 r.kind,.int .i64 r.seq,.string r.name,.int .i64 r.length,.int .i64 r.group,.int .i64 r.row,.slice ao6 r.rows.1 cap6,.slice ao7 r.data.1 cap7,.slice ao8 r.delta.1 cap8] 58)):=(Below.refl _ _).alloc (Nat.le_refl _) _;obtain ⟨v8,w8,hrun,V8,_,b8⟩:=run_appendV el_Rec rdOne_rec 30 (HV7.out.below bA (by omega)) 1 (src_one (b:=w7.heap.size) (hi:=hi) (y:=r) (cs:=[.int .i64 r.kind,.int .i64 r.seq,.string r.name,.int .i64 r.length,.int .i64 r.group,.int .i64 r.row,.slice ao6 r.rows.1 cap6,.slice ao7 r.data.1 cap7,.slice ao8 r.delta.1 cap8]) (fun j hj => ((box_new w7 #[.int .i64 r.kind,.int .i64 r.seq,.string r.name,.int .i64 r.length,.int .i64 r.group,.int .i64 r.row,.slice ao6 r.rows.1 cap6,.slice ao7 r.data.1 cap7,.slice ao8 r.delta.1 cap8] 58).cell j).trans (by simp)) (layRec.rd_below HRW7.out bA (by omega))) (by simp;omega) (by omega) (by omega) (fun e => by cases e)
              have HE:Hid (pickI (und s g x n) (k + 1) = pickI (und s g x n) k ++ [k]):=by
                show pickI (und s g x n) (k + 1) = pickI (und s g x n) k ++ [k]
                rw [pick_succ,if_pos (show und s g x n k = true from HU.out)]
              have HV8:Hid (View layRec 58 w8 (w.heap.size + 1) hi v8 (c + 1) (fun i => x (pickF (und s g x n) n i)) (cat2 cu c (fun _ => [.int .i64 r.kind,.int .i64 r.seq,.string r.name,.int .i64 r.length,.int .i64 r.group,.int .i64 r.row,.slice ao6 r.rows.1 cap6,.slice ao7 r.data.1 cap7,.slice ao8 r.delta.1 cap8]))):=by
                refine V8.congr (fun i hi' => ?_)
                by_cases c1:i < c
                · rw [cat2_lt _ _ c1]
                · obtain rfl:i = c:=by omega
                  have e9:=cat2_ge (fun i => x (pickF (und s g x n) n i)) i (fun _ => r) 0;rw [Nat.add_zero] at e9;rw [e9,HRR.out];have:=(pickF_atU (p:=und s g x n) HU.out n hlt).1;rw [← HC0.out] at this;rw [this]
              have b78:Below (w.heap.size + 1) w7 w8:=(bA.mono (by omega)).trans b8;have HB8:Hid (Below w.heap.size w w8):=HB7.out.trans (b78.mono (by omega));have HS8:Hid (Box w8 w.heap.size #[.int .i64 (s 0),.int .i64 (s 1),.int .i64 (s 2),.int .i64 (s 3),.int .i64 (s 4),.int .i64 (s 5),.int .i64 (s 6),.int .i64 (s 7),.int .i64 (s 8)] 34):=HS7.out.below b78 (by omega);clear V8 b8 bA b78;have y0:w7.cell? ⟨wr.heap.size,0,none⟩ = some (.int .i64 r.kind):=HX7.out.cell 0;have y1:w7.cell? ⟨wr.heap.size,1,none⟩ = some (.int .i64 r.seq):=HX7.out.cell 1;have y2:w7.cell? ⟨wr.heap.size,2,none⟩ = some (.string r.name):=HX7.out.cell 2;have y3:w7.cell? ⟨wr.heap.size,3,none⟩ = some (.int .i64 r.length):=HX7.out.cell 3;have y4:w7.cell? ⟨wr.heap.size,4,none⟩ = some (.int .i64 r.group):=HX7.out.cell 4;have y5:w7.cell? ⟨wr.heap.size,5,none⟩ = some (.int .i64 r.row):=HX7.out.cell 5;have y6:w7.cell? ⟨wr.heap.size,6,none⟩ = some (.slice ao6 r.rows.1 cap6):=HX7.out.cell 6;have y7:w7.cell? ⟨wr.heap.size,7,none⟩ = some (.slice ao7 r.data.1 cap7):=HX7.out.cell 7;have y8:w7.cell? ⟨wr.heap.size,8,none⟩ = some (.slice ao8 r.delta.1 cap8):=HX7.out.cell 8
              go_wp2_with (at_builtin;refine wp_run2 rfl (.tmp 44) (.tmp 46) rfl ?_ ?_ hrun ?_;(simp [Act.eval]);(simp [Act.eval]))
              clear hrun;go_wp2
              go_roundw
              case rel => exact ⟨k + 1,_,by omega,by go_num,by rw [HE.out,List.length_append,← HC0.out];exact HV8.out,HS8.out,HB8.out⟩
              case measure => simp [intOf];omega
          · have d3:(r.group == g) = false:=by simp [c3]
            have HU:Hid (und s g x n k = false):=und_no (fun h => by rw [← HRR.out] at h;exact h.2.1.elim c3 (fun e => e HC2.out));clear c3;go_wp2
            go_roundw
            case rel => exact ⟨k + 1,cu,by omega,by go_num,by rw [pick_skip HU.out,← HC0.out];exact HV6.out,HS6.out,HB6.out⟩
            case measure => simp [intOf];omega
      · have d1:(r.kind == 2) = false:=by simp [c1]
        have HU:Hid (und s g x n k = false):=und_no (fun h => by rw [← HRR.out] at h;exact c1 h.1);clear c1;go_wp2
        go_roundw
        case rel => exact ⟨k + 1,cu,by omega,by go_num,by rw [pick_skip HU.out,← HC0.out];exact HV6.out,HS6.out,HB6.out⟩
        case measure => simp [intOf];omega
    · obtain rfl:k = n:=by omega
      have HR:Hid ((layRec.slice 58).rd wr wr.heap.size ((pickI (und s g x k) k).length,fun i => x (pickF (und s g x k) k i)) [.slice au c cau]):=by
        have:=HV.out.rd (by omega);rw [← HC0.out];exact this
      clear hbl;go_wp2;go_ret;exact ⟨_,rfl,HR.out,HB.out⟩
end Go.Proofs.YtodedamnclhbnaaGreat
namespace Go.Proofs.YtodedamnclhbnaaGreat
open Go.RowKit F256
noncomputable def undOf (d:WorldD) (t:Int) (l:List Nat):Nat × (Nat → RecD):=((pickI (und d.shape t (fun i => recT d.tapes.2 2 (l.getD i 0)) l.length) l.length).length,fun i => recT d.tapes.2 2 (l.getD (pickF (und d.shape t (fun i => recT d.tapes.2 2 (l.getD i 0)) l.length) l.length i) 0))
def UndAns (d:WorldD) (t:Int) (q:RecsResultD):Prop:=(∃ x,x ≠ 0 ∧ WldAns d x ∧ q = ⟨x,(0,fun _ => rec0)⟩) ∨ (WldAns d 0 ∧ ¬ InP t 0 (d.shape 0 + d.shape 1 - 1) ∧ q = ⟨3,(0,fun _ => rec0)⟩) ∨ (WldAns d 0 ∧ InP t 0 (d.shape 0 + d.shape 1 - 1) ∧ ∃ l,Cnt (recT d.tapes.2 2) (lenT d.tapes.2 2) l ∧ q = ⟨0,undOf d t l⟩)
theorem UndAns.one {d:WorldD} {t:Int} {p q:RecsResultD} (h:UndAns d t p) (k:UndAns d t q):p = q:=by
  rcases h with ⟨x,h1,h2,rfl⟩ | ⟨h1,hn,rfl⟩ | ⟨h1,hn,l,hl,rfl⟩ <;> rcases k with ⟨y,k1,k2,rfl⟩ | ⟨k1,kn,rfl⟩ | ⟨k1,kn,m,hm,rfl⟩
  · rw [h2.one k2]
  · exact absurd (h2.one k1) h1
  · exact absurd (h2.one k1) h1
  · exact absurd (k2.one h1) k1
  · rfl
  · exact absurd kn hn
  · exact absurd (k2.one h1) k1
  · exact absurd hn kn
  · rw [hl.uniq hm]
theorem pick_sum (p:Nat → Bool) (f:Nat → Nat) (n:Nat):sumN (fun i => f (pickF p n i)) (pickI p n).length ≤ sumN f n ∧ (pickI p n).length ≤ n:=by
  have:=sub_sum f n (pickI p n) (pick_nodup p n) (fun i hi => pick_lt hi);rw [← sumN_map f] at this;exact this
theorem und_size {d:WorldD} (h2:d.tapes.1 = 2) (hsz:szWorldD d ≤ 1048576) {l:List Nat} (h:Cnt (recT d.tapes.2 2) (lenT d.tapes.2 2) l) (t:Int):(szSl szRecD) (undOf d t l) ≤ 1048576:=by
  have h1:=cnt_size h2 hsz h;have h3:=pick_sum (und d.shape t (fun i => recT d.tapes.2 2 (l.getD i 0)) l.length) (fun i => szRecD (recT d.tapes.2 2 (l.getD i 0))) l.length;have e1:(szSl szRecD) (l.length,fun i => recT d.tapes.2 2 (l.getD i 0)) = l.length + sumN (fun i => szRecD (recT d.tapes.2 2 (l.getD i 0))) l.length:=rfl
  show (pickI (und d.shape t (fun i => recT d.tapes.2 2 (l.getD i 0)) l.length) l.length).length + sumN (fun i => szRecD (recT d.tapes.2 2 (l.getD (pickF (und d.shape t (fun i => recT d.tapes.2 2 (l.getD i 0)) l.length) l.length i) 0))) (pickI (und d.shape t (fun i => recT d.tapes.2 2 (l.getD i 0)) l.length) l.length).length ≤ 1048576
  rw [e1] at h1;have h4:=h3.1;have h5:=h3.2;omega
theorem calls_app {n:Nat} {args:Array Value} {w:World} {R:Ending → World → Prop} (h:Calls Tryz.prog n args w R):Calls Tryz.prog n (args ++ #[]) w R:=by rw [Array.append_empty];exact h
theorem info_S9 {cs:List Value} (h:cs.length = 9):(Tryz.prog.info? 34).map (·.size) = some cs.length:=by rw [h];kernel_rfl
theorem step_storeBoxU {ops:Array Oper} {o:Oper} {a:Act} {w:World} {K:Act → World → Prop} {Q:Exit → Act → World → Prop} {F:Prop} (T:TypeId) (x y:Operand) (ho:o.op = .store T x y) (hgd:o.guard = none) (b:Nat) (hx:a.eval x = .pointer (some ⟨b,0,none⟩)) {cs old:List Value} (hy:a.eval y = .agg cs.toArray) (hB:Box w b old.toArray T) {n:Nat} (hi:(Tryz.prog.info? T).map (·.size) = some n) (hl:cs.length = n) (hol:old.length = n) (h1:∀ v,v ∈ cs → v.oneCell' = true)
    (h:∀ w',Box w' b cs.toArray T → ChgL [b] w w' → w'.heap.size = w.heap.size → K (a.put o.dst undef) w'):if Region.wanted o (yielded ops a.tmps) = true then Oper.wp Tryz.prog o a w K Q else F:=by
  have hw:Region.wanted o (yielded ops a.tmps) = true:=by simp [Region.wanted,hgd]
  rw [if_pos hw];refine wp_store_row T x y ho b cs.toArray hx hy T old.toArray hB (by rw [hi];simp [hl]) (by simp [hl,hol]) (by simp;exact h1) ?_;exact h _ (setRow_heap w b _ cs.toArray T (0,0) hB) (chgL_setRow b _) (by simp)
set_option maxHeartbeats 16000000 in
set_option maxRecDepth 20000 in
theorem implUnd_any (d:WorldD) (t:Int) (cs:List Value) (hi:Nat) (w:World) (h:layWorld.rd w hi d cs) (hhi:hi ≤ w.heap.size) (hsz:szWorldD d ≤ 1048576) :
    Calls Tryz.prog 16 #[.agg cs.toArray,.int .i64 t] w (RcPost (UndAns d t) w):=by
  have h':=h;obtain ⟨ao1,cap1,ao2,cap2,ao3,cap3,rfl,g1,g2,g3,k0,k4,k5⟩:=World_rd h';have HRD:Hid (layWorld.rd w hi d [.int .i64 (d.shape 0),.int .i64 (d.shape 1),.int .i64 (d.shape 2),.int .i64 (d.shape 3),.int .i64 (d.shape 4),.int .i64 (d.shape 5),.int .i64 (d.shape 6),.int .i64 (d.shape 7),.int .i64 (d.shape 8),.slice ao1 d.groups.1 cap1,.slice ao2 d.on.1 cap2,.slice ao3 d.tapes.1 cap3,.int .i64 d.writes,.int .i64 d.stop,.bool d.down]):=h;have HG3:Hid ((layTape.slice 104).rd w hi d.tapes [.slice ao3 d.tapes.1 cap3]):=g3;have HSZ:Hid (szWorldD d ≤ 1048576):=hsz;clear h h' hsz g1 g2 g3 k0 k4 k5;have T0:=two_newb w #[.int .i64 (d.shape 0),.int .i64 (d.shape 1),.int .i64 (d.shape 2),.int .i64 (d.shape 3),.int .i64 (d.shape 4),.int .i64 (d.shape 5),.int .i64 (d.shape 6),.int .i64 (d.shape 7),.int .i64 (d.shape 8),.slice ao1 d.groups.1 cap1,.slice ao2 d.on.1 cap2,.slice ao3 d.tapes.1 cap3,.int .i64 d.writes,.int .i64 d.stop,.bool d.down] #[.int .i64 0,.slice none 0 0] 38 32
  go_enter Tryz.func16,Tryz.ntmps16
  go_wp2_with (refine wp_loadBox 38 (.tmp 2) rfl rfl (w.heap.size) rfl (cs:=[.int .i64 (d.shape 0),.int .i64 (d.shape 1),.int .i64 (d.shape 2),.int .i64 (d.shape 3),.int .i64 (d.shape 4),.int .i64 (d.shape 5),.int .i64 (d.shape 6),.int .i64 (d.shape 7),.int .i64 (d.shape 8),.slice ao1 d.groups.1 cap1,.slice ao2 d.on.1 cap2,.slice ao3 d.tapes.1 cap3,.int .i64 d.writes,.int .i64 d.stop,.bool d.down]) (T0.b1) Tryz.underlying38 size_W rfl ?_)
  refine (implWorld_any d _ hi _ (layWorld.rd_below HRD.out T0.bel hhi) (Nat.le_trans hhi T0.bel.size) (wld_ok_names HSZ.out)).mono ?_;rintro e w1 ⟨x,rfl,hx,b1⟩;have HT1:Hid (Two w w1 #[.int .i64 (d.shape 0),.int .i64 (d.shape 1),.int .i64 (d.shape 2),.int .i64 (d.shape 3),.int .i64 (d.shape 4),.int .i64 (d.shape 5),.int .i64 (d.shape 6),.int .i64 (d.shape 7),.int .i64 (d.shape 8),.slice ao1 d.groups.1 cap1,.slice ao2 d.on.1 cap2,.slice ao3 d.tapes.1 cap3,.int .i64 d.writes,.int .i64 d.stop,.bool d.down] #[.int .i64 0,.slice none 0 0] 38 32):=T0.call b1;have HX:Hid (WldAns d x):=hx;have z1:w.heap.size + 1 < w1.heap.size:=HT1.out.b2.lt;clear b1 T0 hx
  by_cases hx0:x = 0
  case neg =>
    have hne:(x != 0) = true:=by simp [hx0]
    go_wp2_with (refine wp_storeBox 32 _ _ rfl rfl (w.heap.size + 1) rfl (cs:=[.int .i64 x,.slice none 0 0]) (old:=[.int .i64 0,.slice none 0 0]) rfl (HT1.out.b2) size_Rc rfl rfl ((rcode_own w1 x (wld_small HX.out) 0 0).one) ?_;intro w9 X9 C9 z9)
    refine ret_box Tryz.results16 rfl X9 Tryz.underlying32 size_Rc rfl rfl ?_;have zz:=C9.size;exact ⟨⟨x,(0,fun _ => rec0)⟩,[.int .i64 x,.slice none 0 0],rfl,.inl ⟨x,hx0,HX.out,rfl⟩,rcode_own w9 x (wld_small HX.out) _ _,HT1.out.bel.trans (C9.bel (fun b hb => by simp at hb;omega) HT1.out.bel.size)⟩
  subst hx0;have HOK:Hid (OkWorld d):=WldAns.ok HX.out;have h2:d.tapes.1 = 2:=HOK.out.form.2.2;have hn0:(d.tapes.2 0).recs.1 ≤ 400000:=Nat.le_trans (HOK.out.few 0 (by omega)) (by decide);have hn1:(d.tapes.2 1).recs.1 ≤ 400000:=Nat.le_trans (HOK.out.few 1 (by omega)) (by decide);have HH2:Hid (d.tapes.1 = 2):=h2;clear h2;obtain ⟨b,hb⟩:=exB (InP t 0 (d.shape 0 + d.shape 1 - 1));have HBB:Hid (b = true ↔ InP t 0 (d.shape 0 + d.shape 1 - 1)):=hb;have x_0:w1.cell? ⟨w.heap.size,0,none⟩ = some (.int .i64 (d.shape 0)):=HT1.out.b1.cell 0;have x_1:w1.cell? ⟨w.heap.size,1,none⟩ = some (.int .i64 (d.shape 1)):=HT1.out.b1.cell 1;have x_2:w1.cell? ⟨w.heap.size,2,none⟩ = some (.int .i64 (d.shape 2)):=HT1.out.b1.cell 2;have x_3:w1.cell? ⟨w.heap.size,3,none⟩ = some (.int .i64 (d.shape 3)):=HT1.out.b1.cell 3;have x_4:w1.cell? ⟨w.heap.size,4,none⟩ = some (.int .i64 (d.shape 4)):=HT1.out.b1.cell 4;have x_5:w1.cell? ⟨w.heap.size,5,none⟩ = some (.int .i64 (d.shape 5)):=HT1.out.b1.cell 5;have x_6:w1.cell? ⟨w.heap.size,6,none⟩ = some (.int .i64 (d.shape 6)):=HT1.out.b1.cell 6;have x_7:w1.cell? ⟨w.heap.size,7,none⟩ = some (.int .i64 (d.shape 7)):=HT1.out.b1.cell 7;have x_8:w1.cell? ⟨w.heap.size,8,none⟩ = some (.int .i64 (d.shape 8)):=HT1.out.b1.cell 8;have CB:=isGroup_b HOK.out.shape hb w1;unfold shapeV at CB;clear hb
  go_wp2_with fail
  refine CB.mono ?_;rintro e wq ⟨rfl,bq⟩;have HTq:Hid (Two w wq #[.int .i64 (d.shape 0),.int .i64 (d.shape 1),.int .i64 (d.shape 2),.int .i64 (d.shape 3),.int .i64 (d.shape 4),.int .i64 (d.shape 5),.int .i64 (d.shape 6),.int .i64 (d.shape 7),.int .i64 (d.shape 8),.slice ao1 d.groups.1 cap1,.slice ao2 d.on.1 cap2,.slice ao3 d.tapes.1 cap3,.int .i64 d.writes,.int .i64 d.stop,.bool d.down] #[.int .i64 0,.slice none 0 0] 38 32):=HT1.out.call bq;have zq:w1.heap.size ≤ wq.heap.size:=bq.size;clear CB bq HT1 x_0 x_1 x_2 x_3 x_4 x_5 x_6 x_7 x_8
  cases b with
  | false =>
    have HNT:Hid (¬ InP t 0 (d.shape 0 + d.shape 1 - 1)):=fun h => absurd (HBB.out.2 h) (by simp)
    go_wp2_with (refine wp_storeBox 32 _ _ rfl rfl (w.heap.size + 1) rfl (cs:=[.int .i64 3,.slice none 0 0]) (old:=[.int .i64 0,.slice none 0 0]) rfl (HTq.out.b2) size_Rc rfl rfl ((rcode_own wq 3 (by decide) 0 0).one) ?_;intro w9 X9 C9 z9)
    refine ret_box Tryz.results16 rfl X9 Tryz.underlying32 size_Rc rfl rfl ?_;have zz:=C9.size;exact ⟨⟨3,(0,fun _ => rec0)⟩,[.int .i64 3,.slice none 0 0],rfl,.inr (.inl ⟨HX.out,HNT.out,rfl⟩),rcode_own w9 3 (by decide) _ _,HTq.out.bel.trans (C9.bel (fun b hb => by simp at hb;omega) HTq.out.bel.size)⟩
  | true =>
  have hIn:InP t 0 (d.shape 0 + d.shape 1 - 1):=HBB.out.1 (by simp);have HIN:Hid (InP t 0 (d.shape 0 + d.shape 1 - 1)):=hIn
  have ht64:-9223372036854775808 ≤ t ∧ t ≤ 9223372036854775807:=by have:=okB HOK.out.shape;unfold InP at hIn;omega
  have ht0:0 ≤ t:=hIn.1;have CR:=readTapes_any d [.int .i64 (d.shape 0),.int .i64 (d.shape 1),.int .i64 (d.shape 2),.int .i64 (d.shape 3),.int .i64 (d.shape 4),.int .i64 (d.shape 5),.int .i64 (d.shape 6),.int .i64 (d.shape 7),.int .i64 (d.shape 8),.slice ao1 d.groups.1 cap1,.slice ao2 d.on.1 cap2,.slice ao3 d.tapes.1 cap3,.int .i64 d.writes,.int .i64 d.stop,.bool d.down] hi wq (layWorld.rd_below HRD.out HTq.out.bel hhi) (Nat.le_trans hhi HTq.out.bel.size) HOK.out
  go_wp2_with (refine wp_loadBox 38 (.tmp 2) rfl rfl (w.heap.size) rfl (cs:=[.int .i64 (d.shape 0),.int .i64 (d.shape 1),.int .i64 (d.shape 2),.int .i64 (d.shape 3),.int .i64 (d.shape 4),.int .i64 (d.shape 5),.int .i64 (d.shape 6),.int .i64 (d.shape 7),.int .i64 (d.shape 8),.slice ao1 d.groups.1 cap1,.slice ao2 d.on.1 cap2,.slice ao3 d.tapes.1 cap3,.int .i64 d.writes,.int .i64 d.stop,.bool d.down]) (HTq.out.b1) Tryz.underlying38 size_W rfl ?_)
  refine CR.mono ?_;rintro e w2 ⟨B,l,ce,v,b1,b2,b3,b4,b5,rfl,hCt,hLd,hRd,bb2⟩;have HL:Hid (Cnt (recT d.tapes.2 2) (lenT d.tapes.2 2) l):=hCt;have HT2:Hid (Two w w2 #[.int .i64 (d.shape 0),.int .i64 (d.shape 1),.int .i64 (d.shape 2),.int .i64 (d.shape 3),.int .i64 (d.shape 4),.int .i64 (d.shape 5),.int .i64 (d.shape 6),.int .i64 (d.shape 7),.int .i64 (d.shape 8),.slice ao1 d.groups.1 cap1,.slice ao2 d.on.1 cap2,.slice ao3 d.tapes.1 cap3,.int .i64 d.writes,.int .i64 d.stop,.bool d.down] #[.int .i64 0,.slice none 0 0] 38 32):=HTq.out.call bb2;have z2:wq.heap.size ≤ w2.heap.size:=bb2.size
  have hlen:l.length ≤ 1000000:=by
    have h1:=(hCt.sum (fun _ => 0)).2
    have e2:lenT d.tapes.2 2 = (d.tapes.2 0).recs.1 + (d.tapes.2 1).recs.1:=by simp [lenT]
    omega
  have CU:=undoneAt_any hLd HOK.out.shape hlen (by omega) hRd (fun i hi' => recT_ok HOK.out ((hCt.mem _).1 (by rw [getD_at hi'];exact List.getElem_mem hi')).1) t ht64;clear hLd hRd bb2 CR HTq
  go_wp2_with fail
  refine CU.mono ?_;rintro e w5 ⟨u,cu,rfl,V,b5'⟩;have HT5:Hid (Two w w5 #[.int .i64 (d.shape 0),.int .i64 (d.shape 1),.int .i64 (d.shape 2),.int .i64 (d.shape 3),.int .i64 (d.shape 4),.int .i64 (d.shape 5),.int .i64 (d.shape 6),.int .i64 (d.shape 7),.int .i64 (d.shape 8),.slice ao1 d.groups.1 cap1,.slice ao2 d.on.1 cap2,.slice ao3 d.tapes.1 cap3,.int .i64 d.writes,.int .i64 d.stop,.bool d.down] #[.int .i64 0,.slice none 0 0] 38 32):=HT2.out.call b5';have z5:w2.heap.size ≤ w5.heap.size:=b5'.size;have CT:=tellRecs_any u (undOf d t l) w5.heap.size w5 (V.rd (by omega)) (Nat.le_refl _) (und_size HH2.out HSZ.out hCt t);obtain ⟨a2,c2,rfl⟩:=V.form;clear V b5' CU HT2 hCt
  go_wp2_with fail
  refine CT.mono ?_;rintro e w3 ⟨cs3,rfl,O3,bb3⟩;have HT3:Hid (Two w w3 #[.int .i64 (d.shape 0),.int .i64 (d.shape 1),.int .i64 (d.shape 2),.int .i64 (d.shape 3),.int .i64 (d.shape 4),.int .i64 (d.shape 5),.int .i64 (d.shape 6),.int .i64 (d.shape 7),.int .i64 (d.shape 8),.slice ao1 d.groups.1 cap1,.slice ao2 d.on.1 cap2,.slice ao3 d.tapes.1 cap3,.int .i64 d.writes,.int .i64 d.stop,.bool d.down] #[.int .i64 0,.slice none 0 0] 38 32):=HT5.out.call bb3;obtain ⟨a3,c3,rfl⟩:=RecsResult_cells O3;have HO3:Hid (OwnT layRecsResult w3 w5.heap.size w3.heap.size ⟨0,undOf d t l⟩ [.int .i64 0,.slice a3 (undOf d t l).1 c3]):=O3;clear O3 bb3 CT HT5
  go_wp2_with (refine wp_storeBox 32 _ _ rfl rfl (w.heap.size + 1) rfl (cs:=[.int .i64 0,.slice a3 (undOf d t l).1 c3]) (old:=[.int .i64 0,.slice none 0 0]) rfl (HT3.out.b2) size_Rc rfl rfl (HO3.out.one) ?_;intro w9 X9 C9 z9)
  refine ret_box Tryz.results16 rfl X9 Tryz.underlying32 size_Rc rfl rfl ?_;have zz:=C9.size;have O9:=(HO3.out.chgk C9 (fun b hb => by simp at hb;omega)).weaken (lo':=w.heap.size) (hi':=w9.heap.size) (by omega) zz;exact ⟨_,_,rfl,.inr (.inr ⟨HX.out,HIN.out,l,HL.out,rfl⟩),O9,HT3.out.bel.trans (C9.bel (fun b hb => by simp at hb;omega) HT3.out.bel.size)⟩
set_option maxHeartbeats 16000000 in
set_option maxRecDepth 20000 in
theorem specUnd_any (d:WorldD) (t:Int) (cs:List Value) (hi:Nat) (w:World) (h:layWorld.rd w hi d cs) (hhi:hi ≤ w.heap.size) (hsz:szWorldD d ≤ 1048576) :
    Calls Tryz.prog 15 #[.agg cs.toArray,.int .i64 t] w (RcPost (UndAns d t) w):=by
  have h':=h;obtain ⟨ao1,cap1,ao2,cap2,ao3,cap3,rfl,g1,g2,g3,k0,k4,k5⟩:=World_rd h';have HRD:Hid (layWorld.rd w hi d [.int .i64 (d.shape 0),.int .i64 (d.shape 1),.int .i64 (d.shape 2),.int .i64 (d.shape 3),.int .i64 (d.shape 4),.int .i64 (d.shape 5),.int .i64 (d.shape 6),.int .i64 (d.shape 7),.int .i64 (d.shape 8),.slice ao1 d.groups.1 cap1,.slice ao2 d.on.1 cap2,.slice ao3 d.tapes.1 cap3,.int .i64 d.writes,.int .i64 d.stop,.bool d.down]):=h;have HG3:Hid ((layTape.slice 104).rd w hi d.tapes [.slice ao3 d.tapes.1 cap3]):=g3;have HSZ:Hid (szWorldD d ≤ 1048576):=hsz;clear h h' hsz g1 g2 g3 k0 k4 k5;have T0:=two_newb w #[.int .i64 (d.shape 0),.int .i64 (d.shape 1),.int .i64 (d.shape 2),.int .i64 (d.shape 3),.int .i64 (d.shape 4),.int .i64 (d.shape 5),.int .i64 (d.shape 6),.int .i64 (d.shape 7),.int .i64 (d.shape 8),.slice ao1 d.groups.1 cap1,.slice ao2 d.on.1 cap2,.slice ao3 d.tapes.1 cap3,.int .i64 d.writes,.int .i64 d.stop,.bool d.down] #[.int .i64 0,.slice none 0 0] 38 32
  go_enter Tryz.func15,Tryz.ntmps15
  go_wp2_with (refine wp_loadBox 38 (.tmp 2) rfl rfl (w.heap.size) rfl (cs:=[.int .i64 (d.shape 0),.int .i64 (d.shape 1),.int .i64 (d.shape 2),.int .i64 (d.shape 3),.int .i64 (d.shape 4),.int .i64 (d.shape 5),.int .i64 (d.shape 6),.int .i64 (d.shape 7),.int .i64 (d.shape 8),.slice ao1 d.groups.1 cap1,.slice ao2 d.on.1 cap2,.slice ao3 d.tapes.1 cap3,.int .i64 d.writes,.int .i64 d.stop,.bool d.down]) (T0.b1) Tryz.underlying38 size_W rfl ?_)
  refine (specWorld_any d _ hi _ (layWorld.rd_below HRD.out T0.bel hhi) (Nat.le_trans hhi T0.bel.size) (wld_ok_names HSZ.out)).mono ?_;rintro e w1 ⟨x,rfl,hx,b1⟩;have HT1:Hid (Two w w1 #[.int .i64 (d.shape 0),.int .i64 (d.shape 1),.int .i64 (d.shape 2),.int .i64 (d.shape 3),.int .i64 (d.shape 4),.int .i64 (d.shape 5),.int .i64 (d.shape 6),.int .i64 (d.shape 7),.int .i64 (d.shape 8),.slice ao1 d.groups.1 cap1,.slice ao2 d.on.1 cap2,.slice ao3 d.tapes.1 cap3,.int .i64 d.writes,.int .i64 d.stop,.bool d.down] #[.int .i64 0,.slice none 0 0] 38 32):=T0.call b1;have HX:Hid (WldAns d x):=hx;have z1:w.heap.size + 1 < w1.heap.size:=HT1.out.b2.lt;clear b1 T0 hx
  by_cases hx0:x = 0
  case neg =>
    have hne:(x != 0) = true:=by simp [hx0]
    go_wp2_with (refine wp_storeBox 32 _ _ rfl rfl (w.heap.size + 1) rfl (cs:=[.int .i64 x,.slice none 0 0]) (old:=[.int .i64 0,.slice none 0 0]) rfl (HT1.out.b2) size_Rc rfl rfl ((rcode_own w1 x (wld_small HX.out) 0 0).one) ?_;intro w9 X9 C9 z9)
    refine ret_box Tryz.results15 rfl X9 Tryz.underlying32 size_Rc rfl rfl ?_;have zz:=C9.size;exact ⟨⟨x,(0,fun _ => rec0)⟩,[.int .i64 x,.slice none 0 0],rfl,.inl ⟨x,hx0,HX.out,rfl⟩,rcode_own w9 x (wld_small HX.out) _ _,HT1.out.bel.trans (C9.bel (fun b hb => by simp at hb;omega) HT1.out.bel.size)⟩
  subst hx0;have HOK:Hid (OkWorld d):=WldAns.ok HX.out;have h2:d.tapes.1 = 2:=HOK.out.form.2.2;have hn0:(d.tapes.2 0).recs.1 ≤ 400000:=Nat.le_trans (HOK.out.few 0 (by omega)) (by decide);have hn1:(d.tapes.2 1).recs.1 ≤ 400000:=Nat.le_trans (HOK.out.few 1 (by omega)) (by decide);obtain ⟨b,hb⟩:=exB (InP t 0 (d.shape 0 + d.shape 1 - 1));have HBB:Hid (b = true ↔ InP t 0 (d.shape 0 + d.shape 1 - 1)):=hb;have C1:=fun w' => l1In_b (w:=w') hb
  have zw:IntKind.i64.wrap (d.shape 0 + d.shape 1 - 1) = d.shape 0 + d.shape 1 - 1:=by have:=okB HOK.out.shape;rw [IntKind.wrap_i64];omega
  have x_0:w1.cell? ⟨w.heap.size,0,none⟩ = some (.int .i64 (d.shape 0)):=HT1.out.b1.cell 0;have x_1:w1.cell? ⟨w.heap.size,1,none⟩ = some (.int .i64 (d.shape 1)):=HT1.out.b1.cell 1;have x_2:w1.cell? ⟨w.heap.size,2,none⟩ = some (.int .i64 (d.shape 2)):=HT1.out.b1.cell 2;have x_3:w1.cell? ⟨w.heap.size,3,none⟩ = some (.int .i64 (d.shape 3)):=HT1.out.b1.cell 3;have x_4:w1.cell? ⟨w.heap.size,4,none⟩ = some (.int .i64 (d.shape 4)):=HT1.out.b1.cell 4;have x_5:w1.cell? ⟨w.heap.size,5,none⟩ = some (.int .i64 (d.shape 5)):=HT1.out.b1.cell 5;have x_6:w1.cell? ⟨w.heap.size,6,none⟩ = some (.int .i64 (d.shape 6)):=HT1.out.b1.cell 6;have x_7:w1.cell? ⟨w.heap.size,7,none⟩ = some (.int .i64 (d.shape 7)):=HT1.out.b1.cell 7;have x_8:w1.cell? ⟨w.heap.size,8,none⟩ = some (.int .i64 (d.shape 8)):=HT1.out.b1.cell 8;have CA:=l5All_any d.shape HOK.out.shape w1;unfold shapeV at CA;clear hb
  go_wp2_with fail
  refine CA.mono ?_;rintro e wq ⟨rfl,bq⟩;have HTq:Hid (Two w wq #[.int .i64 (d.shape 0),.int .i64 (d.shape 1),.int .i64 (d.shape 2),.int .i64 (d.shape 3),.int .i64 (d.shape 4),.int .i64 (d.shape 5),.int .i64 (d.shape 6),.int .i64 (d.shape 7),.int .i64 (d.shape 8),.slice ao1 d.groups.1 cap1,.slice ao2 d.on.1 cap2,.slice ao3 d.tapes.1 cap3,.int .i64 d.writes,.int .i64 d.stop,.bool d.down] #[.int .i64 0,.slice none 0 0] 38 32):=HT1.out.call bq;have zq:w1.heap.size ≤ wq.heap.size:=bq.size;clear CA bq HT1 x_0 x_1 x_2 x_3 x_4 x_5 x_6 x_7 x_8
  go_wp2_with fail
  refine (C1 _).mono ?_;rintro e w' ⟨rfl,hw'⟩;obtain rfl:=hw'.symm;clear C1 zw
  cases b with
  | false =>
    have HNT:Hid (¬ InP t 0 (d.shape 0 + d.shape 1 - 1)):=fun h => absurd (HBB.out.2 h) (by simp)
    go_wp2_with (refine wp_storeBox 32 _ _ rfl rfl (w.heap.size + 1) rfl (cs:=[.int .i64 3,.slice none 0 0]) (old:=[.int .i64 0,.slice none 0 0]) rfl (HTq.out.b2) size_Rc rfl rfl ((rcode_own wq 3 (by decide) 0 0).one) ?_;intro w9 X9 C9 z9)
    refine ret_box Tryz.results15 rfl X9 Tryz.underlying32 size_Rc rfl rfl ?_;have zz:=C9.size;exact ⟨⟨3,(0,fun _ => rec0)⟩,[.int .i64 3,.slice none 0 0],rfl,.inr (.inl ⟨HX.out,HNT.out,rfl⟩),rcode_own w9 3 (by decide) _ _,HTq.out.bel.trans (C9.bel (fun b hb => by simp at hb;omega) HTq.out.bel.size)⟩
  | true =>
  have hIn:InP t 0 (d.shape 0 + d.shape 1 - 1):=HBB.out.1 (by simp);have HIN:Hid (InP t 0 (d.shape 0 + d.shape 1 - 1)):=hIn
  have ht64:-9223372036854775808 ≤ t ∧ t ≤ 9223372036854775807:=by have:=okB HOK.out.shape;unfold InP at hIn;omega
  have ht0:0 ≤ t:=hIn.1;have bD:Below wq.heap.size wq wq.drew:=⟨rfl,rfl,rfl,Nat.le_refl _,fun _ _ => rfl⟩;have HTD:Hid (Two w wq.drew #[.int .i64 (d.shape 0),.int .i64 (d.shape 1),.int .i64 (d.shape 2),.int .i64 (d.shape 3),.int .i64 (d.shape 4),.int .i64 (d.shape 5),.int .i64 (d.shape 6),.int .i64 (d.shape 7),.int .i64 (d.shape 8),.slice ao1 d.groups.1 cap1,.slice ao2 d.on.1 cap2,.slice ao3 d.tapes.1 cap3,.int .i64 d.writes,.int .i64 d.stop,.bool d.down] #[.int .i64 0,.slice none 0 0] 38 32):=HTq.out.call bD;have CC0:=l6Counted_any d [.int .i64 (d.shape 0),.int .i64 (d.shape 1),.int .i64 (d.shape 2),.int .i64 (d.shape 3),.int .i64 (d.shape 4),.int .i64 (d.shape 5),.int .i64 (d.shape 6),.int .i64 (d.shape 7),.int .i64 (d.shape 8),.slice ao1 d.groups.1 cap1,.slice ao2 d.on.1 cap2,.slice ao3 d.tapes.1 cap3,.int .i64 d.writes,.int .i64 d.stop,.bool d.down] hi w.heap.size wq.drew (layWorld.rd_below HRD.out HTD.out.bel hhi) (Nat.le_trans hhi HTD.out.bel.size) HTD.out.b1 h2 hn0 hn1;have CC:=calls_app CC0;have zD:wq.drew.heap.size = wq.heap.size:=rfl;obtain ⟨cS,hcS⟩:∃ c:List Value,c = [.int .i64 (d.shape 0),.int .i64 (d.shape 1),.int .i64 (d.shape 2),.int .i64 (d.shape 3),.int .i64 (d.shape 4),.int .i64 (d.shape 5),.int .i64 (d.shape 6),.int .i64 (d.shape 7),.int .i64 (d.shape 8)]:=⟨_,rfl⟩;have HCS:Hid (cS = [.int .i64 (d.shape 0),.int .i64 (d.shape 1),.int .i64 (d.shape 2),.int .i64 (d.shape 3),.int .i64 (d.shape 4),.int .i64 (d.shape 5),.int .i64 (d.shape 6),.int .i64 (d.shape 7),.int .i64 (d.shape 8)]):=hcS
  have hlS:cS.length = 9:=by rw [hcS];rfl
  have rng:∀ W,Box W w.heap.size #[.int .i64 (d.shape 0),.int .i64 (d.shape 1),.int .i64 (d.shape 2),.int .i64 (d.shape 3),.int .i64 (d.shape 4),.int .i64 (d.shape 5),.int .i64 (d.shape 6),.int .i64 (d.shape 7),.int .i64 (d.shape 8),.slice ao1 d.groups.1 cap1,.slice ao2 d.on.1 cap2,.slice ao3 d.tapes.1 cap3,.int .i64 d.writes,.int .i64 d.stop,.bool d.down] 38 → W.rangeAt w.heap.size 0 cS:=fun W hW j v hv => by
    rw [hcS] at hv;rw [Nat.zero_add];have hj:j < 9:=(List.getElem?_eq_some_iff.1 hv).1;refine (hW.cell j).trans ?_;rw [← hv]
    match j,hj with
    | 0,_ => rfl
    | 1,_ => rfl
    | 2,_ => rfl
    | 3,_ => rfl
    | 4,_ => rfl
    | 5,_ => rfl
    | 6,_ => rfl
    | 7,_ => rfl
    | 8,_ => rfl
  have HRNG:Hid (∀ W,Box W w.heap.size #[.int .i64 (d.shape 0),.int .i64 (d.shape 1),.int .i64 (d.shape 2),.int .i64 (d.shape 3),.int .i64 (d.shape 4),.int .i64 (d.shape 5),.int .i64 (d.shape 6),.int .i64 (d.shape 7),.int .i64 (d.shape 8),.slice ao1 d.groups.1 cap1,.slice ao2 d.on.1 cap2,.slice ao3 d.tapes.1 cap3,.int .i64 d.writes,.int .i64 d.stop,.bool d.down] 38 → W.rangeAt w.heap.size 0 cS):=rng;have rS:=rng _ HTD.out.b1;clear hcS rng CC0
  go_upto_region 6 with fail
  refine wp_region_M 4 (fun w' => w'.rangeAt w.heap.size 0 cS) mixedO rS (fun hHeld => ?_);refine wpAnyM_pure (i:=0) (oi:=_) (v:=?_) rfl (by kernel_rfl) (fun _ _ _ h => h) (Or.inl ⟨by kernel_rfl,?_⟩) (by assumption) ?_
  rotate_left
  · intro w' hSw;go_simp;try with_reducible rfl
  try simp only [Act.put,SL]
  refine wpAnyM_take (i:=1) (oi:=_) (v:=.agg cS.toArray) 16 rfl (by kernel_rfl) (fun _ _ _ h => h) (yieldsIf_load_mid (by kernel_rfl) 34 (.tmp 20) rfl w.heap.size (0) (by simp [Act.eval,Act.put]) cS _ (fun w h => h) Tryz.underlying34 rfl (info_S9 hlS)) (by assumption) ?_
  try simp only [Act.put,SL]
  refine wpAnyM_pure (i:=3) (oi:=_) (v:=?_) rfl (by kernel_rfl) (fun _ _ _ h => h) (Or.inl ⟨by kernel_rfl,?_⟩) (by assumption) ?_
  rotate_left
  · intro w' hSw;go_simp;try with_reducible rfl
  try simp only [Act.put,SL]
  refine wpAnyM_oneS (i:=2) (o:=_) rfl (by kernel_rfl) (fun KC hKC => ?_);refine step_callv (by kernel_rfl) (.func 23) 23 #[] _ _ rfl (by simp [Act.eval,Act.put]) #[.pointer (some ⟨w.heap.size,0,none⟩)] (by simp [Act.eval,Act.put]) Tryz.func23 (by kernel_rfl) (by kernel_rfl) CC ?_;rintro e w2 ⟨v2,l,ce,lo2,rfl,hCt,hlo2,V,b2⟩;refine ⟨_,rfl,?_⟩;have HT2:Hid (Two w w2 #[.int .i64 (d.shape 0),.int .i64 (d.shape 1),.int .i64 (d.shape 2),.int .i64 (d.shape 3),.int .i64 (d.shape 4),.int .i64 (d.shape 5),.int .i64 (d.shape 6),.int .i64 (d.shape 7),.int .i64 (d.shape 8),.slice ao1 d.groups.1 cap1,.slice ao2 d.on.1 cap2,.slice ao3 d.tapes.1 cap3,.int .i64 d.writes,.int .i64 d.stop,.bool d.down] #[.int .i64 0,.slice none 0 0] 38 32):=HTD.out.call b2;refine hKC _ _ (HRNG.out _ HT2.out.b1) ?_;clear hKC KC
  try simp only [Act.put,SL]
  have HL:Hid (Cnt (recT d.tapes.2 2) (lenT d.tapes.2 2) l):=hCt;have z2:wq.heap.size ≤ w2.heap.size:=b2.size
  have hlen:l.length ≤ 1000000:=by
    have h1:=(hCt.sum (fun _ => 0)).2
    have e2:lenT d.tapes.2 2 = (d.tapes.2 0).recs.1 + (d.tapes.2 1).recs.1:=by simp [lenT]
    omega
  have hh2:hi ≤ w2.heap.size:=by omega
  have CU0:=l6Undone_any d.shape v2 l.length (fun i => recT d.tapes.2 2 (l.getD i 0)) t w2.heap.size w2 (V.rd hh2) (Nat.le_refl _) (by omega) ht0;rw [show shapeV d.shape = .agg cS.toArray by rw [HCS.out];rfl] at CU0;have CU:=calls_app CU0;clear CU0 V b2 CC rS;refine wpAnyM_one (i:=4) (o:=_) rfl (by kernel_rfl) (by kernel_rfl) (fun KC hKC => ?_);refine step_callv (by kernel_rfl) (.func 46) 46 #[] _ _ rfl (by simp [Act.eval,Act.put]) #[.agg cS.toArray,v2,.int .i64 t] (by simp [Act.eval,Act.put]) Tryz.func46 (by kernel_rfl) (by kernel_rfl) CU ?_;rintro e w5 ⟨u,rfl,hrd,b5⟩;refine ⟨_,rfl,?_⟩;refine hKC _ _ ?_;clear hKC KC
  try simp only [Act.put,SL]
  have HT5:Hid (Two w w5 #[.int .i64 (d.shape 0),.int .i64 (d.shape 1),.int .i64 (d.shape 2),.int .i64 (d.shape 3),.int .i64 (d.shape 4),.int .i64 (d.shape 5),.int .i64 (d.shape 6),.int .i64 (d.shape 7),.int .i64 (d.shape 8),.slice ao1 d.groups.1 cap1,.slice ao2 d.on.1 cap2,.slice ao3 d.tapes.1 cap3,.int .i64 d.writes,.int .i64 d.stop,.bool d.down] #[.int .i64 0,.slice none 0 0] 38 32):=HT2.out.call b5;have z5:w2.heap.size ≤ w5.heap.size:=b5.size;have CT0:=l5CopyRecs_is u (undOf d t l) w5.heap.size w5 hrd (Nat.le_refl _) (und_size h2 HSZ.out hCt t);have CT:=calls_app CT0;clear CT0 hrd b5 CU HT2 hCt;refine wpAnyM_one (i:=5) (o:=_) rfl (by kernel_rfl) (by kernel_rfl) (fun KC hKC => ?_);refine step_callv (by kernel_rfl) (.func 45) 45 #[] _ _ rfl (by simp [Act.eval,Act.put]) #[u] (by simp [Act.eval,Act.put]) Tryz.func45 (by kernel_rfl) (by kernel_rfl) CT ?_;rintro e w3 ⟨v3,rfl,O3,b3⟩;refine ⟨_,rfl,?_⟩;refine hKC _ _ ?_;clear hKC KC
  try simp only [Act.put,SL]
  have HT3:Hid (Two w w3 #[.int .i64 (d.shape 0),.int .i64 (d.shape 1),.int .i64 (d.shape 2),.int .i64 (d.shape 3),.int .i64 (d.shape 4),.int .i64 (d.shape 5),.int .i64 (d.shape 6),.int .i64 (d.shape 7),.int .i64 (d.shape 8),.slice ao1 d.groups.1 cap1,.slice ao2 d.on.1 cap2,.slice ao3 d.tapes.1 cap3,.int .i64 d.writes,.int .i64 d.stop,.bool d.down] #[.int .i64 0,.slice none 0 0] 38 32):=HT5.out.call b3;obtain ⟨a3,c3,rfl⟩:=recs_form O3;have HO3:Hid (OwnT layRecsResult w3 w5.heap.size w3.heap.size ⟨0,undOf d t l⟩ [.int .i64 0,.slice a3 (undOf d t l).1 c3]):=rres_own (n:=(undOf d t l).1) (f:=(undOf d t l).2) O3 0 (by decide);clear O3 b3 CT HT5;refine wpAnyM_pureL (i:=6) (oi:=_) (v:=?_) rfl (by kernel_rfl) (fun _ _ _ h => h) (Or.inl ⟨by kernel_rfl,?_⟩) ?_
  rotate_left
  · intro w' hSw;go_simp;try with_reducible rfl
  try simp only [Act.put,SL]
  refine wpAnyM_one (i:=7) (o:=_) rfl (by kernel_rfl) (by kernel_rfl) (fun KC hKC => ?_);refine step_storeBoxU 32 _ _ rfl rfl (w.heap.size + 1) (by simp [Act.eval,Act.put]) (cs:=[.int .i64 0,.slice a3 (undOf d t l).1 c3]) (old:=[.int .i64 0,.slice none 0 0]) (by simp [Act.eval,Act.put]) (HT3.out.b2) size_Rc rfl rfl (HO3.out.one) ?_;intro w9 X9 C9 z9;refine hKC _ _ ?_;clear hKC KC
  try simp only [Act.put,SL]
  refine wpAnyM_done (by kernel_rfl) ?_ _;go_wp2;refine ret_box Tryz.results15 rfl X9 Tryz.underlying32 size_Rc rfl rfl ?_;have zz:=C9.size;have O9:=(HO3.out.chgk C9 (fun b hb => by simp at hb;omega)).weaken (lo':=w.heap.size) (hi':=w9.heap.size) (by omega) zz;exact ⟨_,_,rfl,.inr (.inr ⟨HX.out,HIN.out,l,HL.out,rfl⟩),O9,HT3.out.bel.trans (C9.bel (fun b hb => by simp at hb;omega) HT3.out.bel.size)⟩
end Go.Proofs.YtodedamnclhbnaaGreat
namespace Go.Proofs.YtodedamnclhbnaaGreat
open Go.RowKit
section
variable {ops:Array Oper} {Q:Exit → Act → World → Prop} {md:Region.Mode} {S:World → Prop} {L:Nat}
theorem load_yield {o:Oper} {a:Act} (T:TypeId) (x:Operand) (ho:o.op = .load T x) (hg:o.guard = none) (b:Nat) (hx:a.eval x = .pointer (some ⟨b,0,none⟩)) {cs:List Value} (hB:∀ w,S w → Box w b cs.toArray T) {fs:Array Field} (hu:Tryz.prog.underlying T = some (.struct fs)) {n:Nat} (hi:(Tryz.prog.info? T).map (·.size) = some n) (hl:cs.length = n):YieldsIf Tryz.prog ops S o (.agg cs.toArray) a:=by
  refine .inl ⟨by simp [Region.wanted,hg],fun w hS => ?_⟩;unfold execOp
  simp only [ho,hx,Instr.loadAt,Instr.sureAddr,Sem.run_bind,Sem.run_pure,Result.andThen_ok,run_loadVar_row w b T T cs.toArray (0,0) (.struct fs) (hB w hS) hu rfl (by rw [hi];simp [hl])]
end
theorem below_drew (w:World):Below w.heap.size w w.drew:=⟨rfl,rfl,rfl,Nat.le_refl _,fun _ _ => rfl⟩
end Go.Proofs.YtodedamnclhbnaaGreat
namespace Go.Proofs.YtodedamnclhbnaaGreat
open Go.RowKit F256
set_option maxHeartbeats 8000000 in
set_option maxRecDepth 20000 in
theorem eqRecsResult_is:EqV layRecsResult 10:=fun c1 c2 d h1 h2 w r1 r2 u1 u2 => by
  obtain ⟨ao1,cap1,rfl,g1,-⟩:=RecsResult_rd r1;obtain ⟨bao1,bcap1,rfl,q1,-⟩:=RecsResult_rd r2;clear r1 r2;have G1:Hid ((layRec.slice 58).rd w h1 d.recs [.slice ao1 d.recs.1 cap1]):=g1;have E1:Hid ((layRec.slice 58).rd w h2 d.recs [.slice bao1 d.recs.1 bcap1]):=q1;clear g1 q1
  go_enter Tryz.func10,Tryz.ntmps10
  go_wp2_with fail
  have T0:=two_newb w #[.int .i64 d.code,.slice ao1 d.recs.1 cap1] #[.int .i64 d.code,.slice bao1 d.recs.1 bcap1] 32 32;refine (eqRecS_is _ _ d.recs h1 h2 _ ((layRec.slice 58).rd_below G1.out T0.bel u1) ((layRec.slice 58).rd_below E1.out T0.bel u2) (Nat.le_trans u1 T0.bel.size) (Nat.le_trans u2 T0.bel.size)).mono ?_;rintro e w1 ⟨rfl,b1⟩;have T1:Two w w1 #[.int .i64 d.code,.slice ao1 d.recs.1 cap1] #[.int .i64 d.code,.slice bao1 d.recs.1 bcap1] 32 32:=T0.call b1;clear T0 b1;have B:Hid (Below w.heap.size w w1):=T1.bel;clear T1;go_wp2;go_ret;exact ⟨rfl,B.out⟩
end Go.Proofs.YtodedamnclhbnaaGreat
namespace Go.Proofs.YtodedamnclhbnaaGreat
open Go.RowKit F256
set_option maxHeartbeats 4000000 in
theorem markRecsResult_is:MkV layRecsResult cvRecsResultD mkvRecsResultD 13:=fun cs d L j w h nd hj => by
  obtain ⟨ao1,cap1,K1,rfl,hLL,o1,k0⟩:=RecsResult_own h;clear h;have hLM:=hLL.symm;subst hLM;unfold cvRecsResultD at hj ⊢;have Z1:=(layRec.slice 58).own_lt o1;have bz:Below w.heap.size w (w.alloc (.cells #[.int .i64 d.code,.slice ao1 d.recs.1 cap1] 32)):=(Below.refl _ _).alloc (Nat.le_refl _) _;have B0:Hid (Box (w.alloc (.cells #[.int .i64 d.code,.slice ao1 d.recs.1 cap1] 32)) w.heap.size #[.int .i64 d.code,.slice ao1 d.recs.1 cap1] 32):=box_new _ _ _;have CH0:Hid (ChgL (K1) w (w.alloc (.cells #[.int .i64 d.code,.slice ao1 d.recs.1 cap1] 32))):=ChgL.of_below bz;have O0_1:Hid ((layRec.slice 58).own (w.alloc (.cells #[.int .i64 d.code,.slice ao1 d.recs.1 cap1] 32)) d.recs [.slice ao1 d.recs.1 cap1] K1):=(layRec.slice 58).own_kept o1 (fun b hb => bz.block b (Z1 b hb));clear bz o1
  go_enter Tryz.func13,Tryz.ntmps13
  go_wp2_with fail
  refine (markRecS_is _ d.recs K1 (j) _ O0_1.out nd (by omega)).mono ?_;rintro e w1 ⟨rfl,p1,q1⟩;have O1_1:Hid ((layRec.slice 58).own w1 ((mkSl cRecD mkRecD) (j) d.recs) [.slice ao1 d.recs.1 cap1] K1):=p1;have B1:Hid (Box w1 w.heap.size #[.int .i64 d.code,.slice ao1 d.recs.1 cap1] 32):=(q1.block w.heap.size B0.out.lt (fun hb => by have:=Z1 _ hb;omega)).trans B0.out;have CH1:Hid (ChgL (K1) w w1):=CH0.out.sub q1 (fun b hb => hb);clear p1 q1;go_wp2;go_ret;exact ⟨ret_eq (by omega),RecsResult_mk (mkvRecsResultD j d) O1_1.out k0,CH1.out⟩
end Go.Proofs.YtodedamnclhbnaaGreat
namespace Go.Proofs.YtodedamnclhbnaaGreat
open Go.RowKit F256
set_option maxHeartbeats 4000000 in
theorem heldRecsResult_is:HdV layRecsResult cvRecsResultD mkvRecsResultD 14:=fun cs d hi j w h hhi hj => by
  obtain ⟨ao1,cap1,rfl,r1,-⟩:=RecsResult_rd h;clear h;unfold cvRecsResultD at hj ⊢;have R1:Hid ((layRec.slice 58).rd w hi ((mkSl cRecD mkRecD) (j) d.recs) [.slice ao1 d.recs.1 cap1]):=r1;clear r1
  change Calls Tryz.prog 14 #[.agg #[.int .i64 d.code,.slice ao1 d.recs.1 cap1],.int .i64 j] w _
  go_enter Tryz.func14,Tryz.ntmps14
  go_wp2_with fail
  have T0:=one_new w #[.int .i64 d.code,.slice ao1 d.recs.1 cap1] 32;refine (heldRecS_is _ d.recs hi (j) _ ((layRec.slice 58).rd_below R1.out T0.bel hhi) (Nat.le_trans hhi T0.bel.size) (by omega)).mono ?_;rintro e w1 ⟨rfl,b1⟩;have T1:One w w1 #[.int .i64 d.code,.slice ao1 d.recs.1 cap1] 32:=T0.call b1
  have hz1:¬ (((j + (cSl cRecD) d.recs:Nat):Int) < 0):=by omega
  have HB:Hid (Below w.heap.size w w1):=T1.bel;clear b1 T1;go_wp2;go_ret;exact ⟨ret_eq (by omega),HB.out⟩
end Go.Proofs.YtodedamnclhbnaaGreat