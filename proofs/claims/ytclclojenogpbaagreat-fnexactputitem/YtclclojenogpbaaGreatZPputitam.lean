/- NewestItem of both sides. -/
import Derived.BigRegion
import Derived.Test.YtclclojenogpbaaGreatZPputital
set_option linter.unusedVariables false
set_option linter.unusedSimpArgs false
set_option maxHeartbeats 16000000
namespace Go.Proofs.YtclclojenogpbaaGreat
open Go.RowKit F256
theorem zmZ {s:Nat→Int} {r:RecD} (h:RecAns s r 0):zbn s r:=by
 rcases h with ⟨_,h⟩ | ⟨_,h⟩
 ·cases h
 rcases h with ⟨_,h⟩ | ⟨_,h⟩
 ·cases h
 rcases h with ⟨_,h⟩ | ⟨_,h⟩
 ·cases h
 rcases h with ⟨_,h⟩ | ⟨_,h⟩
 ·cases h
 rcases h with ⟨_,h⟩ | ⟨h,_⟩
 ·cases h
 ·exact h
theorem zl4 {d:WorldD} (hok:OkWorld d) {i:Nat} (hi:i<lenT d.tapes.2 2):zbn d.shape (recT d.tapes.2 2 i):=by
 have h2:d.tapes.1=2:=hok.form.2.2;have key:∀ t j,t<2→j<(d.tapes.2 t).recs.1→zbn d.shape ((d.tapes.2 t).recs.2 j):=fun t j ht hj=>zmZ (hok.recs t (by omega) j hj)
 have e1:lenT d.tapes.2 1=(d.tapes.2 0).recs.1:=by simp [lenT]
 have e2:lenT d.tapes.2 2=(d.tapes.2 0).recs.1+(d.tapes.2 1).recs.1:=by simp [lenT]
 rw [e2] at hi
 show zbn d.shape (cat2 (recT d.tapes.2 1) (lenT d.tapes.2 1) (d.tapes.2 1).recs.2 i)
 unfold cat2
 split
 ·rename_i c
  rw [e1] at c
  show zbn d.shape (cat2 (recT d.tapes.2 0) (lenT d.tapes.2 0) (d.tapes.2 0).recs.2 i)
  unfold cat2;rw [if_neg (by show ¬ i<0;omega)];exact key 0 (i-0) (by omega) (by omega)
 ·rename_i c
  rw [e1] at c ⊢;exact key 1 _ (by omega) (by omega)
theorem zm0 {s:Nat→Int} {r:RecD} (h:zbn s r) (hk:r.kind=1):r.length<0↔r.length=-1:=by
 rcases h with ⟨_,h⟩ | ⟨h,_⟩ | ⟨h,_⟩ | ⟨h,_⟩
 ·rcases h with ⟨h,_⟩ | ⟨_,h,_⟩<;>omega
 ·omega
 ·omega
 ·omega
theorem zno {d:WorldD} (hok:OkWorld d) {l:List Nat} (hCt:Cnt (recT d.tapes.2 2) (lenT d.tapes.2 2) l) {i:Nat} (hi:i<l.length):zbn d.shape (recT d.tapes.2 2 (l.getD i 0)):=
 zl4 hok ((hCt.mem _).1 (by rw [zdY hi];exact List.getElem_mem hi)).1
end Go.Proofs.YtclclojenogpbaaGreat
