/- Walks of the draw of a column. What is drawn is not told, only its bounds. -/
import Derived.Test.YtdnankopblkblabWDrawR
import Derived.Test.YtdnankopblkblabWBld
import Derived.Test.YtdnankopblkblabWBytess
import Derived.Deep.DeepCutAuto
namespace Go.Proofs.Ytdnankopblkblab
open Go.RowKit F256
set_option linter.unusedVariables false
set_option linter.unusedSimpArgs false

theorem Src.overC {wx w4 : World} {B bs t n : Nat} {v : Value} {f : Nat → Nat} (h : Src wx bs t v n f) (b : Below B wx w4) (hB : bs < B) : Src w4 bs t v n f := ⟨h.1.below b hB, h.2.1.below b (by omega), h.2.2⟩
theorem OwnE.chgC {w w2 : World} {bs lo : Nat} {v : Value} {R : Nat} {n : Nat → Nat} {M : Mat} {g cap : Nat} {e : Nat → Value} (h : OwnE w lo w.heap.size v R n M g cap e) (c : Chg bs (bs + 1) w w2) (hb : bs < lo) : OwnE w2 lo w2.heap.size v R n M g cap e :=
  (h.keep (w2 := w2) fun b h1 h2 => c.block b h2 (.inr (by omega))).weaken c.size

/-- lists that were drawn -/
def L3P (w : World) (bs t : Nat) (v : Value) (n : Nat) (f : Nat → Nat) (a : Int) (e : Ending) (w' : World) : Prop :=
  ∃ g cap N ff ee t', e = .returned (.slice (some ⟨g, 0, none⟩) a.toNat cap) ∧ OwnE w' w.heap.size w'.heap.size (.slice (some ⟨g, 0, none⟩) a.toNat cap) a.toNat (fun _ => N) ff g cap ee ∧ Byt ff ∧ N ≤ 6 ∧ t' ≤ t + 200 ∧ Src w' bs t' v n f ∧ Chg bs (bs + 1) w w'
end Go.Proofs.Ytdnankopblkblab
