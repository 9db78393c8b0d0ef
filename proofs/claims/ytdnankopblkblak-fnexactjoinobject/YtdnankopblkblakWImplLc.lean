/- Rows that are made one by one. -/
import Derived.Test.YtdnankopblkblakWBld
namespace Go.Proofs.Ytdnankopblkblak
open Go.RowKit F256

/-- R rows, none of them there yet -/
theorem ownE_made {w : World} {lo hi g R : Nat} {f : Mat} {n : Nat → Nat} (h : w.ownsRow lo 33 1 (.slice (some ⟨g, 0, none⟩) R R) R (valsOf R fun _ => nilS)) (h1 : lo ≤ g) (h2 : g < hi) (hn : ∀ i, i < R → n i = 0) :
    OwnE w lo hi (.slice (some ⟨g, 0, none⟩) R R) R n f g R (fun _ => nilS) :=
  ⟨rfl, h1, h2, h, fun i hi => by rw [hn i hi]; exact own_nil _ _ _ _, ⟨fun i hi h => by simp [Value.ownBlock] at h, fun i j hi hj hne k hk => by simp [Value.ownBlock] at hk⟩⟩
/-- the rows' lengths behind k of them -/
def lenN (N k : Nat) : Nat → Nat := fun i => if i < k then N else 0
end Go.Proofs.Ytdnankopblkblak
