/- Walk of the specification's RowWeights. -/
import Derived.Test.YtclclojenogpbaaGreatZPdropiam
set_option linter.unusedVariables false
set_option linter.unusedSimpArgs false
set_option maxHeartbeats 16000000
namespace Go.Proofs.YtclclojenogpbaaGreat
open Go.RowKit F256
end Go.Proofs.YtclclojenogpbaaGreat
namespace Go.Proofs.YtclclojenogpbaaGreat
open F256
end Go.Proofs.YtclclojenogpbaaGreat
namespace Go.Proofs.YtclclojenogpbaaGreat
open Go.RowKit F256
end Go.Proofs.YtclclojenogpbaaGreat
namespace Go.Proofs.YtclclojenogpbaaGreat
end Go.Proofs.YtclclojenogpbaaGreat
namespace Go.Proofs.YtclclojenogpbaaGreat
open Go.RowKit F256
end Go.Proofs.YtclclojenogpbaaGreat
namespace Go.Proofs.YtclclojenogpbaaGreat
open F256
end Go.Proofs.YtclclojenogpbaaGreat
namespace Go.Proofs.YtclclojenogpbaaGreat
open Go.RowKit F256
theorem picked {D R:Nat} {n:Nat→Nat} (hc:D≤cntN n R) (h4:∀ i,i<R→n i=0∨n i=4):(∀ t,t<D→nthN n R t<R∧n (nthN n R t)=4)∧∀ t,t+1<D→nthN n R t<nthN n R (t+1):=by
 refine ⟨fun t ht=>?_,fun t ht=>zkT (by omega)⟩;have q:=ze5 (n:=n) (R:=R) (k:=t) (by omega);refine ⟨q.1,?_⟩
 rcases h4 _ q.1 with e0 | e0
 ·exact absurd e0 q.2.1
 ·exact e0
end Go.Proofs.YtclclojenogpbaaGreat
