/- What the statement on Analyses asks of the program's text, piece by piece: one kernel run for all of it takes more than 10 GB. -/
import Derived.Test.YtcmgclckknpecaaGreatDoorRows
import Derived.WalkKit
import Derived.ProofKit
import Derived.LaidMore
import Derived.OpenShut
import Derived.ShutString
import Derived.Stop.Joined
namespace Go.Proofs.YtcmgclckknpecaaGreatDoor.analyses
set_option maxHeartbeats 100000000 in
theorem closed : joinedFacts Tryz.prog 3 Tryz.f3 Rows.analysesSpec Rows.analysesRow = true := by
  rw [joinedFacts]
  simp only [Bool.and_eq_true]
  and_intros
  all_goals as_aux_lemma => kernel_rfl
end Go.Proofs.YtcmgclckknpecaaGreatDoor.analyses
