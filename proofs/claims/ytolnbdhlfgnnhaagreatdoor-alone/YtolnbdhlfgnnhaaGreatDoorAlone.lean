/- The tied card of Alone. -/
import Derived.Test.YtolnbdhlfgnnhaaGreatDoorAlr
import Derived.Test.YtolnbdhlfgnnhaaGreatDoorCards
import Derived.Test.YtolnbdhlfgnnhaaGreatDoorTie
import Derived.SevenTiedAt
namespace Go.Proofs.YtolnbdhlfgnnhaaGreatDoor
theorem alone_card : Rows.AloneCardSaid := by
  refine ⟨?_, (fun D hD => by cases hD), alone_row_tie, (fun h => by cases h), (by kernel_rfl)⟩
  exact Claim7.tied_new_at .later [.data] true (Claim7.new_of_sixth alone.over (true, "29d7e06fdf2c02fe37d0ce14141840480749e37d589e43430d5bdfc5454c0eb8") false rfl ⟨rfl, rfl⟩ (by kernel_rfl) (by simp [Claim7.isSixth])
    (fun f fn hf hfn => by
      obtain rfl : f = 5 := Option.some.inj ((show Tryz.prog.funcNamed "seek/seeklaw.Alone" = some 5 by kernel_rfl).symm.trans hf) |>.symm
      obtain rfl : fn = Tryz.f5 := (Option.some.inj (Tryz.func5.symm.trans hfn)).symm
      exact ⟨by kernel_rfl, fun j t ht => by
        rw [Tryz.params5] at ht
        have hm : t ∈ [9, 4] := by simpa using Array.mem_of_getElem? ht
        have hall : ([9, 4].all fun u => !Tryz.prog.wantsStandIn u) = true := by kernel_rfl
        exact (show Tryz.prog.wantsStandIn t = false by simpa using List.all_eq_true.1 hall t hm)⟩)) (by kernel_rfl)
#print axioms alone_card
end Go.Proofs.YtolnbdhlfgnnhaaGreatDoor
