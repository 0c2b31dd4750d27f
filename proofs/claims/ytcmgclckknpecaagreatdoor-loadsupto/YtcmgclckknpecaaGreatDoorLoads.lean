import Derived.Test.YtcmgclckknpecaaGreatDoorKbv
import Derived.Test.YtcmgclckknpecaaGreatDoorCards
import Derived.Test.YtcmgclckknpecaaGreatDoorTie
import Derived.SevenTiedAt
namespace Go.Proofs.YtcmgclckknpecaaGreatDoor
set_option maxHeartbeats 100000000 in
theorem loads_card:Rows.LoadsUptoCardSaid:=by
 refine ⟨?_,(fun D hD=>by cases hD),loadsUpto_row_tie,(fun h=>by cases h),(by as_aux_lemma=>kernel_rfl)⟩
 exact Claim7.tied_new_at .later [.data,.data,.data,.data,.sentinel,.sentinel,.data,.pinned,.pinned,.pinned,.pinned,.pinned,.pinned] true (Claim7.new_of_sixth loads.over (true,"a166f52cb560712c154543ad5317f07111c69d8e866c0e235ec38b91c734967b") true rfl ⟨rfl,rfl⟩ (by as_aux_lemma=>kernel_rfl) (by simp [Claim7.isSixth])
  (fun f fn hf hfn=>by
   obtain rfl:f=12:=Option.some.inj ((show Tryz.prog.funcNamed "seek/seeklaw.Loads"=some 12 by as_aux_lemma=>kernel_rfl).symm.trans hf) |>.symm
   obtain rfl:fn=Tryz.f12:=(Option.some.inj (Tryz.func12.symm.trans hfn)).symm
   exact ⟨by as_aux_lemma=>kernel_rfl,fun j t ht=>by
    rw [Tryz.params12] at ht
    have hm:t∈[43,9]:=by simpa using Array.mem_of_getElem? ht
    have hall:([43,9].all fun u=>!Tryz.prog.wantsStandIn u)=true:=by as_aux_lemma=>kernel_rfl
    exact (show Tryz.prog.wantsStandIn t=false by simpa using List.all_eq_true.1 hall t hm)⟩)) (by as_aux_lemma=>kernel_rfl)
#print axioms loads_card
end Go.Proofs.YtcmgclckknpecaaGreatDoor
