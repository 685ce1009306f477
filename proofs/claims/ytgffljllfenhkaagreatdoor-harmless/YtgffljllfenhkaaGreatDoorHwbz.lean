import Derived.SevenTiedAt
import Derived.Test.YtgffljllfenhkaaGreatDoorHwbx
import Derived.Test.YtgffljllfenhkaaGreatDoorHwby
import Derived.Test.YtgffljllfenhkaaGreatDoorCards
import Derived.Test.YtgffljllfenhkaaGreatDoorTie
section
namespace Go.Proofs.YtgffljllfenhkaaGreatDoor
open Go
theorem harmless_said:Rows.HarmlessSaid:=harmless_holds (fun f y h=>rinseR_nz f _ _ y h)
theorem harmless_card_holds:Rows.HarmlessCardSaid:=
 Claim7.holds_tied_plain_at .later [] [.data,.data,.widerDeep,.widerDeep,.data,.data,.data,.data,.data,.sentinel,.sentinel,.data,.data,.data,.data,.data,.pinned,.pinned] true Rows.harmlessCard.stood.harness Rows.harmlessCard.stood.looks
  harmless_said (fun _ h=>by cases h) (by kernel_rfl) (fun _ h=>by cases h) harmless_row_tie rfl ⟨rfl,rfl⟩ (by kernel_rfl) rfl
  (fun f fn hf hfn=>by
   obtain rfl:f=8:=Option.some.inj ((show Tryz.prog.funcNamed Rows.harmlessRow.func=some 8 by kernel_rfl).symm.trans hf) |>.symm
   obtain rfl:fn=Tryz.f8:=(Option.some.inj (Tryz.func8.symm.trans hfn)).symm
   exact ⟨by kernel_rfl,fun j t ht=>by
    rw [Tryz.params8] at ht
    have hm:t ∈ [9]:=by simpa using Array.mem_of_getElem? ht
    have hall:([9].all fun u=>!Tryz.prog.wantsStandIn u)=true:=by kernel_rfl
    exact (show Tryz.prog.wantsStandIn t=false by simpa using List.all_eq_true.1 hall t hm)⟩)
  (by kernel_rfl)
end Go.Proofs.YtgffljllfenhkaaGreatDoor
end
