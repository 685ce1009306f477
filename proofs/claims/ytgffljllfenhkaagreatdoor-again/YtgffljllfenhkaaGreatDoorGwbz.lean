import Derived.SevenTiedAt
import Derived.Test.YtgffljllfenhkaaGreatDoorGwby
import Derived.Test.YtgffljllfenhkaaGreatDoorCards
import Derived.Test.YtgffljllfenhkaaGreatDoorTie
namespace Go.Proofs.YtgffljllfenhkaaGreatDoor
section
open Go
theorem again_card_holds:Rows.AgainCardSaid:=
 Claim7.holds_tied_plain_at .later [] [.data,.data,.widerDeep,.widerDeep,.data,.data,.data,.data,.data,.sentinel,.sentinel,.data,.data,.data,.data,.data,.pinned,.pinned] true Rows.againCard.stood.harness Rows.againCard.stood.looks
  again_said (fun _ h=>by cases h) (by kernel_rfl) (fun _ h=>by cases h) again_row_tie rfl ⟨rfl,rfl⟩ (by kernel_rfl) rfl
  (fun f fn hf hfn=>by
   obtain rfl:f=6:=Option.some.inj ((show Tryz.prog.funcNamed Rows.againRow.func=some 6 by kernel_rfl).symm.trans hf) |>.symm
   obtain rfl:fn=Tryz.f6:=(Option.some.inj (Tryz.func6.symm.trans hfn)).symm
   exact⟨by kernel_rfl,fun j t ht=>by
    rw[Tryz.params6] at ht;have hm:t ∈ [9]:=by simpa using Array.mem_of_getElem? ht
    have hall:([9].all fun u=>!Tryz.prog.wantsStandIn u)=true:=by kernel_rfl
    exact (show Tryz.prog.wantsStandIn t=false by simpa using List.all_eq_true.1 hall t hm)⟩)
  (by kernel_rfl)
end
end Go.Proofs.YtgffljllfenhkaaGreatDoor
