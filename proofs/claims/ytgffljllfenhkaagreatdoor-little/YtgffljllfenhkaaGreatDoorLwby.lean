import Derived.SevenTiedAt
import Derived.Test.YtgffljllfenhkaaGreatDoorLwbx
import Derived.Test.YtgffljllfenhkaaGreatDoorCards
import Derived.Test.YtgffljllfenhkaaGreatDoorTie
section
namespace Go.Proofs.YtgffljllfenhkaaGreatDoor
open Go
theorem little_card_holds:Rows.LittleCardSaid:=
 Claim7.holds_tied_plain_at .later [] [.data,.data,.widerDeep,.widerDeep,.data,.data,.data,.data,.data,.sentinel,.sentinel,.data,.data,.data,.data,.data,.pinned,.pinned] true Rows.littleCard.stood.harness Rows.littleCard.stood.looks
  little_said (fun _ h=>by cases h) (by kernel_rfl) (fun _ h=>by cases h) little_row_tie rfl ⟨rfl,rfl⟩ (by kernel_rfl) rfl
  (fun f fn hf hfn=>by
   obtain rfl:f=7:=Option.some.inj ((show Tryz.prog.funcNamed Rows.littleRow.func=some 7 by kernel_rfl).symm.trans hf) |>.symm
   obtain rfl:fn=Tryz.f7:=(Option.some.inj (Tryz.func7.symm.trans hfn)).symm
   exact ⟨by kernel_rfl,fun j t ht=>by
    rw [Tryz.params7] at ht
    have hm:t ∈ [9,3,3,3,3]:=by simpa using Array.mem_of_getElem? ht
    have hall:([9,3,3,3,3].all fun u=>!Tryz.prog.wantsStandIn u)=true:=by kernel_rfl
    exact (show Tryz.prog.wantsStandIn t=false by simpa using List.all_eq_true.1 hall t hm)⟩)
  (by kernel_rfl)
end Go.Proofs.YtgffljllfenhkaaGreatDoor
end
