import Derived.Test.YtgffljllfenhkaaDoorRinW
import Derived.Test.YtgffljllfenhkaaDoorTie
import Derived.Test.YtgffljllfenhkaaDoorCards
import Derived.SevenTiedAt
namespace Go.Proofs.YtgffljllfenhkaaDoor
open Go

/-- The tied card of Unpacks. -/
theorem unpacks_card_holds : Rows.UnpacksCardSaid :=
  Claim7.holds_tied_plain_at .later [] [.data, .data, .data, .data, .data, .data, .data, .data, .data] true Rows.unpacksCard.stood.harness Rows.unpacksCard.stood.looks
    unpacks_holds (fun _ h => by cases h) (by kernel_rfl) (fun _ h => by cases h) unpacks_row_tie rfl ⟨rfl, rfl⟩ (by kernel_rfl) rfl
    (fun f fn hf hfn => by
      obtain rfl : f = 3 := Option.some.inj ((show Tryd.prog.funcNamed Rows.unpacksRow.func = some 3 by kernel_rfl).symm.trans hf) |>.symm
      obtain rfl : fn = Tryd.f3 := (Option.some.inj (Tryd.func3.symm.trans hfn)).symm
      exact ⟨by kernel_rfl, fun j t ht => by
        rw [Tryd.params3] at ht
        have hm : t ∈ [9] := by simpa using Array.mem_of_getElem? ht
        have hall : ([9].all fun u => !Tryd.prog.wantsStandIn u) = true := by kernel_rfl
        exact (show Tryd.prog.wantsStandIn t = false by simpa using List.all_eq_true.1 hall t hm)⟩)
    (by kernel_rfl)
#print axioms unpacks_card_holds
end Go.Proofs.YtgffljllfenhkaaDoor
