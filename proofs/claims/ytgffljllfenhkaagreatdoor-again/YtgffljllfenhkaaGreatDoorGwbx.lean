import Derived.ProofKit
import Derived.LaidMore
import Derived.OpenShut
import Derived.MakeChecks
import Derived.Stop.Joined
import Derived.JoinedOf
import Derived.Test.YtgffljllfenhkaaGreatDoorGwaa
import Derived.Test.YtgffljllfenhkaaGreatDoorRows
namespace Go.Proofs.YtgffljllfenhkaaGreatDoor
section
open Go.ChangeShapes Go.WideShapes Go.ChangeAt Go.WideMaps Go.WideElems Go.RowKit
theorem az_inst:Tryz.f6.isInstance Tryz.prog Rows.againRow.origin Rows.againRow.targs:=of_decide_eq_true (by kernel_rfl)
theorem az_wrap:Tryz.f6.isWrapper Tryz.prog Rows.againRow.wrapper Rows.againRow.mainSum:=by unfold Func.isWrapper;first | (rw[if_pos (by decide +kernel)];kernel_rfl) | (rw[if_neg (by decide +kernel)];exact⟨rfl,rfl⟩)
end
section
open Go.ChangeShapes Go.WideShapes Go.ChangeAt Go.WideMaps Go.WideElems Go.RowKit
def az_laid:List (String×DataW Unit):=Rows.againRow.laid
theorem az_said (hn : Tryz.prog.funcNamed Rows.againRow.func = some 6) (hc : joinedFacts Tryz.prog 6 Tryz.f6 Rows.againSpec Rows.againRow = true)
   (hi : Tryz.f6.isInstance Tryz.prog Rows.againRow.origin Rows.againRow.targs) (hw : Tryz.f6.isWrapper Tryz.prog Rows.againRow.wrapper Rows.againRow.mainSum)
   (h : ∀ (os : Os) (_ : os.Started) (H : Type) (enc : TypeId × Value -> H),
    ReturnsInHanded {} Tryz.checked os 6 .any (fun w args => (Rows.againSpec.pre enc Tryz.prog Tryz.f6 [] false w args /\ laidMetH Tryz.prog az_laid w) /\ sizedMet enc Tryz.prog Tryz.f6 (OpenSpec.ofChange Rows.againSpec) false w args)
      (Rows.againSpec.post enc Tryz.prog Tryz.f6 false true false false)) : Rows.AgainSaid :=
  OpenClaim.holds_of_wide 6 Tryz.f6 rfl rfl rfl rfl rfl rfl rfl ⟨rfl, rfl, rfl, rfl, rfl⟩ rfl rfl rfl rfl rfl hn Tryz.func6 hc hi hw (fun os started H enc _ => h os started H enc)
end
end Go.Proofs.YtgffljllfenhkaaGreatDoor
