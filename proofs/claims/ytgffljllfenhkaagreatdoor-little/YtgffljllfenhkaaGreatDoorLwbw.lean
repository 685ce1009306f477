import Derived.ProofKit
import Derived.LaidMore
import Derived.OpenShut
import Derived.MakeChecks
import Derived.Stop.Joined
import Derived.JoinedOf
import Derived.Test.YtgffljllfenhkaaGreatDoorLwaa
import Derived.Test.YtgffljllfenhkaaGreatDoorRows
section
namespace Go.Proofs.YtgffljllfenhkaaGreatDoor
open Go.ChangeShapes Go.WideShapes Go.ChangeAt Go.WideMaps Go.WideElems Go.RowKit
theorem lz_inst:Tryz.f7.isInstance Tryz.prog Rows.littleRow.origin Rows.littleRow.targs:=of_decide_eq_true (by kernel_rfl)
theorem lz_wrap:Tryz.f7.isWrapper Tryz.prog Rows.littleRow.wrapper Rows.littleRow.mainSum:=by unfold Func.isWrapper;first | (rw [if_pos (by decide +kernel)];kernel_rfl) | (rw [if_neg (by decide +kernel)];exact ⟨rfl,rfl⟩)
end Go.Proofs.YtgffljllfenhkaaGreatDoor
end
section
namespace Go.Proofs.YtgffljllfenhkaaGreatDoor
open Go.ChangeShapes Go.WideShapes Go.ChangeAt Go.WideMaps Go.WideElems Go.RowKit
def lz_laid:List (String×DataW Unit):=Rows.littleRow.laid
theorem lz_said (hn : Tryz.prog.funcNamed Rows.littleRow.func = some 7) (hc : joinedFacts Tryz.prog 7 Tryz.f7 Rows.littleSpec Rows.littleRow = true)
   (hi : Tryz.f7.isInstance Tryz.prog Rows.littleRow.origin Rows.littleRow.targs) (hw : Tryz.f7.isWrapper Tryz.prog Rows.littleRow.wrapper Rows.littleRow.mainSum)
   (h : ∀ (os : Os) (_ : os.Started) (H : Type) (enc : TypeId × Value → H),
    ReturnsInHanded {} Tryz.checked os 7 .any (fun w args => (Rows.littleSpec.pre enc Tryz.prog Tryz.f7 [] false w args ∧ laidMetH Tryz.prog lz_laid w) ∧ sizedMet enc Tryz.prog Tryz.f7 (OpenSpec.ofChange Rows.littleSpec) false w args)
      (Rows.littleSpec.post enc Tryz.prog Tryz.f7 false true false false)) : Rows.LittleSaid :=
  OpenClaim.holds_of_wide 7 Tryz.f7 rfl rfl rfl rfl rfl rfl rfl ⟨rfl, rfl, rfl, rfl, rfl⟩ rfl rfl rfl rfl rfl hn Tryz.func7 hc hi hw (fun os started H enc _ => h os started H enc)
end Go.Proofs.YtgffljllfenhkaaGreatDoor
end
