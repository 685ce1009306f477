import Derived.ProofKit
import Derived.LaidMore
import Derived.OpenShut
import Derived.MakeChecks
import Derived.Stop.Joined
import Derived.JoinedOf
import Derived.Test.YtgffljllfenhkaaGreatDoorHwaa
import Derived.Test.YtgffljllfenhkaaGreatDoorRows
section
namespace Go.Proofs.YtgffljllfenhkaaGreatDoor
open Go.ChangeShapes Go.WideShapes Go.ChangeAt Go.WideMaps Go.WideElems Go.RowKit
theorem hz_inst:Tryz.f8.isInstance Tryz.prog Rows.harmlessRow.origin Rows.harmlessRow.targs:=of_decide_eq_true (by kernel_rfl)
theorem hz_wrap:Tryz.f8.isWrapper Tryz.prog Rows.harmlessRow.wrapper Rows.harmlessRow.mainSum:=by unfold Func.isWrapper;first | (rw [if_pos (by decide +kernel)];kernel_rfl) | (rw [if_neg (by decide +kernel)];exact ⟨rfl,rfl⟩)
end Go.Proofs.YtgffljllfenhkaaGreatDoor
end
section
namespace Go.Proofs.YtgffljllfenhkaaGreatDoor
open Go.ChangeShapes Go.WideShapes Go.ChangeAt Go.WideMaps Go.WideElems Go.RowKit
def hz_laid:List (String×DataW Unit):=Rows.harmlessRow.laid
theorem hz_said (hn : Tryz.prog.funcNamed Rows.harmlessRow.func = some 8) (hc : joinedFacts Tryz.prog 8 Tryz.f8 Rows.harmlessSpec Rows.harmlessRow = true)
   (hi : Tryz.f8.isInstance Tryz.prog Rows.harmlessRow.origin Rows.harmlessRow.targs) (hw : Tryz.f8.isWrapper Tryz.prog Rows.harmlessRow.wrapper Rows.harmlessRow.mainSum)
   (h : ∀ (os : Os) (_ : os.Started) (H : Type) (enc : TypeId × Value → H),
    ReturnsInHanded {} Tryz.checked os 8 .any (fun w args => (Rows.harmlessSpec.pre enc Tryz.prog Tryz.f8 [] false w args ∧ laidMetH Tryz.prog hz_laid w) ∧ sizedMet enc Tryz.prog Tryz.f8 (OpenSpec.ofChange Rows.harmlessSpec) false w args)
      (Rows.harmlessSpec.post enc Tryz.prog Tryz.f8 false true false false)) : Rows.HarmlessSaid :=
  OpenClaim.holds_of_wide 8 Tryz.f8 rfl rfl rfl rfl rfl rfl rfl ⟨rfl, rfl, rfl, rfl, rfl⟩ rfl rfl rfl rfl rfl hn Tryz.func8 hc hi hw (fun os started H enc _ => h os started H enc)
end Go.Proofs.YtgffljllfenhkaaGreatDoor
end
