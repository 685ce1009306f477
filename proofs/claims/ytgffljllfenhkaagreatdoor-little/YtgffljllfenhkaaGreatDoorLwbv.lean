import Derived.ProofKit
import Derived.LaidMore
import Derived.OpenShut
import Derived.MakeChecks
import Derived.Stop.Joined
import Derived.JoinedOf
import Derived.Test.YtgffljllfenhkaaGreatDoorLwaa
import Derived.Test.YtgffljllfenhkaaGreatDoorRows
section
namespace Go.Proofs.YtgffljllfenhkaaGreatDoor
open Go.ChangeShapes Go.WideShapes Go.ChangeAt Go.WideMaps Go.WideElems Go.RowKit
theorem lz_facts:joinedFacts Tryz.prog 7 Tryz.f7 Rows.littleSpec Rows.littleRow=true:=by kernel_rfl
end Go.Proofs.YtgffljllfenhkaaGreatDoor
end
