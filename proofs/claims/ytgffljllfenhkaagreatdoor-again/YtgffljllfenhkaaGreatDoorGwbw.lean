import Derived.ProofKit
import Derived.LaidMore
import Derived.OpenShut
import Derived.MakeChecks
import Derived.Stop.Joined
import Derived.JoinedOf
import Derived.Test.YtgffljllfenhkaaGreatDoorGwaa
import Derived.Test.YtgffljllfenhkaaGreatDoorRows
namespace Go.Proofs.YtgffljllfenhkaaGreatDoor
section
open Go.ChangeShapes Go.WideShapes Go.ChangeAt Go.WideMaps Go.WideElems Go.RowKit
theorem az_facts:joinedFacts Tryz.prog 6 Tryz.f6 Rows.againSpec Rows.againRow=true:=by kernel_rfl
end
end Go.Proofs.YtgffljllfenhkaaGreatDoor
