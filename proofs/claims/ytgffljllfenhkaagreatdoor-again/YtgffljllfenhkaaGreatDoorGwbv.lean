import Derived.ProofKit
import Derived.LaidMore
import Derived.OpenShut
import Derived.MakeChecks
import Derived.Stop.Joined
import Derived.JoinedOf
import Derived.Test.YtgffljllfenhkaaGreatDoorGwaa
import Derived.Test.YtgffljllfenhkaaGreatDoorRows
namespace Go.Proofs.YtgffljllfenhkaaGreatDoor
section
open Go.ChangeShapes Go.WideShapes Go.ChangeAt Go.WideMaps Go.WideElems Go.RowKit
theorem az_named:Tryz.prog.funcNamed Rows.againRow.func=some 6:=by kernel_rfl
end
end Go.Proofs.YtgffljllfenhkaaGreatDoor
