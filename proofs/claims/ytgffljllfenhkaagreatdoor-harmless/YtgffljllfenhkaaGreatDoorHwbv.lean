import Derived.ProofKit
import Derived.LaidMore
import Derived.OpenShut
import Derived.MakeChecks
import Derived.Stop.Joined
import Derived.JoinedOf
import Derived.Test.YtgffljllfenhkaaGreatDoorHwaa
import Derived.Test.YtgffljllfenhkaaGreatDoorRows
section
namespace Go.Proofs.YtgffljllfenhkaaGreatDoor
open Go.ChangeShapes Go.WideShapes Go.ChangeAt Go.WideMaps Go.WideElems Go.RowKit
theorem hz_facts:joinedFacts Tryz.prog 8 Tryz.f8 Rows.harmlessSpec Rows.harmlessRow=true:=by kernel_rfl
end Go.Proofs.YtgffljllfenhkaaGreatDoor
end
