/-
  DERIVED. GIVEN WITH THE SEED: THE CARDS: each row of YtkmpmlofhfbfdaaDoorRows.lean that lists a variable, with what it lists TIED to the program's text (the seventh form; the later family's looks); each row that meets fmt, with fmt's text TOLD by the authors' own Lean function (tested against real Go, not proved from fmt's source: count such statements apart). THE CARD IS WHAT COUNTS. Prove the row's statement (the work); the ties are given (YtkmpmlofhfbfdaaDoorTie.lean); close each card by the builder's one call (the guide's Derived/Test/ToyasCard.lean, 'card_holds'). Laid BY PROGRAM, IN A SANDBOX (cutbox-door.mjs). By AI agents, Wed Nov 11 2026. No macro, syntax, notation, axiom, sorry.
-/
import Derived.Test.YtkmpmlofhfbfdaaDoorRows
import GoSem.ClaimSeven
namespace Go.Proofs.YtkmpmlofhfbfdaaDoor
namespace Rows

/-- THE TIED CARD OF 'rinselaw.Unpacks'. -/
def unpacksCard : Claim7 := { stood := { row := unpacksRow, standIns := [], harness := (true, "3cab70b09e46a3acda2a9bedf4ca685e07eacda7f0ed3c9b95b1f83872fa5f34"), looks := true }, kinds := [], alts := [], laidByText := true, laidKinds := [.data, .data, .data, .data, .data, .data, .data, .data, .data], laidTests := true, laidLooks := .later }
def UnpacksCardSaid : Prop := Claim7.holds Tryd.pinned (.plain (OpenSpec.ofChange unpacksSpec)) unpacksCard

/-- THE TIED CARD OF 'rinselaw.Cleans'. -/
def cleansCard : Claim7 := { stood := { row := cleansRow, standIns := [], harness := (true, "3cab70b09e46a3acda2a9bedf4ca685e07eacda7f0ed3c9b95b1f83872fa5f34"), looks := true }, kinds := [], alts := [], laidByText := true, laidKinds := [.data, .data, .data, .data], laidTests := true, laidLooks := .later }
def CleansCardSaid : Prop := Claim7.holds Tryd.pinned (.plain (OpenSpec.ofChange cleansSpec)) cleansCard

/-- THE SECOND FORM's CARD OF 'rinselaw.Unpacks'. -/
def unpacksUptoCard : Claim7 := { stood := { row := unpacksUptoRow, standIns := [], harness := (true, "3cab70b09e46a3acda2a9bedf4ca685e07eacda7f0ed3c9b95b1f83872fa5f34"), looks := true }, kinds := [], alts := [], laidByText := true, laidKinds := [.data, .data, .data, .data, .data, .data, .data, .data, .data], laidTests := true, laidLooks := .later }
def UnpacksUptoCardSaid : Prop := Claim7.holds Tryd.pinned (.plain (OpenSpec.upto unpacksSpec)) unpacksUptoCard

/-- THE SECOND FORM's CARD OF 'rinselaw.Cleans'. -/
def cleansUptoCard : Claim7 := { stood := { row := cleansUptoRow, standIns := [], harness := (true, "3cab70b09e46a3acda2a9bedf4ca685e07eacda7f0ed3c9b95b1f83872fa5f34"), looks := true }, kinds := [], alts := [], laidByText := true, laidKinds := [.data, .data, .data, .data], laidTests := true, laidLooks := .later }
def CleansUptoCardSaid : Prop := Claim7.holds Tryd.pinned (.plain (OpenSpec.upto cleansSpec)) cleansUptoCard
end Rows
end Go.Proofs.YtkmpmlofhfbfdaaDoor
