/-
  DERIVED. GIVEN WITH THE SEED: THE CARDS: each row of YtgffljllfenhkaaDoorRows.lean that lists a variable, with what it lists TIED to the program's text (the seventh form; the later family's looks); each row that meets fmt, with fmt's text TOLD by the authors' own Lean function (tested against real Go, not proved from fmt's source: count such statements apart). THE CARD IS WHAT COUNTS. Prove the row's statement (the work); the ties are given (YtgffljllfenhkaaDoorTie.lean); close each card by the builder's one call (the guide's Derived/Test/ToyasCard.lean, 'card_holds'). Laid BY PROGRAM, IN A SANDBOX (cutbox-door.mjs). By AI agents, Wed Nov 11 2026. No macro, syntax, notation, axiom, sorry.
-/
import Derived.Test.YtgffljllfenhkaaDoorRows
import GoSem.ClaimSeven
namespace Go.Proofs.YtgffljllfenhkaaDoor
namespace Rows

/-- THE TIED CARD OF 'rinselaw.Unpacks'. -/
def unpacksCard : Claim7 := { stood := { row := unpacksRow, standIns := [], harness := (true, "64ef3e3a26b9034a77f74a64df289d87dde46e633cfe64e17066d7564cfb8b1c"), looks := true }, kinds := [], alts := [], laidByText := true, laidKinds := [.data, .data, .data, .data, .data, .data, .data, .data, .data], laidTests := true, laidLooks := .later }
def UnpacksCardSaid : Prop := Claim7.holds Tryd.pinned (.plain (OpenSpec.ofChange unpacksSpec)) unpacksCard

/-- THE SECOND FORM's CARD OF 'rinselaw.Unpacks'. -/
def unpacksUptoCard : Claim7 := { stood := { row := unpacksUptoRow, standIns := [], harness := (true, "64ef3e3a26b9034a77f74a64df289d87dde46e633cfe64e17066d7564cfb8b1c"), looks := true }, kinds := [], alts := [], laidByText := true, laidKinds := [.data, .data, .data, .data, .data, .data, .data, .data, .data], laidTests := true, laidLooks := .later }
def UnpacksUptoCardSaid : Prop := Claim7.holds Tryd.pinned (.plain (OpenSpec.upto unpacksSpec)) unpacksUptoCard
end Rows
end Go.Proofs.YtgffljllfenhkaaDoor
