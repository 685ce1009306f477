/-
  DERIVED. GIVEN WITH THE SEED: THE CARDS: each row of YtgffljllfenhkaaGreatDoorRows.lean that lists a variable, with what it lists TIED to the program's text (the seventh form; the later family's looks); each row that meets fmt, with fmt's text TOLD by the authors' own Lean function (tested against real Go, not proved from fmt's source: count such statements apart). THE CARD IS WHAT COUNTS. Prove the row's statement (the work); the ties are given (YtgffljllfenhkaaGreatDoorTie.lean); close each card by the builder's one call (the guide's Derived/Test/ToyasCard.lean, 'card_holds'). Laid BY PROGRAM, IN A SANDBOX (cutbox-door.mjs). By AI agents, Wed Nov 11 2026. No macro, syntax, notation, axiom, sorry.
-/
import Derived.Test.YtgffljllfenhkaaGreatDoorRows
import GoSem.ClaimSeven
namespace Go.Proofs.YtgffljllfenhkaaGreatDoor
namespace Rows

/-- THE TIED CARD OF 'rinselaw.Checks'. -/
def checksCard : Claim7 := { stood := { row := checksRow, standIns := [], harness := (true, "e1e12b8e1a03bd62d728a89930f06137b6d5f43db26c19be689a988af48b3d93"), looks := true }, kinds := [], alts := [], laidByText := true, laidKinds := [.data, .data, .widerDeep, .widerDeep, .data, .data, .data, .data, .data, .data, .data, .data, .data, .sentinel, .sentinel, .data, .data, .data, .data, .data, .pinned, .pinned], laidTests := true, laidLooks := .later }
def ChecksCardSaid : Prop := Claim7.holds Tryz.pinned (.plain (OpenSpec.ofChange checksSpec)) checksCard

/-- THE TIED CARD OF 'rinselaw.Rinses'. -/
def rinsesCard : Claim7 := { stood := { row := rinsesRow, standIns := [], harness := (true, "e1e12b8e1a03bd62d728a89930f06137b6d5f43db26c19be689a988af48b3d93"), looks := true }, kinds := [], alts := [], laidByText := true, laidKinds := [.data, .data, .widerDeep, .widerDeep, .data, .data, .data, .data, .data, .data, .data, .data, .data, .sentinel, .sentinel, .data, .data, .data, .data, .data, .pinned, .pinned], laidTests := true, laidLooks := .later }
def RinsesCardSaid : Prop := Claim7.holds Tryz.pinned (.plain (OpenSpec.ofChange rinsesSpec)) rinsesCard

/-- THE TIED CARD OF 'rinselaw.Cleans'. -/
def cleansCard : Claim7 := { stood := { row := cleansRow, standIns := [], harness := (true, "e1e12b8e1a03bd62d728a89930f06137b6d5f43db26c19be689a988af48b3d93"), looks := true }, kinds := [], alts := [], laidByText := true, laidKinds := [.data, .data, .widerDeep, .widerDeep, .data, .data, .data, .data, .data, .data, .data, .data, .data, .sentinel, .sentinel, .data, .data, .data, .data, .data, .pinned, .pinned], laidTests := true, laidLooks := .later }
def CleansCardSaid : Prop := Claim7.holds Tryz.pinned (.plain (OpenSpec.ofChange cleansSpec)) cleansCard

/-- THE TIED CARD OF 'rinselaw.Again'. -/
def againCard : Claim7 := { stood := { row := againRow, standIns := [], harness := (true, "e1e12b8e1a03bd62d728a89930f06137b6d5f43db26c19be689a988af48b3d93"), looks := true }, kinds := [], alts := [], laidByText := true, laidKinds := [.data, .data, .widerDeep, .widerDeep, .data, .data, .data, .data, .data, .sentinel, .sentinel, .data, .data, .data, .data, .data, .pinned, .pinned], laidTests := true, laidLooks := .later }
def AgainCardSaid : Prop := Claim7.holds Tryz.pinned (.plain (OpenSpec.ofChange againSpec)) againCard

/-- THE TIED CARD OF 'rinselaw.Little'. -/
def littleCard : Claim7 := { stood := { row := littleRow, standIns := [], harness := (true, "e1e12b8e1a03bd62d728a89930f06137b6d5f43db26c19be689a988af48b3d93"), looks := true }, kinds := [], alts := [], laidByText := true, laidKinds := [.data, .data, .widerDeep, .widerDeep, .data, .data, .data, .data, .data, .sentinel, .sentinel, .data, .data, .data, .data, .data, .pinned, .pinned], laidTests := true, laidLooks := .later }
def LittleCardSaid : Prop := Claim7.holds Tryz.pinned (.plain (OpenSpec.ofChange littleSpec)) littleCard

/-- THE TIED CARD OF 'rinselaw.Harmless'. -/
def harmlessCard : Claim7 := { stood := { row := harmlessRow, standIns := [], harness := (true, "e1e12b8e1a03bd62d728a89930f06137b6d5f43db26c19be689a988af48b3d93"), looks := true }, kinds := [], alts := [], laidByText := true, laidKinds := [.data, .data, .widerDeep, .widerDeep, .data, .data, .data, .data, .data, .sentinel, .sentinel, .data, .data, .data, .data, .data, .pinned, .pinned], laidTests := true, laidLooks := .later }
def HarmlessCardSaid : Prop := Claim7.holds Tryz.pinned (.plain (OpenSpec.ofChange harmlessSpec)) harmlessCard

/-- THE SECOND FORM's CARD OF 'rinselaw.Checks'. -/
def checksUptoCard : Claim7 := { stood := { row := checksUptoRow, standIns := [], harness := (true, "e1e12b8e1a03bd62d728a89930f06137b6d5f43db26c19be689a988af48b3d93"), looks := true }, kinds := [], alts := [], laidByText := true, laidKinds := [.data, .data, .widerDeep, .widerDeep, .data, .data, .data, .data, .data, .data, .data, .data, .data, .sentinel, .sentinel, .data, .data, .data, .data, .data, .pinned, .pinned], laidTests := true, laidLooks := .later }
def ChecksUptoCardSaid : Prop := Claim7.holds Tryz.pinned (.plain (OpenSpec.upto checksSpec)) checksUptoCard

/-- THE SECOND FORM's CARD OF 'rinselaw.Rinses'. -/
def rinsesUptoCard : Claim7 := { stood := { row := rinsesUptoRow, standIns := [], harness := (true, "e1e12b8e1a03bd62d728a89930f06137b6d5f43db26c19be689a988af48b3d93"), looks := true }, kinds := [], alts := [], laidByText := true, laidKinds := [.data, .data, .widerDeep, .widerDeep, .data, .data, .data, .data, .data, .data, .data, .data, .data, .sentinel, .sentinel, .data, .data, .data, .data, .data, .pinned, .pinned], laidTests := true, laidLooks := .later }
def RinsesUptoCardSaid : Prop := Claim7.holds Tryz.pinned (.plain (OpenSpec.upto rinsesSpec)) rinsesUptoCard

/-- THE SECOND FORM's CARD OF 'rinselaw.Cleans'. -/
def cleansUptoCard : Claim7 := { stood := { row := cleansUptoRow, standIns := [], harness := (true, "e1e12b8e1a03bd62d728a89930f06137b6d5f43db26c19be689a988af48b3d93"), looks := true }, kinds := [], alts := [], laidByText := true, laidKinds := [.data, .data, .widerDeep, .widerDeep, .data, .data, .data, .data, .data, .data, .data, .data, .data, .sentinel, .sentinel, .data, .data, .data, .data, .data, .pinned, .pinned], laidTests := true, laidLooks := .later }
def CleansUptoCardSaid : Prop := Claim7.holds Tryz.pinned (.plain (OpenSpec.upto cleansSpec)) cleansUptoCard

/-- THE SECOND FORM's CARD OF 'rinselaw.Again'. -/
def againUptoCard : Claim7 := { stood := { row := againUptoRow, standIns := [], harness := (true, "e1e12b8e1a03bd62d728a89930f06137b6d5f43db26c19be689a988af48b3d93"), looks := true }, kinds := [], alts := [], laidByText := true, laidKinds := [.data, .data, .widerDeep, .widerDeep, .data, .data, .data, .data, .data, .sentinel, .sentinel, .data, .data, .data, .data, .data, .pinned, .pinned], laidTests := true, laidLooks := .later }
def AgainUptoCardSaid : Prop := Claim7.holds Tryz.pinned (.plain (OpenSpec.upto againSpec)) againUptoCard

/-- THE SECOND FORM's CARD OF 'rinselaw.Little'. -/
def littleUptoCard : Claim7 := { stood := { row := littleUptoRow, standIns := [], harness := (true, "e1e12b8e1a03bd62d728a89930f06137b6d5f43db26c19be689a988af48b3d93"), looks := true }, kinds := [], alts := [], laidByText := true, laidKinds := [.data, .data, .widerDeep, .widerDeep, .data, .data, .data, .data, .data, .sentinel, .sentinel, .data, .data, .data, .data, .data, .pinned, .pinned], laidTests := true, laidLooks := .later }
def LittleUptoCardSaid : Prop := Claim7.holds Tryz.pinned (.plain (OpenSpec.upto littleSpec)) littleUptoCard

/-- THE SECOND FORM's CARD OF 'rinselaw.Harmless'. -/
def harmlessUptoCard : Claim7 := { stood := { row := harmlessUptoRow, standIns := [], harness := (true, "e1e12b8e1a03bd62d728a89930f06137b6d5f43db26c19be689a988af48b3d93"), looks := true }, kinds := [], alts := [], laidByText := true, laidKinds := [.data, .data, .widerDeep, .widerDeep, .data, .data, .data, .data, .data, .sentinel, .sentinel, .data, .data, .data, .data, .data, .pinned, .pinned], laidTests := true, laidLooks := .later }
def HarmlessUptoCardSaid : Prop := Claim7.holds Tryz.pinned (.plain (OpenSpec.upto harmlessSpec)) harmlessUptoCard
end Rows
end Go.Proofs.YtgffljllfenhkaaGreatDoor
