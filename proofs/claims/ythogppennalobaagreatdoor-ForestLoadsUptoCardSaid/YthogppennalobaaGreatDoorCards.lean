/-
  DERIVED. GIVEN WITH THE SEED: THE CARDS: each row of YthogppennalobaaGreatDoorRows.lean that lists a variable, with what it lists TIED to the program's text (the seventh form; the later family's looks); each row that meets fmt, with fmt's text TOLD by the authors' own Lean function (tested against real Go, not proved from fmt's source: count such statements apart). THE CARD IS WHAT COUNTS. Prove the row's statement (the work); the ties are given (YthogppennalobaaGreatDoorTie.lean); close each card by the builder's one call (the guide's Derived/Test/ToyasCard.lean, 'card_holds'). Laid BY PROGRAM, IN A SANDBOX (cutbox-door.mjs). By AI agents, Wed Nov 11 2026. No macro, syntax, notation, axiom, sorry.
-/
import Derived.Test.YthogppennalobaaGreatDoorRows
import GoSem.ClaimSeven
namespace Go.Proofs.YthogppennalobaaGreatDoor
namespace Rows

/-- THE TIED CARD OF 'seneschallaw13.ForestDoes'. -/
def forestDoesCard : Claim7 := { stood := { row := forestDoesRow, standIns := [], harness := (true, "48760bc320e2cce287580e15f4e919a9b6a88132e63087a754bbbab131ea53a2"), looks := true }, kinds := [], alts := [], laidByText := true, laidKinds := [.data, .data, .data, .sentinel, .sentinel], laidTests := true, laidLooks := .later }
def ForestDoesCardSaid : Prop := Claim7.holds Tryz.pinned (.plain (OpenSpec.ofChange forestDoesSpec)) forestDoesCard

/-- THE TIED CARD OF 'seneschallaw13.ForestLoads'. -/
def forestLoadsCard : Claim7 := { stood := { row := forestLoadsRow, standIns := [], harness := (true, "48760bc320e2cce287580e15f4e919a9b6a88132e63087a754bbbab131ea53a2"), looks := true }, kinds := [], alts := [], laidByText := true, laidKinds := [.data, .data, .data, .sentinel, .sentinel], laidTests := true, laidLooks := .later }
def ForestLoadsCardSaid : Prop := Claim7.holds Tryz.pinned (.plain (OpenSpec.ofChange forestLoadsSpec)) forestLoadsCard

/-- THE TIED CARD OF 'seneschallaw13.ForestStays'. -/
def forestStaysCard : Claim7 := { stood := { row := forestStaysRow, standIns := [], harness := (true, "48760bc320e2cce287580e15f4e919a9b6a88132e63087a754bbbab131ea53a2"), looks := true }, kinds := [], alts := [], laidByText := true, laidKinds := [.data, .data, .data, .sentinel, .sentinel], laidTests := true, laidLooks := .later }
def ForestStaysCardSaid : Prop := Claim7.holds Tryz.pinned (.plain (OpenSpec.ofChange forestStaysSpec)) forestStaysCard

/-- THE TIED CARD OF 'seneschallaw13.ForestFalls'. -/
def forestFallsCard : Claim7 := { stood := { row := forestFallsRow, standIns := [], harness := (true, "48760bc320e2cce287580e15f4e919a9b6a88132e63087a754bbbab131ea53a2"), looks := true }, kinds := [], alts := [], laidByText := true, laidKinds := [.data, .data, .data, .sentinel, .sentinel], laidTests := true, laidLooks := .later }
def ForestFallsCardSaid : Prop := Claim7.holds Tryz.pinned (.plain (OpenSpec.ofChange forestFallsSpec)) forestFallsCard

/-- THE TIED CARD OF 'seneschallaw13.ForestEnds'. -/
def forestEndsCard : Claim7 := { stood := { row := forestEndsRow, standIns := [], harness := (true, "48760bc320e2cce287580e15f4e919a9b6a88132e63087a754bbbab131ea53a2"), looks := true }, kinds := [], alts := [], laidByText := true, laidKinds := [.data, .data, .data, .sentinel, .sentinel], laidTests := true, laidLooks := .later }
def ForestEndsCardSaid : Prop := Claim7.holds Tryz.pinned (.plain (OpenSpec.ofChange forestEndsSpec)) forestEndsCard

/-- THE TIED CARD OF 'seneschallaw13.ForestPrunes'. -/
def forestPrunesCard : Claim7 := { stood := { row := forestPrunesRow, standIns := [], harness := (true, "48760bc320e2cce287580e15f4e919a9b6a88132e63087a754bbbab131ea53a2"), looks := true }, kinds := [], alts := [], laidByText := true, laidKinds := [.data, .data, .data, .sentinel, .sentinel], laidTests := true, laidLooks := .later }
def ForestPrunesCardSaid : Prop := Claim7.holds Tryz.pinned (.plain (OpenSpec.ofChange forestPrunesSpec)) forestPrunesCard

/-- THE TIED CARD OF 'seneschallaw13.ForestBack'. -/
def forestBackCard : Claim7 := { stood := { row := forestBackRow, standIns := [], harness := (true, "48760bc320e2cce287580e15f4e919a9b6a88132e63087a754bbbab131ea53a2"), looks := true }, kinds := [], alts := [], laidByText := true, laidKinds := [.data, .data, .data, .sentinel, .sentinel], laidTests := true, laidLooks := .later }
def ForestBackCardSaid : Prop := Claim7.holds Tryz.pinned (.plain (OpenSpec.ofChange forestBackSpec)) forestBackCard

/-- THE SECOND FORM's CARD OF 'seneschallaw13.ForestDoes'. -/
def forestDoesUptoCard : Claim7 := { stood := { row := forestDoesUptoRow, standIns := [], harness := (true, "48760bc320e2cce287580e15f4e919a9b6a88132e63087a754bbbab131ea53a2"), looks := true }, kinds := [], alts := [], laidByText := true, laidKinds := [.data, .data, .data, .sentinel, .sentinel], laidTests := true, laidLooks := .later }
def ForestDoesUptoCardSaid : Prop := Claim7.holds Tryz.pinned (.plain (OpenSpec.upto forestDoesSpec)) forestDoesUptoCard

/-- THE SECOND FORM's CARD OF 'seneschallaw13.ForestLoads'. -/
def forestLoadsUptoCard : Claim7 := { stood := { row := forestLoadsUptoRow, standIns := [], harness := (true, "48760bc320e2cce287580e15f4e919a9b6a88132e63087a754bbbab131ea53a2"), looks := true }, kinds := [], alts := [], laidByText := true, laidKinds := [.data, .data, .data, .sentinel, .sentinel], laidTests := true, laidLooks := .later }
def ForestLoadsUptoCardSaid : Prop := Claim7.holds Tryz.pinned (.plain (OpenSpec.upto forestLoadsSpec)) forestLoadsUptoCard

/-- THE SECOND FORM's CARD OF 'seneschallaw13.ForestStays'. -/
def forestStaysUptoCard : Claim7 := { stood := { row := forestStaysUptoRow, standIns := [], harness := (true, "48760bc320e2cce287580e15f4e919a9b6a88132e63087a754bbbab131ea53a2"), looks := true }, kinds := [], alts := [], laidByText := true, laidKinds := [.data, .data, .data, .sentinel, .sentinel], laidTests := true, laidLooks := .later }
def ForestStaysUptoCardSaid : Prop := Claim7.holds Tryz.pinned (.plain (OpenSpec.upto forestStaysSpec)) forestStaysUptoCard

/-- THE SECOND FORM's CARD OF 'seneschallaw13.ForestFalls'. -/
def forestFallsUptoCard : Claim7 := { stood := { row := forestFallsUptoRow, standIns := [], harness := (true, "48760bc320e2cce287580e15f4e919a9b6a88132e63087a754bbbab131ea53a2"), looks := true }, kinds := [], alts := [], laidByText := true, laidKinds := [.data, .data, .data, .sentinel, .sentinel], laidTests := true, laidLooks := .later }
def ForestFallsUptoCardSaid : Prop := Claim7.holds Tryz.pinned (.plain (OpenSpec.upto forestFallsSpec)) forestFallsUptoCard

/-- THE SECOND FORM's CARD OF 'seneschallaw13.ForestEnds'. -/
def forestEndsUptoCard : Claim7 := { stood := { row := forestEndsUptoRow, standIns := [], harness := (true, "48760bc320e2cce287580e15f4e919a9b6a88132e63087a754bbbab131ea53a2"), looks := true }, kinds := [], alts := [], laidByText := true, laidKinds := [.data, .data, .data, .sentinel, .sentinel], laidTests := true, laidLooks := .later }
def ForestEndsUptoCardSaid : Prop := Claim7.holds Tryz.pinned (.plain (OpenSpec.upto forestEndsSpec)) forestEndsUptoCard

/-- THE SECOND FORM's CARD OF 'seneschallaw13.ForestPrunes'. -/
def forestPrunesUptoCard : Claim7 := { stood := { row := forestPrunesUptoRow, standIns := [], harness := (true, "48760bc320e2cce287580e15f4e919a9b6a88132e63087a754bbbab131ea53a2"), looks := true }, kinds := [], alts := [], laidByText := true, laidKinds := [.data, .data, .data, .sentinel, .sentinel], laidTests := true, laidLooks := .later }
def ForestPrunesUptoCardSaid : Prop := Claim7.holds Tryz.pinned (.plain (OpenSpec.upto forestPrunesSpec)) forestPrunesUptoCard

/-- THE SECOND FORM's CARD OF 'seneschallaw13.ForestBack'. -/
def forestBackUptoCard : Claim7 := { stood := { row := forestBackUptoRow, standIns := [], harness := (true, "48760bc320e2cce287580e15f4e919a9b6a88132e63087a754bbbab131ea53a2"), looks := true }, kinds := [], alts := [], laidByText := true, laidKinds := [.data, .data, .data, .sentinel, .sentinel], laidTests := true, laidLooks := .later }
def ForestBackUptoCardSaid : Prop := Claim7.holds Tryz.pinned (.plain (OpenSpec.upto forestBackSpec)) forestBackUptoCard
end Rows
end Go.Proofs.YthogppennalobaaGreatDoor
