/-
  DERIVED. GIVEN WITH THE SEED: THE CARDS: each row of YtmoihgniglomiaaDoorRows.lean that lists a variable, with what it lists TIED to the program's text (the seventh form; the later family's looks); each row that meets fmt, with fmt's text TOLD by the authors' own Lean function (tested against real Go, not proved from fmt's source: count such statements apart). THE CARD IS WHAT COUNTS. Prove the row's statement (the work); the ties are given (YtmoihgniglomiaaDoorTie.lean); close each card by the builder's one call (the guide's Derived/Test/ToyasCard.lean, 'card_holds'). Laid BY PROGRAM, IN A SANDBOX (cutbox-door.mjs). By AI agents, Wed Nov 11 2026. No macro, syntax, notation, axiom, sorry.
-/
import Derived.Test.YtmoihgniglomiaaDoorRows
import GoSem.ClaimSeven
namespace Go.Proofs.YtmoihgniglomiaaDoor
namespace Rows

/-- THE TIED CARD OF 'seneschallaw10.WalSums'. -/
def walSumsCard : Claim7 := { stood := { row := walSumsRow, standIns := [], harness := (true, "f9b9fedd9825fcc8f5881ba6b110b7a03d0c42e797b8c424728217898da91694"), looks := true }, kinds := [], alts := [], laidByText := true, laidKinds := [.data], laidTests := true, laidLooks := .later }
def WalSumsCardSaid : Prop := Claim7.holds Tryd.pinned (.plain (OpenSpec.ofChange walSumsSpec)) walSumsCard

/-- THE TIED CARD OF 'seneschallaw10.WalDoes'. -/
def walDoesCard : Claim7 := { stood := { row := walDoesRow, standIns := [], harness := (true, "f9b9fedd9825fcc8f5881ba6b110b7a03d0c42e797b8c424728217898da91694"), looks := true }, kinds := [], alts := [], laidByText := true, laidKinds := [.data], laidTests := true, laidLooks := .later }
def WalDoesCardSaid : Prop := Claim7.holds Tryd.pinned (.plain (OpenSpec.ofChange walDoesSpec)) walDoesCard

/-- THE TIED CARD OF 'seneschallaw10.WalOpens'. -/
def walOpensCard : Claim7 := { stood := { row := walOpensRow, standIns := [], harness := (true, "f9b9fedd9825fcc8f5881ba6b110b7a03d0c42e797b8c424728217898da91694"), looks := true }, kinds := [], alts := [], laidByText := true, laidKinds := [.data], laidTests := true, laidLooks := .later }
def WalOpensCardSaid : Prop := Claim7.holds Tryd.pinned (.plain (OpenSpec.ofChange walOpensSpec)) walOpensCard

/-- THE TIED CARD OF 'seneschallaw10.WalLives'. -/
def walLivesCard : Claim7 := { stood := { row := walLivesRow, standIns := [], harness := (true, "f9b9fedd9825fcc8f5881ba6b110b7a03d0c42e797b8c424728217898da91694"), looks := true }, kinds := [], alts := [], laidByText := true, laidKinds := [.data], laidTests := true, laidLooks := .later }
def WalLivesCardSaid : Prop := Claim7.holds Tryd.pinned (.plain (OpenSpec.ofChange walLivesSpec)) walLivesCard

/-- THE TIED CARD OF 'seneschallaw10.WalRooms'. -/
def walRoomsCard : Claim7 := { stood := { row := walRoomsRow, standIns := [], harness := (true, "f9b9fedd9825fcc8f5881ba6b110b7a03d0c42e797b8c424728217898da91694"), looks := true }, kinds := [], alts := [], laidByText := true, laidKinds := [.data], laidTests := true, laidLooks := .later }
def WalRoomsCardSaid : Prop := Claim7.holds Tryd.pinned (.plain (OpenSpec.ofChange walRoomsSpec)) walRoomsCard

/-- THE SECOND FORM's CARD OF 'seneschallaw10.WalSums'. -/
def walSumsUptoCard : Claim7 := { stood := { row := walSumsUptoRow, standIns := [], harness := (true, "f9b9fedd9825fcc8f5881ba6b110b7a03d0c42e797b8c424728217898da91694"), looks := true }, kinds := [], alts := [], laidByText := true, laidKinds := [.data], laidTests := true, laidLooks := .later }
def WalSumsUptoCardSaid : Prop := Claim7.holds Tryd.pinned (.plain (OpenSpec.upto walSumsSpec)) walSumsUptoCard

/-- THE SECOND FORM's CARD OF 'seneschallaw10.WalDoes'. -/
def walDoesUptoCard : Claim7 := { stood := { row := walDoesUptoRow, standIns := [], harness := (true, "f9b9fedd9825fcc8f5881ba6b110b7a03d0c42e797b8c424728217898da91694"), looks := true }, kinds := [], alts := [], laidByText := true, laidKinds := [.data], laidTests := true, laidLooks := .later }
def WalDoesUptoCardSaid : Prop := Claim7.holds Tryd.pinned (.plain (OpenSpec.upto walDoesSpec)) walDoesUptoCard

/-- THE SECOND FORM's CARD OF 'seneschallaw10.WalOpens'. -/
def walOpensUptoCard : Claim7 := { stood := { row := walOpensUptoRow, standIns := [], harness := (true, "f9b9fedd9825fcc8f5881ba6b110b7a03d0c42e797b8c424728217898da91694"), looks := true }, kinds := [], alts := [], laidByText := true, laidKinds := [.data], laidTests := true, laidLooks := .later }
def WalOpensUptoCardSaid : Prop := Claim7.holds Tryd.pinned (.plain (OpenSpec.upto walOpensSpec)) walOpensUptoCard

/-- THE SECOND FORM's CARD OF 'seneschallaw10.WalLives'. -/
def walLivesUptoCard : Claim7 := { stood := { row := walLivesUptoRow, standIns := [], harness := (true, "f9b9fedd9825fcc8f5881ba6b110b7a03d0c42e797b8c424728217898da91694"), looks := true }, kinds := [], alts := [], laidByText := true, laidKinds := [.data], laidTests := true, laidLooks := .later }
def WalLivesUptoCardSaid : Prop := Claim7.holds Tryd.pinned (.plain (OpenSpec.upto walLivesSpec)) walLivesUptoCard

/-- THE SECOND FORM's CARD OF 'seneschallaw10.WalRooms'. -/
def walRoomsUptoCard : Claim7 := { stood := { row := walRoomsUptoRow, standIns := [], harness := (true, "f9b9fedd9825fcc8f5881ba6b110b7a03d0c42e797b8c424728217898da91694"), looks := true }, kinds := [], alts := [], laidByText := true, laidKinds := [.data], laidTests := true, laidLooks := .later }
def WalRoomsUptoCardSaid : Prop := Claim7.holds Tryd.pinned (.plain (OpenSpec.upto walRoomsSpec)) walRoomsUptoCard
end Rows
end Go.Proofs.YtmoihgniglomiaaDoor
