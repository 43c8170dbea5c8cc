/-
  DERIVED. GIVEN WITH THE SEED: THE CARDS: each row of YtghdcgokndmkjaaDoorRows.lean that lists a variable, with what it lists TIED to the program's text (the seventh form; the later family's looks); each row that meets fmt, with fmt's text TOLD by the authors' own Lean function (tested against real Go, not proved from fmt's source: count such statements apart). THE CARD IS WHAT COUNTS. Prove the row's statement (the work); the ties are given (YtghdcgokndmkjaaDoorTie.lean); close each card by the builder's one call (the guide's Derived/Test/ToyasCard.lean, 'card_holds'). Laid BY PROGRAM, IN A SANDBOX (cutbox-door.mjs). By AI agents, Wed Nov 11 2026. No macro, syntax, notation, axiom, sorry.
-/
import Derived.Test.YtghdcgokndmkjaaDoorRows
import GoSem.ClaimSeven
namespace Go.Proofs.YtghdcgokndmkjaaDoor
namespace Rows

/-- THE TIED CARD OF 'seneschallaw03.CborReads'. -/
def cborReadsCard : Claim7 := { stood := { row := cborReadsRow, standIns := [], harness := (true, "6b3ac29f1b5b7f451047f451cc939ad5d4bcec6de5886c108db4a1271beee3f8"), looks := true }, kinds := [], alts := [], laidByText := true, laidKinds := [.data, .pinned], laidTests := true, laidLooks := .later }
def CborReadsCardSaid : Prop := Claim7.holds Tryd.pinned (.plain (OpenSpec.ofChange cborReadsSpec)) cborReadsCard

/-- THE TIED CARD OF 'seneschallaw03.CborFinds'. -/
def cborFindsCard : Claim7 := { stood := { row := cborFindsRow, standIns := [], harness := (true, "6b3ac29f1b5b7f451047f451cc939ad5d4bcec6de5886c108db4a1271beee3f8"), looks := true }, kinds := [], alts := [], laidByText := true, laidKinds := [.data, .pinned], laidTests := true, laidLooks := .later }
def CborFindsCardSaid : Prop := Claim7.holds Tryd.pinned (.plain (OpenSpec.ofChange cborFindsSpec)) cborFindsCard

/-- THE TIED CARD OF 'seneschallaw03.CborBack'. -/
def cborBackCard : Claim7 := { stood := { row := cborBackRow, standIns := [], harness := (true, "6b3ac29f1b5b7f451047f451cc939ad5d4bcec6de5886c108db4a1271beee3f8"), looks := true }, kinds := [], alts := [], laidByText := true, laidKinds := [.data, .pinned], laidTests := true, laidLooks := .later }
def CborBackCardSaid : Prop := Claim7.holds Tryd.pinned (.plain (OpenSpec.ofChange cborBackSpec)) cborBackCard

/-- THE TIED CARD OF 'seneschallaw03.CborCuts'. -/
def cborCutsCard : Claim7 := { stood := { row := cborCutsRow, standIns := [], harness := (true, "6b3ac29f1b5b7f451047f451cc939ad5d4bcec6de5886c108db4a1271beee3f8"), looks := true }, kinds := [], alts := [], laidByText := true, laidKinds := [.data, .pinned], laidTests := true, laidLooks := .later }
def CborCutsCardSaid : Prop := Claim7.holds Tryd.pinned (.plain (OpenSpec.ofChange cborCutsSpec)) cborCutsCard

/-- THE SECOND FORM's CARD OF 'seneschallaw03.CborReads'. -/
def cborReadsUptoCard : Claim7 := { stood := { row := cborReadsUptoRow, standIns := [], harness := (true, "6b3ac29f1b5b7f451047f451cc939ad5d4bcec6de5886c108db4a1271beee3f8"), looks := true }, kinds := [], alts := [], laidByText := true, laidKinds := [.data, .pinned], laidTests := true, laidLooks := .later }
def CborReadsUptoCardSaid : Prop := Claim7.holds Tryd.pinned (.plain (OpenSpec.upto cborReadsSpec)) cborReadsUptoCard

/-- THE SECOND FORM's CARD OF 'seneschallaw03.CborFinds'. -/
def cborFindsUptoCard : Claim7 := { stood := { row := cborFindsUptoRow, standIns := [], harness := (true, "6b3ac29f1b5b7f451047f451cc939ad5d4bcec6de5886c108db4a1271beee3f8"), looks := true }, kinds := [], alts := [], laidByText := true, laidKinds := [.data, .pinned], laidTests := true, laidLooks := .later }
def CborFindsUptoCardSaid : Prop := Claim7.holds Tryd.pinned (.plain (OpenSpec.upto cborFindsSpec)) cborFindsUptoCard

/-- THE SECOND FORM's CARD OF 'seneschallaw03.CborBack'. -/
def cborBackUptoCard : Claim7 := { stood := { row := cborBackUptoRow, standIns := [], harness := (true, "6b3ac29f1b5b7f451047f451cc939ad5d4bcec6de5886c108db4a1271beee3f8"), looks := true }, kinds := [], alts := [], laidByText := true, laidKinds := [.data, .pinned], laidTests := true, laidLooks := .later }
def CborBackUptoCardSaid : Prop := Claim7.holds Tryd.pinned (.plain (OpenSpec.upto cborBackSpec)) cborBackUptoCard

/-- THE SECOND FORM's CARD OF 'seneschallaw03.CborCuts'. -/
def cborCutsUptoCard : Claim7 := { stood := { row := cborCutsUptoRow, standIns := [], harness := (true, "6b3ac29f1b5b7f451047f451cc939ad5d4bcec6de5886c108db4a1271beee3f8"), looks := true }, kinds := [], alts := [], laidByText := true, laidKinds := [.data, .pinned], laidTests := true, laidLooks := .later }
def CborCutsUptoCardSaid : Prop := Claim7.holds Tryd.pinned (.plain (OpenSpec.upto cborCutsSpec)) cborCutsUptoCard
end Rows
end Go.Proofs.YtghdcgokndmkjaaDoor
