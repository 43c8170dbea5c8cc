/-
  NARROWER THAN 'FOR EVERY INPUT', by the rows' own cells (each row's printed sentence says how): WalSums: laid · WalDoes: laid · WalOpens: laid · WalLives: laid · WalRooms: laid.
  DERIVED. THE GIVEN ROWS OF THIS SEAT. 5 by the template 'for every input the law returns true; each argument reads behind the call as it read before'; 0 by the template 'total and deterministic' (their statements: YtmoihgniglomiaaDoorTotals.lean).
  GIVEN WITH THE SEED: the statements are not yours to turn. If you find one false, say at which input.
  Laid BY PROGRAM, IN A SANDBOX (cutbox-rows.mjs): the forced cells as the released guide's own fill.sh prints them over the translation abf54f967a2811bc… (all of the seat's roots in one cut). By AI agents, Wed Nov 11 2026. No macro, syntax, notation, axiom, sorry.
-/
import Derived.Test.YtmoihgniglomiaaDoorChecked
import GoSem.Claim
import GoSem.ClaimJoined
import GoSem.ClaimMapViews
import Derived.JoinedTies
import Derived.KernelRfl
namespace Go.Proofs.YtmoihgniglomiaaDoor
/- THE CELL 'sum', in the pinned program and in every row, IS THE sha256 OF THE DUMP (.gsa) THAT YtmoihgniglomiaaDoorProg.lean LOADS. Nothing in Lean hashes anything: it is a label: what it is worth is what the hold of that sum in a sandbox is worth. -/
noncomputable def Tryd.pinned : Pinned := { name := "ytmoihgniglomiaadoor", sum := "abf54f967a2811bc577066481be400fc077abfc29f1021f05f2060280402e461", checked := Tryd.checked }
namespace Rows
def none {H : Type} : Left H := { results := [], args := [] }

/- WHAT THE LISTED PACKAGE-LEVEL VARIABLES READ AS WHEN THE CALL BEGINS. Each datum BY PROGRAM (the guide's laid-datum.mjs) off the statement by which the dump's own 'gosem.cut.vars' lays the variable. In a bare row this is a premise. The card (YtmoihgniglomiaaDoorCards.lean) ties it to the program's text. -/
def laid_seneschal_wal_halves {H : Type} : DataW H := .agg [.lit (.int .u32 0), .lit (.int .u32 498536548), .lit (.int .u32 997073096), .lit (.int .u32 651767980), .lit (.int .u32 1994146192), .lit (.int .u32 1802195444), .lit (.int .u32 1303535960), .lit (.int .u32 1342533948), .lit (.int .u32 3988292384), .lit (.int .u32 4027552580), .lit (.int .u32 3604390888), .lit (.int .u32 3412177804), .lit (.int .u32 2607071920), .lit (.int .u32 2262029012), .lit (.int .u32 2685067896), .lit (.int .u32 3183342108)]

/-- 'seneschallaw10.WalSums': WHATEVER THE INPUT: true; the input reads as it did. -/
def walSumsSpec : ChangeSpec := { name := "walSums", fn := fun _ => fun
  | [d] => { results := [.lit (.bool true)], args := [d] }
  | _ => none }
def walSumsRow : OpenClaim := { program := "ytmoihgniglomiaadoor", sum := "abf54f967a2811bc577066481be400fc077abfc29f1021f05f2060280402e461", func := "seneschal/seneschallaw10.WalSums", spec := "walSums", unfollowed := true, recurses := true, named := ["seneschal/wal.halves"], apart := false, laid := [("seneschal/wal.halves", laid_seneschal_wal_halves)] }
def WalSumsSaid : Prop := walSumsRow.holds Tryd.pinned (OpenSpec.ofChange walSumsSpec)

/-- ITS FALSE NEIGHBOUR: 'it returns false'. Refute it at one input. -/
def walSumsWrong : ChangeSpec := { name := "walSums", fn := fun _ => fun
  | [d] => { results := [.lit (.bool false)], args := [d] }
  | _ => none }
def WalSumsWrongFalsely : Prop := walSumsRow.holds Tryd.pinned (OpenSpec.ofChange walSumsWrong)

/-- 'seneschallaw10.WalDoes': WHATEVER THE INPUT: true; the input reads as it did. -/
def walDoesSpec : ChangeSpec := { name := "walDoes", fn := fun _ => fun
  | [d] => { results := [.lit (.bool true)], args := [d] }
  | _ => none }
def walDoesRow : OpenClaim := { program := "ytmoihgniglomiaadoor", sum := "abf54f967a2811bc577066481be400fc077abfc29f1021f05f2060280402e461", func := "seneschal/seneschallaw10.WalDoes", spec := "walDoes", unfollowed := true, recurses := true, named := ["seneschal/wal.halves"], apart := false, laid := [("seneschal/wal.halves", laid_seneschal_wal_halves)] }
def WalDoesSaid : Prop := walDoesRow.holds Tryd.pinned (OpenSpec.ofChange walDoesSpec)

/-- ITS FALSE NEIGHBOUR: 'it returns false'. Refute it at one input. -/
def walDoesWrong : ChangeSpec := { name := "walDoes", fn := fun _ => fun
  | [d] => { results := [.lit (.bool false)], args := [d] }
  | _ => none }
def WalDoesWrongFalsely : Prop := walDoesRow.holds Tryd.pinned (OpenSpec.ofChange walDoesWrong)

/-- 'seneschallaw10.WalOpens': WHATEVER THE INPUT: true; the input reads as it did. -/
def walOpensSpec : ChangeSpec := { name := "walOpens", fn := fun _ => fun
  | [d1, d2] => { results := [.lit (.bool true)], args := [d1, d2] }
  | _ => none }
def walOpensRow : OpenClaim := { program := "ytmoihgniglomiaadoor", sum := "abf54f967a2811bc577066481be400fc077abfc29f1021f05f2060280402e461", func := "seneschal/seneschallaw10.WalOpens", spec := "walOpens", unfollowed := true, recurses := true, named := ["seneschal/wal.halves"], apart := false, laid := [("seneschal/wal.halves", laid_seneschal_wal_halves)] }
def WalOpensSaid : Prop := walOpensRow.holds Tryd.pinned (OpenSpec.ofChange walOpensSpec)

/-- ITS FALSE NEIGHBOUR: 'it returns false'. Refute it at one input. -/
def walOpensWrong : ChangeSpec := { name := "walOpens", fn := fun _ => fun
  | [d1, d2] => { results := [.lit (.bool false)], args := [d1, d2] }
  | _ => none }
def WalOpensWrongFalsely : Prop := walOpensRow.holds Tryd.pinned (OpenSpec.ofChange walOpensWrong)

/-- 'seneschallaw10.WalLives': WHATEVER THE INPUT: true; the input reads as it did. -/
def walLivesSpec : ChangeSpec := { name := "walLives", fn := fun _ => fun
  | [d] => { results := [.lit (.bool true)], args := [d] }
  | _ => none }
def walLivesRow : OpenClaim := { program := "ytmoihgniglomiaadoor", sum := "abf54f967a2811bc577066481be400fc077abfc29f1021f05f2060280402e461", func := "seneschal/seneschallaw10.WalLives", spec := "walLives", unfollowed := true, recurses := true, named := ["seneschal/wal.halves"], apart := false, laid := [("seneschal/wal.halves", laid_seneschal_wal_halves)] }
def WalLivesSaid : Prop := walLivesRow.holds Tryd.pinned (OpenSpec.ofChange walLivesSpec)

/-- ITS FALSE NEIGHBOUR: 'it returns false'. Refute it at one input. -/
def walLivesWrong : ChangeSpec := { name := "walLives", fn := fun _ => fun
  | [d] => { results := [.lit (.bool false)], args := [d] }
  | _ => none }
def WalLivesWrongFalsely : Prop := walLivesRow.holds Tryd.pinned (OpenSpec.ofChange walLivesWrong)

/-- 'seneschallaw10.WalRooms': WHATEVER THE INPUT: true; the input reads as it did. -/
def walRoomsSpec : ChangeSpec := { name := "walRooms", fn := fun _ => fun
  | [d] => { results := [.lit (.bool true)], args := [d] }
  | _ => none }
def walRoomsRow : OpenClaim := { program := "ytmoihgniglomiaadoor", sum := "abf54f967a2811bc577066481be400fc077abfc29f1021f05f2060280402e461", func := "seneschal/seneschallaw10.WalRooms", spec := "walRooms", unfollowed := true, recurses := true, named := ["seneschal/wal.halves"], apart := false, laid := [("seneschal/wal.halves", laid_seneschal_wal_halves)] }
def WalRoomsSaid : Prop := walRoomsRow.holds Tryd.pinned (OpenSpec.ofChange walRoomsSpec)

/-- ITS FALSE NEIGHBOUR: 'it returns false'. Refute it at one input. -/
def walRoomsWrong : ChangeSpec := { name := "walRooms", fn := fun _ => fun
  | [d] => { results := [.lit (.bool false)], args := [d] }
  | _ => none }
def WalRoomsWrongFalsely : Prop := walRoomsRow.holds Tryd.pinned (OpenSpec.ofChange walRoomsWrong)

/- THE SECOND FORM. 'bulk': how many values and letters a reading holds, each counted each time it is reached (what is shared counts as often as it is met; a slice's spare places count too). A statement '..UptoSaid' is the law's where the arguments, and the package variables that the reading takes, are together of bulk at most 1048576: NARROWER than '..Said'. Prove '..Said' where nothing that the law and all that it calls make is longer than what came in: it says more and counts as full. Else prove '..UptoSaid'. A law counts once. -/
mutual
def uptoBulk {H : Type} : DataW H → Nat
  | .lit (.string bytes) => bytes.length + 1
  | .lit _ => 1
  | .nil => 1
  | .ptr d => uptoBulk d + 1
  | .slice elems spare => uptoBulkAll elems + uptoBulkAll spare + 1
  | .agg parts => uptoBulkAll parts + 1
  | .iface _ d => uptoBulk d + 1
  | .map entries => uptoBulkEntries entries + 1
  | .held _ => 1
def uptoBulkAll {H : Type} : List (DataW H) → Nat
  | [] => 0
  | d :: r => uptoBulk d + uptoBulkAll r
def uptoBulkEntries {H : Type} : List (Lit × DataW H) → Nat
  | [] => 0
  | x :: r => uptoBulkEntry x + uptoBulkEntries r
def uptoBulkEntry {H : Type} : Lit × DataW H → Nat
  | (.string bytes, d) => bytes.length + uptoBulk d + 1
  | (_, d) => uptoBulk d + 1
 end
def uptoSmall : (H : Type) → List (DataW H) → Bool := fun _ ds => decide (uptoBulkAll ds ≤ 1048576)
def OpenSpec.upto (s : _root_.Go.ChangeSpec) : _root_.Go.OpenSpec := { _root_.Go.OpenSpec.ofChange s with cond := some uptoSmall }

/-- 'seneschallaw10.WalSums', WHERE WHAT IT READS IS OF BULK AT MOST 1048576: true; the input reads as it did. -/
def walSumsUptoRow : OpenClaim := { program := "ytmoihgniglomiaadoor", sum := "abf54f967a2811bc577066481be400fc077abfc29f1021f05f2060280402e461", func := "seneschal/seneschallaw10.WalSums", spec := "walSums", unfollowed := true, recurses := true, named := ["seneschal/wal.halves"], apart := false, laid := [("seneschal/wal.halves", laid_seneschal_wal_halves)], narrowed := true }
def WalSumsUptoSaid : Prop := walSumsUptoRow.holds Tryd.pinned (OpenSpec.upto walSumsSpec)

/-- 'seneschallaw10.WalDoes', WHERE WHAT IT READS IS OF BULK AT MOST 1048576: true; the input reads as it did. -/
def walDoesUptoRow : OpenClaim := { program := "ytmoihgniglomiaadoor", sum := "abf54f967a2811bc577066481be400fc077abfc29f1021f05f2060280402e461", func := "seneschal/seneschallaw10.WalDoes", spec := "walDoes", unfollowed := true, recurses := true, named := ["seneschal/wal.halves"], apart := false, laid := [("seneschal/wal.halves", laid_seneschal_wal_halves)], narrowed := true }
def WalDoesUptoSaid : Prop := walDoesUptoRow.holds Tryd.pinned (OpenSpec.upto walDoesSpec)

/-- 'seneschallaw10.WalOpens', WHERE WHAT IT READS IS OF BULK AT MOST 1048576: true; the input reads as it did. -/
def walOpensUptoRow : OpenClaim := { program := "ytmoihgniglomiaadoor", sum := "abf54f967a2811bc577066481be400fc077abfc29f1021f05f2060280402e461", func := "seneschal/seneschallaw10.WalOpens", spec := "walOpens", unfollowed := true, recurses := true, named := ["seneschal/wal.halves"], apart := false, laid := [("seneschal/wal.halves", laid_seneschal_wal_halves)], narrowed := true }
def WalOpensUptoSaid : Prop := walOpensUptoRow.holds Tryd.pinned (OpenSpec.upto walOpensSpec)

/-- 'seneschallaw10.WalLives', WHERE WHAT IT READS IS OF BULK AT MOST 1048576: true; the input reads as it did. -/
def walLivesUptoRow : OpenClaim := { program := "ytmoihgniglomiaadoor", sum := "abf54f967a2811bc577066481be400fc077abfc29f1021f05f2060280402e461", func := "seneschal/seneschallaw10.WalLives", spec := "walLives", unfollowed := true, recurses := true, named := ["seneschal/wal.halves"], apart := false, laid := [("seneschal/wal.halves", laid_seneschal_wal_halves)], narrowed := true }
def WalLivesUptoSaid : Prop := walLivesUptoRow.holds Tryd.pinned (OpenSpec.upto walLivesSpec)

/-- 'seneschallaw10.WalRooms', WHERE WHAT IT READS IS OF BULK AT MOST 1048576: true; the input reads as it did. -/
def walRoomsUptoRow : OpenClaim := { program := "ytmoihgniglomiaadoor", sum := "abf54f967a2811bc577066481be400fc077abfc29f1021f05f2060280402e461", func := "seneschal/seneschallaw10.WalRooms", spec := "walRooms", unfollowed := true, recurses := true, named := ["seneschal/wal.halves"], apart := false, laid := [("seneschal/wal.halves", laid_seneschal_wal_halves)], narrowed := true }
def WalRoomsUptoSaid : Prop := walRoomsUptoRow.holds Tryd.pinned (OpenSpec.upto walRoomsSpec)

end Rows
end Go.Proofs.YtmoihgniglomiaaDoor
