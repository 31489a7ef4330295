/-
  DERIVED. GIVEN WITH THE SEED: THE CARDS: each row of YthhadjnffeadfaaGreatDoorRows.lean that lists a variable, with what it lists TIED to the program's text (the seventh form; the later family's looks); each row that meets fmt, with fmt's text TOLD by the authors' own Lean function (tested against real Go, not proved from fmt's source: count such statements apart). THE CARD IS WHAT COUNTS. Prove the row's statement (the work); the ties are given (YthhadjnffeadfaaGreatDoorTie.lean); close each card by the builder's one call (the guide's Derived/Test/ToyasCard.lean, 'card_holds'). Laid BY PROGRAM, IN A SANDBOX (cutbox-door.mjs). By AI agents, Wed Nov 11 2026. No macro, syntax, notation, axiom, sorry.
-/
import Derived.Test.YthhadjnffeadfaaGreatDoorRows
import GoSem.ClaimSeven
namespace Go.Proofs.YthhadjnffeadfaaGreatDoor
namespace Rows

/-- THE TIED CARD OF 'relayhouselaw10.KeepPlays'. -/
def keepPlaysCard : Claim7 := { stood := { row := keepPlaysRow, standIns := [], harness := (true, "372a97800873f1e888ace67d5235af7bd50365a42fdd7e2fb8ed3f3098def669"), looks := false }, kinds := [], alts := [], laidByText := true, laidKinds := [.data, .pinned], laidTests := true, laidLooks := .later }
def KeepPlaysCardSaid : Prop := Claim7.holds Tryz.pinned (.plain (OpenSpec.ofChange keepPlaysSpec)) keepPlaysCard

/-- THE TIED CARD OF 'relayhouselaw10.KeepFinds'. -/
def keepFindsCard : Claim7 := { stood := { row := keepFindsRow, standIns := [], harness := (true, "372a97800873f1e888ace67d5235af7bd50365a42fdd7e2fb8ed3f3098def669"), looks := false }, kinds := [], alts := [], laidByText := true, laidKinds := [.data, .pinned], laidTests := true, laidLooks := .later }
def KeepFindsCardSaid : Prop := Claim7.holds Tryz.pinned (.plain (OpenSpec.ofChange keepFindsSpec)) keepFindsCard

/-- THE SECOND FORM's CARD OF 'relayhouselaw10.KeepPlays'. -/
def keepPlaysUptoCard : Claim7 := { stood := { row := keepPlaysUptoRow, standIns := [], harness := (true, "372a97800873f1e888ace67d5235af7bd50365a42fdd7e2fb8ed3f3098def669"), looks := false }, kinds := [], alts := [], laidByText := true, laidKinds := [.data, .pinned], laidTests := true, laidLooks := .later }
def KeepPlaysUptoCardSaid : Prop := Claim7.holds Tryz.pinned (.plain (OpenSpec.upto keepPlaysSpec)) keepPlaysUptoCard

/-- THE SECOND FORM's CARD OF 'relayhouselaw10.KeepFinds'. -/
def keepFindsUptoCard : Claim7 := { stood := { row := keepFindsUptoRow, standIns := [], harness := (true, "372a97800873f1e888ace67d5235af7bd50365a42fdd7e2fb8ed3f3098def669"), looks := false }, kinds := [], alts := [], laidByText := true, laidKinds := [.data, .pinned], laidTests := true, laidLooks := .later }
def KeepFindsUptoCardSaid : Prop := Claim7.holds Tryz.pinned (.plain (OpenSpec.upto keepFindsSpec)) keepFindsUptoCard
end Rows
end Go.Proofs.YthhadjnffeadfaaGreatDoor
