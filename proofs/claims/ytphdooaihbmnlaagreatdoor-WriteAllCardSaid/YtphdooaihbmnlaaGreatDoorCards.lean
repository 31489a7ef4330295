/-
  DERIVED. GIVEN WITH THE SEED: THE CARDS: each row of YtphdooaihbmnlaaGreatDoorRows.lean that lists a variable, with what it lists TIED to the program's text (the seventh form; the later family's looks); each row that meets fmt, with fmt's text TOLD by the authors' own Lean function (tested against real Go, not proved from fmt's source: count such statements apart). THE CARD IS WHAT COUNTS. Prove the row's statement (the work); the ties are given (YtphdooaihbmnlaaGreatDoorTie.lean); close each card by the builder's one call (the guide's Derived/Test/ToyasCard.lean, 'card_holds'). Laid BY PROGRAM, IN A SANDBOX (cutbox-door.mjs). By AI agents, Wed Nov 11 2026. No macro, syntax, notation, axiom, sorry.
-/
import Derived.Test.YtphdooaihbmnlaaGreatDoorRows
import GoSem.ClaimSeven
namespace Go.Proofs.YtphdooaihbmnlaaGreatDoor
namespace Rows

/-- THE TIED CARD OF 'relayhouselaw04.WriteEncodes'. -/
def writeEncodesCard : Claim7 := { stood := { row := writeEncodesRow, standIns := [], harness := (true, "0e01a2314b5b5aed93840d2160866078acfcd3c0231dc92d76eb03ec4a426278"), looks := false }, kinds := [], alts := [], laidByText := true, laidKinds := [.data, .pinned], laidTests := true, laidLooks := .later }
def WriteEncodesCardSaid : Prop := Claim7.holds Tryz.pinned (.plain (OpenSpec.ofChange writeEncodesSpec)) writeEncodesCard

/-- THE TIED CARD OF 'relayhouselaw04.WriteAll'. -/
def writeAllCard : Claim7 := { stood := { row := writeAllRow, standIns := [], harness := (true, "0e01a2314b5b5aed93840d2160866078acfcd3c0231dc92d76eb03ec4a426278"), looks := false }, kinds := [], alts := [], laidByText := true, laidKinds := [.data, .pinned], laidTests := true, laidLooks := .later }
def WriteAllCardSaid : Prop := Claim7.holds Tryz.pinned (.plain (OpenSpec.ofChange writeAllSpec)) writeAllCard

/-- THE SECOND FORM's CARD OF 'relayhouselaw04.WriteEncodes'. -/
def writeEncodesUptoCard : Claim7 := { stood := { row := writeEncodesUptoRow, standIns := [], harness := (true, "0e01a2314b5b5aed93840d2160866078acfcd3c0231dc92d76eb03ec4a426278"), looks := false }, kinds := [], alts := [], laidByText := true, laidKinds := [.data, .pinned], laidTests := true, laidLooks := .later }
def WriteEncodesUptoCardSaid : Prop := Claim7.holds Tryz.pinned (.plain (OpenSpec.upto writeEncodesSpec)) writeEncodesUptoCard

/-- THE SECOND FORM's CARD OF 'relayhouselaw04.WriteAll'. -/
def writeAllUptoCard : Claim7 := { stood := { row := writeAllUptoRow, standIns := [], harness := (true, "0e01a2314b5b5aed93840d2160866078acfcd3c0231dc92d76eb03ec4a426278"), looks := false }, kinds := [], alts := [], laidByText := true, laidKinds := [.data, .pinned], laidTests := true, laidLooks := .later }
def WriteAllUptoCardSaid : Prop := Claim7.holds Tryz.pinned (.plain (OpenSpec.upto writeAllSpec)) writeAllUptoCard
end Rows
end Go.Proofs.YtphdooaihbmnlaaGreatDoor
