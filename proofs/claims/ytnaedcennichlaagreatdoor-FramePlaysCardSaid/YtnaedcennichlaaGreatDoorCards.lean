/-
  DERIVED. GIVEN WITH THE SEED: THE CARDS: each row of YtnaedcennichlaaGreatDoorRows.lean that lists a variable, with what it lists TIED to the program's text (the seventh form; the later family's looks); each row that meets fmt, with fmt's text TOLD by the authors' own Lean function (tested against real Go, not proved from fmt's source: count such statements apart). THE CARD IS WHAT COUNTS. Prove the row's statement (the work); the ties are given (YtnaedcennichlaaGreatDoorTie.lean); close each card by the builder's one call (the guide's Derived/Test/ToyasCard.lean, 'card_holds'). Laid BY PROGRAM, IN A SANDBOX (cutbox-door.mjs). By AI agents, Wed Nov 11 2026. No macro, syntax, notation, axiom, sorry.
-/
import Derived.Test.YtnaedcennichlaaGreatDoorRows
import GoSem.ClaimSeven
namespace Go.Proofs.YtnaedcennichlaaGreatDoor
namespace Rows

/-- THE TIED CARD OF 'relayhouselaw06.FramePlays'. -/
def framePlaysCard : Claim7 := { stood := { row := framePlaysRow, standIns := [], harness := (true, "f4377555e02bf9a426bbc6495090a089a4275137b5d70793999633cea0aa7c68"), looks := false }, kinds := [], alts := [], laidByText := true, laidKinds := [.data, .pinned], laidTests := true, laidLooks := .later }
def FramePlaysCardSaid : Prop := Claim7.holds Tryz.pinned (.plain (OpenSpec.ofChange framePlaysSpec)) framePlaysCard

/-- THE SECOND FORM's CARD OF 'relayhouselaw06.FramePlays'. -/
def framePlaysUptoCard : Claim7 := { stood := { row := framePlaysUptoRow, standIns := [], harness := (true, "f4377555e02bf9a426bbc6495090a089a4275137b5d70793999633cea0aa7c68"), looks := false }, kinds := [], alts := [], laidByText := true, laidKinds := [.data, .pinned], laidTests := true, laidLooks := .later }
def FramePlaysUptoCardSaid : Prop := Claim7.holds Tryz.pinned (.plain (OpenSpec.upto framePlaysSpec)) framePlaysUptoCard
end Rows
end Go.Proofs.YtnaedcennichlaaGreatDoor
