/-
  DERIVED. GIVEN WITH THE SEED: THE CARDS: each row of YtncgkkhpcgdcaaaGreatDoorRows.lean that lists a variable, with what it lists TIED to the program's text (the seventh form; the later family's looks); each row that meets fmt, with fmt's text TOLD by the authors' own Lean function (tested against real Go, not proved from fmt's source: count such statements apart). THE CARD IS WHAT COUNTS. Prove the row's statement (the work); the ties are given (YtncgkkhpcgdcaaaGreatDoorTie.lean); close each card by the builder's one call (the guide's Derived/Test/ToyasCard.lean, 'card_holds'). Laid BY PROGRAM, IN A SANDBOX (cutbox-door.mjs). By AI agents, Wed Nov 11 2026. No macro, syntax, notation, axiom, sorry.
-/
import Derived.Test.YtncgkkhpcgdcaaaGreatDoorRows
import GoSem.ClaimSeven
namespace Go.Proofs.YtncgkkhpcgdcaaaGreatDoor
namespace Rows

/-- THE TIED CARD OF 'relayhouselaw06.FramePlays'. -/
def framePlaysCard : Claim7 := { stood := { row := framePlaysRow, standIns := [], harness := (true, "f989b5c70e92bb82ad891977bdb3ff841b1a4ae2b8075d1f65a6502bdb3300e3"), looks := false }, kinds := [], alts := [], laidByText := true, laidKinds := [.data, .pinned], laidTests := true, laidLooks := .later }
def FramePlaysCardSaid : Prop := Claim7.holds Tryz.pinned (.plain (OpenSpec.ofChange framePlaysSpec)) framePlaysCard

/-- THE TIED CARD OF 'relayhouselaw06.FrameRow'. -/
def frameRowCard : Claim7 := { stood := { row := frameRowRow, standIns := [], harness := (true, "f989b5c70e92bb82ad891977bdb3ff841b1a4ae2b8075d1f65a6502bdb3300e3"), looks := false }, kinds := [], alts := [], laidByText := true, laidKinds := [.data, .pinned], laidTests := true, laidLooks := .later }
def FrameRowCardSaid : Prop := Claim7.holds Tryz.pinned (.plain (OpenSpec.ofChange frameRowSpec)) frameRowCard

/-- THE SECOND FORM's CARD OF 'relayhouselaw06.FramePlays'. -/
def framePlaysUptoCard : Claim7 := { stood := { row := framePlaysUptoRow, standIns := [], harness := (true, "f989b5c70e92bb82ad891977bdb3ff841b1a4ae2b8075d1f65a6502bdb3300e3"), looks := false }, kinds := [], alts := [], laidByText := true, laidKinds := [.data, .pinned], laidTests := true, laidLooks := .later }
def FramePlaysUptoCardSaid : Prop := Claim7.holds Tryz.pinned (.plain (OpenSpec.upto framePlaysSpec)) framePlaysUptoCard

/-- THE SECOND FORM's CARD OF 'relayhouselaw06.FrameRow'. -/
def frameRowUptoCard : Claim7 := { stood := { row := frameRowUptoRow, standIns := [], harness := (true, "f989b5c70e92bb82ad891977bdb3ff841b1a4ae2b8075d1f65a6502bdb3300e3"), looks := false }, kinds := [], alts := [], laidByText := true, laidKinds := [.data, .pinned], laidTests := true, laidLooks := .later }
def FrameRowUptoCardSaid : Prop := Claim7.holds Tryz.pinned (.plain (OpenSpec.upto frameRowSpec)) frameRowUptoCard
end Rows
end Go.Proofs.YtncgkkhpcgdcaaaGreatDoor
