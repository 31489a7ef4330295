/-
  DERIVED. GIVEN WITH THE SEED: THE CARDS: each row of YtangnkhehajikaaGreatDoorRows.lean that lists a variable, with what it lists TIED to the program's text (the seventh form; the later family's looks); each row that meets fmt, with fmt's text TOLD by the authors' own Lean function (tested against real Go, not proved from fmt's source: count such statements apart). THE CARD IS WHAT COUNTS. Prove the row's statement (the work); the ties are given (YtangnkhehajikaaGreatDoorTie.lean); close each card by the builder's one call (the guide's Derived/Test/ToyasCard.lean, 'card_holds'). Laid BY PROGRAM, IN A SANDBOX (cutbox-door.mjs). By AI agents, Wed Nov 11 2026. No macro, syntax, notation, axiom, sorry.
-/
import Derived.Test.YtangnkhehajikaaGreatDoorRows
import GoSem.ClaimSeven
namespace Go.Proofs.YtangnkhehajikaaGreatDoor
namespace Rows

/-- THE TIED CARD OF 'relayhouselaw05.ReadBack'. -/
def readBackCard : Claim7 := { stood := { row := readBackRow, standIns := [], harness := (true, "1fe7946f5b171eafb94fdddfe2e01b165c3872b3660b4898f2eeb97d1620be78"), looks := false }, kinds := [], alts := [], laidByText := true, laidKinds := [.data, .pinned], laidTests := true, laidLooks := .later }
def ReadBackCardSaid : Prop := Claim7.holds Tryz.pinned (.plain (OpenSpec.ofChange readBackSpec)) readBackCard

/-- THE TIED CARD OF 'relayhouselaw05.ReadAgain'. -/
def readAgainCard : Claim7 := { stood := { row := readAgainRow, standIns := [], harness := (true, "1fe7946f5b171eafb94fdddfe2e01b165c3872b3660b4898f2eeb97d1620be78"), looks := false }, kinds := [], alts := [], laidByText := true, laidKinds := [.data, .pinned], laidTests := true, laidLooks := .later }
def ReadAgainCardSaid : Prop := Claim7.holds Tryz.pinned (.plain (OpenSpec.ofChange readAgainSpec)) readAgainCard

/-- THE TIED CARD OF 'relayhouselaw05.ReadRow'. -/
def readRowCard : Claim7 := { stood := { row := readRowRow, standIns := [], harness := (true, "1fe7946f5b171eafb94fdddfe2e01b165c3872b3660b4898f2eeb97d1620be78"), looks := false }, kinds := [], alts := [], laidByText := true, laidKinds := [.data, .pinned], laidTests := true, laidLooks := .later }
def ReadRowCardSaid : Prop := Claim7.holds Tryz.pinned (.plain (OpenSpec.ofChange readRowSpec)) readRowCard

/-- THE TIED CARD OF 'relayhouselaw05.ReadLevels'. -/
def readLevelsCard : Claim7 := { stood := { row := readLevelsRow, standIns := [], harness := (true, "1fe7946f5b171eafb94fdddfe2e01b165c3872b3660b4898f2eeb97d1620be78"), looks := false }, kinds := [], alts := [], laidByText := true, laidKinds := [.data, .pinned], laidTests := true, laidLooks := .later }
def ReadLevelsCardSaid : Prop := Claim7.holds Tryz.pinned (.plain (OpenSpec.ofChange readLevelsSpec)) readLevelsCard

/-- THE SECOND FORM's CARD OF 'relayhouselaw05.ReadBack'. -/
def readBackUptoCard : Claim7 := { stood := { row := readBackUptoRow, standIns := [], harness := (true, "1fe7946f5b171eafb94fdddfe2e01b165c3872b3660b4898f2eeb97d1620be78"), looks := false }, kinds := [], alts := [], laidByText := true, laidKinds := [.data, .pinned], laidTests := true, laidLooks := .later }
def ReadBackUptoCardSaid : Prop := Claim7.holds Tryz.pinned (.plain (OpenSpec.upto readBackSpec)) readBackUptoCard

/-- THE SECOND FORM's CARD OF 'relayhouselaw05.ReadAgain'. -/
def readAgainUptoCard : Claim7 := { stood := { row := readAgainUptoRow, standIns := [], harness := (true, "1fe7946f5b171eafb94fdddfe2e01b165c3872b3660b4898f2eeb97d1620be78"), looks := false }, kinds := [], alts := [], laidByText := true, laidKinds := [.data, .pinned], laidTests := true, laidLooks := .later }
def ReadAgainUptoCardSaid : Prop := Claim7.holds Tryz.pinned (.plain (OpenSpec.upto readAgainSpec)) readAgainUptoCard

/-- THE SECOND FORM's CARD OF 'relayhouselaw05.ReadRow'. -/
def readRowUptoCard : Claim7 := { stood := { row := readRowUptoRow, standIns := [], harness := (true, "1fe7946f5b171eafb94fdddfe2e01b165c3872b3660b4898f2eeb97d1620be78"), looks := false }, kinds := [], alts := [], laidByText := true, laidKinds := [.data, .pinned], laidTests := true, laidLooks := .later }
def ReadRowUptoCardSaid : Prop := Claim7.holds Tryz.pinned (.plain (OpenSpec.upto readRowSpec)) readRowUptoCard

/-- THE SECOND FORM's CARD OF 'relayhouselaw05.ReadLevels'. -/
def readLevelsUptoCard : Claim7 := { stood := { row := readLevelsUptoRow, standIns := [], harness := (true, "1fe7946f5b171eafb94fdddfe2e01b165c3872b3660b4898f2eeb97d1620be78"), looks := false }, kinds := [], alts := [], laidByText := true, laidKinds := [.data, .pinned], laidTests := true, laidLooks := .later }
def ReadLevelsUptoCardSaid : Prop := Claim7.holds Tryz.pinned (.plain (OpenSpec.upto readLevelsSpec)) readLevelsUptoCard
end Rows
end Go.Proofs.YtangnkhehajikaaGreatDoor
