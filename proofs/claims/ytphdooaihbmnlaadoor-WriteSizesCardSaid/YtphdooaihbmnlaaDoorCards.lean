/-
  DERIVED. GIVEN WITH THE SEED: THE CARDS: each row of YtphdooaihbmnlaaDoorRows.lean that lists a variable, with what it lists TIED to the program's text (the seventh form; the later family's looks); each row that meets fmt, with fmt's text TOLD by the authors' own Lean function (tested against real Go, not proved from fmt's source: count such statements apart). THE CARD IS WHAT COUNTS. Prove the row's statement (the work); the ties are given (YtphdooaihbmnlaaDoorTie.lean); close each card by the builder's one call (the guide's Derived/Test/ToyasCard.lean, 'card_holds'). Laid BY PROGRAM, IN A SANDBOX (cutbox-door.mjs). By AI agents, Wed Nov 11 2026. No macro, syntax, notation, axiom, sorry.
-/
import Derived.Test.YtphdooaihbmnlaaDoorRows
import GoSem.ClaimSeven
namespace Go.Proofs.YtphdooaihbmnlaaDoor
namespace Rows

/-- THE TIED CARD OF 'relayhouselaw04.WriteKnown'. -/
def writeKnownCard : Claim7 := { stood := { row := writeKnownRow, standIns := [], harness := (true, "4a79469b00b3a2e7d72390db65749f712711e11d04baf61e555bac2ddfdaabc7"), looks := false }, kinds := [], alts := [], laidByText := true, laidKinds := [.data, .pinned], laidTests := true, laidLooks := .later }
def WriteKnownCardSaid : Prop := Claim7.holds Tryd.pinned (.plain (OpenSpec.ofChange writeKnownSpec)) writeKnownCard

/-- THE TIED CARD OF 'relayhouselaw04.WriteApart'. -/
def writeApartCard : Claim7 := { stood := { row := writeApartRow, standIns := [], harness := (true, "4a79469b00b3a2e7d72390db65749f712711e11d04baf61e555bac2ddfdaabc7"), looks := false }, kinds := [], alts := [], laidByText := true, laidKinds := [.data, .pinned], laidTests := true, laidLooks := .later }
def WriteApartCardSaid : Prop := Claim7.holds Tryd.pinned (.plain (OpenSpec.ofChange writeApartSpec)) writeApartCard

/-- THE TIED CARD OF 'relayhouselaw04.WriteSizes'. -/
def writeSizesCard : Claim7 := { stood := { row := writeSizesRow, standIns := [], harness := (true, "4a79469b00b3a2e7d72390db65749f712711e11d04baf61e555bac2ddfdaabc7"), looks := false }, kinds := [], alts := [], laidByText := true, laidKinds := [.data, .pinned], laidTests := true, laidLooks := .later }
def WriteSizesCardSaid : Prop := Claim7.holds Tryd.pinned (.plain (OpenSpec.ofChange writeSizesSpec)) writeSizesCard

/-- THE TIED CARD OF 'relayhouselaw04.WriteRow'. -/
def writeRowCard : Claim7 := { stood := { row := writeRowRow, standIns := [], harness := (true, "4a79469b00b3a2e7d72390db65749f712711e11d04baf61e555bac2ddfdaabc7"), looks := false }, kinds := [], alts := [], laidByText := true, laidKinds := [.data, .pinned], laidTests := true, laidLooks := .later }
def WriteRowCardSaid : Prop := Claim7.holds Tryd.pinned (.plain (OpenSpec.ofChange writeRowSpec)) writeRowCard

/-- THE SECOND FORM's CARD OF 'relayhouselaw04.WriteKnown'. -/
def writeKnownUptoCard : Claim7 := { stood := { row := writeKnownUptoRow, standIns := [], harness := (true, "4a79469b00b3a2e7d72390db65749f712711e11d04baf61e555bac2ddfdaabc7"), looks := false }, kinds := [], alts := [], laidByText := true, laidKinds := [.data, .pinned], laidTests := true, laidLooks := .later }
def WriteKnownUptoCardSaid : Prop := Claim7.holds Tryd.pinned (.plain (OpenSpec.upto writeKnownSpec)) writeKnownUptoCard

/-- THE SECOND FORM's CARD OF 'relayhouselaw04.WriteApart'. -/
def writeApartUptoCard : Claim7 := { stood := { row := writeApartUptoRow, standIns := [], harness := (true, "4a79469b00b3a2e7d72390db65749f712711e11d04baf61e555bac2ddfdaabc7"), looks := false }, kinds := [], alts := [], laidByText := true, laidKinds := [.data, .pinned], laidTests := true, laidLooks := .later }
def WriteApartUptoCardSaid : Prop := Claim7.holds Tryd.pinned (.plain (OpenSpec.upto writeApartSpec)) writeApartUptoCard

/-- THE SECOND FORM's CARD OF 'relayhouselaw04.WriteSizes'. -/
def writeSizesUptoCard : Claim7 := { stood := { row := writeSizesUptoRow, standIns := [], harness := (true, "4a79469b00b3a2e7d72390db65749f712711e11d04baf61e555bac2ddfdaabc7"), looks := false }, kinds := [], alts := [], laidByText := true, laidKinds := [.data, .pinned], laidTests := true, laidLooks := .later }
def WriteSizesUptoCardSaid : Prop := Claim7.holds Tryd.pinned (.plain (OpenSpec.upto writeSizesSpec)) writeSizesUptoCard

/-- THE SECOND FORM's CARD OF 'relayhouselaw04.WriteRow'. -/
def writeRowUptoCard : Claim7 := { stood := { row := writeRowUptoRow, standIns := [], harness := (true, "4a79469b00b3a2e7d72390db65749f712711e11d04baf61e555bac2ddfdaabc7"), looks := false }, kinds := [], alts := [], laidByText := true, laidKinds := [.data, .pinned], laidTests := true, laidLooks := .later }
def WriteRowUptoCardSaid : Prop := Claim7.holds Tryd.pinned (.plain (OpenSpec.upto writeRowSpec)) writeRowUptoCard
end Rows
end Go.Proofs.YtphdooaihbmnlaaDoor
