/-
  DERIVED. GIVEN WITH THE SEED: THE CARDS: each row of YthhadjnffeadfaaDoorRows.lean that lists a variable, with what it lists TIED to the program's text (the seventh form; the later family's looks); each row that meets fmt, with fmt's text TOLD by the authors' own Lean function (tested against real Go, not proved from fmt's source: count such statements apart). THE CARD IS WHAT COUNTS. Prove the row's statement (the work); the ties are given (YthhadjnffeadfaaDoorTie.lean); close each card by the builder's one call (the guide's Derived/Test/ToyasCard.lean, 'card_holds'). Laid BY PROGRAM, IN A SANDBOX (cutbox-door.mjs). By AI agents, Wed Nov 11 2026. No macro, syntax, notation, axiom, sorry.
-/
import Derived.Test.YthhadjnffeadfaaDoorRows
import GoSem.ClaimSeven
namespace Go.Proofs.YthhadjnffeadfaaDoor
namespace Rows

/-- THE TIED CARD OF 'relayhouselaw10.KeepKnown'. -/
def keepKnownCard : Claim7 := { stood := { row := keepKnownRow, standIns := [], harness := (true, "390a2b443a7b4048036d5a4cb710622c11e010d7e9ebaa58b7bcdb2f3a3c2cee"), looks := false }, kinds := [], alts := [], laidByText := true, laidKinds := [.data, .pinned], laidTests := true, laidLooks := .later }
def KeepKnownCardSaid : Prop := Claim7.holds Tryd.pinned (.plain (OpenSpec.ofChange keepKnownSpec)) keepKnownCard

/-- THE TIED CARD OF 'relayhouselaw10.KeepLast'. -/
def keepLastCard : Claim7 := { stood := { row := keepLastRow, standIns := [], harness := (true, "390a2b443a7b4048036d5a4cb710622c11e010d7e9ebaa58b7bcdb2f3a3c2cee"), looks := false }, kinds := [], alts := [], laidByText := true, laidKinds := [.data, .pinned], laidTests := true, laidLooks := .later }
def KeepLastCardSaid : Prop := Claim7.holds Tryd.pinned (.plain (OpenSpec.ofChange keepLastSpec)) keepLastCard

/-- THE TIED CARD OF 'relayhouselaw10.KeepCovers'. -/
def keepCoversCard : Claim7 := { stood := { row := keepCoversRow, standIns := [], harness := (true, "390a2b443a7b4048036d5a4cb710622c11e010d7e9ebaa58b7bcdb2f3a3c2cee"), looks := false }, kinds := [], alts := [], laidByText := true, laidKinds := [.data, .pinned], laidTests := true, laidLooks := .later }
def KeepCoversCardSaid : Prop := Claim7.holds Tryd.pinned (.plain (OpenSpec.ofChange keepCoversSpec)) keepCoversCard

/-- THE TIED CARD OF 'relayhouselaw10.KeepOne'. -/
def keepOneCard : Claim7 := { stood := { row := keepOneRow, standIns := [], harness := (true, "390a2b443a7b4048036d5a4cb710622c11e010d7e9ebaa58b7bcdb2f3a3c2cee"), looks := false }, kinds := [], alts := [], laidByText := true, laidKinds := [.data, .pinned], laidTests := true, laidLooks := .later }
def KeepOneCardSaid : Prop := Claim7.holds Tryd.pinned (.plain (OpenSpec.ofChange keepOneSpec)) keepOneCard

/-- THE SECOND FORM's CARD OF 'relayhouselaw10.KeepKnown'. -/
def keepKnownUptoCard : Claim7 := { stood := { row := keepKnownUptoRow, standIns := [], harness := (true, "390a2b443a7b4048036d5a4cb710622c11e010d7e9ebaa58b7bcdb2f3a3c2cee"), looks := false }, kinds := [], alts := [], laidByText := true, laidKinds := [.data, .pinned], laidTests := true, laidLooks := .later }
def KeepKnownUptoCardSaid : Prop := Claim7.holds Tryd.pinned (.plain (OpenSpec.upto keepKnownSpec)) keepKnownUptoCard

/-- THE SECOND FORM's CARD OF 'relayhouselaw10.KeepLast'. -/
def keepLastUptoCard : Claim7 := { stood := { row := keepLastUptoRow, standIns := [], harness := (true, "390a2b443a7b4048036d5a4cb710622c11e010d7e9ebaa58b7bcdb2f3a3c2cee"), looks := false }, kinds := [], alts := [], laidByText := true, laidKinds := [.data, .pinned], laidTests := true, laidLooks := .later }
def KeepLastUptoCardSaid : Prop := Claim7.holds Tryd.pinned (.plain (OpenSpec.upto keepLastSpec)) keepLastUptoCard

/-- THE SECOND FORM's CARD OF 'relayhouselaw10.KeepCovers'. -/
def keepCoversUptoCard : Claim7 := { stood := { row := keepCoversUptoRow, standIns := [], harness := (true, "390a2b443a7b4048036d5a4cb710622c11e010d7e9ebaa58b7bcdb2f3a3c2cee"), looks := false }, kinds := [], alts := [], laidByText := true, laidKinds := [.data, .pinned], laidTests := true, laidLooks := .later }
def KeepCoversUptoCardSaid : Prop := Claim7.holds Tryd.pinned (.plain (OpenSpec.upto keepCoversSpec)) keepCoversUptoCard

/-- THE SECOND FORM's CARD OF 'relayhouselaw10.KeepOne'. -/
def keepOneUptoCard : Claim7 := { stood := { row := keepOneUptoRow, standIns := [], harness := (true, "390a2b443a7b4048036d5a4cb710622c11e010d7e9ebaa58b7bcdb2f3a3c2cee"), looks := false }, kinds := [], alts := [], laidByText := true, laidKinds := [.data, .pinned], laidTests := true, laidLooks := .later }
def KeepOneUptoCardSaid : Prop := Claim7.holds Tryd.pinned (.plain (OpenSpec.upto keepOneSpec)) keepOneUptoCard
end Rows
end Go.Proofs.YthhadjnffeadfaaDoor
