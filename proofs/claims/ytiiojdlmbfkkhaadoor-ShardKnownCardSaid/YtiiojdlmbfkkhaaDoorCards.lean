/-
  DERIVED. GIVEN WITH THE SEED: THE CARDS: each row of YtiiojdlmbfkkhaaDoorRows.lean that lists a variable, with what it lists TIED to the program's text (the seventh form; the later family's looks); each row that meets fmt, with fmt's text TOLD by the authors' own Lean function (tested against real Go, not proved from fmt's source: count such statements apart). THE CARD IS WHAT COUNTS. Prove the row's statement (the work); the ties are given (YtiiojdlmbfkkhaaDoorTie.lean); close each card by the builder's one call (the guide's Derived/Test/ToyasCard.lean, 'card_holds'). Laid BY PROGRAM, IN A SANDBOX (cutbox-door.mjs). By AI agents, Wed Nov 11 2026. No macro, syntax, notation, axiom, sorry.
-/
import Derived.Test.YtiiojdlmbfkkhaaDoorRows
import GoSem.ClaimSeven
namespace Go.Proofs.YtiiojdlmbfkkhaaDoor
namespace Rows

/-- THE TIED CARD OF 'relayhouselaw08.ShardHash'. -/
def shardHashCard : Claim7 := { stood := { row := shardHashRow, standIns := [], harness := (true, "59cc3323e3d4101cad80c934a308e13f997c43cf08e51bbcc11c2457dba2bca3"), looks := false }, kinds := [], alts := [], laidByText := true, laidKinds := [.data, .pinned], laidTests := true, laidLooks := .later }
def ShardHashCardSaid : Prop := Claim7.holds Tryd.pinned (.plain (OpenSpec.ofChange shardHashSpec)) shardHashCard

/-- THE TIED CARD OF 'relayhouselaw08.ShardSpots'. -/
def shardSpotsCard : Claim7 := { stood := { row := shardSpotsRow, standIns := [], harness := (true, "59cc3323e3d4101cad80c934a308e13f997c43cf08e51bbcc11c2457dba2bca3"), looks := false }, kinds := [], alts := [], laidByText := true, laidKinds := [.data, .pinned], laidTests := true, laidLooks := .later }
def ShardSpotsCardSaid : Prop := Claim7.holds Tryd.pinned (.plain (OpenSpec.ofChange shardSpotsSpec)) shardSpotsCard

/-- THE TIED CARD OF 'relayhouselaw08.ShardKnown'. -/
def shardKnownCard : Claim7 := { stood := { row := shardKnownRow, standIns := [], harness := (true, "59cc3323e3d4101cad80c934a308e13f997c43cf08e51bbcc11c2457dba2bca3"), looks := false }, kinds := [], alts := [], laidByText := true, laidKinds := [.data, .pinned], laidTests := true, laidLooks := .later }
def ShardKnownCardSaid : Prop := Claim7.holds Tryd.pinned (.plain (OpenSpec.ofChange shardKnownSpec)) shardKnownCard

/-- THE TIED CARD OF 'relayhouselaw08.ShardTakes'. -/
def shardTakesCard : Claim7 := { stood := { row := shardTakesRow, standIns := [], harness := (true, "59cc3323e3d4101cad80c934a308e13f997c43cf08e51bbcc11c2457dba2bca3"), looks := false }, kinds := [], alts := [], laidByText := true, laidKinds := [.data, .pinned], laidTests := true, laidLooks := .later }
def ShardTakesCardSaid : Prop := Claim7.holds Tryd.pinned (.plain (OpenSpec.ofChange shardTakesSpec)) shardTakesCard

/-- THE TIED CARD OF 'relayhouselaw08.ShardParts'. -/
def shardPartsCard : Claim7 := { stood := { row := shardPartsRow, standIns := [], harness := (true, "59cc3323e3d4101cad80c934a308e13f997c43cf08e51bbcc11c2457dba2bca3"), looks := false }, kinds := [], alts := [], laidByText := true, laidKinds := [.data, .pinned], laidTests := true, laidLooks := .later }
def ShardPartsCardSaid : Prop := Claim7.holds Tryd.pinned (.plain (OpenSpec.ofChange shardPartsSpec)) shardPartsCard

/-- THE TIED CARD OF 'relayhouselaw08.ShardOne'. -/
def shardOneCard : Claim7 := { stood := { row := shardOneRow, standIns := [], harness := (true, "59cc3323e3d4101cad80c934a308e13f997c43cf08e51bbcc11c2457dba2bca3"), looks := false }, kinds := [], alts := [], laidByText := true, laidKinds := [.data, .pinned], laidTests := true, laidLooks := .later }
def ShardOneCardSaid : Prop := Claim7.holds Tryd.pinned (.plain (OpenSpec.ofChange shardOneSpec)) shardOneCard

/-- THE SECOND FORM's CARD OF 'relayhouselaw08.ShardHash'. -/
def shardHashUptoCard : Claim7 := { stood := { row := shardHashUptoRow, standIns := [], harness := (true, "59cc3323e3d4101cad80c934a308e13f997c43cf08e51bbcc11c2457dba2bca3"), looks := false }, kinds := [], alts := [], laidByText := true, laidKinds := [.data, .pinned], laidTests := true, laidLooks := .later }
def ShardHashUptoCardSaid : Prop := Claim7.holds Tryd.pinned (.plain (OpenSpec.upto shardHashSpec)) shardHashUptoCard

/-- THE SECOND FORM's CARD OF 'relayhouselaw08.ShardSpots'. -/
def shardSpotsUptoCard : Claim7 := { stood := { row := shardSpotsUptoRow, standIns := [], harness := (true, "59cc3323e3d4101cad80c934a308e13f997c43cf08e51bbcc11c2457dba2bca3"), looks := false }, kinds := [], alts := [], laidByText := true, laidKinds := [.data, .pinned], laidTests := true, laidLooks := .later }
def ShardSpotsUptoCardSaid : Prop := Claim7.holds Tryd.pinned (.plain (OpenSpec.upto shardSpotsSpec)) shardSpotsUptoCard

/-- THE SECOND FORM's CARD OF 'relayhouselaw08.ShardKnown'. -/
def shardKnownUptoCard : Claim7 := { stood := { row := shardKnownUptoRow, standIns := [], harness := (true, "59cc3323e3d4101cad80c934a308e13f997c43cf08e51bbcc11c2457dba2bca3"), looks := false }, kinds := [], alts := [], laidByText := true, laidKinds := [.data, .pinned], laidTests := true, laidLooks := .later }
def ShardKnownUptoCardSaid : Prop := Claim7.holds Tryd.pinned (.plain (OpenSpec.upto shardKnownSpec)) shardKnownUptoCard

/-- THE SECOND FORM's CARD OF 'relayhouselaw08.ShardTakes'. -/
def shardTakesUptoCard : Claim7 := { stood := { row := shardTakesUptoRow, standIns := [], harness := (true, "59cc3323e3d4101cad80c934a308e13f997c43cf08e51bbcc11c2457dba2bca3"), looks := false }, kinds := [], alts := [], laidByText := true, laidKinds := [.data, .pinned], laidTests := true, laidLooks := .later }
def ShardTakesUptoCardSaid : Prop := Claim7.holds Tryd.pinned (.plain (OpenSpec.upto shardTakesSpec)) shardTakesUptoCard

/-- THE SECOND FORM's CARD OF 'relayhouselaw08.ShardParts'. -/
def shardPartsUptoCard : Claim7 := { stood := { row := shardPartsUptoRow, standIns := [], harness := (true, "59cc3323e3d4101cad80c934a308e13f997c43cf08e51bbcc11c2457dba2bca3"), looks := false }, kinds := [], alts := [], laidByText := true, laidKinds := [.data, .pinned], laidTests := true, laidLooks := .later }
def ShardPartsUptoCardSaid : Prop := Claim7.holds Tryd.pinned (.plain (OpenSpec.upto shardPartsSpec)) shardPartsUptoCard

/-- THE SECOND FORM's CARD OF 'relayhouselaw08.ShardOne'. -/
def shardOneUptoCard : Claim7 := { stood := { row := shardOneUptoRow, standIns := [], harness := (true, "59cc3323e3d4101cad80c934a308e13f997c43cf08e51bbcc11c2457dba2bca3"), looks := false }, kinds := [], alts := [], laidByText := true, laidKinds := [.data, .pinned], laidTests := true, laidLooks := .later }
def ShardOneUptoCardSaid : Prop := Claim7.holds Tryd.pinned (.plain (OpenSpec.upto shardOneSpec)) shardOneUptoCard
end Rows
end Go.Proofs.YtiiojdlmbfkkhaaDoor
