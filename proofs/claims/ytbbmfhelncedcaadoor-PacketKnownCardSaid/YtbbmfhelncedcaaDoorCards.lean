/-
  DERIVED. GIVEN WITH THE SEED: THE CARDS: each row of YtbbmfhelncedcaaDoorRows.lean that lists a variable, with what it lists TIED to the program's text (the seventh form; the later family's looks); each row that meets fmt, with fmt's text TOLD by the authors' own Lean function (tested against real Go, not proved from fmt's source: count such statements apart). THE CARD IS WHAT COUNTS. Prove the row's statement (the work); the ties are given (YtbbmfhelncedcaaDoorTie.lean); close each card by the builder's one call (the guide's Derived/Test/ToyasCard.lean, 'card_holds'). Laid BY PROGRAM, IN A SANDBOX (cutbox-door.mjs). By AI agents, Wed Nov 11 2026. No macro, syntax, notation, axiom, sorry.
-/
import Derived.Test.YtbbmfhelncedcaaDoorRows
import GoSem.ClaimSeven
namespace Go.Proofs.YtbbmfhelncedcaaDoor
namespace Rows

/-- THE TIED CARD OF 'relayhouselaw03.PacketKnown'. -/
def packetKnownCard : Claim7 := { stood := { row := packetKnownRow, standIns := [], harness := (true, "eb0baa1574931baaf0e383fc26af6c7d2c42ed876997cbb4b7eeb498dd988c3d"), looks := false }, kinds := [], alts := [], laidByText := true, laidKinds := [.data, .pinned], laidTests := true, laidLooks := .later }
def PacketKnownCardSaid : Prop := Claim7.holds Tryd.pinned (.plain (OpenSpec.ofChange packetKnownSpec)) packetKnownCard

/-- THE TIED CARD OF 'relayhouselaw03.PacketRight'. -/
def packetRightCard : Claim7 := { stood := { row := packetRightRow, standIns := [], harness := (true, "eb0baa1574931baaf0e383fc26af6c7d2c42ed876997cbb4b7eeb498dd988c3d"), looks := false }, kinds := [], alts := [], laidByText := true, laidKinds := [.data, .pinned], laidTests := true, laidLooks := .later }
def PacketRightCardSaid : Prop := Claim7.holds Tryd.pinned (.plain (OpenSpec.ofChange packetRightSpec)) packetRightCard

/-- THE TIED CARD OF 'relayhouselaw03.PacketSame'. -/
def packetSameCard : Claim7 := { stood := { row := packetSameRow, standIns := [], harness := (true, "eb0baa1574931baaf0e383fc26af6c7d2c42ed876997cbb4b7eeb498dd988c3d"), looks := false }, kinds := [], alts := [], laidByText := true, laidKinds := [.data, .pinned], laidTests := true, laidLooks := .later }
def PacketSameCardSaid : Prop := Claim7.holds Tryd.pinned (.plain (OpenSpec.ofChange packetSameSpec)) packetSameCard

/-- THE TIED CARD OF 'relayhouselaw03.PacketFields'. -/
def packetFieldsCard : Claim7 := { stood := { row := packetFieldsRow, standIns := [], harness := (true, "eb0baa1574931baaf0e383fc26af6c7d2c42ed876997cbb4b7eeb498dd988c3d"), looks := false }, kinds := [], alts := [], laidByText := true, laidKinds := [.data, .pinned], laidTests := true, laidLooks := .later }
def PacketFieldsCardSaid : Prop := Claim7.holds Tryd.pinned (.plain (OpenSpec.ofChange packetFieldsSpec)) packetFieldsCard

/-- THE TIED CARD OF 'relayhouselaw03.PacketTopics'. -/
def packetTopicsCard : Claim7 := { stood := { row := packetTopicsRow, standIns := [], harness := (true, "eb0baa1574931baaf0e383fc26af6c7d2c42ed876997cbb4b7eeb498dd988c3d"), looks := false }, kinds := [], alts := [], laidByText := true, laidKinds := [.data, .pinned], laidTests := true, laidLooks := .later }
def PacketTopicsCardSaid : Prop := Claim7.holds Tryd.pinned (.plain (OpenSpec.ofChange packetTopicsSpec)) packetTopicsCard

/-- THE TIED CARD OF 'relayhouselaw03.PacketRests'. -/
def packetRestsCard : Claim7 := { stood := { row := packetRestsRow, standIns := [], harness := (true, "eb0baa1574931baaf0e383fc26af6c7d2c42ed876997cbb4b7eeb498dd988c3d"), looks := false }, kinds := [], alts := [], laidByText := true, laidKinds := [.data, .pinned], laidTests := true, laidLooks := .later }
def PacketRestsCardSaid : Prop := Claim7.holds Tryd.pinned (.plain (OpenSpec.ofChange packetRestsSpec)) packetRestsCard

/-- THE SECOND FORM's CARD OF 'relayhouselaw03.PacketKnown'. -/
def packetKnownUptoCard : Claim7 := { stood := { row := packetKnownUptoRow, standIns := [], harness := (true, "eb0baa1574931baaf0e383fc26af6c7d2c42ed876997cbb4b7eeb498dd988c3d"), looks := false }, kinds := [], alts := [], laidByText := true, laidKinds := [.data, .pinned], laidTests := true, laidLooks := .later }
def PacketKnownUptoCardSaid : Prop := Claim7.holds Tryd.pinned (.plain (OpenSpec.upto packetKnownSpec)) packetKnownUptoCard

/-- THE SECOND FORM's CARD OF 'relayhouselaw03.PacketRight'. -/
def packetRightUptoCard : Claim7 := { stood := { row := packetRightUptoRow, standIns := [], harness := (true, "eb0baa1574931baaf0e383fc26af6c7d2c42ed876997cbb4b7eeb498dd988c3d"), looks := false }, kinds := [], alts := [], laidByText := true, laidKinds := [.data, .pinned], laidTests := true, laidLooks := .later }
def PacketRightUptoCardSaid : Prop := Claim7.holds Tryd.pinned (.plain (OpenSpec.upto packetRightSpec)) packetRightUptoCard

/-- THE SECOND FORM's CARD OF 'relayhouselaw03.PacketSame'. -/
def packetSameUptoCard : Claim7 := { stood := { row := packetSameUptoRow, standIns := [], harness := (true, "eb0baa1574931baaf0e383fc26af6c7d2c42ed876997cbb4b7eeb498dd988c3d"), looks := false }, kinds := [], alts := [], laidByText := true, laidKinds := [.data, .pinned], laidTests := true, laidLooks := .later }
def PacketSameUptoCardSaid : Prop := Claim7.holds Tryd.pinned (.plain (OpenSpec.upto packetSameSpec)) packetSameUptoCard

/-- THE SECOND FORM's CARD OF 'relayhouselaw03.PacketFields'. -/
def packetFieldsUptoCard : Claim7 := { stood := { row := packetFieldsUptoRow, standIns := [], harness := (true, "eb0baa1574931baaf0e383fc26af6c7d2c42ed876997cbb4b7eeb498dd988c3d"), looks := false }, kinds := [], alts := [], laidByText := true, laidKinds := [.data, .pinned], laidTests := true, laidLooks := .later }
def PacketFieldsUptoCardSaid : Prop := Claim7.holds Tryd.pinned (.plain (OpenSpec.upto packetFieldsSpec)) packetFieldsUptoCard

/-- THE SECOND FORM's CARD OF 'relayhouselaw03.PacketTopics'. -/
def packetTopicsUptoCard : Claim7 := { stood := { row := packetTopicsUptoRow, standIns := [], harness := (true, "eb0baa1574931baaf0e383fc26af6c7d2c42ed876997cbb4b7eeb498dd988c3d"), looks := false }, kinds := [], alts := [], laidByText := true, laidKinds := [.data, .pinned], laidTests := true, laidLooks := .later }
def PacketTopicsUptoCardSaid : Prop := Claim7.holds Tryd.pinned (.plain (OpenSpec.upto packetTopicsSpec)) packetTopicsUptoCard

/-- THE SECOND FORM's CARD OF 'relayhouselaw03.PacketRests'. -/
def packetRestsUptoCard : Claim7 := { stood := { row := packetRestsUptoRow, standIns := [], harness := (true, "eb0baa1574931baaf0e383fc26af6c7d2c42ed876997cbb4b7eeb498dd988c3d"), looks := false }, kinds := [], alts := [], laidByText := true, laidKinds := [.data, .pinned], laidTests := true, laidLooks := .later }
def PacketRestsUptoCardSaid : Prop := Claim7.holds Tryd.pinned (.plain (OpenSpec.upto packetRestsSpec)) packetRestsUptoCard
end Rows
end Go.Proofs.YtbbmfhelncedcaaDoor
