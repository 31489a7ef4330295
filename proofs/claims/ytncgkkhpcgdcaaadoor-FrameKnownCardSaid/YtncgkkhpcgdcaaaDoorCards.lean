/-
  DERIVED. GIVEN WITH THE SEED: THE CARDS: each row of YtncgkkhpcgdcaaaDoorRows.lean that lists a variable, with what it lists TIED to the program's text (the seventh form; the later family's looks); each row that meets fmt, with fmt's text TOLD by the authors' own Lean function (tested against real Go, not proved from fmt's source: count such statements apart). THE CARD IS WHAT COUNTS. Prove the row's statement (the work); the ties are given (YtncgkkhpcgdcaaaDoorTie.lean); close each card by the builder's one call (the guide's Derived/Test/ToyasCard.lean, 'card_holds'). Laid BY PROGRAM, IN A SANDBOX (cutbox-door.mjs). By AI agents, Wed Nov 11 2026. No macro, syntax, notation, axiom, sorry.
-/
import Derived.Test.YtncgkkhpcgdcaaaDoorRows
import GoSem.ClaimSeven
namespace Go.Proofs.YtncgkkhpcgdcaaaDoor
namespace Rows

/-- THE TIED CARD OF 'relayhouselaw06.FrameKnown'. -/
def frameKnownCard : Claim7 := { stood := { row := frameKnownRow, standIns := [], harness := (true, "7335a6134f012472955d1b1a4f1e36c13cbb4cd238d4adcca7946ce49958b3f0"), looks := false }, kinds := [], alts := [], laidByText := true, laidKinds := [.data, .pinned], laidTests := true, laidLooks := .later }
def FrameKnownCardSaid : Prop := Claim7.holds Tryd.pinned (.plain (OpenSpec.ofChange frameKnownSpec)) frameKnownCard

/-- THE TIED CARD OF 'relayhouselaw06.FrameChunks'. -/
def frameChunksCard : Claim7 := { stood := { row := frameChunksRow, standIns := [], harness := (true, "7335a6134f012472955d1b1a4f1e36c13cbb4cd238d4adcca7946ce49958b3f0"), looks := false }, kinds := [], alts := [], laidByText := true, laidKinds := [.data, .pinned], laidTests := true, laidLooks := .later }
def FrameChunksCardSaid : Prop := Claim7.holds Tryd.pinned (.plain (OpenSpec.ofChange frameChunksSpec)) frameChunksCard

/-- THE TIED CARD OF 'relayhouselaw06.FrameStuck'. -/
def frameStuckCard : Claim7 := { stood := { row := frameStuckRow, standIns := [], harness := (true, "7335a6134f012472955d1b1a4f1e36c13cbb4cd238d4adcca7946ce49958b3f0"), looks := false }, kinds := [], alts := [], laidByText := true, laidKinds := [.data, .pinned], laidTests := true, laidLooks := .later }
def FrameStuckCardSaid : Prop := Claim7.holds Tryd.pinned (.plain (OpenSpec.ofChange frameStuckSpec)) frameStuckCard

/-- THE SECOND FORM's CARD OF 'relayhouselaw06.FrameKnown'. -/
def frameKnownUptoCard : Claim7 := { stood := { row := frameKnownUptoRow, standIns := [], harness := (true, "7335a6134f012472955d1b1a4f1e36c13cbb4cd238d4adcca7946ce49958b3f0"), looks := false }, kinds := [], alts := [], laidByText := true, laidKinds := [.data, .pinned], laidTests := true, laidLooks := .later }
def FrameKnownUptoCardSaid : Prop := Claim7.holds Tryd.pinned (.plain (OpenSpec.upto frameKnownSpec)) frameKnownUptoCard

/-- THE SECOND FORM's CARD OF 'relayhouselaw06.FrameChunks'. -/
def frameChunksUptoCard : Claim7 := { stood := { row := frameChunksUptoRow, standIns := [], harness := (true, "7335a6134f012472955d1b1a4f1e36c13cbb4cd238d4adcca7946ce49958b3f0"), looks := false }, kinds := [], alts := [], laidByText := true, laidKinds := [.data, .pinned], laidTests := true, laidLooks := .later }
def FrameChunksUptoCardSaid : Prop := Claim7.holds Tryd.pinned (.plain (OpenSpec.upto frameChunksSpec)) frameChunksUptoCard

/-- THE SECOND FORM's CARD OF 'relayhouselaw06.FrameStuck'. -/
def frameStuckUptoCard : Claim7 := { stood := { row := frameStuckUptoRow, standIns := [], harness := (true, "7335a6134f012472955d1b1a4f1e36c13cbb4cd238d4adcca7946ce49958b3f0"), looks := false }, kinds := [], alts := [], laidByText := true, laidKinds := [.data, .pinned], laidTests := true, laidLooks := .later }
def FrameStuckUptoCardSaid : Prop := Claim7.holds Tryd.pinned (.plain (OpenSpec.upto frameStuckSpec)) frameStuckUptoCard
end Rows
end Go.Proofs.YtncgkkhpcgdcaaaDoor
