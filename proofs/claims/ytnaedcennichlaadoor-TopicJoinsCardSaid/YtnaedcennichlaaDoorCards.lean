/-
  DERIVED. GIVEN WITH THE SEED: THE CARDS: each row of YtnaedcennichlaaDoorRows.lean that lists a variable, with what it lists TIED to the program's text (the seventh form; the later family's looks); each row that meets fmt, with fmt's text TOLD by the authors' own Lean function (tested against real Go, not proved from fmt's source: count such statements apart). THE CARD IS WHAT COUNTS. Prove the row's statement (the work); the ties are given (YtnaedcennichlaaDoorTie.lean); close each card by the builder's one call (the guide's Derived/Test/ToyasCard.lean, 'card_holds'). Laid BY PROGRAM, IN A SANDBOX (cutbox-door.mjs). By AI agents, Wed Nov 11 2026. No macro, syntax, notation, axiom, sorry.
-/
import Derived.Test.YtnaedcennichlaaDoorRows
import GoSem.ClaimSeven
namespace Go.Proofs.YtnaedcennichlaaDoor
namespace Rows

/-- THE TIED CARD OF 'relayhouselaw07.TopicForms'. -/
def topicFormsCard : Claim7 := { stood := { row := topicFormsRow, standIns := [], harness := (true, "aa23ec700eaddc1289805f9a5353903588cb30e932ba670748ed3f11b8b27f9e"), looks := false }, kinds := [], alts := [], laidByText := true, laidKinds := [.data, .pinned], laidTests := true, laidLooks := .later }
def TopicFormsCardSaid : Prop := Claim7.holds Tryd.pinned (.plain (OpenSpec.ofChange topicFormsSpec)) topicFormsCard

/-- THE TIED CARD OF 'relayhouselaw07.TopicMatches'. -/
def topicMatchesCard : Claim7 := { stood := { row := topicMatchesRow, standIns := [], harness := (true, "aa23ec700eaddc1289805f9a5353903588cb30e932ba670748ed3f11b8b27f9e"), looks := false }, kinds := [], alts := [], laidByText := true, laidKinds := [.data, .pinned], laidTests := true, laidLooks := .later }
def TopicMatchesCardSaid : Prop := Claim7.holds Tryd.pinned (.plain (OpenSpec.ofChange topicMatchesSpec)) topicMatchesCard

/-- THE TIED CARD OF 'relayhouselaw07.TopicJoins'. -/
def topicJoinsCard : Claim7 := { stood := { row := topicJoinsRow, standIns := [], harness := (true, "aa23ec700eaddc1289805f9a5353903588cb30e932ba670748ed3f11b8b27f9e"), looks := false }, kinds := [], alts := [], laidByText := true, laidKinds := [.data, .pinned], laidTests := true, laidLooks := .later }
def TopicJoinsCardSaid : Prop := Claim7.holds Tryd.pinned (.plain (OpenSpec.ofChange topicJoinsSpec)) topicJoinsCard

/-- THE TIED CARD OF 'relayhouselaw07.TopicKnown'. -/
def topicKnownCard : Claim7 := { stood := { row := topicKnownRow, standIns := [], harness := (true, "aa23ec700eaddc1289805f9a5353903588cb30e932ba670748ed3f11b8b27f9e"), looks := false }, kinds := [], alts := [], laidByText := true, laidKinds := [.data, .pinned], laidTests := true, laidLooks := .later }
def TopicKnownCardSaid : Prop := Claim7.holds Tryd.pinned (.plain (OpenSpec.ofChange topicKnownSpec)) topicKnownCard

/-- THE TIED CARD OF 'relayhouselaw07.TopicOrder'. -/
def topicOrderCard : Claim7 := { stood := { row := topicOrderRow, standIns := [], harness := (true, "aa23ec700eaddc1289805f9a5353903588cb30e932ba670748ed3f11b8b27f9e"), looks := false }, kinds := [], alts := [], laidByText := true, laidKinds := [.data, .pinned], laidTests := true, laidLooks := .later }
def TopicOrderCardSaid : Prop := Claim7.holds Tryd.pinned (.plain (OpenSpec.ofChange topicOrderSpec)) topicOrderCard

/-- THE TIED CARD OF 'relayhouselaw07.TopicLevels'. -/
def topicLevelsCard : Claim7 := { stood := { row := topicLevelsRow, standIns := [], harness := (true, "aa23ec700eaddc1289805f9a5353903588cb30e932ba670748ed3f11b8b27f9e"), looks := false }, kinds := [], alts := [], laidByText := true, laidKinds := [.data, .pinned], laidTests := true, laidLooks := .later }
def TopicLevelsCardSaid : Prop := Claim7.holds Tryd.pinned (.plain (OpenSpec.ofChange topicLevelsSpec)) topicLevelsCard

/-- THE SECOND FORM's CARD OF 'relayhouselaw07.TopicForms'. -/
def topicFormsUptoCard : Claim7 := { stood := { row := topicFormsUptoRow, standIns := [], harness := (true, "aa23ec700eaddc1289805f9a5353903588cb30e932ba670748ed3f11b8b27f9e"), looks := false }, kinds := [], alts := [], laidByText := true, laidKinds := [.data, .pinned], laidTests := true, laidLooks := .later }
def TopicFormsUptoCardSaid : Prop := Claim7.holds Tryd.pinned (.plain (OpenSpec.upto topicFormsSpec)) topicFormsUptoCard

/-- THE SECOND FORM's CARD OF 'relayhouselaw07.TopicMatches'. -/
def topicMatchesUptoCard : Claim7 := { stood := { row := topicMatchesUptoRow, standIns := [], harness := (true, "aa23ec700eaddc1289805f9a5353903588cb30e932ba670748ed3f11b8b27f9e"), looks := false }, kinds := [], alts := [], laidByText := true, laidKinds := [.data, .pinned], laidTests := true, laidLooks := .later }
def TopicMatchesUptoCardSaid : Prop := Claim7.holds Tryd.pinned (.plain (OpenSpec.upto topicMatchesSpec)) topicMatchesUptoCard

/-- THE SECOND FORM's CARD OF 'relayhouselaw07.TopicJoins'. -/
def topicJoinsUptoCard : Claim7 := { stood := { row := topicJoinsUptoRow, standIns := [], harness := (true, "aa23ec700eaddc1289805f9a5353903588cb30e932ba670748ed3f11b8b27f9e"), looks := false }, kinds := [], alts := [], laidByText := true, laidKinds := [.data, .pinned], laidTests := true, laidLooks := .later }
def TopicJoinsUptoCardSaid : Prop := Claim7.holds Tryd.pinned (.plain (OpenSpec.upto topicJoinsSpec)) topicJoinsUptoCard

/-- THE SECOND FORM's CARD OF 'relayhouselaw07.TopicKnown'. -/
def topicKnownUptoCard : Claim7 := { stood := { row := topicKnownUptoRow, standIns := [], harness := (true, "aa23ec700eaddc1289805f9a5353903588cb30e932ba670748ed3f11b8b27f9e"), looks := false }, kinds := [], alts := [], laidByText := true, laidKinds := [.data, .pinned], laidTests := true, laidLooks := .later }
def TopicKnownUptoCardSaid : Prop := Claim7.holds Tryd.pinned (.plain (OpenSpec.upto topicKnownSpec)) topicKnownUptoCard

/-- THE SECOND FORM's CARD OF 'relayhouselaw07.TopicOrder'. -/
def topicOrderUptoCard : Claim7 := { stood := { row := topicOrderUptoRow, standIns := [], harness := (true, "aa23ec700eaddc1289805f9a5353903588cb30e932ba670748ed3f11b8b27f9e"), looks := false }, kinds := [], alts := [], laidByText := true, laidKinds := [.data, .pinned], laidTests := true, laidLooks := .later }
def TopicOrderUptoCardSaid : Prop := Claim7.holds Tryd.pinned (.plain (OpenSpec.upto topicOrderSpec)) topicOrderUptoCard

/-- THE SECOND FORM's CARD OF 'relayhouselaw07.TopicLevels'. -/
def topicLevelsUptoCard : Claim7 := { stood := { row := topicLevelsUptoRow, standIns := [], harness := (true, "aa23ec700eaddc1289805f9a5353903588cb30e932ba670748ed3f11b8b27f9e"), looks := false }, kinds := [], alts := [], laidByText := true, laidKinds := [.data, .pinned], laidTests := true, laidLooks := .later }
def TopicLevelsUptoCardSaid : Prop := Claim7.holds Tryd.pinned (.plain (OpenSpec.upto topicLevelsSpec)) topicLevelsUptoCard
end Rows
end Go.Proofs.YtnaedcennichlaaDoor
