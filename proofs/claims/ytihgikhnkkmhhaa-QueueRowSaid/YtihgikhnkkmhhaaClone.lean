/-
  strings.Clone. (Taken out of text's.)
-/
import Derived.Test.YtihgikhnkkmhhaaKit
import Derived.Test.YtihgikhnkkmhhaaShelf
set_option linter.unusedSimpArgs false
set_option linter.unusedVariables false
namespace Go.Proofs.Ytihgikhnkkmhhaa
open Go.RowKit

theorem clone_any (l : List UInt8) (w : World) (hl : l.length ≤ 281474976710656) :
    Calls Try.prog 28 #[.string ⟨l.toArray⟩] w fun e w' => e = .returned (.string ⟨l.toArray⟩) ∧ Below w.heap.size w w' := by
  go_enter Try.func28, Try.ntmps28
  go_wp2_with fail
  refine (Try.stringslite_Clone _ _ (by show l.toArray.size ≤ _; simpa using hl)).mono ?_
  rintro e w1 ⟨rfl, hb1⟩
  go_wp2
  go_ret
  exact ⟨rfl, hb1⟩
end Go.Proofs.Ytihgikhnkkmhhaa
