/-
  text: Count, Valid, Put, Get and their kin of the document's own answer.
-/
import Derived.Test.YthhadjnffeadfaaDoorTextRef
set_option linter.unusedSimpArgs false
set_option linter.unusedVariables false
namespace Go.Proofs.YthhadjnffeadfaaDoor
open Go.RowKit

theorem words_big (n : Int) (h1 : 65535 < n) : wordsR [n] = ([], 1) := wordsR_no _ (by simp [wordB]; omega)

theorem add_strs {P : Program} (w : World) (a b : List UInt8) (h : a.length + b.length ≤ 9223372036854775807) : (Op.stringOp .add ⟨a.toArray⟩ ⟨b.toArray⟩).run P w = .ok (.string ⟨(a ++ b).toArray⟩) w := add_str w a b h
end Go.Proofs.YthhadjnffeadfaaDoor
