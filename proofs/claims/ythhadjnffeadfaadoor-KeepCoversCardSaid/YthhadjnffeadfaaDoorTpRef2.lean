/-
  topic: the document's own answers: names, filters, what covers what.
-/
import Derived.Test.YthhadjnffeadfaaDoorTpRef
set_option linter.unusedSimpArgs false
set_option linter.unusedVariables false
namespace Go.Proofs.YthhadjnffeadfaaDoor
open Go.RowKit

def wilX (l : List UInt8) : Bool := headL l == [43] || headL l == [35]
end Go.Proofs.YthhadjnffeadfaaDoor
