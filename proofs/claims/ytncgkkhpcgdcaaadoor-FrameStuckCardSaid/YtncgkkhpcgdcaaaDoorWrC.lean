/-
  write: a Builder that is grown.
-/
import Derived.Test.YtncgkkhpcgdcaaaDoorWrKit
set_option linter.unusedSimpArgs false
set_option linter.unusedVariables false
namespace Go.Proofs.YtncgkkhpcgdcaaaDoor
open Go.RowKit
set_option maxRecDepth 100000
theorem u8_size : (Tryd.prog.info? 5).map (·.size) = some 1 := by kernel_rfl
section
variable {w0 : World} {b : Nat} {l : List UInt8} {L : List (Nat × Array Value × TypeId)} {w : World}
end
end Go.Proofs.YtncgkkhpcgdcaaaDoor
