/-
  write: what is put behind one another. (By tools/genwrb.py.)
-/
import Derived.Test.YtncgkkhpcgdcaaaDoorWrA
import Derived.Test.YtncgkkhpcgdcaaaDoorWrInj
import Derived.Test.YtncgkkhpcgdcaaaDoorPkI
import Derived.Deep.Cut
set_option linter.unusedSimpArgs false
set_option linter.unusedVariables false
namespace Go.Proofs.YtncgkkhpcgdcaaaDoor
open Go.RowKit
section
variable {w0 : World} {b : Nat} {l : List UInt8} {L : List (Nat × Array Value × TypeId)} {w : World}
theorem ne_pk : (30 : TypeId) ≠ 5 := by decide
theorem ne_sb : (57 : TypeId) ≠ 5 := by decide
theorem subX_snoc (t : Int) (xs : List (List UInt8 × Int)) (k : Nat) (x : List UInt8 × Int) (hx : xs[k]? = some x) : subX t (xs.take (k + 1)) = subX t (xs.take k) ++ (fieldL x.1 ++ (if t = 8 then [toB x.2] else [])) := by
  rw [List.take_add_one, hx, subX_app]
  simp [subX]
theorem subX_le (t : Int) (xs : List (List UInt8 × Int)) (h : ∀ x ∈ xs, valB x.1 = true) : (subX t xs).length ≤ 65538 * xs.length := by
  induction xs with
  | nil => simp [subX]
  | cons x r ih =>
    have h1 := ih (fun y hy => h y (by simp [hy]))
    have h2 := val_len (h x (by simp))
    simp only [subX, List.length_append, fieldL_len, List.length_cons]
    split <;> simp <;> omega
theorem load_le {p : Pk} {xs : List (List UInt8 × Int)} (h : totB p xs ≤ 90000) : p.load.length ≤ 1000000 ∧ p.codes.length ≤ 1000000 := by unfold totB at h; omega
end
end Go.Proofs.YtncgkkhpcgdcaaaDoor
