/-
  write: the small functions.
-/
import Derived.Test.YtncgkkhpcgdcaaaDoorWrKit
import Derived.BigQuiet
import Derived.Deep.QuietTactic
set_option linter.unusedSimpArgs false
set_option linter.unusedVariables false
namespace Go.Proofs.YtncgkkhpcgdcaaaDoor
open Go.RowKit

theorem sizeOf_any (v : Int) (w : World) (h0 : 0 ≤ v) (h1 : v ≤ 268435455) :
    Calls Tryd.prog 21 #[.int .i64 v] w fun e w' => e = .returned (.int .i64 (1 + sizeF v + v)) ∧ w = w' := by
  have hs := sizeF_bd v
  go_enter Tryd.func21, Tryd.ntmps21
  go_wp2_with fail
  refine (numSize_yes v _ h0 h1).mono ?_
  rintro e w' ⟨rfl, rfl⟩
  go_wp2_with fail
  go_ret
  exact ⟨ret_int (by omega), rfl⟩
theorem yes_bd (b : Bool) (n : Int) (h : 0 ≤ n) : 0 ≤ yesI b n ∧ yesI b n ≤ n := by unfold yesI; split <;> omega
section
variable {w0 : World} {b : Nat} {l : List UInt8} {L : List (Nat × Array Value × TypeId)} {w : World}
theorem putOne (a : List UInt8) (h : valB a = true) : putR [a] = (fieldL a, 0) := by
  rw [put_yes [a] (by simp [h])]; simp
end
end Go.Proofs.YtncgkkhpcgdcaaaDoor
