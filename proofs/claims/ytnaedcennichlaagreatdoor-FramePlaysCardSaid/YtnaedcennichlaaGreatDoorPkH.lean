/-
  packet: Same, Copy; slices.Equal at subs.
-/
import Derived.Test.YtnaedcennichlaaGreatDoorPkD
set_option linter.unusedSimpArgs false
set_option linter.unusedVariables false
namespace Go.Proofs.YtnaedcennichlaaGreatDoor
open Go.RowKit
set_option maxRecDepth 100000
def eqSb (f : List UInt8) (q : Int) (f' : List UInt8) (q' : Int) : Bool := f == f' && (q == q' && true)
@[go_sem high] theorem eq_sb (w : World) (f : List UInt8) (q : Int) (f' : List UInt8) (q' : Int) : (Op.equalIn 10000 42 (.agg (SbC f q)) (.agg (SbC f' q'))).run Tryz.prog w = .ok (eqSb f q f' q') w := by
  rw [run_equalIn_agg w 9999 _ _ _ (by kernel_rfl) (by kernel_rfl)]
  simp only [Program.fieldsOf, Tryz.underlying42]
  refine step_str (by decide) (by kernel_rfl) (SbC_0 ..) (SbC_0 ..) ?_
  refine step_int (k' := .u8) (by decide) (by kernel_rfl) (SbC_1 ..) (SbC_1 ..) ?_
  rfl
theorem sb_eq_drop (xs ys : List (List UInt8 × Int)) (k : Nat) (x y : List UInt8 × Int) (hx : xs[k]? = some x) (hy : ys[k]? = some y) : (xs.drop k == ys.drop k) = (eqSb x.1 x.2 y.1 y.2 && (xs.drop (k + 1) == ys.drop (k + 1))) := by
  obtain ⟨h1, h2⟩ := List.getElem?_eq_some_iff.1 hx
  obtain ⟨k1, k2⟩ := List.getElem?_eq_some_iff.1 hy
  rw [List.drop_eq_getElem_cons h1, h2, List.drop_eq_getElem_cons k1, k2]
  obtain ⟨a, b⟩ := x
  obtain ⟨a', b'⟩ := y
  rw [Bool.eq_iff_iff]
  simp [eqSb, and_assoc]
end Go.Proofs.YtnaedcennichlaaGreatDoor
