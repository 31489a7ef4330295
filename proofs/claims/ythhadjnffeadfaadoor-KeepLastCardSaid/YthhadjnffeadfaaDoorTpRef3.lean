/-
  topic: the document's own answers: what covers what; levels joined.
-/
import Derived.Test.YthhadjnffeadfaaDoorTpRef2
set_option linter.unusedSimpArgs false
set_option linter.unusedVariables false
namespace Go.Proofs.YthhadjnffeadfaaDoor
open Go.RowKit

theorem joinL_app : ∀ (a b : List (List UInt8)), a ≠ [] → b ≠ [] → joinL (a ++ b) = joinL a ++ 47 :: joinL b
  | [], _, h, _ => absurd rfl h
  | [x], b, _, hb => by
    cases b with
    | nil => exact absurd rfl hb
    | cons y r => rw [List.singleton_append, joinL_cons, joinL_one]
  | x :: y :: r, b, _, hb => by
    rw [List.cons_append, List.cons_append, joinL_cons, joinL_cons, ← List.cons_append, joinL_app (y :: r) b (by simp) hb]
    simp
theorem joinL_take (xs : List (List UInt8)) (k : Nat) (x : List UInt8) (hx : xs[k]? = some x) : joinL (xs.take (k + 1)) = if k = 0 then x else joinL (xs.take k) ++ 47 :: x := by
  rw [List.take_add_one, hx]
  obtain ⟨h1, _⟩ := List.getElem?_eq_some_iff.1 hx
  by_cases h0 : k = 0
  · subst h0; rw [if_pos rfl]; exact joinL_one x
  · rw [if_neg h0, Option.toList_some, joinL_app _ _ (by intro h; rw [List.take_eq_nil_iff] at h; rcases h with h | h; exact h0 h; rw [h] at h1; simp at h1) (by simp), joinL_one]
theorem joinL_take_le (xs : List (List UInt8)) (k : Nat) : (joinL (xs.take k)).length ≤ (joinL xs).length := by
  by_cases h0 : xs.take k = []
  · rw [h0, joinL_nil]; simp
  · by_cases h1 : xs.drop k = []
    · have := List.take_append_drop k xs
      rw [h1, List.append_nil] at this
      rw [this]; exact Nat.le_refl _
    · have := joinL_app _ _ h0 h1
      rw [List.take_append_drop] at this
      rw [this]; simp
end Go.Proofs.YthhadjnffeadfaaDoor
