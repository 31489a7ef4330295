/-
  topic: the document's own answers: levels, plain texts, levels joined.
-/
import Derived.Test.YthhadjnffeadfaaDoorTpTop
import Derived.Test.YthhadjnffeadfaaDoorTpOwn
import Derived.Test.YthhadjnffeadfaaDoorTextRefs
set_option linter.unusedSimpArgs false
set_option linter.unusedVariables false
namespace Go.Proofs.YthhadjnffeadfaaDoor
open Go.RowKit

theorem levs_take_slash (l : List UInt8) (k : Nat) (h : k < l.length) (hc : l[k] = 47) : levs (l.take (k + 1)) = levs (l.take k) ++ [[]] := by
  rw [List.take_succ_eq_append_getElem h, hc, levs_snoc_slash]
theorem levs_take_other (l : List UInt8) (k p : Nat) (x y : List UInt8) (b : UInt8) (h : k < l.length) (hc : l[k] = b) (hb : b ≠ 47) (hp : (levs (l.take k)).length = p + 1) (hx : (levs (l.take k))[p]? = some x) (hy : y = x ++ [b]) : levs (l.take (k + 1)) = (levs (l.take k)).set p y := by
  rw [List.take_succ_eq_append_getElem h, hc, levs_snoc _ _ hb]
  have hne := levs_ne (l.take k)
  have e1 : (levs (l.take k)).getLast hne = x := by
    rw [List.getLast_eq_getElem]
    have : (levs (l.take k)).length - 1 = p := by omega
    simp only [this]
    obtain ⟨_, h2⟩ := List.getElem?_eq_some_iff.1 hx
    exact h2
  rw [e1, hy]
  apply List.ext_getElem?
  intro j
  rw [List.getElem?_set]
  by_cases hj : p = j
  · subst hj
    rw [if_pos rfl, if_pos (by omega), List.getElem?_append_right (by simp [hp])]
    simp [hp]
  · rw [if_neg hj]
    by_cases hj2 : j < p
    · rw [List.getElem?_append_left (by simp [hp]; omega), List.getElem?_dropLast, if_pos (by omega)]
    · rw [List.getElem?_eq_none (by simp [hp]; omega), List.getElem?_eq_none (by omega)]
end Go.Proofs.YthhadjnffeadfaaDoor
