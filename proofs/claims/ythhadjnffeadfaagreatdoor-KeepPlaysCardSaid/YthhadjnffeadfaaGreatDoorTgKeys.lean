/-
  trie: a set's members, sorted, in a new slice (slices.Sorted of maps.Keys).
-/
import Derived.Test.YthhadjnffeadfaaGreatDoorTgMap
import Derived.Test.YthhadjnffeadfaaGreatDoorTrPut
import Derived.Test.YthhadjnffeadfaaGreatDoorIter
import Derived.Test.YthhadjnffeadfaaGreatDoorShelf
set_option linter.unusedSimpArgs false
set_option linter.unusedVariables false
namespace Go.Proofs.YthhadjnffeadfaaGreatDoor
open Go.RowKit Go.Maps Go.Sort Go.Shelf

theorem ltB_lt : ∀ a b : List UInt8, ltB a b = decide (a < b)
  | [], [] => by simp [ltB, Op.bytesLess]
  | [], b :: y => by simp [ltB, Op.bytesLess]
  | a :: x, [] => by simp [ltB, Op.bytesLess]
  | a :: x, b :: y => by
    rw [lt_cons, ltB_lt x y, Bool.eq_iff_iff]
    simp only [Bool.or_eq_true, decide_eq_true_eq, Bool.and_eq_true, beq_iff_eq, List.cons_lt_cons_iff]
theorem sort_srt {ss : List (List UInt8)} (hn : ss.Nodup) : Srt ltB (ss.mergeSort leB) := by
  have tr : ∀ a b c : List UInt8, leB a b = true → leB b c = true → leB a c = true := fun a b c h1 h2 => by simp only [leB, decide_eq_true_eq] at *; exact List.le_trans h1 h2
  have tt : ∀ a b : List UInt8, (leB a b || leB b a) = true := fun a b => by simp only [leB, Bool.or_eq_true, decide_eq_true_eq]; exact List.le_total a b
  have h1 := List.pairwise_mergeSort tr tt ss
  have h2 : (ss.mergeSort leB).Nodup := (List.mergeSort_perm ss leB).nodup_iff.2 hn
  refine (h1.and h2).imp ?_
  rintro a b ⟨hab, hne⟩
  cases hl : ltB a b with
  | true => rfl
  | false =>
    have h3 := lt_ord.tot a b hne hl
    rw [ltB_lt, decide_eq_true_eq] at h3
    simp only [leB, decide_eq_true_eq] at hab
    exact absurd h3 (List.not_lt.2 hab)
theorem sort_mem (ss : List (List UInt8)) (x : List UInt8) : x ∈ ss.mergeSort leB ↔ x ∈ ss := (List.mergeSort_perm ss leB).mem_iff
theorem sort_len (ss : List (List UInt8)) : (ss.mergeSort leB).length = ss.length := (List.mergeSort_perm ss leB).length_eq
theorem sorts_in (m : Nat) : AnyZ.SortsIn Tryz.prog Tryz.sorted45_ren Fence.wide m :=
  ⟨fun blk off cap ss W hH hblk hsz => callsIn_wide.2 (Tryz.slices_Sort_string blk off cap ss W hH hblk hsz),
   fun p cap W => callsIn_wide.2 (Tryz.slices_Sort_string_none p cap W)⟩
end Go.Proofs.YthhadjnffeadfaaGreatDoor
