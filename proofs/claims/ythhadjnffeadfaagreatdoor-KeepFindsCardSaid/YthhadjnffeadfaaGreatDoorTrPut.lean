/-
  trie: the document's own answers: a text put into a rising row.
-/
import Derived.Test.YthhadjnffeadfaaGreatDoorTrOwn
import Derived.Test.YthhadjnffeadfaaGreatDoorTpRef3
import Derived.Deep.RegionHeld3
set_option linter.unusedSimpArgs false
set_option linter.unusedVariables false
namespace Go.Proofs.YthhadjnffeadfaaGreatDoor
open Go.RowKit

/-- A slice of texts that is told. -/
def SVP (w : World) (L : List (List UInt8)) (e : Ending) (w' : World) : Prop :=
  ∃ A c, e = .returned (.slice A L.length c) ∧ Strs w' A L.length L ∧ (A = none ∧ c = 0 ∨ ∃ b, A = some ⟨b, 0, none⟩) ∧ L.length ≤ c ∧ Below w.heap.size w w'
theorem put_same (l : List (List UInt8)) (s x : List UInt8) (k : Nat) (hx : l[k]? = some x) (ht : k ≤ (l.takeWhile (ltB · s)).length) (h1 : ltB x s = false) (h2 : x = s) : putL l s = l := by
  have := (tw_stop (ltB · s) l k ht (fun y hy => by rw [hx] at hy; cases hy; exact h1)).2
  unfold putL
  rw [this, List.head?_drop, hx, h2]; simp
theorem put_new (l : List (List UInt8)) (s : List UInt8) (k : Nat) (ht : k ≤ (l.takeWhile (ltB · s)).length) (h1 : ∀ x, l[k]? = some x → ltB x s = false ∧ x ≠ s) : putL l s = l.take k ++ s :: l.drop k := by
  have h3 := tw_stop (ltB · s) l k ht (fun y hy => (h1 y hy).1)
  unfold putL insO
  rw [h3.1, h3.2, List.head?_drop]
  cases hx : l[k]? with
  | none => simp
  | some x => simp [(h1 x hx).2]
theorem OwnS.told {E : TypeId} {w wr : World} {v : Value} {xs : List (List UInt8)} (h : OwnS E w.heap.size w wr v xs) : SVP w xs (.returned v) wr := by
  have hb := h.below
  rcases h.1.2 with ⟨rfl, hn⟩ | ⟨g, cap, cur, rfl, _, hh, hc, _, _, _⟩
  · exact ⟨none, 0, by rw [hn], ⟨rfl, fun h => by omega⟩, .inl ⟨rfl, rfl⟩, by omega, hb⟩
  · refine ⟨_, _, rfl, ⟨rfl, fun _ => ⟨g, 0, rfl, fun j x hx => ?_⟩⟩, .inr ⟨g, rfl⟩, hc, hb⟩
    have := h.1.cells (g := g) rfl j (strV x) (by simp [hx])
    have hadd : (⟨g, 0, none⟩ : Addr).add j = ⟨g, 0 + j, none⟩ := by unfold Addr.add; split <;> simp_all
    rw [hadd] at this
    exact this
section
variable {w : World} {n c : Nat} {l : List (List UInt8)}
end
end Go.Proofs.YthhadjnffeadfaaGreatDoor
