/-
  The document's own Copy.
-/
import Derived.Test.YtncgkkhpcgdcaaaGreatDoorPkI
set_option linter.unusedSimpArgs false
set_option linter.unusedVariables false
namespace Go.Proofs.YtncgkkhpcgdcaaaGreatDoor
open Go.RowKit
/-- The call's own row of subs, from the block B on. -/
def NewRow (w : World) (B : Nat) (A : Option Addr) (n c : Nat) (xs : List (List UInt8 × Int)) : Prop := w.ownsRow B 42 2 (.slice A n c) n (flatS xs)
theorem NewRow.set {w : World} {B n c k : Nat} {A : Option Addr} {xs : List (List UInt8 × Int)} (h : NewRow w B A n c xs) (hk : k < B) (cs : Array Value) : NewRow (w.setRow k cs) B A n c xs := by
  refine ⟨h.1, ?_⟩
  rcases h.2 with hn | ⟨g, cap, cur, e, hb, hg, rest⟩
  · exact .inl hn
  · exact .inr ⟨g, cap, cur, e, hb, (setRow_other w k g cs (by omega)).trans hg, rest⟩
theorem NewRow.base {w : World} {B B' n c : Nat} {A : Option Addr} {xs : List (List UInt8 × Int)} (h : NewRow w B A n c xs) (hB : B' ≤ B) : NewRow w B' A n c xs := by
  refine ⟨h.1, ?_⟩
  rcases h.2 with hn | ⟨g, cap, cur, e, hb, rest⟩
  · exact .inl hn
  · exact .inr ⟨g, cap, cur, e, Nat.le_trans hB hb, rest⟩
theorem NewRow.subs {w : World} {B n c : Nat} {A : Option Addr} {xs : List (List UInt8 × Int)} (h : NewRow w B A n c xs) : Subs w A n xs ∧ (A = none → c = 0) ∧ (∀ b o, A = some ⟨b, o, none⟩ → B ≤ b) := by
  have hn : xs.length = n := by have := h.1; rw [flatS_len] at this; omega
  subst hn
  obtain ⟨A', c', e, h1, h2, h3⟩ := subs_of_own h
  cases e
  exact ⟨h1, h2, h3⟩
/-- Where the row lies, if there is one. -/
theorem NewRow.blk {w : World} {B n c : Nat} {A : Option Addr} {xs : List (List UInt8 × Int)} (h : NewRow w B A n c xs) : (A = none ∧ n = 0) ∨ ∃ g cur, A = some ⟨g, 0, none⟩ ∧ B ≤ g ∧ w.heap[g]? = some (.cells cur 42 (0, 0)) ∧ n * 2 ≤ cur.size := by
  rcases h.2 with ⟨e, hn⟩ | ⟨g, cap, cur, e, hb, hg, h1, h2, h3, h4⟩
  · cases e; exact .inl ⟨rfl, rfl⟩
  · cases e; exact .inr ⟨g, cur, rfl, hb, hg, by omega⟩
end Go.Proofs.YtncgkkhpcgdcaaaGreatDoor
