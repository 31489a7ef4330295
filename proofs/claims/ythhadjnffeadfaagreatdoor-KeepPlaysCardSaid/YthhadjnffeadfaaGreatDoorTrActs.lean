/-
  trie's statements: a slice of acts that came in; what their helpers answer.
-/
import Derived.Test.YthhadjnffeadfaaGreatDoorTrOwn
import Derived.Test.YthhadjnffeadfaaGreatDoorTpLaw
import Derived.Deep.Slices
import Derived.Deep.Fields
import Derived.ChangeSame
set_option linter.unusedSimpArgs false
set_option linter.unusedVariables false
namespace Go.Proofs.YthhadjnffeadfaaGreatDoor
open Go.RowKit Go.ChangeShapes Go.WideShapes Go.Deep
theorem list_of2 {α : Type} (P : Nat → α → Prop) : ∀ n : Nat, (∀ i, i < n → ∃ x, P i x) → ∃ L : List α, L.length = n ∧ ∀ i x, L[i]? = some x → P i x
  | 0, _ => ⟨[], rfl, fun i x hx => by simp at hx⟩
  | n + 1, h => by
    obtain ⟨L, h1, h2⟩ := list_of2 P n (fun i hi => h i (by omega))
    obtain ⟨x, hx⟩ := h n (by omega)
    refine ⟨L ++ [x], by simp [h1], fun i y hy => ?_⟩
    by_cases hi : i < n
    · rw [List.getElem?_append_left (by omega)] at hy
      exact h2 i y hy
    · by_cases hn : i = n
      · subst hn
        rw [← h1, List.getElem?_append_right (Nat.le_refl _), Nat.sub_self] at hy
        simp at hy
        rw [← hy]
        exact hx
      · have := (List.getElem?_eq_some_iff.1 hy).1
        simp at this
        omega
section
variable {H : Type} {enc : TypeId × Value → H} {P : Program} {w : World} {base : Nat} {spare : Nat → Bool} {held : Bool}
theorem open_slice_flat {t e : TypeId} {fs : Array Field} {fuel : Nat} {cs : List Value} {x : DataW H × List MemPlace} (ht : P.underlying t = some (.slice e)) (he : P.underlying e = some (.struct fs))
    (hone : oneCellFields P fs = true) (hC : P.cellsOf e = fs.size) (h : DataW.trod enc P w base spare held fuel t cs = some x) :
    (cs = [.slice none 0 0] ∧ x = (.nil, [])) ∨
    ∃ (a : Addr) (len cap m : Nat), cs = [.slice (some a) len cap] ∧ len ≤ cap ∧ cap ≤ maxLen ∧ len ≤ m ∧
      ∀ i, i < m → ∃ (n : Nat), ∀ (j : Nat) (f : Field), fs[j]? = some f → ∃ (v : Value) (y : DataW H × List MemPlace), w.cell? (a.add (i * fs.size + j)) = some v ∧ DataW.trod enc P w base spare held n f.type [v] = some y := by
  rcases open_slice ht h with h0 | ⟨a, len, cap, m, n, D, Pl, hcs, hb, hl, hm, hmm, hx, hi⟩
  · exact .inl h0
  · refine .inr ⟨a, len, cap, m, hcs, hl, hm, by rw [hmm]; split <;> omega, fun i him => ?_⟩
    obtain ⟨cs', hc, ht'⟩ := hi i him
    rw [hC] at hc
    obtain ⟨ys, n', hn', hy, hlen, hyl, hf⟩ := DataW.trod_struct he ht'
    obtain ⟨_, hcl, hat⟩ := World.cells?_some hc
    refine ⟨n', fun j f hj => ?_⟩
    obtain ⟨ho, hk⟩ := hone_of hone j f hj
    have hjl : j < fs.size := (Array.getElem?_eq_some_iff.1 hj).1
    have hcell := hat j hjl
    have hv : cs'[j]? = some (cs'[j]'(by omega)) := List.getElem?_eq_getElem (by omega)
    have h1 := hf j f hj
    rw [ho, hk] at h1
    have hone' : (cs'.drop j).take 1 = [cs'[j]'(by omega)] := by
      rw [List.drop_eq_getElem_cons (by omega)]
      rfl
    rw [hone'] at h1
    have hys : ys[j]? = some (ys[j]'(by omega)) := List.getElem?_eq_getElem (by omega)
    refine ⟨_, _, ?_, h1.trans hys⟩
    rw [← Go.Deep.add_add, hcell, hv]
end
/-- An act. -/
structure Ac where
  d : Int
  f : List UInt8
  c : List UInt8
  nm : List UInt8
/-- What holds of any act that comes in. -/
def AcIn (x : Ac) : Prop := 0 ≤ x.d ∧ x.d ≤ 255 ∧ x.f.length ≤ 9223372036854775807 ∧ x.c.length ≤ 9223372036854775807 ∧ x.nm.length ≤ 9223372036854775807
def AcAt (w : World) (b o : Nat) (x : Ac) : Prop :=
  w.cell? ⟨b, o, none⟩ = some (.int .u8 x.d) ∧ w.cell? ⟨b, o + 1, none⟩ = some (.string ⟨x.f.toArray⟩) ∧ w.cell? ⟨b, o + 2, none⟩ = some (.string ⟨x.c.toArray⟩) ∧ w.cell? ⟨b, o + 3, none⟩ = some (.string ⟨x.nm.toArray⟩)
/-- A slice of acts reads as l. -/
def Acts (w : World) (A : Option Addr) (n : Nat) (l : List Ac) : Prop :=
  l.length = n ∧ (0 < n → ∃ b off, A = some ⟨b, off, none⟩ ∧ ∀ j x, l[j]? = some x → AcAt w b (off + j * 4) x)
section
variable {w w' : World} {A : Option Addr} {n : Nat} {l : List Ac}
theorem AcAt.below {b o : Nat} {x : Ac} (h : AcAt w b o x) (hb : Below w.heap.size w w') : AcAt w' b o x :=
  ⟨(hb.cell (World.block_lt_of_cell? _ _ h.1)).trans h.1, (hb.cell (World.block_lt_of_cell? _ _ h.2.1)).trans h.2.1, (hb.cell (World.block_lt_of_cell? _ _ h.2.2.1)).trans h.2.2.1, (hb.cell (World.block_lt_of_cell? _ _ h.2.2.2)).trans h.2.2.2⟩
theorem Acts.len (h : Acts w A n l) : l.length = n := h.1
theorem Acts.nil (A : Option Addr) : Acts w A 0 [] := ⟨rfl, fun h => by omega⟩
theorem Acts.below (h : Acts w A n l) (hb : Below w.heap.size w w') : Acts w' A n l :=
  ⟨h.1, fun hn => by
    obtain ⟨b, off, e, hc⟩ := h.2 hn
    exact ⟨b, off, e, fun j x hx => (hc j x hx).below hb⟩⟩
theorem Acts.at_ (h : Acts w A n l) {k : Nat} (hk : k < n) : ∃ b off x, A = some ⟨b, off, none⟩ ∧ l[k]? = some x ∧ AcAt w b (off + k * 4) x := by
  obtain ⟨hl, h⟩ := h
  obtain ⟨b, off, rfl, hc⟩ := h (by omega)
  have hlt : k < l.length := by omega
  exact ⟨b, off, l[k], rfl, List.getElem?_eq_getElem hlt, hc k _ (List.getElem?_eq_getElem hlt)⟩
end
section
variable {H : Type} {enc : TypeId × Value → H}
end
end Go.Proofs.YthhadjnffeadfaaGreatDoor
