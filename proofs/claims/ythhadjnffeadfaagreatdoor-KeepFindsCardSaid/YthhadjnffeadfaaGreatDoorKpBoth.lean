/-
  keep's statements: the program's store and the document's, side by side.
-/
import Derived.Test.YthhadjnffeadfaaGreatDoorKpRset
set_option linter.unusedSimpArgs false
set_option linter.unusedVariables false
namespace Go.Proofs.YthhadjnffeadfaaGreatDoor
open Go.RowKit

/-- Both stores, with the same messages, apart from each other and from what stood below B. -/
structure DK (B : Nat) (w : World) (t : Nat) (F : Nat → Prop) (g : Nat) (A : Option Addr) (n c : Nat) (L : List Ms) (m : Nat) : Prop where
  pt : KP w t F L
  rt : RK w g A n c L
  dis : ∀ b, F b → B ≤ b ∧ b ≠ g ∧ (0 < n → ∀ o, A ≠ some ⟨b, o, none⟩)
  gB : B ≤ g
  ok : KsOk m L
section
variable {w w' : World} {B t g n c m : Nat} {A : Option Addr} {L : List Ms} {F : Nat → Prop}
theorem DK.below (h : DK B w t F g A n c L m) (hb : Below w.heap.size w w') : DK B w' t F g A n c L m := ⟨h.pt.below hb, h.rt.below hb, h.dis, h.gB, h.ok⟩
theorem DK.n_le (h : DK B w t F g A n c L m) : n ≤ m := by have := h.rt.len; have := h.ok.2.1; omega
/-- Behind the program's own call. -/
theorem DK.mid {w1 : World} (h : DK B w t F g A n c L m) (hU : Outs w w1 F) : RK w1 g A n c L :=
  h.rt.outs hU (fun hf => (h.dis g hf).2.1 rfl) (fun b o e h0 hf => (h.dis b hf).2.2 h0 o e)
/-- Behind both calls. -/
theorem DK.step {w1 w2 : World} {F1 : Nat → Prop} {M : List Ms} {r : Bool} {e : Ending} (h : DK B w t F g A n c L m) (h1 : KP w1 t F1 M) (hU : Outs w w1 F) (hF : ∀ b, F1 b → F b ∨ w.heap.size ≤ b) (hR : RS w1 g A n M r e w2) (hk : KsOk (m + 1) M) :
    ∃ A' n' c', e = .returned (.bool r) ∧ DK B w2 t F1 g A' n' c' M (m + 1) ∧ Below B w w2 ∧ Outs w1 w2 (· = g) := by
  obtain ⟨A', n', c', he, hT, hU2, hA⟩ := hR
  have hgl := h.rt.lt
  have hg1 : ∀ b, F1 b → b ≠ g := fun b hb e => by
    rcases hF b hb with h2 | h2
    · exact (h.dis b h2).2.1 e
    · omega
  refine ⟨A', n', c', he, ⟨h1.outs hU2 (fun b hb => hg1 b hb), hT, fun b hb => ⟨?_, hg1 b hb, fun h0 o e => ?_⟩, h.gB, hk⟩, ?_, hU2⟩
  · rcases hF b hb with h2 | h2
    · exact (h.dis b h2).1
    · have := h.gB; omega
  · rcases hA with ⟨h2, h3⟩ | h2
    · subst h2 h3
      rcases hF b hb with h4 | h4
      · exact (h.dis b h4).2.2 h0 o e
      · obtain ⟨b1, o1, x, e1, _, hat⟩ := h.rt.2.1.at_ h0
        rw [e] at e1
        cases e1
        have := hat.lt
        omega
    · have h5 := h2 b o e
      have h6 := h1.lt b hb
      omega
  · have h3 := hU.size
    have h4 := h.gB
    exact (hU.below (B := B) (fun b _ hf => (h.dis b hf).1) (by omega)).trans (hU2.below (B := B) (fun b _ e => by rw [e]; exact h4) (by omega))
/-- At the start. -/
theorem DK.start {W : World} {T : TypeId} {F : Nat → Prop} {t : Nat} {w1 : World} (hT : KP w1 t F []) (hF : ∀ b, F b → B ≤ b) (hB : B ≤ w1.heap.size) (hW : W = w1.alloc (.cells #[.slice none 0 0] T)) : DK B W t F w1.heap.size none 0 0 [] 0 := by
  have hbW1 : Below w1.heap.size w1 W := by rw [hW]; exact (Below.refl _ _).alloc (Nat.le_refl _) _
  refine ⟨hT.below hbW1, ?_, fun b hb => ⟨hF b hb, fun e => by have := hT.lt b hb; omega, fun h => by omega⟩, hB, KsOk.nil 0⟩
  rw [hW]
  exact ⟨⟨_, heap_alloc_new w1 _⟩, Msgs.nil none, .inl ⟨rfl, rfl⟩, Nat.le_refl _⟩
end
end Go.Proofs.YthhadjnffeadfaaGreatDoor
