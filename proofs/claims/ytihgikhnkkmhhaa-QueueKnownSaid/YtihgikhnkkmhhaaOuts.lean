/-
  What a call may have changed among what was there.
-/
import Derived.Test.YtihgikhnkkmhhaaKit
set_option linter.unusedSimpArgs false
set_option linter.unusedVariables false
namespace Go.Proofs.Ytihgikhnkkmhhaa
open Go.RowKit

/-- What a call may have changed among what was there: the blocks of F alone. -/
structure Outs (w w' : World) (F : Nat → Prop) : Prop where
  os : w'.os = w.os
  tape : w'.tape = w.tape
  output : w'.output = w.output
  size : w.heap.size ≤ w'.heap.size
  block : ∀ b, b < w.heap.size → ¬ F b → w'.heap[b]? = w.heap[b]?
section
variable {w w1 w2 : World} {F G : Nat → Prop} {B : Nat}
theorem Outs.refl (w : World) (F : Nat → Prop) : Outs w w F := ⟨rfl, rfl, rfl, Nat.le_refl _, fun _ _ _ => rfl⟩
theorem Outs.of_below (h : Below w.heap.size w w1) : Outs w w1 F := ⟨h.os, h.tape, h.output, h.size, fun b hb _ => h.block b hb⟩
theorem Outs.trans (h : Outs w w1 F) (k : Outs w1 w2 G) (hF : ∀ b, b < w.heap.size → G b → F b) : Outs w w2 F :=
  ⟨k.os.trans h.os, k.tape.trans h.tape, k.output.trans h.output, Nat.le_trans h.size k.size, fun b hb hn => (k.block b (Nat.lt_of_lt_of_le hb h.size) (fun hg => hn (hF b hb hg))).trans (h.block b hb hn)⟩
theorem Outs.more (h : Outs w w1 F) (k : Below w1.heap.size w1 w2) : Outs w w2 F := h.trans (Outs.of_below (F := F) k) (fun _ _ h => h)
theorem Outs.setCell (h : Outs w w1 F) (g i : Nat) (hg : F g) (v : Value) : Outs w (w1.setCell ⟨g, i, none⟩ v) F :=
  ⟨h.os, h.tape, h.output, by simpa [World.setCell] using h.size, fun b hb hn => by
    have hne : g ≠ b := fun e => hn (e ▸ hg)
    refine Eq.trans ?_ (h.block b hb hn)
    simp [World.setCell, Array.getElem?_modify, hne]⟩
theorem Outs.below (h : Outs w w1 F) (hF : ∀ b, b < w.heap.size → F b → B ≤ b) (hB : B ≤ w.heap.size) : Below B w w1 :=
  ⟨h.os, h.tape, h.output, h.size, fun b hb => h.block b (Nat.lt_of_lt_of_le hb hB) (fun hf => by have := hF b (Nat.lt_of_lt_of_le hb hB) hf; omega)⟩
theorem Outs.cell (h : Outs w w1 F) (p : Addr) (v : Value) (hp : w.cell? p = some v) (hn : ¬ F p.block) : w1.cell? p = some v :=
  (World.cell?_of_block (h.block p.block (World.block_lt_of_cell? _ _ hp) hn)).trans hp
end
end Go.Proofs.Ytihgikhnkkmhhaa
