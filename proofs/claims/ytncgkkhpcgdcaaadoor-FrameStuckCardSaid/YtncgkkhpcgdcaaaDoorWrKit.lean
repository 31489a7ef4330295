/-
  A strings.Builder that a call has made, and the blocks of its own beside it: the words of write's walks, and what the Builder's methods do.
-/
import Derived.Test.YtncgkkhpcgdcaaaDoorPkKit
import Derived.Test.YtncgkkhpcgdcaaaDoorTextWalks
import Derived.Test.YtncgkkhpcgdcaaaDoorWrMath
import Derived.Lib.Builder
import Derived.Lib.OthersKept
import Derived.Lib.MakeNoZero
import Derived.Laws.CopyOwn
import Derived.Laws.Externs
import Derived.BigQuiet
import Derived.BigRegion
import Derived.Deep.QuietTactic
set_option linter.unusedSimpArgs false
set_option linter.unusedVariables false
namespace Go.Proofs.YtncgkkhpcgdcaaaDoor
open Go.RowKit
set_option maxRecDepth 100000
section
variable {w0 w w' : World} {b g : Nat} {l l' : List UInt8} {L : List (Nat × Array Value × TypeId)} {cs : Array Value} {t : TypeId} {B : Nat} {T e : TypeId} {p v v' : Value} {bs : List Value}
theorem bat_more (h : Lib.BuilderAt T e B b p bs w) (hb : Below w.heap.size w w') : Lib.BuilderAt T e B b p bs w' := by
  have hlt := h.lt
  obtain ⟨hB, v, hbk, hown, hne⟩ := h
  exact ⟨hB, v, (hb.block b hlt).trans hbk, own_below hown hb, hne⟩
theorem isb_more (h : Lib.IsBuilder T e B b bs w) (hb : Below w.heap.size w w') : Lib.IsBuilder T e B b bs w' :=
  h.elim (fun x => .inl (bat_more x hb)) (fun x => .inr (bat_more x hb))
theorem isb_lt (h : Lib.IsBuilder T e B b bs w) : b < w.heap.size := h.elim (fun x => x.lt) (fun x => x.lt)
theorem isb_base (h : Lib.IsBuilder T e B b bs w) : B ≤ b := h.elim (fun x => x.1) (fun x => x.1)
end
theorem bytes_app (l s : List UInt8) : Lib.byteCells l ++ Lib.strCells ⟨s.toArray⟩ = Lib.byteCells (l ++ s) := by
  simp [Lib.byteCells, Lib.strCells]
theorem bytes_one (l : List UInt8) (c : Int) (h0 : 0 ≤ c) (h1 : c < 256) : Lib.byteCells l ++ [.int .u8 c] = Lib.byteCells (l ++ [toB c]) := by
  simp only [Lib.byteCells, List.map_append, List.map_cons, List.map_nil, toB_toNat c h0 h1]
section
variable {w0 : World} {b : Nat} {l : List UInt8} {L : List (Nat × Array Value × TypeId)} {w : World}
theorem own_slice {w : World} {B : Nat} {e : TypeId} {v : Value} {n : Nat} {xs : List Value} (h : w.ownsRow B e 1 v n xs) : ∃ A c, v = .slice A n c := by
  rcases h.2 with ⟨rfl, rfl⟩ | ⟨g, cap, cur, rfl, _⟩
  · exact ⟨_, _, rfl⟩
  · exact ⟨_, _, rfl⟩
end
end Go.Proofs.YtncgkkhpcgdcaaaDoor
