/-
  No cell of these rows narrows 'for every input' (looked for: loops, veiled, ifaces, maps, wideKeys, modest, calm, conditions, laid).
  DERIVED. THE GIVEN ROWS OF THIS SEAT. 6 by the template 'for every input the law returns true; each argument reads behind the call as it read before'; 0 by the template 'total and deterministic' (their statements: YtakknofacikiaaaTotals.lean).
  GIVEN WITH THE SEED: the statements are not yours to turn. If you find one false, say at which input.
  Laid BY PROGRAM, IN A SANDBOX (cutbox-rows.mjs): the forced cells as the released guide's own fill.sh prints them over the translation ba9e3a3c6baf5e92… (all of the seat's roots in one cut). By AI agents, Wed Nov 11 2026. No macro, syntax, notation, axiom, sorry.
-/
import Derived.Test.YtakknofacikiaaaChecked
import GoSem.Claim
import GoSem.ClaimJoined
import GoSem.ClaimMapViews
import Derived.JoinedTies
import Derived.KernelRfl
namespace Go.Proofs.Ytakknofacikiaaa
/- THE CELL 'sum', in the pinned program and in every row, IS THE sha256 OF THE DUMP (.gsa) THAT YtakknofacikiaaaProg.lean LOADS. Nothing in Lean hashes anything: it is a label: what it is worth is what the hold of that sum in a sandbox is worth. -/
noncomputable def Try.pinned : Pinned := { name := "ytakknofacikiaaa", sum := "ba9e3a3c6baf5e927d82c3e1a2f66971703f73e0fb5ec32f8227e74ae9ccadd3", checked := Try.checked }
namespace Rows
def none {H : Type} : Left H := { results := [], args := [] }

/-- 'relayhouselaw01.NumKnown': WHATEVER THE INPUT: true; the input reads as it did. -/
def numKnownSpec : ChangeSpec := { name := "numKnown", fn := fun _ => fun
  | [] => { results := [.lit (.bool true)], args := [] }
  | _ => none }
def numKnownRow : OpenClaim := { program := "ytakknofacikiaaa", sum := "ba9e3a3c6baf5e927d82c3e1a2f66971703f73e0fb5ec32f8227e74ae9ccadd3", func := "relayhouse/relayhouselaw01.NumKnown", spec := "numKnown", apart := false }
def NumKnownSaid : Prop := numKnownRow.holds Try.pinned (OpenSpec.ofChange numKnownSpec)

/-- ITS FALSE NEIGHBOUR: 'it returns false'. Refute it at one input. -/
def numKnownWrong : ChangeSpec := { name := "numKnown", fn := fun _ => fun
  | [] => { results := [.lit (.bool false)], args := [] }
  | _ => none }
def NumKnownWrongFalsely : Prop := numKnownRow.holds Try.pinned (OpenSpec.ofChange numKnownWrong)

/-- 'relayhouselaw01.NumLens': WHATEVER THE INPUT: true; the input reads as it did. -/
def numLensSpec : ChangeSpec := { name := "numLens", fn := fun _ => fun
  | [d1, d2] => { results := [.lit (.bool true)], args := [d1, d2] }
  | _ => none }
def numLensRow : OpenClaim := { program := "ytakknofacikiaaa", sum := "ba9e3a3c6baf5e927d82c3e1a2f66971703f73e0fb5ec32f8227e74ae9ccadd3", func := "relayhouse/relayhouselaw01.NumLens", spec := "numLens", apart := false }
def NumLensSaid : Prop := numLensRow.holds Try.pinned (OpenSpec.ofChange numLensSpec)

/-- ITS FALSE NEIGHBOUR: 'it returns false'. Refute it at one input. -/
def numLensWrong : ChangeSpec := { name := "numLens", fn := fun _ => fun
  | [d1, d2] => { results := [.lit (.bool false)], args := [d1, d2] }
  | _ => none }
def NumLensWrongFalsely : Prop := numLensRow.holds Try.pinned (OpenSpec.ofChange numLensWrong)

/-- 'relayhouselaw01.NumWords': WHATEVER THE INPUT: true; the input reads as it did. -/
def numWordsSpec : ChangeSpec := { name := "numWords", fn := fun _ => fun
  | [d1, d2] => { results := [.lit (.bool true)], args := [d1, d2] }
  | _ => none }
def numWordsRow : OpenClaim := { program := "ytakknofacikiaaa", sum := "ba9e3a3c6baf5e927d82c3e1a2f66971703f73e0fb5ec32f8227e74ae9ccadd3", func := "relayhouse/relayhouselaw01.NumWords", spec := "numWords", apart := false }
def NumWordsSaid : Prop := numWordsRow.holds Try.pinned (OpenSpec.ofChange numWordsSpec)

/-- ITS FALSE NEIGHBOUR: 'it returns false'. Refute it at one input. -/
def numWordsWrong : ChangeSpec := { name := "numWords", fn := fun _ => fun
  | [d1, d2] => { results := [.lit (.bool false)], args := [d1, d2] }
  | _ => none }
def NumWordsWrongFalsely : Prop := numWordsRow.holds Try.pinned (OpenSpec.ofChange numWordsWrong)

/-- 'relayhouselaw01.NumBack': WHATEVER THE INPUT: true; the input reads as it did. -/
def numBackSpec : ChangeSpec := { name := "numBack", fn := fun _ => fun
  | [d1, d2, d3, d4] => { results := [.lit (.bool true)], args := [d1, d2, d3, d4] }
  | _ => none }
def numBackRow : OpenClaim := { program := "ytakknofacikiaaa", sum := "ba9e3a3c6baf5e927d82c3e1a2f66971703f73e0fb5ec32f8227e74ae9ccadd3", func := "relayhouse/relayhouselaw01.NumBack", spec := "numBack", apart := false }
def NumBackSaid : Prop := numBackRow.holds Try.pinned (OpenSpec.ofChange numBackSpec)

/-- ITS FALSE NEIGHBOUR: 'it returns false'. Refute it at one input. -/
def numBackWrong : ChangeSpec := { name := "numBack", fn := fun _ => fun
  | [d1, d2, d3, d4] => { results := [.lit (.bool false)], args := [d1, d2, d3, d4] }
  | _ => none }
def NumBackWrongFalsely : Prop := numBackRow.holds Try.pinned (OpenSpec.ofChange numBackWrong)

/-- 'relayhouselaw01.NumLonger': WHATEVER THE INPUT: true; the input reads as it did. -/
def numLongerSpec : ChangeSpec := { name := "numLonger", fn := fun _ => fun
  | [d] => { results := [.lit (.bool true)], args := [d] }
  | _ => none }
def numLongerRow : OpenClaim := { program := "ytakknofacikiaaa", sum := "ba9e3a3c6baf5e927d82c3e1a2f66971703f73e0fb5ec32f8227e74ae9ccadd3", func := "relayhouse/relayhouselaw01.NumLonger", spec := "numLonger", apart := false }
def NumLongerSaid : Prop := numLongerRow.holds Try.pinned (OpenSpec.ofChange numLongerSpec)

/-- ITS FALSE NEIGHBOUR: 'it returns false'. Refute it at one input. -/
def numLongerWrong : ChangeSpec := { name := "numLonger", fn := fun _ => fun
  | [d] => { results := [.lit (.bool false)], args := [d] }
  | _ => none }
def NumLongerWrongFalsely : Prop := numLongerRow.holds Try.pinned (OpenSpec.ofChange numLongerWrong)

/-- 'relayhouselaw01.NumRow': WHATEVER THE INPUT: true; the input reads as it did. -/
def numRowSpec : ChangeSpec := { name := "numRow", fn := fun _ => fun
  | [d1, d2] => { results := [.lit (.bool true)], args := [d1, d2] }
  | _ => none }
def numRowRow : OpenClaim := { program := "ytakknofacikiaaa", sum := "ba9e3a3c6baf5e927d82c3e1a2f66971703f73e0fb5ec32f8227e74ae9ccadd3", func := "relayhouse/relayhouselaw01.NumRow", spec := "numRow", apart := false }
def NumRowSaid : Prop := numRowRow.holds Try.pinned (OpenSpec.ofChange numRowSpec)

/-- ITS FALSE NEIGHBOUR: 'it returns false'. Refute it at one input. -/
def numRowWrong : ChangeSpec := { name := "numRow", fn := fun _ => fun
  | [d1, d2] => { results := [.lit (.bool false)], args := [d1, d2] }
  | _ => none }
def NumRowWrongFalsely : Prop := numRowRow.holds Try.pinned (OpenSpec.ofChange numRowWrong)

/- THE SECOND FORM. 'bulk': how many values and letters a reading holds, each counted each time it is reached (what is shared counts as often as it is met; a slice's spare places count too). A statement '..UptoSaid' is the law's where the arguments, and the package variables that the reading takes, are together of bulk at most 1048576: NARROWER than '..Said'. Prove '..Said' where nothing that the law and all that it calls make is longer than what came in: it says more and counts as full. Else prove '..UptoSaid'. A law counts once. -/
mutual
def uptoBulk {H : Type} : DataW H → Nat
  | .lit (.string bytes) => bytes.length + 1
  | .lit _ => 1
  | .nil => 1
  | .ptr d => uptoBulk d + 1
  | .slice elems spare => uptoBulkAll elems + uptoBulkAll spare + 1
  | .agg parts => uptoBulkAll parts + 1
  | .iface _ d => uptoBulk d + 1
  | .map entries => uptoBulkEntries entries + 1
  | .held _ => 1
def uptoBulkAll {H : Type} : List (DataW H) → Nat
  | [] => 0
  | d :: r => uptoBulk d + uptoBulkAll r
def uptoBulkEntries {H : Type} : List (Lit × DataW H) → Nat
  | [] => 0
  | x :: r => uptoBulkEntry x + uptoBulkEntries r
def uptoBulkEntry {H : Type} : Lit × DataW H → Nat
  | (.string bytes, d) => bytes.length + uptoBulk d + 1
  | (_, d) => uptoBulk d + 1
 end
def uptoSmall : (H : Type) → List (DataW H) → Bool := fun _ ds => decide (uptoBulkAll ds ≤ 1048576)
def OpenSpec.upto (s : _root_.Go.ChangeSpec) : _root_.Go.OpenSpec := { _root_.Go.OpenSpec.ofChange s with cond := some uptoSmall }

/-- 'relayhouselaw01.NumKnown', WHERE WHAT IT READS IS OF BULK AT MOST 1048576: true; the input reads as it did. -/
def numKnownUptoRow : OpenClaim := { program := "ytakknofacikiaaa", sum := "ba9e3a3c6baf5e927d82c3e1a2f66971703f73e0fb5ec32f8227e74ae9ccadd3", func := "relayhouse/relayhouselaw01.NumKnown", spec := "numKnown", apart := false, narrowed := true }
def NumKnownUptoSaid : Prop := numKnownUptoRow.holds Try.pinned (OpenSpec.upto numKnownSpec)

/-- 'relayhouselaw01.NumLens', WHERE WHAT IT READS IS OF BULK AT MOST 1048576: true; the input reads as it did. -/
def numLensUptoRow : OpenClaim := { program := "ytakknofacikiaaa", sum := "ba9e3a3c6baf5e927d82c3e1a2f66971703f73e0fb5ec32f8227e74ae9ccadd3", func := "relayhouse/relayhouselaw01.NumLens", spec := "numLens", apart := false, narrowed := true }
def NumLensUptoSaid : Prop := numLensUptoRow.holds Try.pinned (OpenSpec.upto numLensSpec)

/-- 'relayhouselaw01.NumWords', WHERE WHAT IT READS IS OF BULK AT MOST 1048576: true; the input reads as it did. -/
def numWordsUptoRow : OpenClaim := { program := "ytakknofacikiaaa", sum := "ba9e3a3c6baf5e927d82c3e1a2f66971703f73e0fb5ec32f8227e74ae9ccadd3", func := "relayhouse/relayhouselaw01.NumWords", spec := "numWords", apart := false, narrowed := true }
def NumWordsUptoSaid : Prop := numWordsUptoRow.holds Try.pinned (OpenSpec.upto numWordsSpec)

/-- 'relayhouselaw01.NumBack', WHERE WHAT IT READS IS OF BULK AT MOST 1048576: true; the input reads as it did. -/
def numBackUptoRow : OpenClaim := { program := "ytakknofacikiaaa", sum := "ba9e3a3c6baf5e927d82c3e1a2f66971703f73e0fb5ec32f8227e74ae9ccadd3", func := "relayhouse/relayhouselaw01.NumBack", spec := "numBack", apart := false, narrowed := true }
def NumBackUptoSaid : Prop := numBackUptoRow.holds Try.pinned (OpenSpec.upto numBackSpec)

/-- 'relayhouselaw01.NumLonger', WHERE WHAT IT READS IS OF BULK AT MOST 1048576: true; the input reads as it did. -/
def numLongerUptoRow : OpenClaim := { program := "ytakknofacikiaaa", sum := "ba9e3a3c6baf5e927d82c3e1a2f66971703f73e0fb5ec32f8227e74ae9ccadd3", func := "relayhouse/relayhouselaw01.NumLonger", spec := "numLonger", apart := false, narrowed := true }
def NumLongerUptoSaid : Prop := numLongerUptoRow.holds Try.pinned (OpenSpec.upto numLongerSpec)

/-- 'relayhouselaw01.NumRow', WHERE WHAT IT READS IS OF BULK AT MOST 1048576: true; the input reads as it did. -/
def numRowUptoRow : OpenClaim := { program := "ytakknofacikiaaa", sum := "ba9e3a3c6baf5e927d82c3e1a2f66971703f73e0fb5ec32f8227e74ae9ccadd3", func := "relayhouse/relayhouselaw01.NumRow", spec := "numRow", apart := false, narrowed := true }
def NumRowUptoSaid : Prop := numRowUptoRow.holds Try.pinned (OpenSpec.upto numRowSpec)

end Rows
end Go.Proofs.Ytakknofacikiaaa
