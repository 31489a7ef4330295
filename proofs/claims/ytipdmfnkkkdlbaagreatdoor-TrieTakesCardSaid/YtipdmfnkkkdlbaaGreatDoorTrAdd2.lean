/-
  trie: the document's own answers: Add.
-/
import Derived.Test.YtipdmfnkkkdlbaaGreatDoorTrRef
import Derived.Test.YtipdmfnkkkdlbaaGreatDoorTrPut
import Derived.Test.YtipdmfnkkkdlbaaGreatDoorLast
set_option linter.unusedSimpArgs false
set_option linter.unusedVariables false
namespace Go.Proofs.YtipdmfnkkkdlbaaGreatDoor
section
open Go.RowKit
def oTrAdd21 : Oper := ({ dst := some 20, op := Go.Op.move (Go.Operand.tmp 8), type := 3, pos := "ref.go:34", after := #[], guard := none } : Oper)
def oTrAdd22 : Oper := ({ dst := some 21, op := Go.Op.move (Go.Operand.tmp 0), type := 27, pos := "ref.go:34", after := #[], guard := none } : Oper)
def oTrAdd23 : Oper := ({ dst := some 22, op := Go.Op.nilCheck (Go.Operand.tmp 21), type := 0, pos := "ref.go:34", after := #[{ on := 1, ground := Go.Ground.data }], guard := none } : Oper)
def oTrAdd24 : Oper := ({ dst := some 23, op := Go.Op.fieldAddr 30 (Go.Operand.tmp 22) 0, type := 0, pos := "ref.go:34", after := #[{ on := 2, ground := Go.Ground.data }], guard := none } : Oper)
def oTrAdd25 : Oper := ({ dst := some 24, op := Go.Op.load 28 (Go.Operand.tmp 23), type := 28, pos := "ref.go:34", after := #[{ on := 3, ground := Go.Ground.data }], guard := none } : Oper)
def oTrAdd26 : Oper := ({ dst := some 25, op := Go.Op.call { callee := Go.Callee.builtin Go.Builtin.len, args := #[Go.Operand.tmp 24], argTypes := #[28] }, type := 3, pos := "ref.go:34", after := #[{ on := 4, ground := Go.Ground.data }], guard := none } : Oper)
def oTrAdd27 : Oper := ({ dst := some 26, op := Go.Op.binOp Go.BinOp.lss 3 (Go.Operand.tmp 20) (Go.Operand.tmp 25) 3, type := 4, pos := "ref.go:34", after := #[{ on := 0, ground := Go.Ground.data }, { on := 5, ground := Go.Ground.data }], guard := none } : Oper)
def oTrAdd28 : Oper := ({ dst := some 27, op := Go.Op.move (Go.Operand.tmp 26), type := 4, pos := "ref.go:34", after := #[{ on := 6, ground := Go.Ground.data }], guard := none } : Oper)
def oTrAdd29 : Oper := ({ dst := some 28, op := Go.Op.move (Go.Operand.tmp 0), type := 27, pos := "ref.go:34", after := #[{ on := 7, ground := Go.Ground.guard }], guard := some (7, true) } : Oper)
def oTrAdd210 : Oper := ({ dst := some 29, op := Go.Op.nilCheck (Go.Operand.tmp 28), type := 0, pos := "ref.go:34", after := #[{ on := 8, ground := Go.Ground.data }, { on := 7, ground := Go.Ground.guard }], guard := some (7, true) } : Oper)
def oTrAdd211 : Oper := ({ dst := some 30, op := Go.Op.fieldAddr 30 (Go.Operand.tmp 29) 0, type := 0, pos := "ref.go:34", after := #[{ on := 9, ground := Go.Ground.data }, { on := 7, ground := Go.Ground.guard }], guard := some (7, true) } : Oper)
def oTrAdd212 : Oper := ({ dst := some 31, op := Go.Op.load 28 (Go.Operand.tmp 30), type := 28, pos := "ref.go:34", after := #[{ on := 10, ground := Go.Ground.data }, { on := 7, ground := Go.Ground.guard }], guard := some (7, true) } : Oper)
def oTrAdd213 : Oper := ({ dst := some 32, op := Go.Op.move (Go.Operand.tmp 8), type := 3, pos := "ref.go:34", after := #[{ on := 7, ground := Go.Ground.guard }], guard := some (7, true) } : Oper)
def oTrAdd214 : Oper := ({ dst := some 33, op := Go.Op.indexAddr 28 (Go.Operand.tmp 31) (Go.Operand.tmp 32), type := 0, pos := "ref.go:34", after := #[{ on := 11, ground := Go.Ground.data }, { on := 12, ground := Go.Ground.data }, { on := 7, ground := Go.Ground.guard }], guard := some (7, true) } : Oper)
def oTrAdd215 : Oper := ({ dst := some 34, op := Go.Op.load 40 (Go.Operand.tmp 33), type := 40, pos := "ref.go:34", after := #[{ on := 13, ground := Go.Ground.data }, { on := 7, ground := Go.Ground.guard }], guard := some (7, true) } : Oper)
def oTrAdd216 : Oper := ({ dst := some 35, op := Go.Op.load 40 (Go.Operand.tmp 7), type := 40, pos := "ref.go:34", after := #[{ on := 7, ground := Go.Ground.guard }], guard := some (7, true) } : Oper)
def oTrAdd217 : Oper := ({ dst := some 36, op := Go.Op.call { callee := Go.Callee.value (Go.Operand.func 56), args := #[Go.Operand.tmp 34, Go.Operand.tmp 35], argTypes := #[40, 40] }, type := 4, pos := "ref.go:34", after := #[{ on := 14, ground := Go.Ground.data }, { on := 15, ground := Go.Ground.data }, { on := 7, ground := Go.Ground.chain }, { on := 7, ground := Go.Ground.guard }], guard := some (7, true) } : Oper)
def oTrAdd218 : Oper := ({ dst := some 37, op := Go.Op.pick (Go.Operand.tmp 27) (Go.Operand.tmp 36) (Go.Operand.const (Go.Value.bool false)), type := 4, pos := "ref.go:34", after := #[{ on := 7, ground := Go.Ground.data }, { on := 16, ground := Go.Ground.data }], guard := none } : Oper)
def oTrAdd219 : Oper := ({ dst := some 40, op := Go.Op.move (Go.Operand.tmp 0), type := 27, pos := "ref.go:37", after := #[], guard := none } : Oper)
def oTrAdd220 : Oper := ({ dst := some 41, op := Go.Op.buildSlice 28 0 #[], type := 28, pos := "ref.go:37", after := #[], guard := none } : Oper)
def oTrAdd221 : Oper := ({ dst := some 42, op := Go.Op.move (Go.Operand.tmp 0), type := 27, pos := "ref.go:37", after := #[], guard := none } : Oper)
def oTrAdd222 : Oper := ({ dst := some 43, op := Go.Op.nilCheck (Go.Operand.tmp 42), type := 0, pos := "ref.go:37", after := #[{ on := 2, ground := Go.Ground.data }], guard := none } : Oper)
def oTrAdd223 : Oper := ({ dst := some 44, op := Go.Op.fieldAddr 30 (Go.Operand.tmp 43) 0, type := 0, pos := "ref.go:37", after := #[{ on := 3, ground := Go.Ground.data }], guard := none } : Oper)
def oTrAdd224 : Oper := ({ dst := some 45, op := Go.Op.load 28 (Go.Operand.tmp 44), type := 28, pos := "ref.go:37", after := #[{ on := 4, ground := Go.Ground.data }], guard := none } : Oper)
def oTrAdd225 : Oper := ({ dst := some 46, op := Go.Op.move (Go.Operand.tmp 8), type := 3, pos := "ref.go:37", after := #[], guard := none } : Oper)
def oTrAdd226 : Oper := ({ dst := some 47, op := Go.Op.slice 28 (Go.Operand.tmp 45) none (some (Go.Operand.tmp 46)) none, type := 28, pos := "ref.go:37", after := #[{ on := 5, ground := Go.Ground.data }, { on := 6, ground := Go.Ground.data }], guard := none } : Oper)
def oTrAdd227 : Oper := ({ dst := some 48, op := Go.Op.call { callee := Go.Callee.builtin Go.Builtin.append, args := #[Go.Operand.tmp 41, Go.Operand.tmp 47], argTypes := #[28, 28] }, type := 28, pos := "ref.go:37", after := #[{ on := 1, ground := Go.Ground.data }, { on := 7, ground := Go.Ground.data }], guard := none } : Oper)
def oTrAdd228 : Oper := ({ dst := some 49, op := Go.Op.load 40 (Go.Operand.tmp 7), type := 40, pos := "ref.go:37", after := #[], guard := none } : Oper)
def oTrAdd229 : Oper := ({ dst := some 50, op := Go.Op.buildSlice 28 1 #[(0, Go.Operand.tmp 49)], type := 28, pos := "ref.go:37", after := #[{ on := 9, ground := Go.Ground.data }], guard := none } : Oper)
def oTrAdd230 : Oper := ({ dst := some 51, op := Go.Op.call { callee := Go.Callee.builtin Go.Builtin.append, args := #[Go.Operand.tmp 48, Go.Operand.tmp 50], argTypes := #[28, 28] }, type := 28, pos := "ref.go:37", after := #[{ on := 8, ground := Go.Ground.data }, { on := 10, ground := Go.Ground.data }, { on := 8, ground := Go.Ground.chain }], guard := none } : Oper)
def oTrAdd231 : Oper := ({ dst := some 52, op := Go.Op.move (Go.Operand.tmp 0), type := 27, pos := "ref.go:37", after := #[], guard := none } : Oper)
def oTrAdd232 : Oper := ({ dst := some 53, op := Go.Op.nilCheck (Go.Operand.tmp 52), type := 0, pos := "ref.go:37", after := #[{ on := 12, ground := Go.Ground.data }], guard := none } : Oper)
def oTrAdd233 : Oper := ({ dst := some 54, op := Go.Op.fieldAddr 30 (Go.Operand.tmp 53) 0, type := 0, pos := "ref.go:37", after := #[{ on := 13, ground := Go.Ground.data }], guard := none } : Oper)
def oTrAdd234 : Oper := ({ dst := some 55, op := Go.Op.load 28 (Go.Operand.tmp 54), type := 28, pos := "ref.go:37", after := #[{ on := 14, ground := Go.Ground.data }], guard := none } : Oper)
def oTrAdd235 : Oper := ({ dst := some 56, op := Go.Op.move (Go.Operand.tmp 8), type := 3, pos := "ref.go:37", after := #[], guard := none } : Oper)
def oTrAdd236 : Oper := ({ dst := some 57, op := Go.Op.slice 28 (Go.Operand.tmp 55) (some (Go.Operand.tmp 56)) none none, type := 28, pos := "ref.go:37", after := #[{ on := 15, ground := Go.Ground.data }, { on := 16, ground := Go.Ground.data }], guard := none } : Oper)
def oTrAdd237 : Oper := ({ dst := some 58, op := Go.Op.call { callee := Go.Callee.builtin Go.Builtin.append, args := #[Go.Operand.tmp 51, Go.Operand.tmp 57], argTypes := #[28, 28] }, type := 28, pos := "ref.go:37", after := #[{ on := 11, ground := Go.Ground.data }, { on := 17, ground := Go.Ground.data }, { on := 11, ground := Go.Ground.chain }], guard := none } : Oper)
def oTrAdd238 : Oper := ({ dst := some 59, op := Go.Op.nilCheck (Go.Operand.tmp 40), type := 0, pos := "ref.go:37", after := #[{ on := 0, ground := Go.Ground.data }, { on := 0, ground := Go.Ground.phase }, { on := 1, ground := Go.Ground.phase }, { on := 2, ground := Go.Ground.phase }, { on := 3, ground := Go.Ground.phase }, { on := 4, ground := Go.Ground.phase }, { on := 5, ground := Go.Ground.phase }, { on := 6, ground := Go.Ground.phase }, { on := 7, ground := Go.Ground.phase }, { on := 8, ground := Go.Ground.phase }, { on := 9, ground := Go.Ground.phase }, { on := 10, ground := Go.Ground.phase }, { on := 11, ground := Go.Ground.phase }, { on := 12, ground := Go.Ground.phase }, { on := 13, ground := Go.Ground.phase }, { on := 14, ground := Go.Ground.phase }, { on := 15, ground := Go.Ground.phase }, { on := 16, ground := Go.Ground.phase }, { on := 17, ground := Go.Ground.phase }, { on := 18, ground := Go.Ground.phase }], guard := none } : Oper)
def oTrAdd239 : Oper := ({ dst := some 60, op := Go.Op.fieldAddr 30 (Go.Operand.tmp 59) 0, type := 0, pos := "ref.go:37", after := #[{ on := 19, ground := Go.Ground.data }, { on := 0, ground := Go.Ground.phase }, { on := 1, ground := Go.Ground.phase }, { on := 2, ground := Go.Ground.phase }, { on := 3, ground := Go.Ground.phase }, { on := 4, ground := Go.Ground.phase }, { on := 5, ground := Go.Ground.phase }, { on := 6, ground := Go.Ground.phase }, { on := 7, ground := Go.Ground.phase }, { on := 8, ground := Go.Ground.phase }, { on := 9, ground := Go.Ground.phase }, { on := 10, ground := Go.Ground.phase }, { on := 11, ground := Go.Ground.phase }, { on := 12, ground := Go.Ground.phase }, { on := 13, ground := Go.Ground.phase }, { on := 14, ground := Go.Ground.phase }, { on := 15, ground := Go.Ground.phase }, { on := 16, ground := Go.Ground.phase }, { on := 17, ground := Go.Ground.phase }, { on := 18, ground := Go.Ground.phase }], guard := none } : Oper)
def oTrAdd240 : Oper := ({ dst := none, op := Go.Op.store 28 (Go.Operand.tmp 60) (Go.Operand.tmp 58), type := 0, pos := "ref.go:37", after := #[{ on := 20, ground := Go.Ground.data }, { on := 18, ground := Go.Ground.data }, { on := 18, ground := Go.Ground.chain }, { on := 0, ground := Go.Ground.phase }, { on := 1, ground := Go.Ground.phase }, { on := 2, ground := Go.Ground.phase }, { on := 3, ground := Go.Ground.phase }, { on := 4, ground := Go.Ground.phase }, { on := 5, ground := Go.Ground.phase }, { on := 6, ground := Go.Ground.phase }, { on := 7, ground := Go.Ground.phase }, { on := 8, ground := Go.Ground.phase }, { on := 9, ground := Go.Ground.phase }, { on := 10, ground := Go.Ground.phase }, { on := 11, ground := Go.Ground.phase }, { on := 12, ground := Go.Ground.phase }, { on := 13, ground := Go.Ground.phase }, { on := 14, ground := Go.Ground.phase }, { on := 15, ground := Go.Ground.phase }, { on := 16, ground := Go.Ground.phase }, { on := 17, ground := Go.Ground.phase }, { on := 18, ground := Go.Ground.phase }], guard := none } : Oper)
end
open Go.RowKit

/-- What Add, Remove leave: the trie at g with other hints, all else as it was. -/
def RP (w : World) (g : Nat) (A0 : Option Addr) (n0 : Nat) (M : List Hn) (r : Bool) (e : Ending) (w' : World) : Prop :=
  ∃ A n c, e = .returned (.bool r) ∧ RT w' g A n c M ∧ Outs w w' (· = g) ∧ (A = A0 ∧ n = n0 ∨ ∀ b, A = some ⟨b, 0, none⟩ → w.heap.size ≤ b)
theorem add_new (L : List Hn) (h : Hn) (k : Nat) (ht : k ≤ (L.takeWhile (ahB · h)).length) (h1 : ∀ x, L[k]? = some x → ahB x h = false) : insO ahB h L = L.take k ++ [h] ++ L.drop k := by
  have h3 := tw_stop (ahB · h) L k ht h1
  unfold insO
  rw [h3.1, h3.2]; simp
section
variable {w w' : World} {g n c : Nat} {A : Option Addr} {L : List Hn}
theorem RT.froz (h : RT w g A n c L) : ∀ i, w.frozen? ⟨g, i, none⟩ = false := fun i => by
  obtain ⟨T, h1⟩ := h.1
  unfold World.frozen?
  rw [h1]; simp
theorem RT.set {A' : Option Addr} {n' c' : Nat} {M : List Hn} (h : RT w g A n c L) (h2 : Hnts w A' n' M) (hA : A' = none ∧ c' = 0 ∨ ∃ b, A' = some ⟨b, 0, none⟩) (hc : n' ≤ c') (hne : ∀ b, A' = some ⟨b, 0, none⟩ → b ≠ g) : RT (w.setCell ⟨g, 0, none⟩ (.slice A' n' c')) g A' n' c' M := by
  refine ⟨?_, ⟨h2.1, fun h0 => ?_⟩, hA, hc⟩
  · obtain ⟨T, h1⟩ := h.1
    exact ⟨T, heap_setCell_same w g 0 _ _ _ h1⟩
  · obtain ⟨b, off, e, hcl⟩ := h2.2 h0
    refine ⟨b, off, e, fun j u hu => ?_⟩
    rw [World.cell?_setCell_other _ _ _ _ (fun e2 => ?_)]
    · exact hcl j u hu
    · rcases hA with ⟨h9, _⟩ | ⟨b2, h9⟩
      · rw [h9] at e; cases e
      · rw [h9] at e; cases e
        injection e2 with e3
        exact hne b h9 e3.symm
theorem add_no1 (f c0 : List UInt8) (hT : RT w g A n c L) (hf : filB f = false) (hl : f.length ≤ 1000000) :
    Calls Tryz.prog 28 #[.pointer (some ⟨g, 0, none⟩), .string ⟨f.toArray⟩, .string ⟨c0.toArray⟩] w fun e w' => RP w g A n L false e w' := by
  have HT := Lib.hid hT
  have HF := Lib.hid hf
  have hb : Below w.heap.size w w := Below.refl _ _
  clear hT hf
  go_enter Tryz.func28, Tryz.ntmps28
  go_wp2_with fail
  refine (refFilter_eq f false _ (by omega) HF.out).mono ?_
  rintro e w1 ⟨rfl, hb1⟩
  replace hb := below_more (below_alloc hb _) hb1
  clear hb1
  go_wp2_with fail
  go_ret
  exact ⟨A, n, c, rfl, HT.out.below hb, Outs.of_below hb, Or.inl ⟨rfl, rfl⟩⟩
theorem add_no2 (f c0 : List UInt8) (hT : RT w g A n c L) (hn : n ≤ 1000000) (hf : filB f = true) (hl : f.length ≤ 1000000) (hc : L.contains (f, c0) = true) :
    Calls Tryz.prog 28 #[.pointer (some ⟨g, 0, none⟩), .string ⟨f.toArray⟩, .string ⟨c0.toArray⟩] w fun e w' => RP w g A n L false e w' := by
  have HT := Lib.hid hT
  have HF := Lib.hid hf
  have HC := Lib.hid hc
  have hb : Below w.heap.size w w := Below.refl _ _
  clear hT hf hc
  obtain ⟨W, hW⟩ : ∃ W, W = w.alloc (.cells #[.string ⟨f.toArray⟩, .string ⟨c0.toArray⟩] 40) := ⟨_, rfl⟩
  have hbW : Below w.heap.size w W := by rw [hW]; exact below_alloc (Below.refl _ _) _
  have k1 : Hid (W.cell? ⟨w.heap.size, 0, none⟩ = some (.string ⟨f.toArray⟩)) := by show _ = _; rw [hW, World.cell?_alloc_new]; rfl
  have k2 : Hid (W.cell? ⟨w.heap.size, 1, none⟩ = some (.string ⟨c0.toArray⟩)) := by show _ = _; rw [hW, World.cell?_alloc_new]; rfl
  go_enter Tryz.func28, Tryz.ntmps28
  go_wp2_with fail
  rw [← hW]
  clear hW hb
  refine (refFilter_eq f true _ (by omega) HF.out).mono ?_
  rintro e w1 ⟨rfl, hb1⟩
  have m1 := (hb1.cell (World.block_lt_of_cell? _ _ k1.out)).trans k1.out
  have m2 := (hb1.cell (World.block_lt_of_cell? _ _ k2.out)).trans k2.out
  have hb := hbW.trans (hb1.mono hbW.size)
  go_wp2_with fail
  refine (has_eq (f, c0) true (HT.out.below hb) hn HC.out).mono ?_
  rintro e w2 ⟨rfl, hb2⟩
  replace hb := below_more hb hb2
  go_wp2_with fail
  go_ret
  exact ⟨A, n, c, rfl, HT.out.below hb, Outs.of_below hb, Or.inl ⟨rfl, rfl⟩⟩
theorem below_more2 {w w1 w2 : World} (h : Below w.heap.size w w1) (k : Below w1.heap.size w1 w2) : Below w.heap.size w w2 := below_more h k
theorem OwnH.told2 {B : Nat} {w0 wr : World} {v : Value} {L : List Hn} (h : OwnH B w0 wr v L) : ∃ A n c, v = .slice A n c ∧ Hnts wr A n L ∧ (A = none ∧ c = 0 ∨ ∃ b, A = some ⟨b, 0, none⟩) ∧ n ≤ c ∧ (∀ b, A = some ⟨b, 0, none⟩ → B ≤ b) := by
  rcases h.1.2 with ⟨rfl, hn⟩ | ⟨g, cap, cur, rfl, hB, hh, hc, _, _, _⟩
  · exact ⟨none, 0, 0, rfl, ⟨hn, fun h => by omega⟩, .inl ⟨rfl, rfl⟩, by omega, fun b e => by cases e⟩
  · refine ⟨_, _, _, rfl, ⟨rfl, fun _ => ⟨g, 0, rfl, fun j x hx => ?_⟩⟩, .inr ⟨g, rfl⟩, hc, fun b e => by cases e; exact hB⟩
    have := h.1.cells (g := g) rfl j x hx
    have hadd : (⟨g, 0, none⟩ : Addr).add j = ⟨g, 0 + j, none⟩ := by unfold Addr.add; split <;> simp_all
    rw [hadd] at this
    exact this
theorem hnts_new (w : World) (h : Hn) : Hnts (w.alloc (.cells #[.string ⟨h.1.toArray⟩, .string ⟨h.2.toArray⟩] 40)) (some ⟨w.heap.size, 0, none⟩) 1 [h] := hnts_one (by rw [World.cell?_alloc_new]; rfl) (by rw [World.cell?_alloc_new]; rfl)
set_option maxHeartbeats 2000000 in
theorem add_some (bA : Nat) (f c0 : List UInt8) (M : List Hn) (hT : RT w g (some ⟨bA, 0, none⟩) n c L) (hn : n ≤ 1000000) (hf : filB f = true) (hl : f.length ≤ 1000000) (hc : L.contains (f, c0) = false) (hM : insO ahB (f, c0) L = M) :
    Calls Tryz.prog 28 #[.pointer (some ⟨g, 0, none⟩), .string ⟨f.toArray⟩, .string ⟨c0.toArray⟩] w fun e w' => RP w g (some ⟨bA, 0, none⟩) n M true e w' := by
  have HT := Lib.hid hT
  have HF := Lib.hid hf
  have HC := Lib.hid hc
  have hb : Below w.heap.size w w := Below.refl _ _
  have HL := Lib.hid hT.len
  clear hT hf hc
  obtain ⟨W, hW⟩ : ∃ W, W = w.alloc (.cells #[.string ⟨f.toArray⟩, .string ⟨c0.toArray⟩] 40) := ⟨_, rfl⟩
  have hbW : Below w.heap.size w W := by rw [hW]; exact below_alloc (Below.refl _ _) _
  have k1 : Hid (W.cell? ⟨w.heap.size, 0, none⟩ = some (.string ⟨f.toArray⟩)) := by show _ = _; rw [hW, World.cell?_alloc_new]; rfl
  have k2 : Hid (W.cell? ⟨w.heap.size, 1, none⟩ = some (.string ⟨c0.toArray⟩)) := by show _ = _; rw [hW, World.cell?_alloc_new]; rfl
  go_enter Tryz.func28, Tryz.ntmps28
  go_wp2_with fail
  rw [← hW]
  clear hW hb
  refine (refFilter_eq f true _ (by omega) HF.out).mono ?_
  rintro e w1 ⟨rfl, hb1⟩
  have m1 := (hb1.cell (World.block_lt_of_cell? _ _ k1.out)).trans k1.out
  have m2 := (hb1.cell (World.block_lt_of_cell? _ _ k2.out)).trans k2.out
  have hb := hbW.trans (hb1.mono hbW.size)
  go_wp2_with fail
  refine (has_eq (f, c0) false (HT.out.below hb) hn HC.out).mono ?_
  rintro e w2 ⟨rfl, hb2⟩
  replace hb := below_more hb hb2
  have HT2 := Lib.hid (HT.out.below hb)
  have K1 : Hid (w2.cell? ⟨w.heap.size, 0, none⟩ = some (.string ⟨f.toArray⟩)) := (hb2.cell (World.block_lt_of_cell? _ _ m1)).trans m1
  have K2 : Hid (w2.cell? ⟨w.heap.size, 1, none⟩ = some (.string ⟨c0.toArray⟩)) := (hb2.cell (World.block_lt_of_cell? _ _ m2)).trans m2
  clear m1 m2 k1 k2 hb1 hb2 hbW
  go_wp2_with fail
  have HMM := Lib.hid hM
  clear hM
  go_loopw [8] (fun i wr => ∃ k : Nat, i = .int .i64 k ∧ k ≤ n ∧ Below w2.heap.size w2 wr ∧ Hid (k ≤ (L.takeWhile (ahB · (f, c0))).length)) (fun i _ => n - (intOf i).toNat)
  case atStart => exact ⟨0, rfl, by omega, Below.refl _ _, by show 0 ≤ _; omega⟩
  case round =>
    obtain ⟨k, rfl, hk, hbr, ht⟩ := hrel
    by_cases hlt : k < n
    · obtain ⟨b1, o1, x, hA9, hx, hcx1, hcx2⟩ := (HT2.out.2.1.below hbr).at_ hlt
      cases hA9
      rw [Nat.zero_add] at hcx1 hcx2
      have HX1 := Lib.hid hcx1
      have HX2 := Lib.hid hcx2
      clear hcx1 hcx2
      have hkn : (k : Int) < (n : Int) := by omega
      have hk0 : (0 : Int) ≤ (k : Int) := by omega
      go_wp2_with fail
      cases hA : ahB x (f, c0) with
      | true =>
        have HA := Lib.hid hA
        have HN : Hid (k + 1 ≤ (L.takeWhile (ahB · (f, c0))).length) := tw_step (ahB · (f, c0)) L k x hx ht.out hA
        clear hx hA
        refine wp_region_held_drew (S := (fun w' => Below wr.heap.size wr w')) (by kernel_rfl) ((Below.refl _ _).drew) (fun hHeld => ?_)
        refine tkY 0 oTrAdd21 ?vv6_16_0 rfl (by kernel_rfl) (by kernel_rfl) (by kernel_rfl) (fun _ _ _ h => h) (by rfl) ?hy6_16_0 (by assumption) ?rest6_16_0
        case hy6_16_0 => (intro w hSw; unfold oTrAdd21; (try dsimp only at hSw); (try go_split_ands); go_simp; all_goals with_reducible rfl)
        try simp only [oTrAdd21, Act.put, sA, sB, sC]
        refine tkY 1 oTrAdd22 ?vv6_16_1 rfl (by kernel_rfl) (by kernel_rfl) (by kernel_rfl) (fun _ _ _ h => h) (by rfl) ?hy6_16_1 (by assumption) ?rest6_16_1
        case hy6_16_1 => (intro w hSw; unfold oTrAdd22; (try dsimp only at hSw); (try go_split_ands); go_simp; all_goals with_reducible rfl)
        try simp only [oTrAdd22, Act.put, sA, sB, sC]
        refine tkY 2 oTrAdd23 ?vv6_16_2 rfl (by kernel_rfl) (by kernel_rfl) (by kernel_rfl) (fun _ _ _ h => h) (by rfl) ?hy6_16_2 (by assumption) ?rest6_16_2
        case hy6_16_2 => (intro w hSw; unfold oTrAdd23; (try dsimp only at hSw); (try go_split_ands); go_simp; all_goals with_reducible rfl)
        try simp only [oTrAdd23, Act.put, sA, sB, sC]
        refine tkY 3 oTrAdd24 ?vv6_16_3 rfl (by kernel_rfl) (by kernel_rfl) (by kernel_rfl) (fun _ _ _ h => h) (by rfl) ?hy6_16_3 (by assumption) ?rest6_16_3
        case hy6_16_3 => (intro w hSw; unfold oTrAdd24; (try dsimp only at hSw); (try go_split_ands); go_simp; all_goals with_reducible rfl)
        try simp only [oTrAdd24, Act.put, sA, sB, sC]
        refine tkY 4 oTrAdd25 ?vv6_17_4 rfl (by kernel_rfl) (by kernel_rfl) (by kernel_rfl) (fun _ _ _ h => h) (by rfl) ?hy6_17_4 (by assumption) ?rest6_17_4
        case hy6_17_4 => (intro w hSw; unfold oTrAdd25; (try dsimp only at hSw); have hq := (HT2.out.below (below_more hbr hSw)).cell; clear hSw; go_simp; all_goals with_reducible rfl)
        try simp only [oTrAdd25, Act.put, sA, sB, sC]
        refine tkY 5 oTrAdd26 ?vv6_18_5 rfl (by kernel_rfl) (by kernel_rfl) (by kernel_rfl) (fun _ _ _ h => h) (by rfl) ?hy6_18_5 (by assumption) ?rest6_18_5
        case hy6_18_5 => (intro w hSw; unfold oTrAdd26; (try dsimp only at hSw); (try go_split_ands); go_simp; all_goals with_reducible rfl)
        try simp only [oTrAdd26, Act.put, sA, sB, sC]
        refine tkY 6 oTrAdd27 ?vv6_18_6 rfl (by kernel_rfl) (by kernel_rfl) (by kernel_rfl) (fun _ _ _ h => h) (by rfl) ?hy6_18_6 (by assumption) ?rest6_18_6
        case hy6_18_6 => (intro w hSw; unfold oTrAdd27; (try dsimp only at hSw); (try go_split_ands); go_simp; all_goals with_reducible rfl)
        try simp only [oTrAdd27, Act.put, sA, sB, sC]
        refine tkY 7 oTrAdd28 ?vv6_18_7 rfl (by kernel_rfl) (by kernel_rfl) (by kernel_rfl) (fun _ _ _ h => h) (by rfl) ?hy6_18_7 (by assumption) ?rest6_18_7
        case hy6_18_7 => (intro w hSw; unfold oTrAdd28; (try dsimp only at hSw); (try go_split_ands); go_simp; all_goals with_reducible rfl)
        try simp only [oTrAdd28, Act.put, sA, sB, sC]
        refine tkY 8 oTrAdd29 ?vv6_18_8 rfl (by kernel_rfl) (by kernel_rfl) (by kernel_rfl) (fun _ _ _ h => h) (by rfl) ?hy6_18_8 (by assumption) ?rest6_18_8
        case hy6_18_8 => (intro w hSw; unfold oTrAdd29; (try dsimp only at hSw); (try go_split_ands); go_simp; all_goals with_reducible rfl)
        try simp only [oTrAdd29, Act.put, sA, sB, sC]
        refine tkY 9 oTrAdd210 ?vv6_18_9 rfl (by kernel_rfl) (by kernel_rfl) (by kernel_rfl) (fun _ _ _ h => h) (by rfl) ?hy6_18_9 (by assumption) ?rest6_18_9
        case hy6_18_9 => (intro w hSw; unfold oTrAdd210; (try dsimp only at hSw); (try go_split_ands); go_simp; all_goals with_reducible rfl)
        try simp only [oTrAdd210, Act.put, sA, sB, sC]
        refine tkY 10 oTrAdd211 ?vv6_18_10 rfl (by kernel_rfl) (by kernel_rfl) (by kernel_rfl) (fun _ _ _ h => h) (by rfl) ?hy6_18_10 (by assumption) ?rest6_18_10
        case hy6_18_10 => (intro w hSw; unfold oTrAdd211; (try dsimp only at hSw); (try go_split_ands); go_simp; all_goals with_reducible rfl)
        try simp only [oTrAdd211, Act.put, sA, sB, sC]
        refine tkY 11 oTrAdd212 ?vv6_19_11 rfl (by kernel_rfl) (by kernel_rfl) (by kernel_rfl) (fun _ _ _ h => h) (by rfl) ?hy6_19_11 (by assumption) ?rest6_19_11
        case hy6_19_11 => (intro w hSw; unfold oTrAdd212; (try dsimp only at hSw); have hq := (HT2.out.below (below_more hbr hSw)).cell; clear hSw; go_simp; all_goals with_reducible rfl)
        try simp only [oTrAdd212, Act.put, sA, sB, sC]
        refine tkY 12 oTrAdd213 ?vv6_20_12 rfl (by kernel_rfl) (by kernel_rfl) (by kernel_rfl) (fun _ _ _ h => h) (by rfl) ?hy6_20_12 (by assumption) ?rest6_20_12
        case hy6_20_12 => (intro w hSw; unfold oTrAdd213; (try dsimp only at hSw); (try go_split_ands); go_simp; all_goals with_reducible rfl)
        try simp only [oTrAdd213, Act.put, sA, sB, sC]
        refine tkY 13 oTrAdd214 ?vv6_20_13 rfl (by kernel_rfl) (by kernel_rfl) (by kernel_rfl) (fun _ _ _ h => h) (by rfl) ?hy6_20_13 (by assumption) ?rest6_20_13
        case hy6_20_13 => (intro w hSw; unfold oTrAdd214; (try dsimp only at hSw); (try go_split_ands); go_simp; all_goals with_reducible rfl)
        try simp only [oTrAdd214, Act.put, sA, sB, sC]
        refine tkY 14 oTrAdd215 ?vv6_21_14 rfl (by kernel_rfl) (by kernel_rfl) (by kernel_rfl) (fun _ _ _ h => h) (by rfl) ?hy6_21_14 (by assumption) ?rest6_21_14
        case hy6_21_14 => (intro w hSw; unfold oTrAdd215; (try dsimp only at hSw); have hq1 := (hSw.cell (World.block_lt_of_cell? _ _ HX1.out)).trans HX1.out; have hq2 := (hSw.cell (World.block_lt_of_cell? _ _ HX2.out)).trans HX2.out; clear hSw; go_simp; all_goals with_reducible rfl)
        try simp only [oTrAdd215, Act.put, sA, sB, sC]
        refine tkY 15 oTrAdd216 ?vv6_22_15 rfl (by kernel_rfl) (by kernel_rfl) (by kernel_rfl) (fun _ _ _ h => h) (by rfl) ?hy6_22_15 (by assumption) ?rest6_22_15
        case hy6_22_15 => (intro w hSw; unfold oTrAdd216; (try dsimp only at hSw); have hq0 := below_more hbr hSw; have hq1 := (hq0.cell (World.block_lt_of_cell? _ _ K1.out)).trans K1.out; have hq2 := (hq0.cell (World.block_lt_of_cell? _ _ K2.out)).trans K2.out; clear hSw hq0; go_simp; all_goals with_reducible rfl)
        try simp only [oTrAdd216, Act.put, sA, sB, sC]
        refine wpAnyH_ready (rs := [16]) (by kernel_rfl) (by simp) ?_
        refine AllReadyH.cons (o := oTrAdd217) rfl (fun K hK => ?_) AllReadyH.nil
        unfold oTrAdd217
        go_simp
        (go_at_call 56; refine (ahead_eq x (f, c0) _ _ HA.out).mono ?_; rintro e w7 ⟨rfl, hb6⟩)
        refine hK.out _ _ ?_ (fun hHeld => ?_)
        · (exact below_more hHeld hb6)
        clear hK K
        try simp only [oTrAdd217, Act.put, sA, sB, sC]
        refine tkY 17 oTrAdd218 ?vv6_23_17 rfl (by kernel_rfl) (by kernel_rfl) (by kernel_rfl) (fun _ _ _ h => h) (by rfl) ?hy6_23_17 (by assumption) ?rest6_23_17
        case hy6_23_17 => (intro w hSw; unfold oTrAdd218; (try dsimp only at hSw); (try go_split_ands); go_simp; all_goals with_reducible rfl)
        try simp only [oTrAdd218, Act.put, sA, sB, sC]
        refine wpAnyH_done (by kernel_rfl) ?_ _
        have hb9 := below_more hbr hHeld
        clear hHeld
        go_wp2_with fail
        go_roundw
        case rel => exact ⟨k + 1, by go_num, by omega, hb9, HN⟩
        case measure => simp [intOf]; omega
      | false =>
        have HA := Lib.hid hA
        have HM : Hid (L.take k ++ [(f, c0)] ++ L.drop k = M) := by
          show _ = _
          rw [← HMM.out, add_new L (f, c0) k ht.out (fun y hy => by rw [hx] at hy; cases hy; exact hA)]
        clear hx hA
        refine wp_region_held_drew (S := (fun w' => Below wr.heap.size wr w')) (by kernel_rfl) ((Below.refl _ _).drew) (fun hHeld => ?_)
        refine tkY 0 oTrAdd21 ?vv7_24_0 rfl (by kernel_rfl) (by kernel_rfl) (by kernel_rfl) (fun _ _ _ h => h) (by rfl) ?hy7_24_0 (by assumption) ?rest7_24_0
        case hy7_24_0 => (intro w hSw; unfold oTrAdd21; (try dsimp only at hSw); (try go_split_ands); go_simp; all_goals with_reducible rfl)
        try simp only [oTrAdd21, Act.put, sA, sB, sC]
        refine tkY 1 oTrAdd22 ?vv7_24_1 rfl (by kernel_rfl) (by kernel_rfl) (by kernel_rfl) (fun _ _ _ h => h) (by rfl) ?hy7_24_1 (by assumption) ?rest7_24_1
        case hy7_24_1 => (intro w hSw; unfold oTrAdd22; (try dsimp only at hSw); (try go_split_ands); go_simp; all_goals with_reducible rfl)
        try simp only [oTrAdd22, Act.put, sA, sB, sC]
        refine tkY 2 oTrAdd23 ?vv7_24_2 rfl (by kernel_rfl) (by kernel_rfl) (by kernel_rfl) (fun _ _ _ h => h) (by rfl) ?hy7_24_2 (by assumption) ?rest7_24_2
        case hy7_24_2 => (intro w hSw; unfold oTrAdd23; (try dsimp only at hSw); (try go_split_ands); go_simp; all_goals with_reducible rfl)
        try simp only [oTrAdd23, Act.put, sA, sB, sC]
        refine tkY 3 oTrAdd24 ?vv7_24_3 rfl (by kernel_rfl) (by kernel_rfl) (by kernel_rfl) (fun _ _ _ h => h) (by rfl) ?hy7_24_3 (by assumption) ?rest7_24_3
        case hy7_24_3 => (intro w hSw; unfold oTrAdd24; (try dsimp only at hSw); (try go_split_ands); go_simp; all_goals with_reducible rfl)
        try simp only [oTrAdd24, Act.put, sA, sB, sC]
        refine tkY 4 oTrAdd25 ?vv7_25_4 rfl (by kernel_rfl) (by kernel_rfl) (by kernel_rfl) (fun _ _ _ h => h) (by rfl) ?hy7_25_4 (by assumption) ?rest7_25_4
        case hy7_25_4 => (intro w hSw; unfold oTrAdd25; (try dsimp only at hSw); have hq := (HT2.out.below (below_more hbr hSw)).cell; clear hSw; go_simp; all_goals with_reducible rfl)
        try simp only [oTrAdd25, Act.put, sA, sB, sC]
        refine tkY 5 oTrAdd26 ?vv7_26_5 rfl (by kernel_rfl) (by kernel_rfl) (by kernel_rfl) (fun _ _ _ h => h) (by rfl) ?hy7_26_5 (by assumption) ?rest7_26_5
        case hy7_26_5 => (intro w hSw; unfold oTrAdd26; (try dsimp only at hSw); (try go_split_ands); go_simp; all_goals with_reducible rfl)
        try simp only [oTrAdd26, Act.put, sA, sB, sC]
        refine tkY 6 oTrAdd27 ?vv7_26_6 rfl (by kernel_rfl) (by kernel_rfl) (by kernel_rfl) (fun _ _ _ h => h) (by rfl) ?hy7_26_6 (by assumption) ?rest7_26_6
        case hy7_26_6 => (intro w hSw; unfold oTrAdd27; (try dsimp only at hSw); (try go_split_ands); go_simp; all_goals with_reducible rfl)
        try simp only [oTrAdd27, Act.put, sA, sB, sC]
        refine tkY 7 oTrAdd28 ?vv7_26_7 rfl (by kernel_rfl) (by kernel_rfl) (by kernel_rfl) (fun _ _ _ h => h) (by rfl) ?hy7_26_7 (by assumption) ?rest7_26_7
        case hy7_26_7 => (intro w hSw; unfold oTrAdd28; (try dsimp only at hSw); (try go_split_ands); go_simp; all_goals with_reducible rfl)
        try simp only [oTrAdd28, Act.put, sA, sB, sC]
        refine tkY 8 oTrAdd29 ?vv7_26_8 rfl (by kernel_rfl) (by kernel_rfl) (by kernel_rfl) (fun _ _ _ h => h) (by rfl) ?hy7_26_8 (by assumption) ?rest7_26_8
        case hy7_26_8 => (intro w hSw; unfold oTrAdd29; (try dsimp only at hSw); (try go_split_ands); go_simp; all_goals with_reducible rfl)
        try simp only [oTrAdd29, Act.put, sA, sB, sC]
        refine tkY 9 oTrAdd210 ?vv7_26_9 rfl (by kernel_rfl) (by kernel_rfl) (by kernel_rfl) (fun _ _ _ h => h) (by rfl) ?hy7_26_9 (by assumption) ?rest7_26_9
        case hy7_26_9 => (intro w hSw; unfold oTrAdd210; (try dsimp only at hSw); (try go_split_ands); go_simp; all_goals with_reducible rfl)
        try simp only [oTrAdd210, Act.put, sA, sB, sC]
        refine tkY 10 oTrAdd211 ?vv7_26_10 rfl (by kernel_rfl) (by kernel_rfl) (by kernel_rfl) (fun _ _ _ h => h) (by rfl) ?hy7_26_10 (by assumption) ?rest7_26_10
        case hy7_26_10 => (intro w hSw; unfold oTrAdd211; (try dsimp only at hSw); (try go_split_ands); go_simp; all_goals with_reducible rfl)
        try simp only [oTrAdd211, Act.put, sA, sB, sC]
        refine tkY 11 oTrAdd212 ?vv7_27_11 rfl (by kernel_rfl) (by kernel_rfl) (by kernel_rfl) (fun _ _ _ h => h) (by rfl) ?hy7_27_11 (by assumption) ?rest7_27_11
        case hy7_27_11 => (intro w hSw; unfold oTrAdd212; (try dsimp only at hSw); have hq := (HT2.out.below (below_more hbr hSw)).cell; clear hSw; go_simp; all_goals with_reducible rfl)
        try simp only [oTrAdd212, Act.put, sA, sB, sC]
        refine tkY 12 oTrAdd213 ?vv7_28_12 rfl (by kernel_rfl) (by kernel_rfl) (by kernel_rfl) (fun _ _ _ h => h) (by rfl) ?hy7_28_12 (by assumption) ?rest7_28_12
        case hy7_28_12 => (intro w hSw; unfold oTrAdd213; (try dsimp only at hSw); (try go_split_ands); go_simp; all_goals with_reducible rfl)
        try simp only [oTrAdd213, Act.put, sA, sB, sC]
        refine tkY 13 oTrAdd214 ?vv7_28_13 rfl (by kernel_rfl) (by kernel_rfl) (by kernel_rfl) (fun _ _ _ h => h) (by rfl) ?hy7_28_13 (by assumption) ?rest7_28_13
        case hy7_28_13 => (intro w hSw; unfold oTrAdd214; (try dsimp only at hSw); (try go_split_ands); go_simp; all_goals with_reducible rfl)
        try simp only [oTrAdd214, Act.put, sA, sB, sC]
        refine tkY 14 oTrAdd215 ?vv7_29_14 rfl (by kernel_rfl) (by kernel_rfl) (by kernel_rfl) (fun _ _ _ h => h) (by rfl) ?hy7_29_14 (by assumption) ?rest7_29_14
        case hy7_29_14 => (intro w hSw; unfold oTrAdd215; (try dsimp only at hSw); have hq1 := (hSw.cell (World.block_lt_of_cell? _ _ HX1.out)).trans HX1.out; have hq2 := (hSw.cell (World.block_lt_of_cell? _ _ HX2.out)).trans HX2.out; clear hSw; go_simp; all_goals with_reducible rfl)
        try simp only [oTrAdd215, Act.put, sA, sB, sC]
        refine tkY 15 oTrAdd216 ?vv7_30_15 rfl (by kernel_rfl) (by kernel_rfl) (by kernel_rfl) (fun _ _ _ h => h) (by rfl) ?hy7_30_15 (by assumption) ?rest7_30_15
        case hy7_30_15 => (intro w hSw; unfold oTrAdd216; (try dsimp only at hSw); have hq0 := below_more hbr hSw; have hq1 := (hq0.cell (World.block_lt_of_cell? _ _ K1.out)).trans K1.out; have hq2 := (hq0.cell (World.block_lt_of_cell? _ _ K2.out)).trans K2.out; clear hSw hq0; go_simp; all_goals with_reducible rfl)
        try simp only [oTrAdd216, Act.put, sA, sB, sC]
        refine wpAnyH_ready (rs := [16]) (by kernel_rfl) (by simp) ?_
        refine AllReadyH.cons (o := oTrAdd217) rfl (fun K hK => ?_) AllReadyH.nil
        unfold oTrAdd217
        go_simp
        (go_at_call 56; refine (ahead_eq x (f, c0) _ _ HA.out).mono ?_; rintro e w7 ⟨rfl, hb6⟩)
        refine hK.out _ _ ?_ (fun hHeld => ?_)
        · (exact below_more hHeld hb6)
        clear hK K
        try simp only [oTrAdd217, Act.put, sA, sB, sC]
        refine tkY 17 oTrAdd218 ?vv7_31_17 rfl (by kernel_rfl) (by kernel_rfl) (by kernel_rfl) (fun _ _ _ h => h) (by rfl) ?hy7_31_17 (by assumption) ?rest7_31_17
        case hy7_31_17 => (intro w hSw; unfold oTrAdd218; (try dsimp only at hSw); (try go_split_ands); go_simp; all_goals with_reducible rfl)
        try simp only [oTrAdd218, Act.put, sA, sB, sC]
        refine wpAnyH_done (by kernel_rfl) ?_ _
        have hb9 := below_more hbr hHeld
        clear hHeld hbr
        have hbw := below_more hb hb9
        have HTw := Lib.hid (HT.out.below hbw)
        have J1 : Hid (w7.cell? ⟨w.heap.size, 0, none⟩ = some (.string ⟨f.toArray⟩)) := (hb9.cell (World.block_lt_of_cell? _ _ K1.out)).trans K1.out
        have J2 : Hid (w7.cell? ⟨w.heap.size, 1, none⟩ = some (.string ⟨c0.toArray⟩)) := (hb9.cell (World.block_lt_of_cell? _ _ K2.out)).trans K2.out
        have q1 : k ≤ c := Nat.le_trans hk HTw.out.cap
        have q2 : k ≤ n := hk
        have q3 : ¬ c = k := by have hcap := HTw.out.cap; omega
        have hlk : (L.take k).length = k := by rw [List.length_take]; have := HL.out; omega
        have hlk6 : (L.take k ++ [(f, c0)]).length = k + 1 := by rw [List.length_append, hlk]; rfl
        clear hb HT HT2 K1 K2 HX1 HX2 hb9 hb6
        go_wp2_with fail
        have hHeld : Below w7.heap.size w7 w7.drew := (Below.refl _ _).drew
        refine region_last (S := (fun w' => Below w7.heap.size w7 w')) (m := 21) (by kernel_rfl) ?_
        have hLast : LastL .any _ 21 := last_chain (ops := #[oTrAdd219, oTrAdd220, oTrAdd221, oTrAdd222, oTrAdd223, oTrAdd224, oTrAdd225, oTrAdd226, oTrAdd227, oTrAdd228, oTrAdd229, oTrAdd230, oTrAdd231, oTrAdd232, oTrAdd233, oTrAdd234, oTrAdd235, oTrAdd236, oTrAdd237, oTrAdd238, oTrAdd239, oTrAdd240]) [(20, 21), (19, 20), (0, 19), (1, 19), (2, 19), (3, 19), (4, 19), (5, 19), (6, 19), (7, 19), (8, 19), (9, 19), (10, 19), (11, 19), (12, 19), (13, 19), (14, 19), (15, 19), (16, 19), (17, 19), (18, 19)] (by kernel_rfl)
        refine tkM hLast 0 oTrAdd219 ?vv8_32_0 rfl (by kernel_rfl) (by kernel_rfl) (by kernel_rfl) (by rfl) (fun _ _ _ h => h) (by rfl) ?hy8_32_0 (by assumption) ?rest8_32_0
        case hy8_32_0 => (intro w hSw; unfold oTrAdd219; (try dsimp only at hSw); (try go_split_ands); go_simp; all_goals with_reducible rfl)
        try simp only [oTrAdd219, Act.put, sA, sB, sC]
        refine tkM hLast 2 oTrAdd221 ?vv8_32_2 rfl (by kernel_rfl) (by kernel_rfl) (by kernel_rfl) (by rfl) (fun _ _ _ h => h) (by rfl) ?hy8_32_2 (by assumption) ?rest8_32_2
        case hy8_32_2 => (intro w hSw; unfold oTrAdd221; (try dsimp only at hSw); (try go_split_ands); go_simp; all_goals with_reducible rfl)
        try simp only [oTrAdd221, Act.put, sA, sB, sC]
        refine tkM hLast 3 oTrAdd222 ?vv8_32_3 rfl (by kernel_rfl) (by kernel_rfl) (by kernel_rfl) (by rfl) (fun _ _ _ h => h) (by rfl) ?hy8_32_3 (by assumption) ?rest8_32_3
        case hy8_32_3 => (intro w hSw; unfold oTrAdd222; (try dsimp only at hSw); (try go_split_ands); go_simp; all_goals with_reducible rfl)
        try simp only [oTrAdd222, Act.put, sA, sB, sC]
        refine tkM hLast 4 oTrAdd223 ?vv8_32_4 rfl (by kernel_rfl) (by kernel_rfl) (by kernel_rfl) (by rfl) (fun _ _ _ h => h) (by rfl) ?hy8_32_4 (by assumption) ?rest8_32_4
        case hy8_32_4 => (intro w hSw; unfold oTrAdd223; (try dsimp only at hSw); (try go_split_ands); go_simp; all_goals with_reducible rfl)
        try simp only [oTrAdd223, Act.put, sA, sB, sC]
        refine tkM hLast 5 oTrAdd224 ?vv8_33_5 rfl (by kernel_rfl) (by kernel_rfl) (by kernel_rfl) (by rfl) (fun _ _ _ h => h) (by rfl) ?hy8_33_5 (by assumption) ?rest8_33_5
        case hy8_33_5 => (intro w hSw; unfold oTrAdd224; (try dsimp only at hSw); have hq := (HTw.out.below hSw).cell; clear hSw; go_simp; all_goals with_reducible rfl)
        try simp only [oTrAdd224, Act.put, sA, sB, sC]
        refine tkM hLast 6 oTrAdd225 ?vv8_34_6 rfl (by kernel_rfl) (by kernel_rfl) (by kernel_rfl) (by rfl) (fun _ _ _ h => h) (by rfl) ?hy8_34_6 (by assumption) ?rest8_34_6
        case hy8_34_6 => (intro w hSw; unfold oTrAdd225; (try dsimp only at hSw); (try go_split_ands); go_simp; all_goals with_reducible rfl)
        try simp only [oTrAdd225, Act.put, sA, sB, sC]
        refine tkM hLast 7 oTrAdd226 ?vv8_34_7 rfl (by kernel_rfl) (by kernel_rfl) (by kernel_rfl) (by rfl) (fun _ _ _ h => h) (by rfl) ?hy8_34_7 (by assumption) ?rest8_34_7
        case hy8_34_7 => (intro w hSw; unfold oTrAdd226; (try dsimp only at hSw); (try go_split_ands); go_simp; all_goals with_reducible rfl)
        try simp only [oTrAdd226, Act.put, sA, sB, sC]
        refine tkM hLast 9 oTrAdd228 ?vv8_35_9 rfl (by kernel_rfl) (by kernel_rfl) (by kernel_rfl) (by rfl) (fun _ _ _ h => h) (by rfl) ?hy8_35_9 (by assumption) ?rest8_35_9
        case hy8_35_9 => (intro w hSw; unfold oTrAdd228; (try dsimp only at hSw); have hq1 := (hSw.cell (World.block_lt_of_cell? _ _ J1.out)).trans J1.out; have hq2 := (hSw.cell (World.block_lt_of_cell? _ _ J2.out)).trans J2.out; clear hSw; go_simp; all_goals with_reducible rfl)
        try simp only [oTrAdd228, Act.put, sA, sB, sC]
        refine tkM hLast 12 oTrAdd231 ?vv8_36_12 rfl (by kernel_rfl) (by kernel_rfl) (by kernel_rfl) (by rfl) (fun _ _ _ h => h) (by rfl) ?hy8_36_12 (by assumption) ?rest8_36_12
        case hy8_36_12 => (intro w hSw; unfold oTrAdd231; (try dsimp only at hSw); (try go_split_ands); go_simp; all_goals with_reducible rfl)
        try simp only [oTrAdd231, Act.put, sA, sB, sC]
        refine tkM hLast 13 oTrAdd232 ?vv8_36_13 rfl (by kernel_rfl) (by kernel_rfl) (by kernel_rfl) (by rfl) (fun _ _ _ h => h) (by rfl) ?hy8_36_13 (by assumption) ?rest8_36_13
        case hy8_36_13 => (intro w hSw; unfold oTrAdd232; (try dsimp only at hSw); (try go_split_ands); go_simp; all_goals with_reducible rfl)
        try simp only [oTrAdd232, Act.put, sA, sB, sC]
        refine tkM hLast 14 oTrAdd233 ?vv8_36_14 rfl (by kernel_rfl) (by kernel_rfl) (by kernel_rfl) (by rfl) (fun _ _ _ h => h) (by rfl) ?hy8_36_14 (by assumption) ?rest8_36_14
        case hy8_36_14 => (intro w hSw; unfold oTrAdd233; (try dsimp only at hSw); (try go_split_ands); go_simp; all_goals with_reducible rfl)
        try simp only [oTrAdd233, Act.put, sA, sB, sC]
        refine tkM hLast 15 oTrAdd234 ?vv8_37_15 rfl (by kernel_rfl) (by kernel_rfl) (by kernel_rfl) (by rfl) (fun _ _ _ h => h) (by rfl) ?hy8_37_15 (by assumption) ?rest8_37_15
        case hy8_37_15 => (intro w hSw; unfold oTrAdd234; (try dsimp only at hSw); have hq := (HTw.out.below hSw).cell; clear hSw; go_simp; all_goals with_reducible rfl)
        try simp only [oTrAdd234, Act.put, sA, sB, sC]
        refine tkM hLast 16 oTrAdd235 ?vv8_38_16 rfl (by kernel_rfl) (by kernel_rfl) (by kernel_rfl) (by rfl) (fun _ _ _ h => h) (by rfl) ?hy8_38_16 (by assumption) ?rest8_38_16
        case hy8_38_16 => (intro w hSw; unfold oTrAdd235; (try dsimp only at hSw); (try go_split_ands); go_simp; all_goals with_reducible rfl)
        try simp only [oTrAdd235, Act.put, sA, sB, sC]
        refine tkM hLast 17 oTrAdd236 ?vv8_38_17 rfl (by kernel_rfl) (by kernel_rfl) (by kernel_rfl) (by rfl) (fun _ _ _ h => h) (by rfl) ?hy8_38_17 (by assumption) ?rest8_38_17
        case hy8_38_17 => (intro w hSw; unfold oTrAdd236; (try dsimp only at hSw); (try go_split_ands); go_simp; all_goals with_reducible rfl)
        try simp only [oTrAdd236, Act.put, sA, sB, sC]
        obtain ⟨dN, hdN⟩ : ∃ d, n - k = d := ⟨_, rfl⟩
        obtain ⟨dC, hdC⟩ : ∃ d, c - k = d := ⟨_, rfl⟩
        obtain ⟨wd, hwd⟩ : ∃ wd, wd = w7.drew := ⟨_, rfl⟩
        rw [← hwd, hdN, hdC]
        rw [← hwd] at hHeld
        have hbm := hHeld
        have hbw2 := below_more hbw hbm
        have HTm := Lib.hid (HTw.out.below hbm)
        have hgl : g < wd.heap.size := HTm.out.lt
        have HTK := Lib.hid (HTm.out.2.1.take k q2)
        have HD := Lib.hid (HTm.out.2.1.dropAt k dN q2 hdN.symm)
        rw [Nat.zero_add] at HD
        have hA1 : Hid ((some ⟨bA, 0, none⟩ : Option Addr) = none → c = 0) := fun e => by cases e
        have hA2 : Hid ((some ⟨bA, k * 2, none⟩ : Option Addr) = none → dC = 0) := fun e => by cases e
        have hdn : dN ≤ 1000000 := by omega
        clear hwd hdN hdC HTw J1 J2 hbw
        refine anyM_ready (rs := [1, 10]) (by kernel_rfl) (by simp) ?_
        refine (AllM.cons (o := oTrAdd220) rfl (fun K hK => ?_) (AllM.cons (o := oTrAdd229) rfl (fun K hK => ?_) AllM.nil))
        · skip
          unfold oTrAdd220
          go_simp
          refine anyM_go hK (by exact below_alloc hHeld _) (fun hHeld => ?_)
          clear hK K
          try simp only [oTrAdd220, Act.put, sA, sB, sC]
          have hO := OwnH.lit0 (Below.refl wd.heap.size wd) (Nat.le_refl _)
          refine anyM_ready (rs := [8, 10]) (by kernel_rfl) (by simp) ?_
          refine (AllM.cons (o := oTrAdd227) rfl (fun K hK => ?_) (AllM.cons (o := oTrAdd229) rfl (fun K hK => ?_) AllM.nil))
          · skip
            (refine step_happ rfl _ _ rfl rfl hO _ k c (L.take k) rfl (HTK.out.below hO.below) hA1.out (by simp; omega) ?_; intro v9 w9 hO9 hgr9; rw [List.nil_append] at hO9)
            refine anyM_go hK (by exact below_more2 hbm hO9.below) (fun hHeld => ?_)
            clear hK K
            try simp only [oTrAdd227, Act.put, sA, sB, sC]
            clear hO hgr9
            refine anyM_ready (rs := [10]) (by kernel_rfl) (by simp) ?_
            refine (AllM.cons (o := oTrAdd229) rfl (fun K hK => ?_) AllM.nil)
            unfold oTrAdd229
            go_simp
            refine anyM_go hK (by exact below_alloc hHeld _) (fun hHeld => ?_)
            clear hK K
            try simp only [oTrAdd229, Act.put, sA, sB, sC]
            have hN : Hnts (w9.alloc (.cells #[.string ⟨f.toArray⟩, .string ⟨c0.toArray⟩] 40)) (some ⟨w9.heap.size, 0, none⟩) 1 [(f, c0)] := hnts_new w9 (f, c0)
            have hO8 := hO9.alloc (.cells #[.string ⟨f.toArray⟩, .string ⟨c0.toArray⟩] 40)
            clear hO9
            refine anyM_ready (rs := [11]) (by kernel_rfl) (by simp) ?_
            refine (AllM.cons (o := oTrAdd230) rfl (fun K hK => ?_) AllM.nil)
            (refine step_happ rfl _ _ rfl rfl hO8 _ 1 1 [(f, c0)] rfl hN (fun e => by cases e) (by omega) ?_; intro v6 w6 hO6 hgr6)
            refine anyM_go hK (by exact below_more2 hbm hO6.below) (fun hHeld => ?_)
            clear hK K
            try simp only [oTrAdd230, Act.put, sA, sB, sC]
            clear hN hO8 hgr6
            refine anyM_ready (rs := [18]) (by kernel_rfl) (by simp) ?_
            refine (AllM.cons (o := oTrAdd237) rfl (fun K hK => ?_) AllM.nil)
            (refine step_happ rfl _ _ rfl rfl hO6 _ dN dC (L.drop k) rfl (HD.out.below hO6.below) hA2.out (by rw [hlk6]; omega) ?_; intro v5 w5 hO5 hgr5)
            refine anyM_go hK (by exact below_more2 hbm hO5.below) (fun hHeld => ?_)
            clear hK K
            try simp only [oTrAdd237, Act.put, sA, sB, sC]
            rw [HM.out] at hO5
            clear hO6 hgr5
            obtain ⟨A5, n5, c5, rfl, hH5, hA5, hn5, hg5⟩ := hO5.told2
            have hT5 := HTm.out.below hO5.below
            have hc5 := hT5.cell
            have hz5 := hT5.froz
            have hR5 := hT5.set hH5 hA5 hn5 (fun b e => by have := hg5 b e; omega)
            have hU5 := (Outs.of_below (F := (· = g)) (below_more hbw2 hO5.below)).setCell g 0 rfl (.slice A5 n5 c5)
            have HR5 := Lib.hid hR5
            have HU5 := Lib.hid hU5
            have HG5 : Hid (∀ b, A5 = some ⟨b, 0, none⟩ → w.heap.size ≤ b) := fun b e => Nat.le_trans hbw2.size (hg5 b e)
            clear hT5 hR5 hU5 hH5 hA5 hg5
            refine tkM hLast 19 oTrAdd238 ?vv8_39_19 rfl (by kernel_rfl) (by kernel_rfl) (by kernel_rfl) (by rfl) (fun _ _ _ h => h) (by rfl) ?hy8_39_19 (by assumption) ?rest8_39_19
            case hy8_39_19 => (intro w hSw; unfold oTrAdd238; (try dsimp only at hSw); (try go_split_ands); go_simp; all_goals with_reducible rfl)
            try simp only [oTrAdd238, Act.put, sA, sB, sC]
            refine tkM hLast 20 oTrAdd239 ?vv8_39_20 rfl (by kernel_rfl) (by kernel_rfl) (by kernel_rfl) (by rfl) (fun _ _ _ h => h) (by rfl) ?hy8_39_20 (by assumption) ?rest8_39_20
            case hy8_39_20 => (intro w hSw; unfold oTrAdd239; (try dsimp only at hSw); (try go_split_ands); go_simp; all_goals with_reducible rfl)
            try simp only [oTrAdd239, Act.put, sA, sB, sC]
            refine anyM_ready (rs := [21]) (by kernel_rfl) (by simp) ?_
            refine (AllM.cons (o := oTrAdd240) rfl (fun K hK => ?_) AllM.nil)
            unfold oTrAdd240
            go_simp
            refine hK.out _ _ (fun hne => absurd rfl hne) ?_
            clear hK K
            try simp only [oTrAdd240, Act.put, sA, sB, sC]
            refine anyM_done (by kernel_rfl) ?_ _
            go_wp2_with fail
            go_ret
            exact ⟨_, _, _, rfl, HR5.out, HU5.out, Or.inr HG5.out⟩
          · skip
            unfold oTrAdd229
            go_simp
            refine anyM_go hK (by exact below_alloc hHeld _) (fun hHeld => ?_)
            clear hK K
            try simp only [oTrAdd229, Act.put, sA, sB, sC]
            have hN := hnts_new (wd.alloc (.cells #[] 40)) (f, c0)
            have hO9 := hO.alloc (.cells #[.string ⟨f.toArray⟩, .string ⟨c0.toArray⟩] 40)
            rw [World.size_alloc] at hN
            refine anyM_ready (rs := [8]) (by kernel_rfl) (by simp) ?_
            refine (AllM.cons (o := oTrAdd227) rfl (fun K hK => ?_) AllM.nil)
            (refine step_happ rfl _ _ rfl rfl hO9 _ k c (L.take k) rfl (HTK.out.below hO9.below) hA1.out (by simp; omega) ?_; intro v8 w8 hO8 hgr8; rw [List.nil_append] at hO8)
            refine anyM_go hK (by exact below_more2 hbm hO8.below) (fun hHeld => ?_)
            clear hK K
            try simp only [oTrAdd227, Act.put, sA, sB, sC]
            replace hN := hN.grown hgr8 (fun b o e => by cases e; exact fun e2 => by have e3 : wd.heap.size + 1 = wd.heap.size := Option.some.inj e2; omega)
            clear hO hO9 hgr8
            refine anyM_ready (rs := [11]) (by kernel_rfl) (by simp) ?_
            refine (AllM.cons (o := oTrAdd230) rfl (fun K hK => ?_) AllM.nil)
            (refine step_happ rfl _ _ rfl rfl hO8 _ 1 1 [(f, c0)] rfl hN (fun e => by cases e) (by omega) ?_; intro v6 w6 hO6 hgr6)
            refine anyM_go hK (by exact below_more2 hbm hO6.below) (fun hHeld => ?_)
            clear hK K
            try simp only [oTrAdd230, Act.put, sA, sB, sC]
            clear hN hO8 hgr6
            refine anyM_ready (rs := [18]) (by kernel_rfl) (by simp) ?_
            refine (AllM.cons (o := oTrAdd237) rfl (fun K hK => ?_) AllM.nil)
            (refine step_happ rfl _ _ rfl rfl hO6 _ dN dC (L.drop k) rfl (HD.out.below hO6.below) hA2.out (by rw [hlk6]; omega) ?_; intro v5 w5 hO5 hgr5)
            refine anyM_go hK (by exact below_more2 hbm hO5.below) (fun hHeld => ?_)
            clear hK K
            try simp only [oTrAdd237, Act.put, sA, sB, sC]
            rw [HM.out] at hO5
            clear hO6 hgr5
            obtain ⟨A5, n5, c5, rfl, hH5, hA5, hn5, hg5⟩ := hO5.told2
            have hT5 := HTm.out.below hO5.below
            have hc5 := hT5.cell
            have hz5 := hT5.froz
            have hR5 := hT5.set hH5 hA5 hn5 (fun b e => by have := hg5 b e; omega)
            have hU5 := (Outs.of_below (F := (· = g)) (below_more hbw2 hO5.below)).setCell g 0 rfl (.slice A5 n5 c5)
            have HR5 := Lib.hid hR5
            have HU5 := Lib.hid hU5
            have HG5 : Hid (∀ b, A5 = some ⟨b, 0, none⟩ → w.heap.size ≤ b) := fun b e => Nat.le_trans hbw2.size (hg5 b e)
            clear hT5 hR5 hU5 hH5 hA5 hg5
            refine tkM hLast 19 oTrAdd238 ?vv8_40_19 rfl (by kernel_rfl) (by kernel_rfl) (by kernel_rfl) (by rfl) (fun _ _ _ h => h) (by rfl) ?hy8_40_19 (by assumption) ?rest8_40_19
            case hy8_40_19 => (intro w hSw; unfold oTrAdd238; (try dsimp only at hSw); (try go_split_ands); go_simp; all_goals with_reducible rfl)
            try simp only [oTrAdd238, Act.put, sA, sB, sC]
            refine tkM hLast 20 oTrAdd239 ?vv8_40_20 rfl (by kernel_rfl) (by kernel_rfl) (by kernel_rfl) (by rfl) (fun _ _ _ h => h) (by rfl) ?hy8_40_20 (by assumption) ?rest8_40_20
            case hy8_40_20 => (intro w hSw; unfold oTrAdd239; (try dsimp only at hSw); (try go_split_ands); go_simp; all_goals with_reducible rfl)
            try simp only [oTrAdd239, Act.put, sA, sB, sC]
            refine anyM_ready (rs := [21]) (by kernel_rfl) (by simp) ?_
            refine (AllM.cons (o := oTrAdd240) rfl (fun K hK => ?_) AllM.nil)
            unfold oTrAdd240
            go_simp
            refine hK.out _ _ (fun hne => absurd rfl hne) ?_
            clear hK K
            try simp only [oTrAdd240, Act.put, sA, sB, sC]
            refine anyM_done (by kernel_rfl) ?_ _
            go_wp2_with fail
            go_ret
            exact ⟨_, _, _, rfl, HR5.out, HU5.out, Or.inr HG5.out⟩
        · skip
          unfold oTrAdd229
          go_simp
          refine anyM_go hK (by exact below_alloc hHeld _) (fun hHeld => ?_)
          clear hK K
          try simp only [oTrAdd229, Act.put, sA, sB, sC]
          have hN := hnts_new wd (f, c0)
          refine anyM_ready (rs := [1]) (by kernel_rfl) (by simp) ?_
          refine (AllM.cons (o := oTrAdd220) rfl (fun K hK => ?_) AllM.nil)
          unfold oTrAdd220
          go_simp
          refine anyM_go hK (by exact below_alloc hHeld _) (fun hHeld => ?_)
          clear hK K
          try simp only [oTrAdd220, Act.put, sA, sB, sC]
          have hO := OwnH.lit0 (below_alloc (Below.refl wd.heap.size wd) (.cells #[.string ⟨f.toArray⟩, .string ⟨c0.toArray⟩] 40)) (by simp)
          rw [World.size_alloc] at hO
          replace hN := hN.below ((Below.refl _ _).alloc (Nat.le_refl _) (.cells #[] 40))
          refine anyM_ready (rs := [8]) (by kernel_rfl) (by simp) ?_
          refine (AllM.cons (o := oTrAdd227) rfl (fun K hK => ?_) AllM.nil)
          (refine step_happ rfl _ _ rfl rfl hO _ k c (L.take k) rfl (HTK.out.below hO.below) hA1.out (by simp; omega) ?_; intro v8 w8 hO8 hgr8; rw [List.nil_append] at hO8)
          refine anyM_go hK (by exact below_more2 hbm hO8.below) (fun hHeld => ?_)
          clear hK K
          try simp only [oTrAdd227, Act.put, sA, sB, sC]
          replace hN := hN.grown hgr8 (fun b o e => by cases e; exact fun e2 => by have e3 : wd.heap.size = wd.heap.size + 1 := Option.some.inj e2; omega)
          clear hO hgr8
          refine anyM_ready (rs := [11]) (by kernel_rfl) (by simp) ?_
          refine (AllM.cons (o := oTrAdd230) rfl (fun K hK => ?_) AllM.nil)
          (refine step_happ rfl _ _ rfl rfl hO8 _ 1 1 [(f, c0)] rfl hN (fun e => by cases e) (by omega) ?_; intro v6 w6 hO6 hgr6)
          refine anyM_go hK (by exact below_more2 hbm hO6.below) (fun hHeld => ?_)
          clear hK K
          try simp only [oTrAdd230, Act.put, sA, sB, sC]
          clear hN hO8 hgr6
          refine anyM_ready (rs := [18]) (by kernel_rfl) (by simp) ?_
          refine (AllM.cons (o := oTrAdd237) rfl (fun K hK => ?_) AllM.nil)
          (refine step_happ rfl _ _ rfl rfl hO6 _ dN dC (L.drop k) rfl (HD.out.below hO6.below) hA2.out (by rw [hlk6]; omega) ?_; intro v5 w5 hO5 hgr5)
          refine anyM_go hK (by exact below_more2 hbm hO5.below) (fun hHeld => ?_)
          clear hK K
          try simp only [oTrAdd237, Act.put, sA, sB, sC]
          rw [HM.out] at hO5
          clear hO6 hgr5
          obtain ⟨A5, n5, c5, rfl, hH5, hA5, hn5, hg5⟩ := hO5.told2
          have hT5 := HTm.out.below hO5.below
          have hc5 := hT5.cell
          have hz5 := hT5.froz
          have hR5 := hT5.set hH5 hA5 hn5 (fun b e => by have := hg5 b e; omega)
          have hU5 := (Outs.of_below (F := (· = g)) (below_more hbw2 hO5.below)).setCell g 0 rfl (.slice A5 n5 c5)
          have HR5 := Lib.hid hR5
          have HU5 := Lib.hid hU5
          have HG5 : Hid (∀ b, A5 = some ⟨b, 0, none⟩ → w.heap.size ≤ b) := fun b e => Nat.le_trans hbw2.size (hg5 b e)
          clear hT5 hR5 hU5 hH5 hA5 hg5
          refine tkM hLast 19 oTrAdd238 ?vv8_41_19 rfl (by kernel_rfl) (by kernel_rfl) (by kernel_rfl) (by rfl) (fun _ _ _ h => h) (by rfl) ?hy8_41_19 (by assumption) ?rest8_41_19
          case hy8_41_19 => (intro w hSw; unfold oTrAdd238; (try dsimp only at hSw); (try go_split_ands); go_simp; all_goals with_reducible rfl)
          try simp only [oTrAdd238, Act.put, sA, sB, sC]
          refine tkM hLast 20 oTrAdd239 ?vv8_41_20 rfl (by kernel_rfl) (by kernel_rfl) (by kernel_rfl) (by rfl) (fun _ _ _ h => h) (by rfl) ?hy8_41_20 (by assumption) ?rest8_41_20
          case hy8_41_20 => (intro w hSw; unfold oTrAdd239; (try dsimp only at hSw); (try go_split_ands); go_simp; all_goals with_reducible rfl)
          try simp only [oTrAdd239, Act.put, sA, sB, sC]
          refine anyM_ready (rs := [21]) (by kernel_rfl) (by simp) ?_
          refine (AllM.cons (o := oTrAdd240) rfl (fun K hK => ?_) AllM.nil)
          unfold oTrAdd240
          go_simp
          refine hK.out _ _ (fun hne => absurd rfl hne) ?_
          clear hK K
          try simp only [oTrAdd240, Act.put, sA, sB, sC]
          refine anyM_done (by kernel_rfl) ?_ _
          go_wp2_with fail
          go_ret
          exact ⟨_, _, _, rfl, HR5.out, HU5.out, Or.inr HG5.out⟩
    · obtain rfl : k = n := by omega
      have HM : Hid (L.take k ++ [(f, c0)] ++ L.drop k = M) := by
        show _ = _
        rw [← HMM.out, add_new L (f, c0) k ht.out (fun y hy => by rw [List.getElem?_eq_none (by have := HL.out; omega)] at hy; cases hy)]
      have q0 : ¬ (k : Int) < (k : Int) := by omega
      have hld : L.drop k = [] := List.drop_eq_nil_of_le (by have := HL.out; omega)
      go_wp2_with fail
      refine wp_region_held_drew (S := (fun w' => Below wr.heap.size wr w')) (by kernel_rfl) ((Below.refl _ _).drew) (fun hHeld => ?_)
      refine tkY 0 oTrAdd21 ?vv9_42_0 rfl (by kernel_rfl) (by kernel_rfl) (by kernel_rfl) (fun _ _ _ h => h) (by rfl) ?hy9_42_0 (by assumption) ?rest9_42_0
      case hy9_42_0 => (intro w hSw; unfold oTrAdd21; (try dsimp only at hSw); (try go_split_ands); go_simp; all_goals with_reducible rfl)
      try simp only [oTrAdd21, Act.put, sA, sB, sC]
      refine tkY 1 oTrAdd22 ?vv9_42_1 rfl (by kernel_rfl) (by kernel_rfl) (by kernel_rfl) (fun _ _ _ h => h) (by rfl) ?hy9_42_1 (by assumption) ?rest9_42_1
      case hy9_42_1 => (intro w hSw; unfold oTrAdd22; (try dsimp only at hSw); (try go_split_ands); go_simp; all_goals with_reducible rfl)
      try simp only [oTrAdd22, Act.put, sA, sB, sC]
      refine tkY 2 oTrAdd23 ?vv9_42_2 rfl (by kernel_rfl) (by kernel_rfl) (by kernel_rfl) (fun _ _ _ h => h) (by rfl) ?hy9_42_2 (by assumption) ?rest9_42_2
      case hy9_42_2 => (intro w hSw; unfold oTrAdd23; (try dsimp only at hSw); (try go_split_ands); go_simp; all_goals with_reducible rfl)
      try simp only [oTrAdd23, Act.put, sA, sB, sC]
      refine tkY 3 oTrAdd24 ?vv9_42_3 rfl (by kernel_rfl) (by kernel_rfl) (by kernel_rfl) (fun _ _ _ h => h) (by rfl) ?hy9_42_3 (by assumption) ?rest9_42_3
      case hy9_42_3 => (intro w hSw; unfold oTrAdd24; (try dsimp only at hSw); (try go_split_ands); go_simp; all_goals with_reducible rfl)
      try simp only [oTrAdd24, Act.put, sA, sB, sC]
      refine tkY 4 oTrAdd25 ?vv9_43_4 rfl (by kernel_rfl) (by kernel_rfl) (by kernel_rfl) (fun _ _ _ h => h) (by rfl) ?hy9_43_4 (by assumption) ?rest9_43_4
      case hy9_43_4 => (intro w hSw; unfold oTrAdd25; (try dsimp only at hSw); have hq := (HT2.out.below (below_more hbr hSw)).cell; clear hSw; go_simp; all_goals with_reducible rfl)
      try simp only [oTrAdd25, Act.put, sA, sB, sC]
      refine tkY 5 oTrAdd26 ?vv9_44_5 rfl (by kernel_rfl) (by kernel_rfl) (by kernel_rfl) (fun _ _ _ h => h) (by rfl) ?hy9_44_5 (by assumption) ?rest9_44_5
      case hy9_44_5 => (intro w hSw; unfold oTrAdd26; (try dsimp only at hSw); (try go_split_ands); go_simp; all_goals with_reducible rfl)
      try simp only [oTrAdd26, Act.put, sA, sB, sC]
      refine tkY 6 oTrAdd27 ?vv9_44_6 rfl (by kernel_rfl) (by kernel_rfl) (by kernel_rfl) (fun _ _ _ h => h) (by rfl) ?hy9_44_6 (by assumption) ?rest9_44_6
      case hy9_44_6 => (intro w hSw; unfold oTrAdd27; (try dsimp only at hSw); (try go_split_ands); go_simp; all_goals with_reducible rfl)
      try simp only [oTrAdd27, Act.put, sA, sB, sC]
      refine tkY 7 oTrAdd28 ?vv9_44_7 rfl (by kernel_rfl) (by kernel_rfl) (by kernel_rfl) (fun _ _ _ h => h) (by rfl) ?hy9_44_7 (by assumption) ?rest9_44_7
      case hy9_44_7 => (intro w hSw; unfold oTrAdd28; (try dsimp only at hSw); (try go_split_ands); go_simp; all_goals with_reducible rfl)
      try simp only [oTrAdd28, Act.put, sA, sB, sC]
      refine wpAnyH_take (i := 8) (oi := oTrAdd29) (v := undef) rfl (by kernel_rfl) (by kernel_rfl) (by kernel_rfl) (fun _ _ _ h => h) (Or.inr ⟨by rfl, rfl⟩) (by assumption) ?rest9_45_8
      try simp only [oTrAdd29, Act.put, sA, sB, sC]
      refine wpAnyH_take (i := 9) (oi := oTrAdd210) (v := undef) rfl (by kernel_rfl) (by kernel_rfl) (by kernel_rfl) (fun _ _ _ h => h) (Or.inr ⟨by rfl, rfl⟩) (by assumption) ?rest9_45_9
      try simp only [oTrAdd210, Act.put, sA, sB, sC]
      refine wpAnyH_take (i := 10) (oi := oTrAdd211) (v := undef) rfl (by kernel_rfl) (by kernel_rfl) (by kernel_rfl) (fun _ _ _ h => h) (Or.inr ⟨by rfl, rfl⟩) (by assumption) ?rest9_45_10
      try simp only [oTrAdd211, Act.put, sA, sB, sC]
      refine wpAnyH_take (i := 11) (oi := oTrAdd212) (v := undef) rfl (by kernel_rfl) (by kernel_rfl) (by kernel_rfl) (fun _ _ _ h => h) (Or.inr ⟨by rfl, rfl⟩) (by assumption) ?rest9_45_11
      try simp only [oTrAdd212, Act.put, sA, sB, sC]
      refine wpAnyH_take (i := 12) (oi := oTrAdd213) (v := undef) rfl (by kernel_rfl) (by kernel_rfl) (by kernel_rfl) (fun _ _ _ h => h) (Or.inr ⟨by rfl, rfl⟩) (by assumption) ?rest9_45_12
      try simp only [oTrAdd213, Act.put, sA, sB, sC]
      refine wpAnyH_take (i := 13) (oi := oTrAdd214) (v := undef) rfl (by kernel_rfl) (by kernel_rfl) (by kernel_rfl) (fun _ _ _ h => h) (Or.inr ⟨by rfl, rfl⟩) (by assumption) ?rest9_45_13
      try simp only [oTrAdd214, Act.put, sA, sB, sC]
      refine wpAnyH_take (i := 14) (oi := oTrAdd215) (v := undef) rfl (by kernel_rfl) (by kernel_rfl) (by kernel_rfl) (fun _ _ _ h => h) (Or.inr ⟨by rfl, rfl⟩) (by assumption) ?rest9_45_14
      try simp only [oTrAdd215, Act.put, sA, sB, sC]
      refine wpAnyH_take (i := 15) (oi := oTrAdd216) (v := undef) rfl (by kernel_rfl) (by kernel_rfl) (by kernel_rfl) (fun _ _ _ h => h) (Or.inr ⟨by rfl, rfl⟩) (by assumption) ?rest9_45_15
      try simp only [oTrAdd216, Act.put, sA, sB, sC]
      refine wpAnyH_take (i := 16) (oi := oTrAdd217) (v := undef) rfl (by kernel_rfl) (by kernel_rfl) (by kernel_rfl) (fun _ _ _ h => h) (Or.inr ⟨by rfl, rfl⟩) (by assumption) ?rest9_45_16
      try simp only [oTrAdd217, Act.put, sA, sB, sC]
      refine tkY 17 oTrAdd218 ?vv9_46_17 rfl (by kernel_rfl) (by kernel_rfl) (by kernel_rfl) (fun _ _ _ h => h) (by rfl) ?hy9_46_17 (by assumption) ?rest9_46_17
      case hy9_46_17 => (intro w hSw; unfold oTrAdd218; (try dsimp only at hSw); (try go_split_ands); go_simp; all_goals with_reducible rfl)
      try simp only [oTrAdd218, Act.put, sA, sB, sC]
      refine wpAnyH_done (by kernel_rfl) ?_ _
      have hb9 := below_more hbr hHeld
      clear hHeld hbr
      obtain ⟨w7, hw7⟩ : ∃ w7, w7 = wr.drew := ⟨_, rfl⟩
      rw [← hw7] at hb9 ⊢
      clear hw7
      have hbw := below_more hb hb9
      have HTw := Lib.hid (HT.out.below hbw)
      have J1 : Hid (w7.cell? ⟨w.heap.size, 0, none⟩ = some (.string ⟨f.toArray⟩)) := (hb9.cell (World.block_lt_of_cell? _ _ K1.out)).trans K1.out
      have J2 : Hid (w7.cell? ⟨w.heap.size, 1, none⟩ = some (.string ⟨c0.toArray⟩)) := (hb9.cell (World.block_lt_of_cell? _ _ K2.out)).trans K2.out
      have q1 : k ≤ c := HTw.out.cap
      have q2 : k ≤ k := Nat.le_refl _
      have hlk : (L.take k).length = k := by rw [List.length_take]; have := HL.out; omega
      have hlk6 : (L.take k ++ [(f, c0)]).length = k + 1 := by rw [List.length_append, hlk]; rfl
      clear hb HT HT2 K1 K2 hb9
      go_wp2_with fail
      have hHeld : Below w7.heap.size w7 w7.drew := (Below.refl _ _).drew
      refine region_last (S := (fun w' => Below w7.heap.size w7 w')) (m := 21) (by kernel_rfl) ?_
      have hLast : LastL .any _ 21 := last_chain (ops := #[oTrAdd219, oTrAdd220, oTrAdd221, oTrAdd222, oTrAdd223, oTrAdd224, oTrAdd225, oTrAdd226, oTrAdd227, oTrAdd228, oTrAdd229, oTrAdd230, oTrAdd231, oTrAdd232, oTrAdd233, oTrAdd234, oTrAdd235, oTrAdd236, oTrAdd237, oTrAdd238, oTrAdd239, oTrAdd240]) [(20, 21), (19, 20), (0, 19), (1, 19), (2, 19), (3, 19), (4, 19), (5, 19), (6, 19), (7, 19), (8, 19), (9, 19), (10, 19), (11, 19), (12, 19), (13, 19), (14, 19), (15, 19), (16, 19), (17, 19), (18, 19)] (by kernel_rfl)
      refine tkM hLast 0 oTrAdd219 ?vv10_47_0 rfl (by kernel_rfl) (by kernel_rfl) (by kernel_rfl) (by rfl) (fun _ _ _ h => h) (by rfl) ?hy10_47_0 (by assumption) ?rest10_47_0
      case hy10_47_0 => (intro w hSw; unfold oTrAdd219; (try dsimp only at hSw); (try go_split_ands); go_simp; all_goals with_reducible rfl)
      try simp only [oTrAdd219, Act.put, sA, sB, sC]
      refine tkM hLast 2 oTrAdd221 ?vv10_47_2 rfl (by kernel_rfl) (by kernel_rfl) (by kernel_rfl) (by rfl) (fun _ _ _ h => h) (by rfl) ?hy10_47_2 (by assumption) ?rest10_47_2
      case hy10_47_2 => (intro w hSw; unfold oTrAdd221; (try dsimp only at hSw); (try go_split_ands); go_simp; all_goals with_reducible rfl)
      try simp only [oTrAdd221, Act.put, sA, sB, sC]
      refine tkM hLast 3 oTrAdd222 ?vv10_47_3 rfl (by kernel_rfl) (by kernel_rfl) (by kernel_rfl) (by rfl) (fun _ _ _ h => h) (by rfl) ?hy10_47_3 (by assumption) ?rest10_47_3
      case hy10_47_3 => (intro w hSw; unfold oTrAdd222; (try dsimp only at hSw); (try go_split_ands); go_simp; all_goals with_reducible rfl)
      try simp only [oTrAdd222, Act.put, sA, sB, sC]
      refine tkM hLast 4 oTrAdd223 ?vv10_47_4 rfl (by kernel_rfl) (by kernel_rfl) (by kernel_rfl) (by rfl) (fun _ _ _ h => h) (by rfl) ?hy10_47_4 (by assumption) ?rest10_47_4
      case hy10_47_4 => (intro w hSw; unfold oTrAdd223; (try dsimp only at hSw); (try go_split_ands); go_simp; all_goals with_reducible rfl)
      try simp only [oTrAdd223, Act.put, sA, sB, sC]
      refine tkM hLast 5 oTrAdd224 ?vv10_48_5 rfl (by kernel_rfl) (by kernel_rfl) (by kernel_rfl) (by rfl) (fun _ _ _ h => h) (by rfl) ?hy10_48_5 (by assumption) ?rest10_48_5
      case hy10_48_5 => (intro w hSw; unfold oTrAdd224; (try dsimp only at hSw); have hq := (HTw.out.below hSw).cell; clear hSw; go_simp; all_goals with_reducible rfl)
      try simp only [oTrAdd224, Act.put, sA, sB, sC]
      refine tkM hLast 6 oTrAdd225 ?vv10_49_6 rfl (by kernel_rfl) (by kernel_rfl) (by kernel_rfl) (by rfl) (fun _ _ _ h => h) (by rfl) ?hy10_49_6 (by assumption) ?rest10_49_6
      case hy10_49_6 => (intro w hSw; unfold oTrAdd225; (try dsimp only at hSw); (try go_split_ands); go_simp; all_goals with_reducible rfl)
      try simp only [oTrAdd225, Act.put, sA, sB, sC]
      refine tkM hLast 7 oTrAdd226 ?vv10_49_7 rfl (by kernel_rfl) (by kernel_rfl) (by kernel_rfl) (by rfl) (fun _ _ _ h => h) (by rfl) ?hy10_49_7 (by assumption) ?rest10_49_7
      case hy10_49_7 => (intro w hSw; unfold oTrAdd226; (try dsimp only at hSw); (try go_split_ands); go_simp; all_goals with_reducible rfl)
      try simp only [oTrAdd226, Act.put, sA, sB, sC]
      refine tkM hLast 9 oTrAdd228 ?vv10_50_9 rfl (by kernel_rfl) (by kernel_rfl) (by kernel_rfl) (by rfl) (fun _ _ _ h => h) (by rfl) ?hy10_50_9 (by assumption) ?rest10_50_9
      case hy10_50_9 => (intro w hSw; unfold oTrAdd228; (try dsimp only at hSw); have hq1 := (hSw.cell (World.block_lt_of_cell? _ _ J1.out)).trans J1.out; have hq2 := (hSw.cell (World.block_lt_of_cell? _ _ J2.out)).trans J2.out; clear hSw; go_simp; all_goals with_reducible rfl)
      try simp only [oTrAdd228, Act.put, sA, sB, sC]
      refine tkM hLast 12 oTrAdd231 ?vv10_51_12 rfl (by kernel_rfl) (by kernel_rfl) (by kernel_rfl) (by rfl) (fun _ _ _ h => h) (by rfl) ?hy10_51_12 (by assumption) ?rest10_51_12
      case hy10_51_12 => (intro w hSw; unfold oTrAdd231; (try dsimp only at hSw); (try go_split_ands); go_simp; all_goals with_reducible rfl)
      try simp only [oTrAdd231, Act.put, sA, sB, sC]
      refine tkM hLast 13 oTrAdd232 ?vv10_51_13 rfl (by kernel_rfl) (by kernel_rfl) (by kernel_rfl) (by rfl) (fun _ _ _ h => h) (by rfl) ?hy10_51_13 (by assumption) ?rest10_51_13
      case hy10_51_13 => (intro w hSw; unfold oTrAdd232; (try dsimp only at hSw); (try go_split_ands); go_simp; all_goals with_reducible rfl)
      try simp only [oTrAdd232, Act.put, sA, sB, sC]
      refine tkM hLast 14 oTrAdd233 ?vv10_51_14 rfl (by kernel_rfl) (by kernel_rfl) (by kernel_rfl) (by rfl) (fun _ _ _ h => h) (by rfl) ?hy10_51_14 (by assumption) ?rest10_51_14
      case hy10_51_14 => (intro w hSw; unfold oTrAdd233; (try dsimp only at hSw); (try go_split_ands); go_simp; all_goals with_reducible rfl)
      try simp only [oTrAdd233, Act.put, sA, sB, sC]
      refine tkM hLast 15 oTrAdd234 ?vv10_52_15 rfl (by kernel_rfl) (by kernel_rfl) (by kernel_rfl) (by rfl) (fun _ _ _ h => h) (by rfl) ?hy10_52_15 (by assumption) ?rest10_52_15
      case hy10_52_15 => (intro w hSw; unfold oTrAdd234; (try dsimp only at hSw); have hq := (HTw.out.below hSw).cell; clear hSw; go_simp; all_goals with_reducible rfl)
      try simp only [oTrAdd234, Act.put, sA, sB, sC]
      refine tkM hLast 16 oTrAdd235 ?vv10_53_16 rfl (by kernel_rfl) (by kernel_rfl) (by kernel_rfl) (by rfl) (fun _ _ _ h => h) (by rfl) ?hy10_53_16 (by assumption) ?rest10_53_16
      case hy10_53_16 => (intro w hSw; unfold oTrAdd235; (try dsimp only at hSw); (try go_split_ands); go_simp; all_goals with_reducible rfl)
      try simp only [oTrAdd235, Act.put, sA, sB, sC]
      refine tkM hLast 17 oTrAdd236 ?vv10_53_17 rfl (by kernel_rfl) (by kernel_rfl) (by kernel_rfl) (by rfl) (fun _ _ _ h => h) (by rfl) ?hy10_53_17 (by assumption) ?rest10_53_17
      case hy10_53_17 => (intro w hSw; unfold oTrAdd236; (try dsimp only at hSw); (try go_split_ands); go_simp; all_goals with_reducible rfl)
      try simp only [oTrAdd236, Act.put, sA, sB, sC]
      obtain ⟨dC, hdC⟩ : ∃ d, c - k = d := ⟨_, rfl⟩
      obtain ⟨A2, hA2'⟩ : ∃ A2, (if c = k then (some ⟨bA, 0, none⟩ : Option Addr) else some ⟨bA, k * 2, none⟩) = A2 := ⟨_, rfl⟩
      have hA2 : Hid (A2 = none → dC = 0) := fun e => by rw [← hA2'] at e; split at e <;> cases e
      obtain ⟨wd, hwd⟩ : ∃ wd, wd = w7.drew := ⟨_, rfl⟩
      rw [← hwd, hdC, hA2']
      rw [← hwd] at hHeld
      have hbm := hHeld
      have hbw2 := below_more hbw hbm
      have HTm := Lib.hid (HTw.out.below hbm)
      have hgl : g < wd.heap.size := HTm.out.lt
      have HTK := Lib.hid (HTm.out.2.1.take k q2)
      have HD : Hid (Hnts wd A2 0 (L.drop k)) := by rw [hld]; exact Hnts.nil A2
      have hA1 : Hid ((some ⟨bA, 0, none⟩ : Option Addr) = none → c = 0) := fun e => by cases e
      clear hwd hdC HTw J1 J2 hbw hA2' hld
      refine anyM_ready (rs := [1, 10]) (by kernel_rfl) (by simp) ?_
      refine (AllM.cons (o := oTrAdd220) rfl (fun K hK => ?_) (AllM.cons (o := oTrAdd229) rfl (fun K hK => ?_) AllM.nil))
      · skip
        unfold oTrAdd220
        go_simp
        refine anyM_go hK (by exact below_alloc hHeld _) (fun hHeld => ?_)
        clear hK K
        try simp only [oTrAdd220, Act.put, sA, sB, sC]
        have hO := OwnH.lit0 (Below.refl wd.heap.size wd) (Nat.le_refl _)
        refine anyM_ready (rs := [8, 10]) (by kernel_rfl) (by simp) ?_
        refine (AllM.cons (o := oTrAdd227) rfl (fun K hK => ?_) (AllM.cons (o := oTrAdd229) rfl (fun K hK => ?_) AllM.nil))
        · skip
          (refine step_happ rfl _ _ rfl rfl hO _ k c (L.take k) rfl (HTK.out.below hO.below) hA1.out (by simp; omega) ?_; intro v9 w9 hO9 hgr9; rw [List.nil_append] at hO9)
          refine anyM_go hK (by exact below_more2 hbm hO9.below) (fun hHeld => ?_)
          clear hK K
          try simp only [oTrAdd227, Act.put, sA, sB, sC]
          clear hO hgr9
          refine anyM_ready (rs := [10]) (by kernel_rfl) (by simp) ?_
          refine (AllM.cons (o := oTrAdd229) rfl (fun K hK => ?_) AllM.nil)
          unfold oTrAdd229
          go_simp
          refine anyM_go hK (by exact below_alloc hHeld _) (fun hHeld => ?_)
          clear hK K
          try simp only [oTrAdd229, Act.put, sA, sB, sC]
          have hN : Hnts (w9.alloc (.cells #[.string ⟨f.toArray⟩, .string ⟨c0.toArray⟩] 40)) (some ⟨w9.heap.size, 0, none⟩) 1 [(f, c0)] := hnts_new w9 (f, c0)
          have hO8 := hO9.alloc (.cells #[.string ⟨f.toArray⟩, .string ⟨c0.toArray⟩] 40)
          clear hO9
          refine anyM_ready (rs := [11]) (by kernel_rfl) (by simp) ?_
          refine (AllM.cons (o := oTrAdd230) rfl (fun K hK => ?_) AllM.nil)
          (refine step_happ rfl _ _ rfl rfl hO8 _ 1 1 [(f, c0)] rfl hN (fun e => by cases e) (by omega) ?_; intro v6 w6 hO6 hgr6)
          refine anyM_go hK (by exact below_more2 hbm hO6.below) (fun hHeld => ?_)
          clear hK K
          try simp only [oTrAdd230, Act.put, sA, sB, sC]
          clear hN hO8 hgr6
          refine anyM_ready (rs := [18]) (by kernel_rfl) (by simp) ?_
          refine (AllM.cons (o := oTrAdd237) rfl (fun K hK => ?_) AllM.nil)
          (refine step_happ rfl _ _ rfl rfl hO6 _ 0 dC (L.drop k) rfl (HD.out.below hO6.below) hA2.out (by rw [hlk6]; omega) ?_; intro v5 w5 hO5 hgr5)
          refine anyM_go hK (by exact below_more2 hbm hO5.below) (fun hHeld => ?_)
          clear hK K
          try simp only [oTrAdd237, Act.put, sA, sB, sC]
          rw [HM.out] at hO5
          clear hO6 hgr5
          obtain ⟨A5, n5, c5, rfl, hH5, hA5, hn5, hg5⟩ := hO5.told2
          have hT5 := HTm.out.below hO5.below
          have hc5 := hT5.cell
          have hz5 := hT5.froz
          have hR5 := hT5.set hH5 hA5 hn5 (fun b e => by have := hg5 b e; omega)
          have hU5 := (Outs.of_below (F := (· = g)) (below_more hbw2 hO5.below)).setCell g 0 rfl (.slice A5 n5 c5)
          have HR5 := Lib.hid hR5
          have HU5 := Lib.hid hU5
          have HG5 : Hid (∀ b, A5 = some ⟨b, 0, none⟩ → w.heap.size ≤ b) := fun b e => Nat.le_trans hbw2.size (hg5 b e)
          clear hT5 hR5 hU5 hH5 hA5 hg5
          refine tkM hLast 19 oTrAdd238 ?vv10_54_19 rfl (by kernel_rfl) (by kernel_rfl) (by kernel_rfl) (by rfl) (fun _ _ _ h => h) (by rfl) ?hy10_54_19 (by assumption) ?rest10_54_19
          case hy10_54_19 => (intro w hSw; unfold oTrAdd238; (try dsimp only at hSw); (try go_split_ands); go_simp; all_goals with_reducible rfl)
          try simp only [oTrAdd238, Act.put, sA, sB, sC]
          refine tkM hLast 20 oTrAdd239 ?vv10_54_20 rfl (by kernel_rfl) (by kernel_rfl) (by kernel_rfl) (by rfl) (fun _ _ _ h => h) (by rfl) ?hy10_54_20 (by assumption) ?rest10_54_20
          case hy10_54_20 => (intro w hSw; unfold oTrAdd239; (try dsimp only at hSw); (try go_split_ands); go_simp; all_goals with_reducible rfl)
          try simp only [oTrAdd239, Act.put, sA, sB, sC]
          refine anyM_ready (rs := [21]) (by kernel_rfl) (by simp) ?_
          refine (AllM.cons (o := oTrAdd240) rfl (fun K hK => ?_) AllM.nil)
          unfold oTrAdd240
          go_simp
          refine hK.out _ _ (fun hne => absurd rfl hne) ?_
          clear hK K
          try simp only [oTrAdd240, Act.put, sA, sB, sC]
          refine anyM_done (by kernel_rfl) ?_ _
          go_wp2_with fail
          go_ret
          exact ⟨_, _, _, rfl, HR5.out, HU5.out, Or.inr HG5.out⟩
        · skip
          unfold oTrAdd229
          go_simp
          refine anyM_go hK (by exact below_alloc hHeld _) (fun hHeld => ?_)
          clear hK K
          try simp only [oTrAdd229, Act.put, sA, sB, sC]
          have hN := hnts_new (wd.alloc (.cells #[] 40)) (f, c0)
          have hO9 := hO.alloc (.cells #[.string ⟨f.toArray⟩, .string ⟨c0.toArray⟩] 40)
          rw [World.size_alloc] at hN
          refine anyM_ready (rs := [8]) (by kernel_rfl) (by simp) ?_
          refine (AllM.cons (o := oTrAdd227) rfl (fun K hK => ?_) AllM.nil)
          (refine step_happ rfl _ _ rfl rfl hO9 _ k c (L.take k) rfl (HTK.out.below hO9.below) hA1.out (by simp; omega) ?_; intro v8 w8 hO8 hgr8; rw [List.nil_append] at hO8)
          refine anyM_go hK (by exact below_more2 hbm hO8.below) (fun hHeld => ?_)
          clear hK K
          try simp only [oTrAdd227, Act.put, sA, sB, sC]
          replace hN := hN.grown hgr8 (fun b o e => by cases e; exact fun e2 => by have e3 : wd.heap.size + 1 = wd.heap.size := Option.some.inj e2; omega)
          clear hO hO9 hgr8
          refine anyM_ready (rs := [11]) (by kernel_rfl) (by simp) ?_
          refine (AllM.cons (o := oTrAdd230) rfl (fun K hK => ?_) AllM.nil)
          (refine step_happ rfl _ _ rfl rfl hO8 _ 1 1 [(f, c0)] rfl hN (fun e => by cases e) (by omega) ?_; intro v6 w6 hO6 hgr6)
          refine anyM_go hK (by exact below_more2 hbm hO6.below) (fun hHeld => ?_)
          clear hK K
          try simp only [oTrAdd230, Act.put, sA, sB, sC]
          clear hN hO8 hgr6
          refine anyM_ready (rs := [18]) (by kernel_rfl) (by simp) ?_
          refine (AllM.cons (o := oTrAdd237) rfl (fun K hK => ?_) AllM.nil)
          (refine step_happ rfl _ _ rfl rfl hO6 _ 0 dC (L.drop k) rfl (HD.out.below hO6.below) hA2.out (by rw [hlk6]; omega) ?_; intro v5 w5 hO5 hgr5)
          refine anyM_go hK (by exact below_more2 hbm hO5.below) (fun hHeld => ?_)
          clear hK K
          try simp only [oTrAdd237, Act.put, sA, sB, sC]
          rw [HM.out] at hO5
          clear hO6 hgr5
          obtain ⟨A5, n5, c5, rfl, hH5, hA5, hn5, hg5⟩ := hO5.told2
          have hT5 := HTm.out.below hO5.below
          have hc5 := hT5.cell
          have hz5 := hT5.froz
          have hR5 := hT5.set hH5 hA5 hn5 (fun b e => by have := hg5 b e; omega)
          have hU5 := (Outs.of_below (F := (· = g)) (below_more hbw2 hO5.below)).setCell g 0 rfl (.slice A5 n5 c5)
          have HR5 := Lib.hid hR5
          have HU5 := Lib.hid hU5
          have HG5 : Hid (∀ b, A5 = some ⟨b, 0, none⟩ → w.heap.size ≤ b) := fun b e => Nat.le_trans hbw2.size (hg5 b e)
          clear hT5 hR5 hU5 hH5 hA5 hg5
          refine tkM hLast 19 oTrAdd238 ?vv10_55_19 rfl (by kernel_rfl) (by kernel_rfl) (by kernel_rfl) (by rfl) (fun _ _ _ h => h) (by rfl) ?hy10_55_19 (by assumption) ?rest10_55_19
          case hy10_55_19 => (intro w hSw; unfold oTrAdd238; (try dsimp only at hSw); (try go_split_ands); go_simp; all_goals with_reducible rfl)
          try simp only [oTrAdd238, Act.put, sA, sB, sC]
          refine tkM hLast 20 oTrAdd239 ?vv10_55_20 rfl (by kernel_rfl) (by kernel_rfl) (by kernel_rfl) (by rfl) (fun _ _ _ h => h) (by rfl) ?hy10_55_20 (by assumption) ?rest10_55_20
          case hy10_55_20 => (intro w hSw; unfold oTrAdd239; (try dsimp only at hSw); (try go_split_ands); go_simp; all_goals with_reducible rfl)
          try simp only [oTrAdd239, Act.put, sA, sB, sC]
          refine anyM_ready (rs := [21]) (by kernel_rfl) (by simp) ?_
          refine (AllM.cons (o := oTrAdd240) rfl (fun K hK => ?_) AllM.nil)
          unfold oTrAdd240
          go_simp
          refine hK.out _ _ (fun hne => absurd rfl hne) ?_
          clear hK K
          try simp only [oTrAdd240, Act.put, sA, sB, sC]
          refine anyM_done (by kernel_rfl) ?_ _
          go_wp2_with fail
          go_ret
          exact ⟨_, _, _, rfl, HR5.out, HU5.out, Or.inr HG5.out⟩
      · skip
        unfold oTrAdd229
        go_simp
        refine anyM_go hK (by exact below_alloc hHeld _) (fun hHeld => ?_)
        clear hK K
        try simp only [oTrAdd229, Act.put, sA, sB, sC]
        have hN := hnts_new wd (f, c0)
        refine anyM_ready (rs := [1]) (by kernel_rfl) (by simp) ?_
        refine (AllM.cons (o := oTrAdd220) rfl (fun K hK => ?_) AllM.nil)
        unfold oTrAdd220
        go_simp
        refine anyM_go hK (by exact below_alloc hHeld _) (fun hHeld => ?_)
        clear hK K
        try simp only [oTrAdd220, Act.put, sA, sB, sC]
        have hO := OwnH.lit0 (below_alloc (Below.refl wd.heap.size wd) (.cells #[.string ⟨f.toArray⟩, .string ⟨c0.toArray⟩] 40)) (by simp)
        rw [World.size_alloc] at hO
        replace hN := hN.below ((Below.refl _ _).alloc (Nat.le_refl _) (.cells #[] 40))
        refine anyM_ready (rs := [8]) (by kernel_rfl) (by simp) ?_
        refine (AllM.cons (o := oTrAdd227) rfl (fun K hK => ?_) AllM.nil)
        (refine step_happ rfl _ _ rfl rfl hO _ k c (L.take k) rfl (HTK.out.below hO.below) hA1.out (by simp; omega) ?_; intro v8 w8 hO8 hgr8; rw [List.nil_append] at hO8)
        refine anyM_go hK (by exact below_more2 hbm hO8.below) (fun hHeld => ?_)
        clear hK K
        try simp only [oTrAdd227, Act.put, sA, sB, sC]
        replace hN := hN.grown hgr8 (fun b o e => by cases e; exact fun e2 => by have e3 : wd.heap.size = wd.heap.size + 1 := Option.some.inj e2; omega)
        clear hO hgr8
        refine anyM_ready (rs := [11]) (by kernel_rfl) (by simp) ?_
        refine (AllM.cons (o := oTrAdd230) rfl (fun K hK => ?_) AllM.nil)
        (refine step_happ rfl _ _ rfl rfl hO8 _ 1 1 [(f, c0)] rfl hN (fun e => by cases e) (by omega) ?_; intro v6 w6 hO6 hgr6)
        refine anyM_go hK (by exact below_more2 hbm hO6.below) (fun hHeld => ?_)
        clear hK K
        try simp only [oTrAdd230, Act.put, sA, sB, sC]
        clear hN hO8 hgr6
        refine anyM_ready (rs := [18]) (by kernel_rfl) (by simp) ?_
        refine (AllM.cons (o := oTrAdd237) rfl (fun K hK => ?_) AllM.nil)
        (refine step_happ rfl _ _ rfl rfl hO6 _ 0 dC (L.drop k) rfl (HD.out.below hO6.below) hA2.out (by rw [hlk6]; omega) ?_; intro v5 w5 hO5 hgr5)
        refine anyM_go hK (by exact below_more2 hbm hO5.below) (fun hHeld => ?_)
        clear hK K
        try simp only [oTrAdd237, Act.put, sA, sB, sC]
        rw [HM.out] at hO5
        clear hO6 hgr5
        obtain ⟨A5, n5, c5, rfl, hH5, hA5, hn5, hg5⟩ := hO5.told2
        have hT5 := HTm.out.below hO5.below
        have hc5 := hT5.cell
        have hz5 := hT5.froz
        have hR5 := hT5.set hH5 hA5 hn5 (fun b e => by have := hg5 b e; omega)
        have hU5 := (Outs.of_below (F := (· = g)) (below_more hbw2 hO5.below)).setCell g 0 rfl (.slice A5 n5 c5)
        have HR5 := Lib.hid hR5
        have HU5 := Lib.hid hU5
        have HG5 : Hid (∀ b, A5 = some ⟨b, 0, none⟩ → w.heap.size ≤ b) := fun b e => Nat.le_trans hbw2.size (hg5 b e)
        clear hT5 hR5 hU5 hH5 hA5 hg5
        refine tkM hLast 19 oTrAdd238 ?vv10_56_19 rfl (by kernel_rfl) (by kernel_rfl) (by kernel_rfl) (by rfl) (fun _ _ _ h => h) (by rfl) ?hy10_56_19 (by assumption) ?rest10_56_19
        case hy10_56_19 => (intro w hSw; unfold oTrAdd238; (try dsimp only at hSw); (try go_split_ands); go_simp; all_goals with_reducible rfl)
        try simp only [oTrAdd238, Act.put, sA, sB, sC]
        refine tkM hLast 20 oTrAdd239 ?vv10_56_20 rfl (by kernel_rfl) (by kernel_rfl) (by kernel_rfl) (by rfl) (fun _ _ _ h => h) (by rfl) ?hy10_56_20 (by assumption) ?rest10_56_20
        case hy10_56_20 => (intro w hSw; unfold oTrAdd239; (try dsimp only at hSw); (try go_split_ands); go_simp; all_goals with_reducible rfl)
        try simp only [oTrAdd239, Act.put, sA, sB, sC]
        refine anyM_ready (rs := [21]) (by kernel_rfl) (by simp) ?_
        refine (AllM.cons (o := oTrAdd240) rfl (fun K hK => ?_) AllM.nil)
        unfold oTrAdd240
        go_simp
        refine hK.out _ _ (fun hne => absurd rfl hne) ?_
        clear hK K
        try simp only [oTrAdd240, Act.put, sA, sB, sC]
        refine anyM_done (by kernel_rfl) ?_ _
        go_wp2_with fail
        go_ret
        exact ⟨_, _, _, rfl, HR5.out, HU5.out, Or.inr HG5.out⟩
end
end Go.Proofs.YtipdmfnkkkdlbaaGreatDoor
