/-
  trie's statements: an act, on the program's trie and on the document's.
-/
import Derived.Test.YtipdmfnkkkdlbaaGreatDoorTrPT
set_option linter.unusedSimpArgs false
set_option linter.unusedVariables false
namespace Go.Proofs.YtipdmfnkkkdlbaaGreatDoor
section
open Go.RowKit
def oTrDoes1 : Oper := ({ dst := some 11, op := Go.Op.move (Go.Operand.tmp 0), type := 25, pos := "law.go:60", after := #[], guard := none } : Oper)
def oTrDoes2 : Oper := ({ dst := some 12, op := Go.Op.fieldAddr 33 (Go.Operand.tmp 5) 1, type := 0, pos := "law.go:60", after := #[], guard := none } : Oper)
def oTrDoes3 : Oper := ({ dst := some 13, op := Go.Op.load 9 (Go.Operand.tmp 12), type := 9, pos := "law.go:60", after := #[{ on := 1, ground := Go.Ground.data }], guard := none } : Oper)
def oTrDoes4 : Oper := ({ dst := some 14, op := Go.Op.fieldAddr 33 (Go.Operand.tmp 5) 2, type := 0, pos := "law.go:60", after := #[], guard := none } : Oper)
def oTrDoes5 : Oper := ({ dst := some 15, op := Go.Op.load 9 (Go.Operand.tmp 14), type := 9, pos := "law.go:60", after := #[{ on := 3, ground := Go.Ground.data }], guard := none } : Oper)
def oTrDoes6 : Oper := ({ dst := some 17, op := Go.Op.move (Go.Operand.tmp 1), type := 27, pos := "law.go:60", after := #[], guard := none } : Oper)
def oTrDoes7 : Oper := ({ dst := some 18, op := Go.Op.fieldAddr 33 (Go.Operand.tmp 5) 1, type := 0, pos := "law.go:60", after := #[], guard := none } : Oper)
def oTrDoes8 : Oper := ({ dst := some 19, op := Go.Op.load 9 (Go.Operand.tmp 18), type := 9, pos := "law.go:60", after := #[{ on := 7, ground := Go.Ground.data }], guard := none } : Oper)
def oTrDoes9 : Oper := ({ dst := some 20, op := Go.Op.fieldAddr 33 (Go.Operand.tmp 5) 2, type := 0, pos := "law.go:60", after := #[], guard := none } : Oper)
def oTrDoes10 : Oper := ({ dst := some 21, op := Go.Op.load 9 (Go.Operand.tmp 20), type := 9, pos := "law.go:60", after := #[{ on := 9, ground := Go.Ground.data }], guard := none } : Oper)
def oTrDoes11 : Oper := ({ dst := some 16, op := Go.Op.call { callee := Go.Callee.value (Go.Operand.func 20), args := #[Go.Operand.tmp 11, Go.Operand.tmp 13, Go.Operand.tmp 15], argTypes := #[25, 9, 9] }, type := 4, pos := "law.go:60", after := #[{ on := 0, ground := Go.Ground.data }, { on := 2, ground := Go.Ground.data }, { on := 4, ground := Go.Ground.data }], guard := none } : Oper)
def oTrDoes12 : Oper := ({ dst := some 22, op := Go.Op.call { callee := Go.Callee.value (Go.Operand.func 28), args := #[Go.Operand.tmp 17, Go.Operand.tmp 19, Go.Operand.tmp 21], argTypes := #[27, 9, 9] }, type := 4, pos := "law.go:60", after := #[{ on := 6, ground := Go.Ground.data }, { on := 8, ground := Go.Ground.data }, { on := 10, ground := Go.Ground.data }, { on := 5, ground := Go.Ground.chain }], guard := none } : Oper)
def oTrDoes13 : Oper := ({ dst := some 23, op := Go.Op.binOp Go.BinOp.neq 4 (Go.Operand.tmp 16) (Go.Operand.tmp 22) 4, type := 4, pos := "law.go:60", after := #[{ on := 5, ground := Go.Ground.data }, { on := 11, ground := Go.Ground.data }], guard := none } : Oper)
def oTrDoes14 : Oper := ({ dst := some 39, op := Go.Op.move (Go.Operand.tmp 0), type := 25, pos := "law.go:68", after := #[], guard := none } : Oper)
def oTrDoes15 : Oper := ({ dst := some 40, op := Go.Op.fieldAddr 33 (Go.Operand.tmp 5) 3, type := 0, pos := "law.go:68", after := #[], guard := none } : Oper)
def oTrDoes16 : Oper := ({ dst := some 41, op := Go.Op.load 9 (Go.Operand.tmp 40), type := 9, pos := "law.go:68", after := #[{ on := 1, ground := Go.Ground.data }], guard := none } : Oper)
def oTrDoes17 : Oper := ({ dst := some 43, op := Go.Op.move (Go.Operand.tmp 1), type := 27, pos := "law.go:68", after := #[], guard := none } : Oper)
def oTrDoes18 : Oper := ({ dst := some 44, op := Go.Op.fieldAddr 33 (Go.Operand.tmp 5) 3, type := 0, pos := "law.go:68", after := #[], guard := none } : Oper)
def oTrDoes19 : Oper := ({ dst := some 45, op := Go.Op.load 9 (Go.Operand.tmp 44), type := 9, pos := "law.go:68", after := #[{ on := 5, ground := Go.Ground.data }], guard := none } : Oper)
def oTrDoes20 : Oper := ({ dst := some 42, op := Go.Op.call { callee := Go.Callee.value (Go.Operand.func 19), args := #[Go.Operand.tmp 39, Go.Operand.tmp 41], argTypes := #[25, 9] }, type := 36, pos := "law.go:68", after := #[{ on := 0, ground := Go.Ground.data }, { on := 2, ground := Go.Ground.data }], guard := none } : Oper)
def oTrDoes21 : Oper := ({ dst := some 46, op := Go.Op.call { callee := Go.Callee.value (Go.Operand.func 30), args := #[Go.Operand.tmp 43, Go.Operand.tmp 45], argTypes := #[27, 9] }, type := 36, pos := "law.go:68", after := #[{ on := 4, ground := Go.Ground.data }, { on := 6, ground := Go.Ground.data }, { on := 3, ground := Go.Ground.chain }], guard := none } : Oper)
def oTrDoes22 : Oper := ({ dst := some 47, op := Go.Op.call { callee := Go.Callee.value (Go.Operand.func 16), args := #[Go.Operand.tmp 42, Go.Operand.tmp 46], argTypes := #[36, 36] }, type := 4, pos := "law.go:68", after := #[{ on := 3, ground := Go.Ground.data }, { on := 7, ground := Go.Ground.data }, { on := 7, ground := Go.Ground.chain }], guard := none } : Oper)
def oTrDoes23 : Oper := ({ dst := some 48, op := Go.Op.move (Go.Operand.tmp 47), type := 4, pos := "law.go:68", after := #[{ on := 8, ground := Go.Ground.data }, { on := 8, ground := Go.Ground.chain }], guard := none } : Oper)
def oTrDoes24 : Oper := ({ dst := some 49, op := Go.Op.move (Go.Operand.tmp 0), type := 25, pos := "law.go:68", after := #[{ on := 9, ground := Go.Ground.guard }], guard := some (9, true) } : Oper)
def oTrDoes25 : Oper := ({ dst := some 51, op := Go.Op.move (Go.Operand.tmp 1), type := 27, pos := "law.go:68", after := #[{ on := 9, ground := Go.Ground.guard }], guard := some (9, true) } : Oper)
def oTrDoes26 : Oper := ({ dst := some 52, op := Go.Op.nilCheck (Go.Operand.tmp 51), type := 0, pos := "law.go:68", after := #[{ on := 12, ground := Go.Ground.data }, { on := 9, ground := Go.Ground.guard }], guard := some (9, true) } : Oper)
def oTrDoes27 : Oper := ({ dst := some 53, op := Go.Op.fieldAddr 30 (Go.Operand.tmp 52) 0, type := 0, pos := "law.go:68", after := #[{ on := 13, ground := Go.Ground.data }, { on := 9, ground := Go.Ground.guard }], guard := some (9, true) } : Oper)
def oTrDoes28 : Oper := ({ dst := some 54, op := Go.Op.load 28 (Go.Operand.tmp 53), type := 28, pos := "law.go:68", after := #[{ on := 14, ground := Go.Ground.data }, { on := 9, ground := Go.Ground.guard }], guard := some (9, true) } : Oper)
def oTrDoes29 : Oper := ({ dst := some 55, op := Go.Op.call { callee := Go.Callee.builtin Go.Builtin.len, args := #[Go.Operand.tmp 54], argTypes := #[28] }, type := 3, pos := "law.go:68", after := #[{ on := 15, ground := Go.Ground.data }, { on := 9, ground := Go.Ground.guard }], guard := some (9, true) } : Oper)
def oTrDoes30 : Oper := ({ dst := some 50, op := Go.Op.call { callee := Go.Callee.value (Go.Operand.func 23), args := #[Go.Operand.tmp 49], argTypes := #[25] }, type := 3, pos := "law.go:68", after := #[{ on := 10, ground := Go.Ground.data }, { on := 9, ground := Go.Ground.chain }, { on := 9, ground := Go.Ground.guard }], guard := some (9, true) } : Oper)
def oTrDoes31 : Oper := ({ dst := some 56, op := Go.Op.binOp Go.BinOp.eql 3 (Go.Operand.tmp 50) (Go.Operand.tmp 55) 3, type := 4, pos := "law.go:68", after := #[{ on := 11, ground := Go.Ground.data }, { on := 16, ground := Go.Ground.data }, { on := 9, ground := Go.Ground.guard }], guard := some (9, true) } : Oper)
def oTrDoes32 : Oper := ({ dst := some 57, op := Go.Op.pick (Go.Operand.tmp 48) (Go.Operand.tmp 56) (Go.Operand.const (Go.Value.bool false)), type := 4, pos := "law.go:68", after := #[{ on := 9, ground := Go.Ground.data }, { on := 17, ground := Go.Ground.data }], guard := none } : Oper)
def oTrDoes33 : Oper := ({ dst := some 58, op := Go.Op.move (Go.Operand.tmp 57), type := 4, pos := "law.go:68", after := #[{ on := 18, ground := Go.Ground.data }, { on := 11, ground := Go.Ground.chain }], guard := none } : Oper)
def oTrDoes34 : Oper := ({ dst := some 59, op := Go.Op.move (Go.Operand.tmp 0), type := 25, pos := "law.go:68", after := #[{ on := 19, ground := Go.Ground.guard }], guard := some (19, true) } : Oper)
def oTrDoes35 : Oper := ({ dst := some 61, op := Go.Op.move (Go.Operand.tmp 1), type := 27, pos := "law.go:68", after := #[{ on := 19, ground := Go.Ground.guard }], guard := some (19, true) } : Oper)
def oTrDoes36 : Oper := ({ dst := some 60, op := Go.Op.call { callee := Go.Callee.value (Go.Operand.func 22), args := #[Go.Operand.tmp 59], argTypes := #[25] }, type := 3, pos := "law.go:68", after := #[{ on := 20, ground := Go.Ground.data }, { on := 19, ground := Go.Ground.chain }, { on := 19, ground := Go.Ground.guard }], guard := some (19, true) } : Oper)
def oTrDoes37 : Oper := ({ dst := some 62, op := Go.Op.call { callee := Go.Callee.value (Go.Operand.func 31), args := #[Go.Operand.tmp 61], argTypes := #[27] }, type := 3, pos := "law.go:68", after := #[{ on := 22, ground := Go.Ground.data }, { on := 21, ground := Go.Ground.chain }, { on := 19, ground := Go.Ground.guard }], guard := some (19, true) } : Oper)
def oTrDoes38 : Oper := ({ dst := some 63, op := Go.Op.binOp Go.BinOp.eql 3 (Go.Operand.tmp 60) (Go.Operand.tmp 62) 3, type := 4, pos := "law.go:68", after := #[{ on := 21, ground := Go.Ground.data }, { on := 23, ground := Go.Ground.data }, { on := 19, ground := Go.Ground.guard }], guard := some (19, true) } : Oper)
def oTrDoes39 : Oper := ({ dst := some 64, op := Go.Op.pick (Go.Operand.tmp 58) (Go.Operand.tmp 63) (Go.Operand.const (Go.Value.bool false)), type := 4, pos := "law.go:68", after := #[{ on := 19, ground := Go.Ground.data }, { on := 24, ground := Go.Ground.data }], guard := none } : Oper)
def oTrDoes40 : Oper := ({ dst := some 6, op := Go.Op.assign (Go.Operand.tmp 64), type := 4, pos := "law.go:68", after := #[{ on := 25, ground := Go.Ground.data }, { on := 23, ground := Go.Ground.chain }, { on := 0, ground := Go.Ground.phase }, { on := 1, ground := Go.Ground.phase }, { on := 2, ground := Go.Ground.phase }, { on := 3, ground := Go.Ground.phase }, { on := 4, ground := Go.Ground.phase }, { on := 5, ground := Go.Ground.phase }, { on := 6, ground := Go.Ground.phase }, { on := 7, ground := Go.Ground.phase }, { on := 8, ground := Go.Ground.phase }, { on := 9, ground := Go.Ground.phase }, { on := 10, ground := Go.Ground.phase }, { on := 11, ground := Go.Ground.phase }, { on := 12, ground := Go.Ground.phase }, { on := 13, ground := Go.Ground.phase }, { on := 14, ground := Go.Ground.phase }, { on := 15, ground := Go.Ground.phase }, { on := 16, ground := Go.Ground.phase }, { on := 17, ground := Go.Ground.phase }, { on := 18, ground := Go.Ground.phase }, { on := 19, ground := Go.Ground.phase }, { on := 20, ground := Go.Ground.phase }, { on := 21, ground := Go.Ground.phase }, { on := 22, ground := Go.Ground.phase }, { on := 23, ground := Go.Ground.phase }, { on := 24, ground := Go.Ground.phase }, { on := 25, ground := Go.Ground.phase }], guard := none } : Oper)
def oTrDoes41 : Oper := ({ dst := some 26, op := Go.Op.move (Go.Operand.tmp 0), type := 25, pos := "law.go:64", after := #[], guard := none } : Oper)
def oTrDoes42 : Oper := ({ dst := some 27, op := Go.Op.fieldAddr 33 (Go.Operand.tmp 5) 1, type := 0, pos := "law.go:64", after := #[], guard := none } : Oper)
def oTrDoes43 : Oper := ({ dst := some 28, op := Go.Op.load 9 (Go.Operand.tmp 27), type := 9, pos := "law.go:64", after := #[{ on := 1, ground := Go.Ground.data }], guard := none } : Oper)
def oTrDoes44 : Oper := ({ dst := some 29, op := Go.Op.fieldAddr 33 (Go.Operand.tmp 5) 2, type := 0, pos := "law.go:64", after := #[], guard := none } : Oper)
def oTrDoes45 : Oper := ({ dst := some 30, op := Go.Op.load 9 (Go.Operand.tmp 29), type := 9, pos := "law.go:64", after := #[{ on := 3, ground := Go.Ground.data }], guard := none } : Oper)
def oTrDoes46 : Oper := ({ dst := some 32, op := Go.Op.move (Go.Operand.tmp 1), type := 27, pos := "law.go:64", after := #[], guard := none } : Oper)
def oTrDoes47 : Oper := ({ dst := some 33, op := Go.Op.fieldAddr 33 (Go.Operand.tmp 5) 1, type := 0, pos := "law.go:64", after := #[], guard := none } : Oper)
def oTrDoes48 : Oper := ({ dst := some 34, op := Go.Op.load 9 (Go.Operand.tmp 33), type := 9, pos := "law.go:64", after := #[{ on := 7, ground := Go.Ground.data }], guard := none } : Oper)
def oTrDoes49 : Oper := ({ dst := some 35, op := Go.Op.fieldAddr 33 (Go.Operand.tmp 5) 2, type := 0, pos := "law.go:64", after := #[], guard := none } : Oper)
def oTrDoes50 : Oper := ({ dst := some 36, op := Go.Op.load 9 (Go.Operand.tmp 35), type := 9, pos := "law.go:64", after := #[{ on := 9, ground := Go.Ground.data }], guard := none } : Oper)
def oTrDoes51 : Oper := ({ dst := some 31, op := Go.Op.call { callee := Go.Callee.value (Go.Operand.func 21), args := #[Go.Operand.tmp 26, Go.Operand.tmp 28, Go.Operand.tmp 30], argTypes := #[25, 9, 9] }, type := 4, pos := "law.go:64", after := #[{ on := 0, ground := Go.Ground.data }, { on := 2, ground := Go.Ground.data }, { on := 4, ground := Go.Ground.data }], guard := none } : Oper)
def oTrDoes52 : Oper := ({ dst := some 37, op := Go.Op.call { callee := Go.Callee.value (Go.Operand.func 29), args := #[Go.Operand.tmp 32, Go.Operand.tmp 34, Go.Operand.tmp 36], argTypes := #[27, 9, 9] }, type := 4, pos := "law.go:64", after := #[{ on := 6, ground := Go.Ground.data }, { on := 8, ground := Go.Ground.data }, { on := 10, ground := Go.Ground.data }, { on := 5, ground := Go.Ground.chain }], guard := none } : Oper)
def oTrDoes53 : Oper := ({ dst := some 38, op := Go.Op.binOp Go.BinOp.neq 4 (Go.Operand.tmp 31) (Go.Operand.tmp 37) 4, type := 4, pos := "law.go:64", after := #[{ on := 5, ground := Go.Ground.data }, { on := 11, ground := Go.Ground.data }], guard := none } : Oper)
end
open Go.RowKit

theorem RT.outs {w w' : World} {g n c : Nat} {A : Option Addr} {L : List Hn} {F : Nat → Prop} (h : RT w g A n c L) (hU : Outs w w' F) (hg : ¬ F g) (hA : 0 < n → ∀ b, A = some ⟨b, 0, none⟩ → ¬ F b) : RT w' g A n c L := by
  refine ⟨h.1.imp fun T h3 => (hU.block g h.lt hg).trans h3, ⟨h.2.1.1, fun hn => ?_⟩, h.2.2⟩
  obtain ⟨b, off, e, hc⟩ := h.2.1.2 hn
  refine ⟨b, off, e, fun j u hu => ?_⟩
  rcases h.2.2.1 with ⟨h4, _⟩ | ⟨b2, h4⟩
  · rw [h4] at e; cases e
  · rw [h4] at e; cases e
    exact hU.cell _ _ (hc j u hu) (hA hn b h4)
theorem RT.row_lt {w : World} {g n c b : Nat} {L : List Hn} (h : RT w g (some ⟨b, 0, none⟩) n c L) (hn : 0 < n) : b < w.heap.size := by
  obtain ⟨b1, o1, x, e, _, hc, _⟩ := h.2.1.at_ hn
  cases e
  exact World.block_lt_of_cell? _ _ hc
theorem AcAt.outs {w w' : World} {b o : Nat} {x : Ac} {F : Nat → Prop} (h : AcAt w b o x) (hU : Outs w w' F) (hn : ¬ F b) : AcAt w' b o x :=
  ⟨hU.cell _ _ h.1 hn, hU.cell _ _ h.2.1 hn, hU.cell _ _ h.2.2.1 hn, hU.cell _ _ h.2.2.2 hn⟩
theorem AcAt.at0 {w : World} {b : Nat} {x : Ac} (h : AcAt w b 0 x) : w.cell? ⟨b, 0, none⟩ = some (.int .u8 x.d) ∧ w.cell? ⟨b, 1, none⟩ = some (.string ⟨x.f.toArray⟩) ∧ w.cell? ⟨b, 2, none⟩ = some (.string ⟨x.c.toArray⟩) ∧ w.cell? ⟨b, 3, none⟩ = some (.string ⟨x.nm.toArray⟩) := h
theorem RP.outs {w w' : World} {g n : Nat} {A : Option Addr} {M : List Hn} {r : Bool} {e : Ending} (h : RP w g A n M r e w') : Outs w w' (· = g) := by
  obtain ⟨_, _, _, _, _, hU, _⟩ := h
  exact hU
theorem RP.ret {w w' : World} {g n : Nat} {A : Option Addr} {M : List Hn} {r : Bool} {e : Ending} (h : RP w g A n M r e w') : e = .returned (.bool r) := by
  obtain ⟨_, _, _, he, _⟩ := h
  exact he
/-- Both tries, with the same hints, apart from each other and from what stood below B. -/
structure DS (B : Nat) (w : World) (t : Nat) (F : Nat → Prop) (g : Nat) (A : Option Addr) (n c : Nat) (L : List Hn) (m : Nat) : Prop where
  pt : PT w t F L
  rt : RT w g A n c L
  dis : ∀ b, F b → B ≤ b ∧ b ≠ g ∧ (0 < n → A ≠ some ⟨b, 0, none⟩)
  gB : B ≤ g
  ok : HsOk m L
section
variable {w w' : World} {B t g n c m : Nat} {A : Option Addr} {L : List Hn} {F : Nat → Prop}
theorem DS.below (h : DS B w t F g A n c L m) (hb : Below w.heap.size w w') : DS B w' t F g A n c L m := ⟨h.pt.below hb, h.rt.below hb, h.dis, h.gB, h.ok⟩
theorem DS.n_le (h : DS B w t F g A n c L m) : n ≤ m := by have := h.rt.len; have := h.ok.2.1; omega
/-- Behind both calls. -/
theorem DS.step {w1 w2 : World} {F1 : Nat → Prop} {M : List Hn} {r : Bool} {e : Ending} (h : DS B w t F g A n c L m) (h1 : PT w1 t F1 M) (hU : Outs w w1 F) (hF : ∀ b, F1 b → F b ∨ w.heap.size ≤ b) (hR : RP w1 g A n M r e w2) (hk : HsOk (m + 1) M) :
    ∃ A' n' c', e = .returned (.bool r) ∧ DS B w2 t F1 g A' n' c' M (m + 1) ∧ Below B w w2 := by
  obtain ⟨A', n', c', he, hT, hU2, hA⟩ := hR
  have hgl := h.rt.lt
  have hg1 : ∀ b, F1 b → b ≠ g := fun b hb e => by
    rcases hF b hb with h2 | h2
    · exact (h.dis b h2).2.1 e
    · omega
  refine ⟨A', n', c', he, ⟨h1.keep hU2.size (fun b hb => hU2.block b (h1.lt b hb) (hg1 b hb)), hT, fun b hb => ⟨?_, hg1 b hb, fun h0 e => ?_⟩, h.gB, hk⟩, ?_⟩
  · rcases hF b hb with h2 | h2
    · exact (h.dis b h2).1
    · have := h.gB; omega
  · rcases hA with ⟨h2, h3⟩ | h2
    · subst h2 h3
      subst e
      rcases hF b hb with h4 | h4
      · exact (h.dis b h4).2.2 h0 rfl
      · have := h.rt.row_lt h0; omega
    · have := h2 b e
      have := h1.lt b hb
      omega
  · have hb1 : Below B w w1 := hU.below (fun b _ hb => (h.dis b hb).1) (by have := h.gB; omega)
    exact hb1.trans (hU2.below (fun b _ hb => by rw [show b = g from hb]; exact h.gB) (by have := h.gB; have := hU.size; omega))
end
def actL (L : List Hn) (x : Ac) : List Hn := if x.d = 0 then addL L (x.f, x.c) else if x.d = 1 then remL L (x.f, x.c) else L
/-- What an act leaves. -/
def DP (B : Nat) (w : World) (t g : Nat) (M : List Hn) (m : Nat) (e : Ending) (w' : World) : Prop :=
  ∃ F A n c, e = .returned (.bool true) ∧ DS B w' t F g A n c M m ∧ Below B w w'
section
variable {w w' : World} {B t g n c m : Nat} {A : Option Addr} {L : List Hn} {F : Nat → Prop}
set_option maxHeartbeats 2000000 in
theorem does_add (x : Ac) (M : List Hn) (hG : GT w) (hgb : GB B) (hD : DS B w t F g A n c L m) (hm : m + 1 ≤ 100) (h0 : x.d = 0) (hx : x.f.length ≤ 300 ∧ x.c.length ≤ 300 ∧ x.nm.length ≤ 300) (hM : addL L (x.f, x.c) = M) :
    Calls Tryz.prog 12 #[.pointer (some ⟨t, 0, none⟩), .pointer (some ⟨g, 0, none⟩), .agg #[.int .u8 x.d, .string ⟨x.f.toArray⟩, .string ⟨x.c.toArray⟩, .string ⟨x.nm.toArray⟩]] w fun e w' => DP B w t g M (m + 1) e w' := by
  obtain ⟨d, f, c0, nm⟩ := x
  dsimp only at h0 hx hM ⊢
  subst h0
  obtain ⟨hxf, hxc, hxn⟩ := hx
  have HD := Lib.hid hD
  have HG := Lib.hid hG
  have HM := Lib.hid hM
  obtain ⟨r, hr⟩ : ∃ r, addB L (f, c0) = r := ⟨_, rfl⟩
  have HR := Lib.hid hr
  clear hD hG hM hr
  obtain ⟨W, hW⟩ : ∃ W, W = w.alloc (.cells #[.int .u8 0, .string ⟨f.toArray⟩, .string ⟨c0.toArray⟩, .string ⟨nm.toArray⟩] 33) := ⟨_, rfl⟩
  have hbW : Below w.heap.size w W := by rw [hW]; exact below_alloc (Below.refl _ _) _
  have hX : Hid (AcAt W w.heap.size 0 ⟨0, f, c0, nm⟩) := by
    show AcAt _ _ _ _
    rw [hW]
    exact ⟨by rw [World.cell?_alloc_new]; rfl, by rw [World.cell?_alloc_new]; rfl, by rw [World.cell?_alloc_new]; rfl, by rw [World.cell?_alloc_new]; rfl⟩
  have HDW := Lib.hid (HD.out.below hbW)
  go_enter Tryz.func12, Tryz.ntmps12
  go_wp2_with fail
  rw [← hW]
  clear hW
  have hbx : ¬ F w.heap.size := fun e => by have := HD.out.pt.lt _ e; omega
  have hgx : g < w.heap.size := HD.out.rt.lt
  obtain ⟨wd, hwd⟩ : ∃ wd, wd = W.drew := ⟨_, rfl⟩
  have hDd : DS B wd t F g A n c L m := by rw [hwd]; exact HDW.out.below (Below.refl _ _).drew
  have hGd : GT wd := by rw [hwd]; exact HG.out.below hbW.drew
  have hBd : Below B w wd := by rw [hwd]; exact (hbW.mono (by have := HD.out.gB; omega)).drew
  have HDd := Lib.hid hDd
  have HGd := Lib.hid hGd
  have hk1 := Lib.hid (hDd.ok.add (h := (f, c0)) hxf hxc)
  rw [HM.out] at hk1
  have hnn := hDd.n_le
  clear hDd hGd HDW
  refine wp_region_held_drew (S := (fun w' => AcAt w' w.heap.size 0 ⟨0, f, c0, nm⟩)) (by kernel_rfl) (hX.out) (fun hHeld => ?_)
  rw [← hwd] at hHeld ⊢
  clear hwd
  refine tkY 0 oTrDoes1 ?vv36_160_0 rfl (by kernel_rfl) (by kernel_rfl) (by kernel_rfl) (fun _ _ _ h => h) (by rfl) ?hy36_160_0 (by assumption) ?rest36_160_0
  case hy36_160_0 => (intro w hSw; unfold oTrDoes1; (try dsimp only at hSw); (try go_split_ands); go_simp; all_goals with_reducible rfl)
  try simp only [oTrDoes1, Act.put, sA, sB, sC]
  refine tkY 1 oTrDoes2 ?vv36_160_1 rfl (by kernel_rfl) (by kernel_rfl) (by kernel_rfl) (fun _ _ _ h => h) (by rfl) ?hy36_160_1 (by assumption) ?rest36_160_1
  case hy36_160_1 => (intro w hSw; unfold oTrDoes2; (try dsimp only at hSw); (try go_split_ands); go_simp; all_goals with_reducible rfl)
  try simp only [oTrDoes2, Act.put, sA, sB, sC]
  refine tkY 2 oTrDoes3 ?vv36_161_2 rfl (by kernel_rfl) (by kernel_rfl) (by kernel_rfl) (fun _ _ _ h => h) (by rfl) ?hy36_161_2 (by assumption) ?rest36_161_2
  case hy36_161_2 => (intro w hSw; unfold oTrDoes3; (try dsimp only at hSw); have ⟨q0, q1, q2, q3⟩ := hSw.at0; clear hSw; go_simp; all_goals with_reducible rfl)
  try simp only [oTrDoes3, Act.put, sA, sB, sC]
  refine tkY 3 oTrDoes4 ?vv36_162_3 rfl (by kernel_rfl) (by kernel_rfl) (by kernel_rfl) (fun _ _ _ h => h) (by rfl) ?hy36_162_3 (by assumption) ?rest36_162_3
  case hy36_162_3 => (intro w hSw; unfold oTrDoes4; (try dsimp only at hSw); (try go_split_ands); go_simp; all_goals with_reducible rfl)
  try simp only [oTrDoes4, Act.put, sA, sB, sC]
  refine tkY 4 oTrDoes5 ?vv36_163_4 rfl (by kernel_rfl) (by kernel_rfl) (by kernel_rfl) (fun _ _ _ h => h) (by rfl) ?hy36_163_4 (by assumption) ?rest36_163_4
  case hy36_163_4 => (intro w hSw; unfold oTrDoes5; (try dsimp only at hSw); have ⟨q0, q1, q2, q3⟩ := hSw.at0; clear hSw; go_simp; all_goals with_reducible rfl)
  try simp only [oTrDoes5, Act.put, sA, sB, sC]
  refine tkY 6 oTrDoes6 ?vv36_164_6 rfl (by kernel_rfl) (by kernel_rfl) (by kernel_rfl) (fun _ _ _ h => h) (by rfl) ?hy36_164_6 (by assumption) ?rest36_164_6
  case hy36_164_6 => (intro w hSw; unfold oTrDoes6; (try dsimp only at hSw); (try go_split_ands); go_simp; all_goals with_reducible rfl)
  try simp only [oTrDoes6, Act.put, sA, sB, sC]
  refine tkY 7 oTrDoes7 ?vv36_164_7 rfl (by kernel_rfl) (by kernel_rfl) (by kernel_rfl) (fun _ _ _ h => h) (by rfl) ?hy36_164_7 (by assumption) ?rest36_164_7
  case hy36_164_7 => (intro w hSw; unfold oTrDoes7; (try dsimp only at hSw); (try go_split_ands); go_simp; all_goals with_reducible rfl)
  try simp only [oTrDoes7, Act.put, sA, sB, sC]
  refine tkY 8 oTrDoes8 ?vv36_165_8 rfl (by kernel_rfl) (by kernel_rfl) (by kernel_rfl) (fun _ _ _ h => h) (by rfl) ?hy36_165_8 (by assumption) ?rest36_165_8
  case hy36_165_8 => (intro w hSw; unfold oTrDoes8; (try dsimp only at hSw); have ⟨q0, q1, q2, q3⟩ := hSw.at0; clear hSw; go_simp; all_goals with_reducible rfl)
  try simp only [oTrDoes8, Act.put, sA, sB, sC]
  refine tkY 9 oTrDoes9 ?vv36_166_9 rfl (by kernel_rfl) (by kernel_rfl) (by kernel_rfl) (fun _ _ _ h => h) (by rfl) ?hy36_166_9 (by assumption) ?rest36_166_9
  case hy36_166_9 => (intro w hSw; unfold oTrDoes9; (try dsimp only at hSw); (try go_split_ands); go_simp; all_goals with_reducible rfl)
  try simp only [oTrDoes9, Act.put, sA, sB, sC]
  refine tkY 10 oTrDoes10 ?vv36_167_10 rfl (by kernel_rfl) (by kernel_rfl) (by kernel_rfl) (fun _ _ _ h => h) (by rfl) ?hy36_167_10 (by assumption) ?rest36_167_10
  case hy36_167_10 => (intro w hSw; unfold oTrDoes10; (try dsimp only at hSw); have ⟨q0, q1, q2, q3⟩ := hSw.at0; clear hSw; go_simp; all_goals with_reducible rfl)
  try simp only [oTrDoes10, Act.put, sA, sB, sC]
  refine wpAnyH_ready (rs := [5]) (by kernel_rfl) (by simp) ?_
  refine AllReadyH.cons (o := oTrDoes11) rfl (fun K hK => ?_) AllReadyH.nil
  unfold oTrDoes11
  go_simp
  (go_at_call 20; refine (tAdd f c0 M r HGd.out HDd.out.pt (HDd.out.ok.le (by omega)) hxf hxc HM.out HR.out).mono ?_; rintro e w6 ⟨F1, rfl, hP1, hU1, hF1⟩)
  refine hK.out _ _ ?_ (fun hHeld => ?_)
  · (exact hHeld.outs hU1 hbx)
  clear hK K
  try simp only [oTrDoes11, Act.put, sA, sB, sC]
  refine wpAnyH_ready (rs := [11]) (by kernel_rfl) (by simp) ?_
  refine AllReadyH.cons (o := oTrDoes12) rfl (fun K hK => ?_) AllReadyH.nil
  unfold oTrDoes12
  go_simp
  (go_at_call 28; refine (add_any f c0 M r (HDd.out.rt.outs hU1 (fun e => (HDd.out.dis g e).2.1 rfl) (fun h0 b e h9 => (HDd.out.dis b h9).2.2 h0 e)) (by omega) (by omega) HM.out HR.out).mono ?_; rintro e w7 hRP; obtain rfl := hRP.ret)
  refine hK.out _ _ ?_ (fun hHeld => ?_)
  · (exact hHeld.outs hRP.outs (by omega))
  clear hK K
  try simp only [oTrDoes12, Act.put, sA, sB, sC]
  refine tkY 12 oTrDoes13 ?vv36_168_12 rfl (by kernel_rfl) (by kernel_rfl) (by kernel_rfl) (fun _ _ _ h => h) (by rfl) ?hy36_168_12 (by assumption) ?rest36_168_12
  case hy36_168_12 => (intro w hSw; unfold oTrDoes13; (try dsimp only at hSw); (try go_split_ands); go_simp; all_goals with_reducible rfl)
  try simp only [oTrDoes13, Act.put, sA, sB, sC]
  refine wpAnyH_done (by kernel_rfl) ?_ _
  obtain ⟨A7, n7, c7, _, hD7, hb7⟩ := HDd.out.step hP1 hU1 hF1 hRP hk1.out
  have hbB := hBd.trans hb7
  have hX7 := hHeld
  have hG7 : GT w7 := HGd.out.step hgb hb7
  clear hHeld hP1 hU1 hF1 hRP HDd HGd hBd hb7 hX HG HD hbW
  have HG7 := Lib.hid (hG7 : GT w7)
  have HD7 := Lib.hid hD7
  have hn7 := hD7.n_le
  have HX7 : Hid (AcAt w7 w.heap.size 0 ⟨_, f, c0, nm⟩) := hX7
  obtain ⟨S, hS⟩ : ∃ S, matL M nm = S := ⟨_, rfl⟩
  obtain ⟨v, hv⟩ : ∃ v, nodL M = v := ⟨_, rfl⟩
  have HS := Lib.hid hS
  have HV := Lib.hid hv
  have HK7 : Hid (HsOk 100 M) := hD7.ok.le hm
  have HF7 : Hid (∀ h ∈ M, h.1.length ≤ 1000000) := fun h hh => by have := (hD7.ok.2.2 h hh).1; omega
  have HF5 : Hid (∀ h ∈ M, h.1.length ≤ 500) := fun h hh => by have := (hD7.ok.2.2 h hh).1; omega
  have HL7 := Lib.hid hD7.rt.len
  have HSl : Hid (S.length ≤ 100) := by
    show _ ≤ _
    rw [← hS]
    exact Nat.le_trans (mat_len M nm) HK7.out.2.1
  clear hS hv hG7 hX7
  go_wp2_with fail
  refine wp_region_held_drew (S := (fun w' => Below w7.heap.size w7 w')) (by kernel_rfl) ((Below.refl _ _).drew) (fun hHeld => ?_)
  refine tkY 0 oTrDoes14 ?vv37_169_0 rfl (by kernel_rfl) (by kernel_rfl) (by kernel_rfl) (fun _ _ _ h => h) (by rfl) ?hy37_169_0 (by assumption) ?rest37_169_0
  case hy37_169_0 => (intro w hSw; unfold oTrDoes14; (try dsimp only at hSw); (try go_split_ands); go_simp; all_goals with_reducible rfl)
  try simp only [oTrDoes14, Act.put, sA, sB, sC]
  refine tkY 1 oTrDoes15 ?vv37_169_1 rfl (by kernel_rfl) (by kernel_rfl) (by kernel_rfl) (fun _ _ _ h => h) (by rfl) ?hy37_169_1 (by assumption) ?rest37_169_1
  case hy37_169_1 => (intro w hSw; unfold oTrDoes15; (try dsimp only at hSw); (try go_split_ands); go_simp; all_goals with_reducible rfl)
  try simp only [oTrDoes15, Act.put, sA, sB, sC]
  refine tkY 2 oTrDoes16 ?vv37_170_2 rfl (by kernel_rfl) (by kernel_rfl) (by kernel_rfl) (fun _ _ _ h => h) (by rfl) ?hy37_170_2 (by assumption) ?rest37_170_2
  case hy37_170_2 => (intro w hSw; unfold oTrDoes16; (try dsimp only at hSw); have ⟨q0, q1, q2, q3⟩ := (HX7.out.below hSw).at0; clear hSw; go_simp; all_goals with_reducible rfl)
  try simp only [oTrDoes16, Act.put, sA, sB, sC]
  refine tkY 4 oTrDoes17 ?vv37_171_4 rfl (by kernel_rfl) (by kernel_rfl) (by kernel_rfl) (fun _ _ _ h => h) (by rfl) ?hy37_171_4 (by assumption) ?rest37_171_4
  case hy37_171_4 => (intro w hSw; unfold oTrDoes17; (try dsimp only at hSw); (try go_split_ands); go_simp; all_goals with_reducible rfl)
  try simp only [oTrDoes17, Act.put, sA, sB, sC]
  refine tkY 5 oTrDoes18 ?vv37_171_5 rfl (by kernel_rfl) (by kernel_rfl) (by kernel_rfl) (fun _ _ _ h => h) (by rfl) ?hy37_171_5 (by assumption) ?rest37_171_5
  case hy37_171_5 => (intro w hSw; unfold oTrDoes18; (try dsimp only at hSw); (try go_split_ands); go_simp; all_goals with_reducible rfl)
  try simp only [oTrDoes18, Act.put, sA, sB, sC]
  refine tkY 6 oTrDoes19 ?vv37_172_6 rfl (by kernel_rfl) (by kernel_rfl) (by kernel_rfl) (fun _ _ _ h => h) (by rfl) ?hy37_172_6 (by assumption) ?rest37_172_6
  case hy37_172_6 => (intro w hSw; unfold oTrDoes19; (try dsimp only at hSw); have ⟨q0, q1, q2, q3⟩ := (HX7.out.below hSw).at0; clear hSw; go_simp; all_goals with_reducible rfl)
  try simp only [oTrDoes19, Act.put, sA, sB, sC]
  refine wpAnyH_ready (rs := [3]) (by kernel_rfl) (by simp) ?_
  refine AllReadyH.cons (o := oTrDoes20) rfl (fun K hK => ?_) AllReadyH.nil
  unfold oTrDoes20
  go_simp
  (go_at_call 19; refine (tMatch nm S (HG7.out.below hHeld) (HD7.out.pt.below hHeld) HK7.out (by omega) HS.out).mono ?_; rintro e w8 ⟨A1, c1, rfl, hs1, _, _, hb6⟩)
  refine hK.out _ _ ?_ (fun hHeld => ?_)
  · (exact below_more hHeld hb6)
  clear hK K
  try simp only [oTrDoes20, Act.put, sA, sB, sC]
  refine wpAnyH_ready (rs := [7]) (by kernel_rfl) (by simp) ?_
  refine AllReadyH.cons (o := oTrDoes21) rfl (fun K hK => ?_) AllReadyH.nil
  unfold oTrDoes21
  go_simp
  (go_at_call 30; refine (match_any nm S (HD7.out.rt.below hHeld) (by omega) HF7.out (by omega) HS.out).mono ?_; rintro e w9 ⟨A2, c2, rfl, hs2, _, _, hb7⟩; replace hs1 := hs1.below hb7)
  refine hK.out _ _ ?_ (fun hHeld => ?_)
  · (exact below_more hHeld hb7)
  clear hK K
  try simp only [oTrDoes21, Act.put, sA, sB, sC]
  refine wpAnyH_ready (rs := [8]) (by kernel_rfl) (by simp) ?_
  refine AllReadyH.cons (o := oTrDoes22) rfl (fun K hK => ?_) AllReadyH.nil
  unfold oTrDoes22
  go_simp
  (go_at_call 16; refine (sameTexts_eq A1 S.length c1 S A2 S.length c2 S true _ hs1 hs2 (by have := HSl.out; omega) (by simp)).mono ?_; rintro e w10 ⟨rfl, hb8⟩)
  refine hK.out _ _ ?_ (fun hHeld => ?_)
  · (exact below_more hHeld hb8)
  clear hK K
  try simp only [oTrDoes22, Act.put, sA, sB, sC]
  refine tkY 9 oTrDoes23 ?vv37_173_9 rfl (by kernel_rfl) (by kernel_rfl) (by kernel_rfl) (fun _ _ _ h => h) (by rfl) ?hy37_173_9 (by assumption) ?rest37_173_9
  case hy37_173_9 => (intro w hSw; unfold oTrDoes23; (try dsimp only at hSw); (try go_split_ands); go_simp; all_goals with_reducible rfl)
  try simp only [oTrDoes23, Act.put, sA, sB, sC]
  refine tkY 10 oTrDoes24 ?vv37_173_10 rfl (by kernel_rfl) (by kernel_rfl) (by kernel_rfl) (fun _ _ _ h => h) (by rfl) ?hy37_173_10 (by assumption) ?rest37_173_10
  case hy37_173_10 => (intro w hSw; unfold oTrDoes24; (try dsimp only at hSw); (try go_split_ands); go_simp; all_goals with_reducible rfl)
  try simp only [oTrDoes24, Act.put, sA, sB, sC]
  refine tkY 12 oTrDoes25 ?vv37_173_12 rfl (by kernel_rfl) (by kernel_rfl) (by kernel_rfl) (fun _ _ _ h => h) (by rfl) ?hy37_173_12 (by assumption) ?rest37_173_12
  case hy37_173_12 => (intro w hSw; unfold oTrDoes25; (try dsimp only at hSw); (try go_split_ands); go_simp; all_goals with_reducible rfl)
  try simp only [oTrDoes25, Act.put, sA, sB, sC]
  refine tkY 13 oTrDoes26 ?vv37_173_13 rfl (by kernel_rfl) (by kernel_rfl) (by kernel_rfl) (fun _ _ _ h => h) (by rfl) ?hy37_173_13 (by assumption) ?rest37_173_13
  case hy37_173_13 => (intro w hSw; unfold oTrDoes26; (try dsimp only at hSw); (try go_split_ands); go_simp; all_goals with_reducible rfl)
  try simp only [oTrDoes26, Act.put, sA, sB, sC]
  refine tkY 14 oTrDoes27 ?vv37_173_14 rfl (by kernel_rfl) (by kernel_rfl) (by kernel_rfl) (fun _ _ _ h => h) (by rfl) ?hy37_173_14 (by assumption) ?rest37_173_14
  case hy37_173_14 => (intro w hSw; unfold oTrDoes27; (try dsimp only at hSw); (try go_split_ands); go_simp; all_goals with_reducible rfl)
  try simp only [oTrDoes27, Act.put, sA, sB, sC]
  refine tkY 15 oTrDoes28 ?vv37_174_15 rfl (by kernel_rfl) (by kernel_rfl) (by kernel_rfl) (fun _ _ _ h => h) (by rfl) ?hy37_174_15 (by assumption) ?rest37_174_15
  case hy37_174_15 => (intro w hSw; unfold oTrDoes28; (try dsimp only at hSw); have hq := (HD7.out.rt.below hSw).cell; clear hSw; go_simp; all_goals with_reducible rfl)
  try simp only [oTrDoes28, Act.put, sA, sB, sC]
  refine tkY 16 oTrDoes29 ?vv37_175_16 rfl (by kernel_rfl) (by kernel_rfl) (by kernel_rfl) (fun _ _ _ h => h) (by rfl) ?hy37_175_16 (by assumption) ?rest37_175_16
  case hy37_175_16 => (intro w hSw; unfold oTrDoes29; (try dsimp only at hSw); (try go_split_ands); go_simp; all_goals with_reducible rfl)
  try simp only [oTrDoes29, Act.put, sA, sB, sC]
  refine wpAnyH_ready (rs := [11]) (by kernel_rfl) (by simp) ?_
  refine AllReadyH.cons (o := oTrDoes30) rfl (fun K hK => ?_) AllReadyH.nil
  unfold oTrDoes30
  go_simp
  (go_at_call 23; refine (tLen n7 (HG7.out.below hHeld) (HD7.out.pt.below hHeld) HK7.out HL7.out).mono ?_; rintro e w11 ⟨rfl, hb9⟩)
  refine hK.out _ _ ?_ (fun hHeld => ?_)
  · (exact below_more hHeld hb9)
  clear hK K
  try simp only [oTrDoes30, Act.put, sA, sB, sC]
  refine tkY 17 oTrDoes31 ?vv37_176_17 rfl (by kernel_rfl) (by kernel_rfl) (by kernel_rfl) (fun _ _ _ h => h) (by rfl) ?hy37_176_17 (by assumption) ?rest37_176_17
  case hy37_176_17 => (intro w hSw; unfold oTrDoes31; (try dsimp only at hSw); (try go_split_ands); go_simp; all_goals with_reducible rfl)
  try simp only [oTrDoes31, Act.put, sA, sB, sC]
  refine tkY 18 oTrDoes32 ?vv37_176_18 rfl (by kernel_rfl) (by kernel_rfl) (by kernel_rfl) (fun _ _ _ h => h) (by rfl) ?hy37_176_18 (by assumption) ?rest37_176_18
  case hy37_176_18 => (intro w hSw; unfold oTrDoes32; (try dsimp only at hSw); (try go_split_ands); go_simp; all_goals with_reducible rfl)
  try simp only [oTrDoes32, Act.put, sA, sB, sC]
  refine tkY 19 oTrDoes33 ?vv37_176_19 rfl (by kernel_rfl) (by kernel_rfl) (by kernel_rfl) (fun _ _ _ h => h) (by rfl) ?hy37_176_19 (by assumption) ?rest37_176_19
  case hy37_176_19 => (intro w hSw; unfold oTrDoes33; (try dsimp only at hSw); (try go_split_ands); go_simp; all_goals with_reducible rfl)
  try simp only [oTrDoes33, Act.put, sA, sB, sC]
  refine tkY 20 oTrDoes34 ?vv37_176_20 rfl (by kernel_rfl) (by kernel_rfl) (by kernel_rfl) (fun _ _ _ h => h) (by rfl) ?hy37_176_20 (by assumption) ?rest37_176_20
  case hy37_176_20 => (intro w hSw; unfold oTrDoes34; (try dsimp only at hSw); (try go_split_ands); go_simp; all_goals with_reducible rfl)
  try simp only [oTrDoes34, Act.put, sA, sB, sC]
  refine tkY 22 oTrDoes35 ?vv37_176_22 rfl (by kernel_rfl) (by kernel_rfl) (by kernel_rfl) (fun _ _ _ h => h) (by rfl) ?hy37_176_22 (by assumption) ?rest37_176_22
  case hy37_176_22 => (intro w hSw; unfold oTrDoes35; (try dsimp only at hSw); (try go_split_ands); go_simp; all_goals with_reducible rfl)
  try simp only [oTrDoes35, Act.put, sA, sB, sC]
  refine wpAnyH_ready (rs := [21]) (by kernel_rfl) (by simp) ?_
  refine AllReadyH.cons (o := oTrDoes36) rfl (fun K hK => ?_) AllReadyH.nil
  unfold oTrDoes36
  go_simp
  (go_at_call 22; refine (tNodes v (HG7.out.below hHeld) (HD7.out.pt.below hHeld) HK7.out HV.out).mono ?_; rintro e w12 ⟨rfl, hb10⟩)
  refine hK.out _ _ ?_ (fun hHeld => ?_)
  · (exact below_more hHeld hb10)
  clear hK K
  try simp only [oTrDoes36, Act.put, sA, sB, sC]
  refine wpAnyH_ready (rs := [23]) (by kernel_rfl) (by simp) ?_
  refine AllReadyH.cons (o := oTrDoes37) rfl (fun K hK => ?_) AllReadyH.nil
  unfold oTrDoes37
  go_simp
  (go_at_call 31; refine (nodes_any v (HD7.out.rt.below hHeld) (by omega) HF5.out HV.out).mono ?_; rintro e w13 ⟨rfl, hb11⟩)
  refine hK.out _ _ ?_ (fun hHeld => ?_)
  · (exact below_more hHeld hb11)
  clear hK K
  try simp only [oTrDoes37, Act.put, sA, sB, sC]
  refine tkY 24 oTrDoes38 ?vv37_177_24 rfl (by kernel_rfl) (by kernel_rfl) (by kernel_rfl) (fun _ _ _ h => h) (by rfl) ?hy37_177_24 (by assumption) ?rest37_177_24
  case hy37_177_24 => (intro w hSw; unfold oTrDoes38; (try dsimp only at hSw); (try go_split_ands); go_simp; all_goals with_reducible rfl)
  try simp only [oTrDoes38, Act.put, sA, sB, sC]
  refine tkY 25 oTrDoes39 ?vv37_177_25 rfl (by kernel_rfl) (by kernel_rfl) (by kernel_rfl) (fun _ _ _ h => h) (by rfl) ?hy37_177_25 (by assumption) ?rest37_177_25
  case hy37_177_25 => (intro w hSw; unfold oTrDoes39; (try dsimp only at hSw); (try go_split_ands); go_simp; all_goals with_reducible rfl)
  try simp only [oTrDoes39, Act.put, sA, sB, sC]
  refine tkY 26 oTrDoes40 ?vv37_177_26 rfl (by kernel_rfl) (by kernel_rfl) (by kernel_rfl) (fun _ _ _ h => h) (by rfl) ?hy37_177_26 (by assumption) ?rest37_177_26
  case hy37_177_26 => (intro w hSw; unfold oTrDoes40; (try dsimp only at hSw); (try go_split_ands); go_simp; all_goals with_reducible rfl)
  try simp only [oTrDoes40, Act.put, sA, sB, sC]
  refine wpAnyH_done (by kernel_rfl) ?_ _
  have hD9 := HD7.out.below hHeld
  have hb9 := hbB.trans (hHeld.mono (by have := hD7.gB; have := hD7.rt.lt; omega))
  clear hHeld
  go_wp2_with fail
  go_ret
  exact ⟨_, _, _, _, rfl, hD9, hb9⟩
set_option maxHeartbeats 2000000 in
theorem does_rem (x : Ac) (M : List Hn) (hG : GT w) (hgb : GB B) (hD : DS B w t F g A n c L m) (hm : m + 1 ≤ 100) (h0 : x.d = 1) (hx : x.f.length ≤ 300 ∧ x.c.length ≤ 300 ∧ x.nm.length ≤ 300) (hM : remL L (x.f, x.c) = M) :
    Calls Tryz.prog 12 #[.pointer (some ⟨t, 0, none⟩), .pointer (some ⟨g, 0, none⟩), .agg #[.int .u8 x.d, .string ⟨x.f.toArray⟩, .string ⟨x.c.toArray⟩, .string ⟨x.nm.toArray⟩]] w fun e w' => DP B w t g M (m + 1) e w' := by
  obtain ⟨d, f, c0, nm⟩ := x
  dsimp only at h0 hx hM ⊢
  subst h0
  obtain ⟨hxf, hxc, hxn⟩ := hx
  have HD := Lib.hid hD
  have HG := Lib.hid hG
  have HM := Lib.hid hM
  obtain ⟨r, hr⟩ : ∃ r, remB L (f, c0) = r := ⟨_, rfl⟩
  have HR := Lib.hid hr
  clear hD hG hM hr
  obtain ⟨W, hW⟩ : ∃ W, W = w.alloc (.cells #[.int .u8 1, .string ⟨f.toArray⟩, .string ⟨c0.toArray⟩, .string ⟨nm.toArray⟩] 33) := ⟨_, rfl⟩
  have hbW : Below w.heap.size w W := by rw [hW]; exact below_alloc (Below.refl _ _) _
  have hX : Hid (AcAt W w.heap.size 0 ⟨1, f, c0, nm⟩) := by
    show AcAt _ _ _ _
    rw [hW]
    exact ⟨by rw [World.cell?_alloc_new]; rfl, by rw [World.cell?_alloc_new]; rfl, by rw [World.cell?_alloc_new]; rfl, by rw [World.cell?_alloc_new]; rfl⟩
  have HDW := Lib.hid (HD.out.below hbW)
  go_enter Tryz.func12, Tryz.ntmps12
  go_wp2_with fail
  rw [← hW]
  clear hW
  have hbx : ¬ F w.heap.size := fun e => by have := HD.out.pt.lt _ e; omega
  have hgx : g < w.heap.size := HD.out.rt.lt
  obtain ⟨wd, hwd⟩ : ∃ wd, wd = W.drew := ⟨_, rfl⟩
  have hDd : DS B wd t F g A n c L m := by rw [hwd]; exact HDW.out.below (Below.refl _ _).drew
  have hGd : GT wd := by rw [hwd]; exact HG.out.below hbW.drew
  have hBd : Below B w wd := by rw [hwd]; exact (hbW.mono (by have := HD.out.gB; omega)).drew
  have HDd := Lib.hid hDd
  have HGd := Lib.hid hGd
  have hk1 : Hid (HsOk (m + 1) (remL L (f, c0))) := (hDd.ok.rem (f, c0)).le (by omega)
  rw [HM.out] at hk1
  have hnn := hDd.n_le
  clear hDd hGd HDW
  refine wp_region_held_drew (S := (fun w' => AcAt w' w.heap.size 0 ⟨1, f, c0, nm⟩)) (by kernel_rfl) (hX.out) (fun hHeld => ?_)
  rw [← hwd] at hHeld ⊢
  clear hwd
  refine tkY 0 oTrDoes41 ?vv38_178_0 rfl (by kernel_rfl) (by kernel_rfl) (by kernel_rfl) (fun _ _ _ h => h) (by rfl) ?hy38_178_0 (by assumption) ?rest38_178_0
  case hy38_178_0 => (intro w hSw; unfold oTrDoes41; (try dsimp only at hSw); (try go_split_ands); go_simp; all_goals with_reducible rfl)
  try simp only [oTrDoes41, Act.put, sA, sB, sC]
  refine tkY 1 oTrDoes42 ?vv38_178_1 rfl (by kernel_rfl) (by kernel_rfl) (by kernel_rfl) (fun _ _ _ h => h) (by rfl) ?hy38_178_1 (by assumption) ?rest38_178_1
  case hy38_178_1 => (intro w hSw; unfold oTrDoes42; (try dsimp only at hSw); (try go_split_ands); go_simp; all_goals with_reducible rfl)
  try simp only [oTrDoes42, Act.put, sA, sB, sC]
  refine tkY 2 oTrDoes43 ?vv38_179_2 rfl (by kernel_rfl) (by kernel_rfl) (by kernel_rfl) (fun _ _ _ h => h) (by rfl) ?hy38_179_2 (by assumption) ?rest38_179_2
  case hy38_179_2 => (intro w hSw; unfold oTrDoes43; (try dsimp only at hSw); have ⟨q0, q1, q2, q3⟩ := hSw.at0; clear hSw; go_simp; all_goals with_reducible rfl)
  try simp only [oTrDoes43, Act.put, sA, sB, sC]
  refine tkY 3 oTrDoes44 ?vv38_180_3 rfl (by kernel_rfl) (by kernel_rfl) (by kernel_rfl) (fun _ _ _ h => h) (by rfl) ?hy38_180_3 (by assumption) ?rest38_180_3
  case hy38_180_3 => (intro w hSw; unfold oTrDoes44; (try dsimp only at hSw); (try go_split_ands); go_simp; all_goals with_reducible rfl)
  try simp only [oTrDoes44, Act.put, sA, sB, sC]
  refine tkY 4 oTrDoes45 ?vv38_181_4 rfl (by kernel_rfl) (by kernel_rfl) (by kernel_rfl) (fun _ _ _ h => h) (by rfl) ?hy38_181_4 (by assumption) ?rest38_181_4
  case hy38_181_4 => (intro w hSw; unfold oTrDoes45; (try dsimp only at hSw); have ⟨q0, q1, q2, q3⟩ := hSw.at0; clear hSw; go_simp; all_goals with_reducible rfl)
  try simp only [oTrDoes45, Act.put, sA, sB, sC]
  refine tkY 6 oTrDoes46 ?vv38_182_6 rfl (by kernel_rfl) (by kernel_rfl) (by kernel_rfl) (fun _ _ _ h => h) (by rfl) ?hy38_182_6 (by assumption) ?rest38_182_6
  case hy38_182_6 => (intro w hSw; unfold oTrDoes46; (try dsimp only at hSw); (try go_split_ands); go_simp; all_goals with_reducible rfl)
  try simp only [oTrDoes46, Act.put, sA, sB, sC]
  refine tkY 7 oTrDoes47 ?vv38_182_7 rfl (by kernel_rfl) (by kernel_rfl) (by kernel_rfl) (fun _ _ _ h => h) (by rfl) ?hy38_182_7 (by assumption) ?rest38_182_7
  case hy38_182_7 => (intro w hSw; unfold oTrDoes47; (try dsimp only at hSw); (try go_split_ands); go_simp; all_goals with_reducible rfl)
  try simp only [oTrDoes47, Act.put, sA, sB, sC]
  refine tkY 8 oTrDoes48 ?vv38_183_8 rfl (by kernel_rfl) (by kernel_rfl) (by kernel_rfl) (fun _ _ _ h => h) (by rfl) ?hy38_183_8 (by assumption) ?rest38_183_8
  case hy38_183_8 => (intro w hSw; unfold oTrDoes48; (try dsimp only at hSw); have ⟨q0, q1, q2, q3⟩ := hSw.at0; clear hSw; go_simp; all_goals with_reducible rfl)
  try simp only [oTrDoes48, Act.put, sA, sB, sC]
  refine tkY 9 oTrDoes49 ?vv38_184_9 rfl (by kernel_rfl) (by kernel_rfl) (by kernel_rfl) (fun _ _ _ h => h) (by rfl) ?hy38_184_9 (by assumption) ?rest38_184_9
  case hy38_184_9 => (intro w hSw; unfold oTrDoes49; (try dsimp only at hSw); (try go_split_ands); go_simp; all_goals with_reducible rfl)
  try simp only [oTrDoes49, Act.put, sA, sB, sC]
  refine tkY 10 oTrDoes50 ?vv38_185_10 rfl (by kernel_rfl) (by kernel_rfl) (by kernel_rfl) (fun _ _ _ h => h) (by rfl) ?hy38_185_10 (by assumption) ?rest38_185_10
  case hy38_185_10 => (intro w hSw; unfold oTrDoes50; (try dsimp only at hSw); have ⟨q0, q1, q2, q3⟩ := hSw.at0; clear hSw; go_simp; all_goals with_reducible rfl)
  try simp only [oTrDoes50, Act.put, sA, sB, sC]
  refine wpAnyH_ready (rs := [5]) (by kernel_rfl) (by simp) ?_
  refine AllReadyH.cons (o := oTrDoes51) rfl (fun K hK => ?_) AllReadyH.nil
  unfold oTrDoes51
  go_simp
  (go_at_call 21; refine (tRem f c0 M r HGd.out HDd.out.pt (HDd.out.ok.le (by omega)) hxf hxc HM.out HR.out).mono ?_; rintro e w6 ⟨F1, rfl, hP1, hU1, hF1⟩)
  refine hK.out _ _ ?_ (fun hHeld => ?_)
  · (exact hHeld.outs hU1 hbx)
  clear hK K
  try simp only [oTrDoes51, Act.put, sA, sB, sC]
  refine wpAnyH_ready (rs := [11]) (by kernel_rfl) (by simp) ?_
  refine AllReadyH.cons (o := oTrDoes52) rfl (fun K hK => ?_) AllReadyH.nil
  unfold oTrDoes52
  go_simp
  (go_at_call 29; refine (rem_any f c0 M r (HDd.out.rt.outs hU1 (fun e => (HDd.out.dis g e).2.1 rfl) (fun h0 b e h9 => (HDd.out.dis b h9).2.2 h0 e)) (by omega) HM.out HR.out).mono ?_; rintro e w7 hRP; obtain rfl := hRP.ret)
  refine hK.out _ _ ?_ (fun hHeld => ?_)
  · (exact hHeld.outs hRP.outs (by omega))
  clear hK K
  try simp only [oTrDoes52, Act.put, sA, sB, sC]
  refine tkY 12 oTrDoes53 ?vv38_186_12 rfl (by kernel_rfl) (by kernel_rfl) (by kernel_rfl) (fun _ _ _ h => h) (by rfl) ?hy38_186_12 (by assumption) ?rest38_186_12
  case hy38_186_12 => (intro w hSw; unfold oTrDoes53; (try dsimp only at hSw); (try go_split_ands); go_simp; all_goals with_reducible rfl)
  try simp only [oTrDoes53, Act.put, sA, sB, sC]
  refine wpAnyH_done (by kernel_rfl) ?_ _
  obtain ⟨A7, n7, c7, _, hD7, hb7⟩ := HDd.out.step hP1 hU1 hF1 hRP hk1.out
  have hbB := hBd.trans hb7
  have hX7 := hHeld
  have hG7 : GT w7 := HGd.out.step hgb hb7
  clear hHeld hP1 hU1 hF1 hRP HDd HGd hBd hb7 hX HG HD hbW
  have HG7 := Lib.hid (hG7 : GT w7)
  have HD7 := Lib.hid hD7
  have hn7 := hD7.n_le
  have HX7 : Hid (AcAt w7 w.heap.size 0 ⟨_, f, c0, nm⟩) := hX7
  obtain ⟨S, hS⟩ : ∃ S, matL M nm = S := ⟨_, rfl⟩
  obtain ⟨v, hv⟩ : ∃ v, nodL M = v := ⟨_, rfl⟩
  have HS := Lib.hid hS
  have HV := Lib.hid hv
  have HK7 : Hid (HsOk 100 M) := hD7.ok.le hm
  have HF7 : Hid (∀ h ∈ M, h.1.length ≤ 1000000) := fun h hh => by have := (hD7.ok.2.2 h hh).1; omega
  have HF5 : Hid (∀ h ∈ M, h.1.length ≤ 500) := fun h hh => by have := (hD7.ok.2.2 h hh).1; omega
  have HL7 := Lib.hid hD7.rt.len
  have HSl : Hid (S.length ≤ 100) := by
    show _ ≤ _
    rw [← hS]
    exact Nat.le_trans (mat_len M nm) HK7.out.2.1
  clear hS hv hG7 hX7
  go_wp2_with fail
  refine wp_region_held_drew (S := (fun w' => Below w7.heap.size w7 w')) (by kernel_rfl) ((Below.refl _ _).drew) (fun hHeld => ?_)
  refine tkY 0 oTrDoes14 ?vv39_187_0 rfl (by kernel_rfl) (by kernel_rfl) (by kernel_rfl) (fun _ _ _ h => h) (by rfl) ?hy39_187_0 (by assumption) ?rest39_187_0
  case hy39_187_0 => (intro w hSw; unfold oTrDoes14; (try dsimp only at hSw); (try go_split_ands); go_simp; all_goals with_reducible rfl)
  try simp only [oTrDoes14, Act.put, sA, sB, sC]
  refine tkY 1 oTrDoes15 ?vv39_187_1 rfl (by kernel_rfl) (by kernel_rfl) (by kernel_rfl) (fun _ _ _ h => h) (by rfl) ?hy39_187_1 (by assumption) ?rest39_187_1
  case hy39_187_1 => (intro w hSw; unfold oTrDoes15; (try dsimp only at hSw); (try go_split_ands); go_simp; all_goals with_reducible rfl)
  try simp only [oTrDoes15, Act.put, sA, sB, sC]
  refine tkY 2 oTrDoes16 ?vv39_188_2 rfl (by kernel_rfl) (by kernel_rfl) (by kernel_rfl) (fun _ _ _ h => h) (by rfl) ?hy39_188_2 (by assumption) ?rest39_188_2
  case hy39_188_2 => (intro w hSw; unfold oTrDoes16; (try dsimp only at hSw); have ⟨q0, q1, q2, q3⟩ := (HX7.out.below hSw).at0; clear hSw; go_simp; all_goals with_reducible rfl)
  try simp only [oTrDoes16, Act.put, sA, sB, sC]
  refine tkY 4 oTrDoes17 ?vv39_189_4 rfl (by kernel_rfl) (by kernel_rfl) (by kernel_rfl) (fun _ _ _ h => h) (by rfl) ?hy39_189_4 (by assumption) ?rest39_189_4
  case hy39_189_4 => (intro w hSw; unfold oTrDoes17; (try dsimp only at hSw); (try go_split_ands); go_simp; all_goals with_reducible rfl)
  try simp only [oTrDoes17, Act.put, sA, sB, sC]
  refine tkY 5 oTrDoes18 ?vv39_189_5 rfl (by kernel_rfl) (by kernel_rfl) (by kernel_rfl) (fun _ _ _ h => h) (by rfl) ?hy39_189_5 (by assumption) ?rest39_189_5
  case hy39_189_5 => (intro w hSw; unfold oTrDoes18; (try dsimp only at hSw); (try go_split_ands); go_simp; all_goals with_reducible rfl)
  try simp only [oTrDoes18, Act.put, sA, sB, sC]
  refine tkY 6 oTrDoes19 ?vv39_190_6 rfl (by kernel_rfl) (by kernel_rfl) (by kernel_rfl) (fun _ _ _ h => h) (by rfl) ?hy39_190_6 (by assumption) ?rest39_190_6
  case hy39_190_6 => (intro w hSw; unfold oTrDoes19; (try dsimp only at hSw); have ⟨q0, q1, q2, q3⟩ := (HX7.out.below hSw).at0; clear hSw; go_simp; all_goals with_reducible rfl)
  try simp only [oTrDoes19, Act.put, sA, sB, sC]
  refine wpAnyH_ready (rs := [3]) (by kernel_rfl) (by simp) ?_
  refine AllReadyH.cons (o := oTrDoes20) rfl (fun K hK => ?_) AllReadyH.nil
  unfold oTrDoes20
  go_simp
  (go_at_call 19; refine (tMatch nm S (HG7.out.below hHeld) (HD7.out.pt.below hHeld) HK7.out (by omega) HS.out).mono ?_; rintro e w8 ⟨A1, c1, rfl, hs1, _, _, hb6⟩)
  refine hK.out _ _ ?_ (fun hHeld => ?_)
  · (exact below_more hHeld hb6)
  clear hK K
  try simp only [oTrDoes20, Act.put, sA, sB, sC]
  refine wpAnyH_ready (rs := [7]) (by kernel_rfl) (by simp) ?_
  refine AllReadyH.cons (o := oTrDoes21) rfl (fun K hK => ?_) AllReadyH.nil
  unfold oTrDoes21
  go_simp
  (go_at_call 30; refine (match_any nm S (HD7.out.rt.below hHeld) (by omega) HF7.out (by omega) HS.out).mono ?_; rintro e w9 ⟨A2, c2, rfl, hs2, _, _, hb7⟩; replace hs1 := hs1.below hb7)
  refine hK.out _ _ ?_ (fun hHeld => ?_)
  · (exact below_more hHeld hb7)
  clear hK K
  try simp only [oTrDoes21, Act.put, sA, sB, sC]
  refine wpAnyH_ready (rs := [8]) (by kernel_rfl) (by simp) ?_
  refine AllReadyH.cons (o := oTrDoes22) rfl (fun K hK => ?_) AllReadyH.nil
  unfold oTrDoes22
  go_simp
  (go_at_call 16; refine (sameTexts_eq A1 S.length c1 S A2 S.length c2 S true _ hs1 hs2 (by have := HSl.out; omega) (by simp)).mono ?_; rintro e w10 ⟨rfl, hb8⟩)
  refine hK.out _ _ ?_ (fun hHeld => ?_)
  · (exact below_more hHeld hb8)
  clear hK K
  try simp only [oTrDoes22, Act.put, sA, sB, sC]
  refine tkY 9 oTrDoes23 ?vv39_191_9 rfl (by kernel_rfl) (by kernel_rfl) (by kernel_rfl) (fun _ _ _ h => h) (by rfl) ?hy39_191_9 (by assumption) ?rest39_191_9
  case hy39_191_9 => (intro w hSw; unfold oTrDoes23; (try dsimp only at hSw); (try go_split_ands); go_simp; all_goals with_reducible rfl)
  try simp only [oTrDoes23, Act.put, sA, sB, sC]
  refine tkY 10 oTrDoes24 ?vv39_191_10 rfl (by kernel_rfl) (by kernel_rfl) (by kernel_rfl) (fun _ _ _ h => h) (by rfl) ?hy39_191_10 (by assumption) ?rest39_191_10
  case hy39_191_10 => (intro w hSw; unfold oTrDoes24; (try dsimp only at hSw); (try go_split_ands); go_simp; all_goals with_reducible rfl)
  try simp only [oTrDoes24, Act.put, sA, sB, sC]
  refine tkY 12 oTrDoes25 ?vv39_191_12 rfl (by kernel_rfl) (by kernel_rfl) (by kernel_rfl) (fun _ _ _ h => h) (by rfl) ?hy39_191_12 (by assumption) ?rest39_191_12
  case hy39_191_12 => (intro w hSw; unfold oTrDoes25; (try dsimp only at hSw); (try go_split_ands); go_simp; all_goals with_reducible rfl)
  try simp only [oTrDoes25, Act.put, sA, sB, sC]
  refine tkY 13 oTrDoes26 ?vv39_191_13 rfl (by kernel_rfl) (by kernel_rfl) (by kernel_rfl) (fun _ _ _ h => h) (by rfl) ?hy39_191_13 (by assumption) ?rest39_191_13
  case hy39_191_13 => (intro w hSw; unfold oTrDoes26; (try dsimp only at hSw); (try go_split_ands); go_simp; all_goals with_reducible rfl)
  try simp only [oTrDoes26, Act.put, sA, sB, sC]
  refine tkY 14 oTrDoes27 ?vv39_191_14 rfl (by kernel_rfl) (by kernel_rfl) (by kernel_rfl) (fun _ _ _ h => h) (by rfl) ?hy39_191_14 (by assumption) ?rest39_191_14
  case hy39_191_14 => (intro w hSw; unfold oTrDoes27; (try dsimp only at hSw); (try go_split_ands); go_simp; all_goals with_reducible rfl)
  try simp only [oTrDoes27, Act.put, sA, sB, sC]
  refine tkY 15 oTrDoes28 ?vv39_192_15 rfl (by kernel_rfl) (by kernel_rfl) (by kernel_rfl) (fun _ _ _ h => h) (by rfl) ?hy39_192_15 (by assumption) ?rest39_192_15
  case hy39_192_15 => (intro w hSw; unfold oTrDoes28; (try dsimp only at hSw); have hq := (HD7.out.rt.below hSw).cell; clear hSw; go_simp; all_goals with_reducible rfl)
  try simp only [oTrDoes28, Act.put, sA, sB, sC]
  refine tkY 16 oTrDoes29 ?vv39_193_16 rfl (by kernel_rfl) (by kernel_rfl) (by kernel_rfl) (fun _ _ _ h => h) (by rfl) ?hy39_193_16 (by assumption) ?rest39_193_16
  case hy39_193_16 => (intro w hSw; unfold oTrDoes29; (try dsimp only at hSw); (try go_split_ands); go_simp; all_goals with_reducible rfl)
  try simp only [oTrDoes29, Act.put, sA, sB, sC]
  refine wpAnyH_ready (rs := [11]) (by kernel_rfl) (by simp) ?_
  refine AllReadyH.cons (o := oTrDoes30) rfl (fun K hK => ?_) AllReadyH.nil
  unfold oTrDoes30
  go_simp
  (go_at_call 23; refine (tLen n7 (HG7.out.below hHeld) (HD7.out.pt.below hHeld) HK7.out HL7.out).mono ?_; rintro e w11 ⟨rfl, hb9⟩)
  refine hK.out _ _ ?_ (fun hHeld => ?_)
  · (exact below_more hHeld hb9)
  clear hK K
  try simp only [oTrDoes30, Act.put, sA, sB, sC]
  refine tkY 17 oTrDoes31 ?vv39_194_17 rfl (by kernel_rfl) (by kernel_rfl) (by kernel_rfl) (fun _ _ _ h => h) (by rfl) ?hy39_194_17 (by assumption) ?rest39_194_17
  case hy39_194_17 => (intro w hSw; unfold oTrDoes31; (try dsimp only at hSw); (try go_split_ands); go_simp; all_goals with_reducible rfl)
  try simp only [oTrDoes31, Act.put, sA, sB, sC]
  refine tkY 18 oTrDoes32 ?vv39_194_18 rfl (by kernel_rfl) (by kernel_rfl) (by kernel_rfl) (fun _ _ _ h => h) (by rfl) ?hy39_194_18 (by assumption) ?rest39_194_18
  case hy39_194_18 => (intro w hSw; unfold oTrDoes32; (try dsimp only at hSw); (try go_split_ands); go_simp; all_goals with_reducible rfl)
  try simp only [oTrDoes32, Act.put, sA, sB, sC]
  refine tkY 19 oTrDoes33 ?vv39_194_19 rfl (by kernel_rfl) (by kernel_rfl) (by kernel_rfl) (fun _ _ _ h => h) (by rfl) ?hy39_194_19 (by assumption) ?rest39_194_19
  case hy39_194_19 => (intro w hSw; unfold oTrDoes33; (try dsimp only at hSw); (try go_split_ands); go_simp; all_goals with_reducible rfl)
  try simp only [oTrDoes33, Act.put, sA, sB, sC]
  refine tkY 20 oTrDoes34 ?vv39_194_20 rfl (by kernel_rfl) (by kernel_rfl) (by kernel_rfl) (fun _ _ _ h => h) (by rfl) ?hy39_194_20 (by assumption) ?rest39_194_20
  case hy39_194_20 => (intro w hSw; unfold oTrDoes34; (try dsimp only at hSw); (try go_split_ands); go_simp; all_goals with_reducible rfl)
  try simp only [oTrDoes34, Act.put, sA, sB, sC]
  refine tkY 22 oTrDoes35 ?vv39_194_22 rfl (by kernel_rfl) (by kernel_rfl) (by kernel_rfl) (fun _ _ _ h => h) (by rfl) ?hy39_194_22 (by assumption) ?rest39_194_22
  case hy39_194_22 => (intro w hSw; unfold oTrDoes35; (try dsimp only at hSw); (try go_split_ands); go_simp; all_goals with_reducible rfl)
  try simp only [oTrDoes35, Act.put, sA, sB, sC]
  refine wpAnyH_ready (rs := [21]) (by kernel_rfl) (by simp) ?_
  refine AllReadyH.cons (o := oTrDoes36) rfl (fun K hK => ?_) AllReadyH.nil
  unfold oTrDoes36
  go_simp
  (go_at_call 22; refine (tNodes v (HG7.out.below hHeld) (HD7.out.pt.below hHeld) HK7.out HV.out).mono ?_; rintro e w12 ⟨rfl, hb10⟩)
  refine hK.out _ _ ?_ (fun hHeld => ?_)
  · (exact below_more hHeld hb10)
  clear hK K
  try simp only [oTrDoes36, Act.put, sA, sB, sC]
  refine wpAnyH_ready (rs := [23]) (by kernel_rfl) (by simp) ?_
  refine AllReadyH.cons (o := oTrDoes37) rfl (fun K hK => ?_) AllReadyH.nil
  unfold oTrDoes37
  go_simp
  (go_at_call 31; refine (nodes_any v (HD7.out.rt.below hHeld) (by omega) HF5.out HV.out).mono ?_; rintro e w13 ⟨rfl, hb11⟩)
  refine hK.out _ _ ?_ (fun hHeld => ?_)
  · (exact below_more hHeld hb11)
  clear hK K
  try simp only [oTrDoes37, Act.put, sA, sB, sC]
  refine tkY 24 oTrDoes38 ?vv39_195_24 rfl (by kernel_rfl) (by kernel_rfl) (by kernel_rfl) (fun _ _ _ h => h) (by rfl) ?hy39_195_24 (by assumption) ?rest39_195_24
  case hy39_195_24 => (intro w hSw; unfold oTrDoes38; (try dsimp only at hSw); (try go_split_ands); go_simp; all_goals with_reducible rfl)
  try simp only [oTrDoes38, Act.put, sA, sB, sC]
  refine tkY 25 oTrDoes39 ?vv39_195_25 rfl (by kernel_rfl) (by kernel_rfl) (by kernel_rfl) (fun _ _ _ h => h) (by rfl) ?hy39_195_25 (by assumption) ?rest39_195_25
  case hy39_195_25 => (intro w hSw; unfold oTrDoes39; (try dsimp only at hSw); (try go_split_ands); go_simp; all_goals with_reducible rfl)
  try simp only [oTrDoes39, Act.put, sA, sB, sC]
  refine tkY 26 oTrDoes40 ?vv39_195_26 rfl (by kernel_rfl) (by kernel_rfl) (by kernel_rfl) (fun _ _ _ h => h) (by rfl) ?hy39_195_26 (by assumption) ?rest39_195_26
  case hy39_195_26 => (intro w hSw; unfold oTrDoes40; (try dsimp only at hSw); (try go_split_ands); go_simp; all_goals with_reducible rfl)
  try simp only [oTrDoes40, Act.put, sA, sB, sC]
  refine wpAnyH_done (by kernel_rfl) ?_ _
  have hD9 := HD7.out.below hHeld
  have hb9 := hbB.trans (hHeld.mono (by have := hD7.gB; have := hD7.rt.lt; omega))
  clear hHeld
  go_wp2_with fail
  go_ret
  exact ⟨_, _, _, _, rfl, hD9, hb9⟩
set_option maxHeartbeats 2000000 in
theorem does_other {M : List Hn} (x : Ac) (hG : GT w) (hgb : GB B) (hD : DS B w t F g A n c M m) (hm : m ≤ 100) (h0 : x.d ≠ 0) (h1 : x.d ≠ 1) (hx : x.f.length ≤ 300 ∧ x.c.length ≤ 300 ∧ x.nm.length ≤ 300) :
    Calls Tryz.prog 12 #[.pointer (some ⟨t, 0, none⟩), .pointer (some ⟨g, 0, none⟩), .agg #[.int .u8 x.d, .string ⟨x.f.toArray⟩, .string ⟨x.c.toArray⟩, .string ⟨x.nm.toArray⟩]] w fun e w' => DP B w t g M m e w' := by
  obtain ⟨d, f, c0, nm⟩ := x
  dsimp only at h0 h1 hx ⊢
  obtain ⟨hxf, hxc, hxn⟩ := hx
  have HD := Lib.hid hD
  have HG := Lib.hid hG
  have e0 : (d == 0) = false := by simpa using h0
  have e1 : (d == 1) = false := by simpa using h1
  clear hD hG h0 h1
  obtain ⟨W, hW⟩ : ∃ W, W = w.alloc (.cells #[.int .u8 d, .string ⟨f.toArray⟩, .string ⟨c0.toArray⟩, .string ⟨nm.toArray⟩] 33) := ⟨_, rfl⟩
  have hbW : Below w.heap.size w W := by rw [hW]; exact below_alloc (Below.refl _ _) _
  have hX : Hid (AcAt W w.heap.size 0 ⟨d, f, c0, nm⟩) := by
    show AcAt _ _ _ _
    rw [hW]
    exact ⟨by rw [World.cell?_alloc_new]; rfl, by rw [World.cell?_alloc_new]; rfl, by rw [World.cell?_alloc_new]; rfl, by rw [World.cell?_alloc_new]; rfl⟩
  have hD7 := HD.out.below hbW
  have hG7 := HG.out.below hbW
  have hX7 := hX.out
  have hbB : Below B w W := hbW.mono (by have := HD.out.gB; have := HD.out.rt.lt; omega)
  go_enter Tryz.func12, Tryz.ntmps12
  go_wp2_with fail
  rw [← hW]
  clear hW hX HD HG hbW
  obtain ⟨w7, hw7⟩ : ∃ w7, w7 = W := ⟨_, rfl⟩
  rw [← hw7] at hD7 hG7 hX7 hbB ⊢
  clear hw7 W
  obtain ⟨n7, hn79⟩ : ∃ n7, n7 = n := ⟨_, rfl⟩
  rw [← hn79] at hD7
  clear hn79
  have HG7 := Lib.hid (hG7 : GT w7)
  have HD7 := Lib.hid hD7
  have hn7 := hD7.n_le
  have HX7 : Hid (AcAt w7 w.heap.size 0 ⟨_, f, c0, nm⟩) := hX7
  obtain ⟨S, hS⟩ : ∃ S, matL M nm = S := ⟨_, rfl⟩
  obtain ⟨v, hv⟩ : ∃ v, nodL M = v := ⟨_, rfl⟩
  have HS := Lib.hid hS
  have HV := Lib.hid hv
  have HK7 : Hid (HsOk 100 M) := hD7.ok.le hm
  have HF7 : Hid (∀ h ∈ M, h.1.length ≤ 1000000) := fun h hh => by have := (hD7.ok.2.2 h hh).1; omega
  have HF5 : Hid (∀ h ∈ M, h.1.length ≤ 500) := fun h hh => by have := (hD7.ok.2.2 h hh).1; omega
  have HL7 := Lib.hid hD7.rt.len
  have HSl : Hid (S.length ≤ 100) := by
    show _ ≤ _
    rw [← hS]
    exact Nat.le_trans (mat_len M nm) HK7.out.2.1
  clear hS hv hG7 hX7
  go_wp2_with fail
  refine wp_region_held_drew (S := (fun w' => Below w7.heap.size w7 w')) (by kernel_rfl) ((Below.refl _ _).drew) (fun hHeld => ?_)
  refine tkY 0 oTrDoes14 ?vv40_196_0 rfl (by kernel_rfl) (by kernel_rfl) (by kernel_rfl) (fun _ _ _ h => h) (by rfl) ?hy40_196_0 (by assumption) ?rest40_196_0
  case hy40_196_0 => (intro w hSw; unfold oTrDoes14; (try dsimp only at hSw); (try go_split_ands); go_simp; all_goals with_reducible rfl)
  try simp only [oTrDoes14, Act.put, sA, sB, sC]
  refine tkY 1 oTrDoes15 ?vv40_196_1 rfl (by kernel_rfl) (by kernel_rfl) (by kernel_rfl) (fun _ _ _ h => h) (by rfl) ?hy40_196_1 (by assumption) ?rest40_196_1
  case hy40_196_1 => (intro w hSw; unfold oTrDoes15; (try dsimp only at hSw); (try go_split_ands); go_simp; all_goals with_reducible rfl)
  try simp only [oTrDoes15, Act.put, sA, sB, sC]
  refine tkY 2 oTrDoes16 ?vv40_197_2 rfl (by kernel_rfl) (by kernel_rfl) (by kernel_rfl) (fun _ _ _ h => h) (by rfl) ?hy40_197_2 (by assumption) ?rest40_197_2
  case hy40_197_2 => (intro w hSw; unfold oTrDoes16; (try dsimp only at hSw); have ⟨q0, q1, q2, q3⟩ := (HX7.out.below hSw).at0; clear hSw; go_simp; all_goals with_reducible rfl)
  try simp only [oTrDoes16, Act.put, sA, sB, sC]
  refine tkY 4 oTrDoes17 ?vv40_198_4 rfl (by kernel_rfl) (by kernel_rfl) (by kernel_rfl) (fun _ _ _ h => h) (by rfl) ?hy40_198_4 (by assumption) ?rest40_198_4
  case hy40_198_4 => (intro w hSw; unfold oTrDoes17; (try dsimp only at hSw); (try go_split_ands); go_simp; all_goals with_reducible rfl)
  try simp only [oTrDoes17, Act.put, sA, sB, sC]
  refine tkY 5 oTrDoes18 ?vv40_198_5 rfl (by kernel_rfl) (by kernel_rfl) (by kernel_rfl) (fun _ _ _ h => h) (by rfl) ?hy40_198_5 (by assumption) ?rest40_198_5
  case hy40_198_5 => (intro w hSw; unfold oTrDoes18; (try dsimp only at hSw); (try go_split_ands); go_simp; all_goals with_reducible rfl)
  try simp only [oTrDoes18, Act.put, sA, sB, sC]
  refine tkY 6 oTrDoes19 ?vv40_199_6 rfl (by kernel_rfl) (by kernel_rfl) (by kernel_rfl) (fun _ _ _ h => h) (by rfl) ?hy40_199_6 (by assumption) ?rest40_199_6
  case hy40_199_6 => (intro w hSw; unfold oTrDoes19; (try dsimp only at hSw); have ⟨q0, q1, q2, q3⟩ := (HX7.out.below hSw).at0; clear hSw; go_simp; all_goals with_reducible rfl)
  try simp only [oTrDoes19, Act.put, sA, sB, sC]
  refine wpAnyH_ready (rs := [3]) (by kernel_rfl) (by simp) ?_
  refine AllReadyH.cons (o := oTrDoes20) rfl (fun K hK => ?_) AllReadyH.nil
  unfold oTrDoes20
  go_simp
  (go_at_call 19; refine (tMatch nm S (HG7.out.below hHeld) (HD7.out.pt.below hHeld) HK7.out (by omega) HS.out).mono ?_; rintro e w8 ⟨A1, c1, rfl, hs1, _, _, hb6⟩)
  refine hK.out _ _ ?_ (fun hHeld => ?_)
  · (exact below_more hHeld hb6)
  clear hK K
  try simp only [oTrDoes20, Act.put, sA, sB, sC]
  refine wpAnyH_ready (rs := [7]) (by kernel_rfl) (by simp) ?_
  refine AllReadyH.cons (o := oTrDoes21) rfl (fun K hK => ?_) AllReadyH.nil
  unfold oTrDoes21
  go_simp
  (go_at_call 30; refine (match_any nm S (HD7.out.rt.below hHeld) (by omega) HF7.out (by omega) HS.out).mono ?_; rintro e w9 ⟨A2, c2, rfl, hs2, _, _, hb7⟩; replace hs1 := hs1.below hb7)
  refine hK.out _ _ ?_ (fun hHeld => ?_)
  · (exact below_more hHeld hb7)
  clear hK K
  try simp only [oTrDoes21, Act.put, sA, sB, sC]
  refine wpAnyH_ready (rs := [8]) (by kernel_rfl) (by simp) ?_
  refine AllReadyH.cons (o := oTrDoes22) rfl (fun K hK => ?_) AllReadyH.nil
  unfold oTrDoes22
  go_simp
  (go_at_call 16; refine (sameTexts_eq A1 S.length c1 S A2 S.length c2 S true _ hs1 hs2 (by have := HSl.out; omega) (by simp)).mono ?_; rintro e w10 ⟨rfl, hb8⟩)
  refine hK.out _ _ ?_ (fun hHeld => ?_)
  · (exact below_more hHeld hb8)
  clear hK K
  try simp only [oTrDoes22, Act.put, sA, sB, sC]
  refine tkY 9 oTrDoes23 ?vv40_200_9 rfl (by kernel_rfl) (by kernel_rfl) (by kernel_rfl) (fun _ _ _ h => h) (by rfl) ?hy40_200_9 (by assumption) ?rest40_200_9
  case hy40_200_9 => (intro w hSw; unfold oTrDoes23; (try dsimp only at hSw); (try go_split_ands); go_simp; all_goals with_reducible rfl)
  try simp only [oTrDoes23, Act.put, sA, sB, sC]
  refine tkY 10 oTrDoes24 ?vv40_200_10 rfl (by kernel_rfl) (by kernel_rfl) (by kernel_rfl) (fun _ _ _ h => h) (by rfl) ?hy40_200_10 (by assumption) ?rest40_200_10
  case hy40_200_10 => (intro w hSw; unfold oTrDoes24; (try dsimp only at hSw); (try go_split_ands); go_simp; all_goals with_reducible rfl)
  try simp only [oTrDoes24, Act.put, sA, sB, sC]
  refine tkY 12 oTrDoes25 ?vv40_200_12 rfl (by kernel_rfl) (by kernel_rfl) (by kernel_rfl) (fun _ _ _ h => h) (by rfl) ?hy40_200_12 (by assumption) ?rest40_200_12
  case hy40_200_12 => (intro w hSw; unfold oTrDoes25; (try dsimp only at hSw); (try go_split_ands); go_simp; all_goals with_reducible rfl)
  try simp only [oTrDoes25, Act.put, sA, sB, sC]
  refine tkY 13 oTrDoes26 ?vv40_200_13 rfl (by kernel_rfl) (by kernel_rfl) (by kernel_rfl) (fun _ _ _ h => h) (by rfl) ?hy40_200_13 (by assumption) ?rest40_200_13
  case hy40_200_13 => (intro w hSw; unfold oTrDoes26; (try dsimp only at hSw); (try go_split_ands); go_simp; all_goals with_reducible rfl)
  try simp only [oTrDoes26, Act.put, sA, sB, sC]
  refine tkY 14 oTrDoes27 ?vv40_200_14 rfl (by kernel_rfl) (by kernel_rfl) (by kernel_rfl) (fun _ _ _ h => h) (by rfl) ?hy40_200_14 (by assumption) ?rest40_200_14
  case hy40_200_14 => (intro w hSw; unfold oTrDoes27; (try dsimp only at hSw); (try go_split_ands); go_simp; all_goals with_reducible rfl)
  try simp only [oTrDoes27, Act.put, sA, sB, sC]
  refine tkY 15 oTrDoes28 ?vv40_201_15 rfl (by kernel_rfl) (by kernel_rfl) (by kernel_rfl) (fun _ _ _ h => h) (by rfl) ?hy40_201_15 (by assumption) ?rest40_201_15
  case hy40_201_15 => (intro w hSw; unfold oTrDoes28; (try dsimp only at hSw); have hq := (HD7.out.rt.below hSw).cell; clear hSw; go_simp; all_goals with_reducible rfl)
  try simp only [oTrDoes28, Act.put, sA, sB, sC]
  refine tkY 16 oTrDoes29 ?vv40_202_16 rfl (by kernel_rfl) (by kernel_rfl) (by kernel_rfl) (fun _ _ _ h => h) (by rfl) ?hy40_202_16 (by assumption) ?rest40_202_16
  case hy40_202_16 => (intro w hSw; unfold oTrDoes29; (try dsimp only at hSw); (try go_split_ands); go_simp; all_goals with_reducible rfl)
  try simp only [oTrDoes29, Act.put, sA, sB, sC]
  refine wpAnyH_ready (rs := [11]) (by kernel_rfl) (by simp) ?_
  refine AllReadyH.cons (o := oTrDoes30) rfl (fun K hK => ?_) AllReadyH.nil
  unfold oTrDoes30
  go_simp
  (go_at_call 23; refine (tLen n7 (HG7.out.below hHeld) (HD7.out.pt.below hHeld) HK7.out HL7.out).mono ?_; rintro e w11 ⟨rfl, hb9⟩)
  refine hK.out _ _ ?_ (fun hHeld => ?_)
  · (exact below_more hHeld hb9)
  clear hK K
  try simp only [oTrDoes30, Act.put, sA, sB, sC]
  refine tkY 17 oTrDoes31 ?vv40_203_17 rfl (by kernel_rfl) (by kernel_rfl) (by kernel_rfl) (fun _ _ _ h => h) (by rfl) ?hy40_203_17 (by assumption) ?rest40_203_17
  case hy40_203_17 => (intro w hSw; unfold oTrDoes31; (try dsimp only at hSw); (try go_split_ands); go_simp; all_goals with_reducible rfl)
  try simp only [oTrDoes31, Act.put, sA, sB, sC]
  refine tkY 18 oTrDoes32 ?vv40_203_18 rfl (by kernel_rfl) (by kernel_rfl) (by kernel_rfl) (fun _ _ _ h => h) (by rfl) ?hy40_203_18 (by assumption) ?rest40_203_18
  case hy40_203_18 => (intro w hSw; unfold oTrDoes32; (try dsimp only at hSw); (try go_split_ands); go_simp; all_goals with_reducible rfl)
  try simp only [oTrDoes32, Act.put, sA, sB, sC]
  refine tkY 19 oTrDoes33 ?vv40_203_19 rfl (by kernel_rfl) (by kernel_rfl) (by kernel_rfl) (fun _ _ _ h => h) (by rfl) ?hy40_203_19 (by assumption) ?rest40_203_19
  case hy40_203_19 => (intro w hSw; unfold oTrDoes33; (try dsimp only at hSw); (try go_split_ands); go_simp; all_goals with_reducible rfl)
  try simp only [oTrDoes33, Act.put, sA, sB, sC]
  refine tkY 20 oTrDoes34 ?vv40_203_20 rfl (by kernel_rfl) (by kernel_rfl) (by kernel_rfl) (fun _ _ _ h => h) (by rfl) ?hy40_203_20 (by assumption) ?rest40_203_20
  case hy40_203_20 => (intro w hSw; unfold oTrDoes34; (try dsimp only at hSw); (try go_split_ands); go_simp; all_goals with_reducible rfl)
  try simp only [oTrDoes34, Act.put, sA, sB, sC]
  refine tkY 22 oTrDoes35 ?vv40_203_22 rfl (by kernel_rfl) (by kernel_rfl) (by kernel_rfl) (fun _ _ _ h => h) (by rfl) ?hy40_203_22 (by assumption) ?rest40_203_22
  case hy40_203_22 => (intro w hSw; unfold oTrDoes35; (try dsimp only at hSw); (try go_split_ands); go_simp; all_goals with_reducible rfl)
  try simp only [oTrDoes35, Act.put, sA, sB, sC]
  refine wpAnyH_ready (rs := [21]) (by kernel_rfl) (by simp) ?_
  refine AllReadyH.cons (o := oTrDoes36) rfl (fun K hK => ?_) AllReadyH.nil
  unfold oTrDoes36
  go_simp
  (go_at_call 22; refine (tNodes v (HG7.out.below hHeld) (HD7.out.pt.below hHeld) HK7.out HV.out).mono ?_; rintro e w12 ⟨rfl, hb10⟩)
  refine hK.out _ _ ?_ (fun hHeld => ?_)
  · (exact below_more hHeld hb10)
  clear hK K
  try simp only [oTrDoes36, Act.put, sA, sB, sC]
  refine wpAnyH_ready (rs := [23]) (by kernel_rfl) (by simp) ?_
  refine AllReadyH.cons (o := oTrDoes37) rfl (fun K hK => ?_) AllReadyH.nil
  unfold oTrDoes37
  go_simp
  (go_at_call 31; refine (nodes_any v (HD7.out.rt.below hHeld) (by omega) HF5.out HV.out).mono ?_; rintro e w13 ⟨rfl, hb11⟩)
  refine hK.out _ _ ?_ (fun hHeld => ?_)
  · (exact below_more hHeld hb11)
  clear hK K
  try simp only [oTrDoes37, Act.put, sA, sB, sC]
  refine tkY 24 oTrDoes38 ?vv40_204_24 rfl (by kernel_rfl) (by kernel_rfl) (by kernel_rfl) (fun _ _ _ h => h) (by rfl) ?hy40_204_24 (by assumption) ?rest40_204_24
  case hy40_204_24 => (intro w hSw; unfold oTrDoes38; (try dsimp only at hSw); (try go_split_ands); go_simp; all_goals with_reducible rfl)
  try simp only [oTrDoes38, Act.put, sA, sB, sC]
  refine tkY 25 oTrDoes39 ?vv40_204_25 rfl (by kernel_rfl) (by kernel_rfl) (by kernel_rfl) (fun _ _ _ h => h) (by rfl) ?hy40_204_25 (by assumption) ?rest40_204_25
  case hy40_204_25 => (intro w hSw; unfold oTrDoes39; (try dsimp only at hSw); (try go_split_ands); go_simp; all_goals with_reducible rfl)
  try simp only [oTrDoes39, Act.put, sA, sB, sC]
  refine tkY 26 oTrDoes40 ?vv40_204_26 rfl (by kernel_rfl) (by kernel_rfl) (by kernel_rfl) (fun _ _ _ h => h) (by rfl) ?hy40_204_26 (by assumption) ?rest40_204_26
  case hy40_204_26 => (intro w hSw; unfold oTrDoes40; (try dsimp only at hSw); (try go_split_ands); go_simp; all_goals with_reducible rfl)
  try simp only [oTrDoes40, Act.put, sA, sB, sC]
  refine wpAnyH_done (by kernel_rfl) ?_ _
  have hD9 := HD7.out.below hHeld
  have hb9 := hbB.trans (hHeld.mono (by have := hD7.gB; have := hD7.rt.lt; omega))
  clear hHeld
  go_wp2_with fail
  go_ret
  exact ⟨_, _, _, _, rfl, hD9, hb9⟩
/-- An act. -/
theorem does_any (x : Ac) (M : List Hn) (hG : GT w) (hgb : GB B) (hD : DS B w t F g A n c L m) (hm : m + 1 ≤ 100) (hx : x.f.length ≤ 300 ∧ x.c.length ≤ 300 ∧ x.nm.length ≤ 300) (hM : actL L x = M) :
    Calls Tryz.prog 12 #[.pointer (some ⟨t, 0, none⟩), .pointer (some ⟨g, 0, none⟩), .agg #[.int .u8 x.d, .string ⟨x.f.toArray⟩, .string ⟨x.c.toArray⟩, .string ⟨x.nm.toArray⟩]] w fun e w' => DP B w t g M (m + 1) e w' := by
  unfold actL at hM
  by_cases h0 : x.d = 0
  · rw [if_pos h0] at hM
    exact does_add x M hG hgb hD hm h0 hx hM
  · rw [if_neg h0] at hM
    by_cases h1 : x.d = 1
    · rw [if_pos h1] at hM
      exact does_rem x M hG hgb hD hm h1 hx hM
    · rw [if_neg h1] at hM
      subst hM
      refine (does_other x hG hgb hD (by omega) h0 h1 hx).mono ?_
      rintro e w' ⟨F', A', n', c', he, hD', hb⟩
      exact ⟨F', A', n', c', he, ⟨hD'.pt, hD'.rt, hD'.dis, hD'.gB, hD'.ok.le (by omega)⟩, hb⟩
end
end Go.Proofs.YtipdmfnkkkdlbaaGreatDoor
