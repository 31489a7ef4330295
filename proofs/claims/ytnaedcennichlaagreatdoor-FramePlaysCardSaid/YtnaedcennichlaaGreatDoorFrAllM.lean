/-
  FrKit, FrMath, FrOwn, FrDec, FrNext, FrDrain, FrSame, FrLaw in one. (By tools/merge.py.)
-/
import Derived.Test.YtnaedcennichlaaGreatDoorPkKit
import Derived.Lib.OthersKept
import Derived.Lib.AppendStr
import Derived.Laws.CopyOwn
import Derived.Laws.AppendOwnNone
import Derived.Test.YtnaedcennichlaaGreatDoorMc
import Derived.Test.YtnaedcennichlaaGreatDoorMd
import Derived.Test.YtnaedcennichlaaGreatDoorRdDec3
import Derived.Test.YtnaedcennichlaaGreatDoorPkV
set_option linter.unusedSimpArgs false
set_option linter.unusedVariables false
/-
  frame: a framer in the world, and what its methods do that read no packet.
-/
namespace Go.Proofs.YtnaedcennichlaaGreatDoor
section
open Go.RowKit
def oFrAllM1 : Oper := ({ dst := some 12, op := Go.Op.move (Go.Operand.tmp 0), type := 26, pos := "frame.go:105", after := #[], guard := none } : Oper)
def oFrAllM2 : Oper := ({ dst := some 13, op := Go.Op.nilCheck (Go.Operand.tmp 12), type := 0, pos := "frame.go:105", after := #[{ on := 0, ground := Go.Ground.data }], guard := none } : Oper)
def oFrAllM3 : Oper := ({ dst := some 14, op := Go.Op.fieldAddr 53 (Go.Operand.tmp 13) 2, type := 0, pos := "frame.go:105", after := #[{ on := 1, ground := Go.Ground.data }], guard := none } : Oper)
def oFrAllM4 : Oper := ({ dst := some 15, op := Go.Op.load 3 (Go.Operand.tmp 14), type := 3, pos := "frame.go:105", after := #[{ on := 2, ground := Go.Ground.data }], guard := none } : Oper)
def oFrAllM5 : Oper := ({ dst := some 16, op := Go.Op.move (Go.Operand.tmp 0), type := 26, pos := "frame.go:105", after := #[], guard := none } : Oper)
def oFrAllM6 : Oper := ({ dst := some 17, op := Go.Op.call { callee := Go.Callee.value (Go.Operand.func 13), args := #[Go.Operand.tmp 16], argTypes := #[26] }, type := 3, pos := "frame.go:105", after := #[{ on := 4, ground := Go.Ground.data }], guard := none } : Oper)
def oFrAllM7 : Oper := ({ dst := some 18, op := Go.Op.binOp Go.BinOp.gtr 3 (Go.Operand.tmp 15) (Go.Operand.tmp 17) 3, type := 4, pos := "frame.go:105", after := #[{ on := 3, ground := Go.Ground.data }, { on := 5, ground := Go.Ground.data }], guard := none } : Oper)
def oFrAllM8 : Oper := ({ dst := some 15, op := Go.Op.build 36 #[], type := 36, pos := "frame.go:44", after := #[], guard := none } : Oper)
def oFrAllM9 : Oper := ({ dst := some 16, op := Go.Op.move (Go.Operand.tmp 0), type := 26, pos := "frame.go:44", after := #[{ on := 6, ground := Go.Ground.gcOnly Go.Departure.lateStores }], guard := none } : Oper)
def oFrAllM10 : Oper := ({ dst := some 17, op := Go.Op.nilCheck (Go.Operand.tmp 16), type := 0, pos := "frame.go:44", after := #[{ on := 1, ground := Go.Ground.data }, { on := 6, ground := Go.Ground.gcOnly Go.Departure.lateStores }], guard := none } : Oper)
def oFrAllM11 : Oper := ({ dst := some 18, op := Go.Op.fieldAddr 53 (Go.Operand.tmp 17) 3, type := 0, pos := "frame.go:44", after := #[{ on := 2, ground := Go.Ground.data }, { on := 6, ground := Go.Ground.gcOnly Go.Departure.lateStores }], guard := none } : Oper)
def oFrAllM12 : Oper := ({ dst := some 19, op := Go.Op.load 37 (Go.Operand.tmp 18), type := 37, pos := "frame.go:44", after := #[{ on := 3, ground := Go.Ground.data }, { on := 6, ground := Go.Ground.gcOnly Go.Departure.lateStores }], guard := none } : Oper)
def oFrAllM13 : Oper := ({ dst := none, op := Go.Op.store 36 (Go.Operand.tmp 2) (Go.Operand.tmp 15), type := 0, pos := "frame.go:44", after := #[{ on := 0, ground := Go.Ground.data }, { on := 0, ground := Go.Ground.phase }, { on := 1, ground := Go.Ground.textOnly Go.Departure.lateStores }, { on := 2, ground := Go.Ground.textOnly Go.Departure.lateStores }, { on := 3, ground := Go.Ground.textOnly Go.Departure.lateStores }, { on := 4, ground := Go.Ground.textOnly Go.Departure.lateStores }], guard := none } : Oper)
def oFrAllM14 : Oper := ({ dst := some 3, op := Go.Op.assign (Go.Operand.const (Go.Value.bool false)), type := 4, pos := "frame.go:44", after := #[{ on := 5, ground := Go.Ground.chain }, { on := 0, ground := Go.Ground.phase }, { on := 1, ground := Go.Ground.textOnly Go.Departure.lateStores }, { on := 2, ground := Go.Ground.textOnly Go.Departure.lateStores }, { on := 3, ground := Go.Ground.textOnly Go.Departure.lateStores }, { on := 4, ground := Go.Ground.textOnly Go.Departure.lateStores }, { on := 5, ground := Go.Ground.phase }], guard := none } : Oper)
def oFrAllM15 : Oper := ({ dst := some 4, op := Go.Op.assign (Go.Operand.tmp 19), type := 37, pos := "frame.go:44", after := #[{ on := 4, ground := Go.Ground.data }, { on := 6, ground := Go.Ground.chain }, { on := 0, ground := Go.Ground.phase }, { on := 1, ground := Go.Ground.phase }, { on := 2, ground := Go.Ground.phase }, { on := 3, ground := Go.Ground.phase }, { on := 4, ground := Go.Ground.phase }, { on := 5, ground := Go.Ground.phase }, { on := 6, ground := Go.Ground.phase }], guard := none } : Oper)
def oFrAllM16 : Oper := ({ dst := some 17, op := Go.Op.move (Go.Operand.tmp 0), type := 47, pos := "law.go:40", after := #[], guard := none } : Oper)
def oFrAllM17 : Oper := ({ dst := some 18, op := Go.Op.move (Go.Operand.tmp 5), type := 3, pos := "law.go:40", after := #[], guard := none } : Oper)
def oFrAllM18 : Oper := ({ dst := some 19, op := Go.Op.indexAddr 47 (Go.Operand.tmp 17) (Go.Operand.tmp 18), type := 0, pos := "law.go:40", after := #[{ on := 0, ground := Go.Ground.data }, { on := 1, ground := Go.Ground.data }], guard := none } : Oper)
def oFrAllM19 : Oper := ({ dst := some 20, op := Go.Op.fieldAddr 51 (Go.Operand.tmp 19) 1, type := 0, pos := "law.go:40", after := #[{ on := 2, ground := Go.Ground.data }], guard := none } : Oper)
def oFrAllM20 : Oper := ({ dst := some 21, op := Go.Op.load 37 (Go.Operand.tmp 20), type := 37, pos := "law.go:40", after := #[{ on := 3, ground := Go.Ground.data }], guard := none } : Oper)
def oFrAllM21 : Oper := ({ dst := some 22, op := Go.Op.move (Go.Operand.tmp 1), type := 47, pos := "law.go:40", after := #[], guard := none } : Oper)
def oFrAllM22 : Oper := ({ dst := some 23, op := Go.Op.move (Go.Operand.tmp 5), type := 3, pos := "law.go:40", after := #[], guard := none } : Oper)
def oFrAllM23 : Oper := ({ dst := some 24, op := Go.Op.indexAddr 47 (Go.Operand.tmp 22) (Go.Operand.tmp 23), type := 0, pos := "law.go:40", after := #[{ on := 5, ground := Go.Ground.data }, { on := 6, ground := Go.Ground.data }], guard := none } : Oper)
def oFrAllM24 : Oper := ({ dst := some 25, op := Go.Op.fieldAddr 51 (Go.Operand.tmp 24) 1, type := 0, pos := "law.go:40", after := #[{ on := 7, ground := Go.Ground.data }], guard := none } : Oper)
def oFrAllM25 : Oper := ({ dst := some 26, op := Go.Op.load 37 (Go.Operand.tmp 25), type := 37, pos := "law.go:40", after := #[{ on := 8, ground := Go.Ground.data }], guard := none } : Oper)
def oFrAllM26 : Oper := ({ dst := some 27, op := Go.Op.binOp Go.BinOp.neq 37 (Go.Operand.tmp 21) (Go.Operand.tmp 26) 37, type := 4, pos := "law.go:40", after := #[{ on := 4, ground := Go.Ground.data }, { on := 9, ground := Go.Ground.data }], guard := none } : Oper)
def oFrAllM27 : Oper := ({ dst := some 28, op := Go.Op.move (Go.Operand.tmp 27), type := 4, pos := "law.go:40", after := #[{ on := 10, ground := Go.Ground.data }], guard := none } : Oper)
def oFrAllM28 : Oper := ({ dst := some 29, op := Go.Op.move (Go.Operand.tmp 0), type := 47, pos := "law.go:40", after := #[{ on := 11, ground := Go.Ground.guard }], guard := some (11, false) } : Oper)
def oFrAllM29 : Oper := ({ dst := some 30, op := Go.Op.move (Go.Operand.tmp 5), type := 3, pos := "law.go:40", after := #[{ on := 11, ground := Go.Ground.guard }], guard := some (11, false) } : Oper)
def oFrAllM30 : Oper := ({ dst := some 31, op := Go.Op.indexAddr 47 (Go.Operand.tmp 29) (Go.Operand.tmp 30), type := 0, pos := "law.go:40", after := #[{ on := 12, ground := Go.Ground.data }, { on := 13, ground := Go.Ground.data }, { on := 11, ground := Go.Ground.guard }], guard := some (11, false) } : Oper)
def oFrAllM31 : Oper := ({ dst := some 32, op := Go.Op.fieldAddr 51 (Go.Operand.tmp 31) 0, type := 0, pos := "law.go:40", after := #[{ on := 14, ground := Go.Ground.data }, { on := 11, ground := Go.Ground.guard }], guard := some (11, false) } : Oper)
def oFrAllM32 : Oper := ({ dst := some 33, op := Go.Op.load 36 (Go.Operand.tmp 32), type := 36, pos := "law.go:40", after := #[{ on := 15, ground := Go.Ground.data }, { on := 11, ground := Go.Ground.guard }], guard := some (11, false) } : Oper)
def oFrAllM33 : Oper := ({ dst := some 34, op := Go.Op.move (Go.Operand.tmp 1), type := 47, pos := "law.go:40", after := #[{ on := 11, ground := Go.Ground.guard }], guard := some (11, false) } : Oper)
def oFrAllM34 : Oper := ({ dst := some 35, op := Go.Op.move (Go.Operand.tmp 5), type := 3, pos := "law.go:40", after := #[{ on := 11, ground := Go.Ground.guard }], guard := some (11, false) } : Oper)
def oFrAllM35 : Oper := ({ dst := some 36, op := Go.Op.indexAddr 47 (Go.Operand.tmp 34) (Go.Operand.tmp 35), type := 0, pos := "law.go:40", after := #[{ on := 17, ground := Go.Ground.data }, { on := 18, ground := Go.Ground.data }, { on := 11, ground := Go.Ground.guard }], guard := some (11, false) } : Oper)
def oFrAllM36 : Oper := ({ dst := some 37, op := Go.Op.fieldAddr 51 (Go.Operand.tmp 36) 0, type := 0, pos := "law.go:40", after := #[{ on := 19, ground := Go.Ground.data }, { on := 11, ground := Go.Ground.guard }], guard := some (11, false) } : Oper)
def oFrAllM37 : Oper := ({ dst := some 38, op := Go.Op.load 36 (Go.Operand.tmp 37), type := 36, pos := "law.go:40", after := #[{ on := 20, ground := Go.Ground.data }, { on := 11, ground := Go.Ground.guard }], guard := some (11, false) } : Oper)
def oFrAllM38 : Oper := ({ dst := some 39, op := Go.Op.call { callee := Go.Callee.value (Go.Operand.func 12), args := #[Go.Operand.tmp 33, Go.Operand.tmp 38], argTypes := #[36, 36] }, type := 4, pos := "law.go:40", after := #[{ on := 16, ground := Go.Ground.data }, { on := 21, ground := Go.Ground.data }, { on := 11, ground := Go.Ground.chain }, { on := 11, ground := Go.Ground.guard }], guard := some (11, false) } : Oper)
def oFrAllM39 : Oper := ({ dst := some 40, op := Go.Op.unOp Go.UnOp.not 4 (Go.Operand.tmp 39), type := 4, pos := "law.go:40", after := #[{ on := 22, ground := Go.Ground.data }, { on := 11, ground := Go.Ground.guard }], guard := some (11, false) } : Oper)
def oFrAllM40 : Oper := ({ dst := some 41, op := Go.Op.pick (Go.Operand.tmp 28) (Go.Operand.const (Go.Value.bool true)) (Go.Operand.tmp 40), type := 4, pos := "law.go:40", after := #[{ on := 11, ground := Go.Ground.data }, { on := 23, ground := Go.Ground.data }], guard := none } : Oper)
end
open Go.RowKit
set_option maxRecDepth 100000
/-- A framer's cells. -/
def FrC (m : Int) (A : Option Addr) (n c : Nat) (k f : Int) : Array Value := #[.int .i64 m, .slice A n c, .int .i64 k, .int .i64 f]
section
variable {m k f : Int} {A : Option Addr} {n c : Nat}
@[go_sem, simp] theorem FrC_size : (FrC m A n c k f).size = 4 := rfl
@[go_sem] theorem FrC_one : ones (FrC m A n c k f) = true := by simp [ones, FrC, Value.oneCell']
@[go_sem] theorem FrC_ne : (FrC m A n c k f = #[]) = False := by simp [FrC]
@[go_sem high] theorem FrC_0 : (FrC m A n c k f)[0]? = some (.int .i64 m) := rfl
@[go_sem high] theorem FrC_1 : (FrC m A n c k f)[1]? = some (.slice A n c) := rfl
@[go_sem high] theorem FrC_2 : (FrC m A n c k f)[2]? = some (.int .i64 k) := rfl
@[go_sem high] theorem FrC_3 : (FrC m A n c k f)[3]? = some (.int .i64 f) := rfl
@[go_sem] theorem FrC_g0 (h : 0 < (FrC m A n c k f).size) : (FrC m A n c k f)[0]'h = .int .i64 m := rfl
@[go_sem] theorem FrC_g1 (h : 1 < (FrC m A n c k f).size) : (FrC m A n c k f)[1]'h = .slice A n c := rfl
@[go_sem] theorem FrC_g2 (h : 2 < (FrC m A n c k f).size) : (FrC m A n c k f)[2]'h = .int .i64 k := rfl
@[go_sem] theorem FrC_g3 (h : 3 < (FrC m A n c k f).size) : (FrC m A n c k f)[3]'h = .int .i64 f := rfl
@[go_sem] theorem FrC_s1 (B : Option Addr) (p d : Nat) : (FrC m A n c k f).setIfInBounds 1 (.slice B p d) = FrC m B p d k f := rfl
@[go_sem] theorem FrC_s2 (j : Int) : (FrC m A n c k f).setIfInBounds 2 (.int .i64 j) = FrC m A n c j f := rfl
@[go_sem] theorem FrC_s3 (e : Int) : (FrC m A n c k f).setIfInBounds 3 (.int .i64 e) = FrC m A n c k e := rfl
@[go_sem] theorem FrC_fold : (#[.int .i64 m, .slice A n c, .int .i64 k, .int .i64 f] : Array Value) = FrC m A n c k f := rfl
end
/-- What a block that is known whole tells. -/
theorem blk_row {w : World} {g : Nat} {cs : Array Value} {t : TypeId} (h : w.heap[g]? = some (.cells cs t (0, 0))) : rowAt w g = cs ∧ freeB w g = true ∧ (∀ i, w.cell? ⟨g, i, none⟩ = cs[i]?) ∧ g < w.heap.size ∧ (∀ i, w.frozen? ⟨g, i, none⟩ = false) := by
  refine ⟨rowAt_blk h, ?_, fun i => cell_of_row w g i cs t (0, 0) h, (Array.getElem?_eq_some_iff.1 h).1, fun i => ?_⟩
  · unfold freeB; rw [h]; rfl
  · simp only [World.frozen?, h]
    rfl
/-- A slice reads as bytes. -/
def Bys (w : World) (A : Option Addr) (n : Nat) (l : List UInt8) : Prop :=
  l.length = n ∧ (A = none ∨ ∃ b off, A = some ⟨b, off, none⟩ ∧ ∀ j x, l[j]? = some x → w.cell? ⟨b, off + j, none⟩ = some (.int .u8 (x.toNat : Int))) ∧ (A = none → n = 0)
theorem add_p (b off j : Nat) : (⟨b, off, none⟩ : Addr).add j = ⟨b, off + j, none⟩ := by unfold Addr.add; split <;> simp_all
section
variable {w w' : World} {A : Option Addr} {n c : Nat} {l : List UInt8}
theorem Bys.below (h : Bys w A n l) (hb : Below w.heap.size w w') : Bys w' A n l := by
  refine ⟨h.1, ?_, h.2.2⟩
  rcases h.2.1 with h1 | ⟨b, off, e, hc⟩
  · exact Or.inl h1
  · refine Or.inr ⟨b, off, e, fun j x hx => ?_⟩
    have h2 := hc j x hx
    rw [hb.cell (World.block_lt_of_cell? w _ h2)]
    exact h2
theorem Bys.conv (h : Bys w A n l) (c : Nat) : (convert 23 9 (.slice A n c)).run Tryz.prog w = .ok (.string ⟨l.toArray⟩) w := by
  obtain ⟨rfl, h2, h3⟩ := h
  rcases h2 with rfl | ⟨b, off, rfl, hc⟩
  · have h0 := h3 rfl
    have : l = [] := List.eq_nil_of_length_eq_zero h0
    subst this
    rw [run_convert_bytes_string w 23 9 5 none _ c Tryz.underlying23 Tryz.underlying5 Tryz.underlying9]
    rfl
  · exact run_convert_bytes_back w 23 9 5 ⟨b, off, none⟩ c l Tryz.underlying23 Tryz.underlying5 Tryz.underlying9 (fun j hj => by
      rw [add_p]
      exact hc j _ (List.getElem?_eq_getElem hj))
end
theorem own_bytes {w : World} {B : Nat} {A : Option Addr} {n c : Nat} {L : List UInt8} (h : w.ownsRow B 5 1 (.slice A n c) n (bcells L)) : L.length = n ∧ ((A = none ∧ n = 0 ∧ c = 0) ∨ ∃ b, A = some ⟨b, 0, none⟩ ∧ B ≤ b ∧ (∃ cur, w.heap[b]? = some (.cells cur 5 (0, 0))) ∧ n ≤ c ∧ ∀ j x, L[j]? = some x → w.cell? ⟨b, j, none⟩ = some (.int .u8 (x.toNat : Int))) := by
  have hl : L.length = n := by have := h.1; rw [bcells_len] at this; omega
  refine ⟨hl, ?_⟩
  rcases h.2 with ⟨e, hn⟩ | ⟨b, cap, cur, e, hB, hh, hc, _⟩
  · injection e with e1 e2 e3
    exact Or.inl ⟨e1, hn, e3⟩
  · injection e with e1 e2 e3
    subst e1 e3
    refine Or.inr ⟨b, rfl, hB, ⟨cur, hh⟩, hc, fun j x hx => ?_⟩
    have := h.cells (g := b) rfl j (.int .u8 (x.toNat : Int)) (by simp [bcells, hx])
    rw [add_p, Nat.zero_add] at this
    exact this
/-- A framer: its cells, and its bytes; k of them are taken. -/
structure FrS (B : Nat) (w : World) (g : Nat) (m : Int) (A : Option Addr) (n c k : Nat) (L : List UInt8) (f : Int) : Prop where
  heap : w.heap[g]? = some (.cells (FrC m A n c k f) 53 (0, 0))
  base : B ≤ g
  own : w.ownsRow B 5 1 (.slice A n c) n (bcells L)
  le : k ≤ n
  lo : 16 ≤ m
  hi : m ≤ 65536
section
variable {B : Nat} {w w' : World} {g : Nat} {m : Int} {A : Option Addr} {n c k : Nat} {L : List UInt8} {f : Int}
theorem FrS.below (h : FrS B w g m A n c k L f) (hb : Below w.heap.size w w') : FrS B w' g m A n c k L f :=
  ⟨(hb.block g (Array.getElem?_eq_some_iff.1 h.heap).1).trans h.heap, h.base, own_below h.own hb, h.le, h.lo, h.hi⟩
theorem FrS.lt (h : FrS B w g m A n c k L f) : g < w.heap.size := (Array.getElem?_eq_some_iff.1 h.heap).1
theorem FrS.len (h : FrS B w g m A n c k L f) : L.length = n := (own_bytes h.own).1
theorem FrS.bys (h : FrS B w g m A n c k L f) : (A = none ∧ n = 0 ∧ c = 0 ∧ k = 0) ∨ ∃ b, A = some ⟨b, 0, none⟩ ∧ B ≤ b ∧ b ≠ g ∧ n ≤ c ∧ Bys w (some ⟨b, k, none⟩) (n - k) (L.drop k) := by
  obtain ⟨h1, h2⟩ := own_bytes h.own
  have hk := h.le
  rcases h2 with ⟨e1, e2, e3⟩ | ⟨b, e1, e2, ⟨cur, e3⟩, e4, e5⟩
  · exact Or.inl ⟨e1, e2, e3, by omega⟩
  · refine Or.inr ⟨b, e1, e2, ?_, e4, by rw [List.length_drop]; omega, Or.inr ⟨b, k, rfl, fun j x hx => ?_⟩, fun e => by cases e⟩
    · intro e
      rw [e, h.heap] at e3
      injection e3 with e3
      injection e3 with _ e6 _
      revert e6
      decide
    · rw [List.getElem?_drop] at hx
      exact e5 _ x hx
theorem frMade (h : FrS B w g m A n c k L f) : Calls Tryz.prog 16 #[.pointer (some ⟨g, 0, none⟩)] w fun e w' => e = .returned (.bool true) ∧ w' = w := by
  obtain ⟨h1, h2, h3, h4, h5⟩ := blk_row h.heap
  have hm : decide (0 < m) = true := by have := h.lo; simp; omega
  clear h
  go_enter Tryz.func16, Tryz.ntmps16
  go_wp2_with fail
  go_ret
  exact ⟨rfl, rfl⟩
/-- The buffer: what is not taken. -/
theorem frBuffer (h : FrS B w g m A n c k L f) (hn : n ≤ 2000000000) : Calls Tryz.prog 23 #[.pointer (some ⟨g, 0, none⟩)] w fun e w' => ∃ A' c', e = .returned (.slice A' (n - k) c') ∧ Bys w' A' (n - k) (L.drop k) ∧ Below w.heap.size w w' ∧ (A' = none → c' = 0) ∧ (n ≤ c' + k) ∧ (A' = none ∨ ∃ b o, A' = some ⟨b, o, none⟩) := by
  obtain ⟨h1, h2, h3, h4, h5⟩ := blk_row h.heap
  have hle := h.le
  have hL := h.len
  rcases h.bys with ⟨rfl, rfl, rfl, rfl⟩ | ⟨b, rfl, hb, _, hc, hB⟩
  · have hL0 : L = [] := List.eq_nil_of_length_eq_zero hL
    subst hL0
    clear h hle
    go_enter Tryz.func23, Tryz.ntmps23
    go_wp2_with fail
    go_quiet (fail)
    go_wp2_with fail
    go_ret
    exact ⟨_, _, rfl, ⟨rfl, Or.inl rfl, fun _ => rfl⟩, below_drewN (Below.refl _ _) _, fun _ => rfl, by omega, Or.inl rfl⟩
  · have HB := Lib.hid hB
    have k0 : (0 : Int) ≤ (k : Int) := by omega
    have k1 : (k : Int) ≤ (n : Int) := by omega
    clear h hB
    go_enter Tryz.func23, Tryz.ntmps23
    go_wp2_with fail
    go_quiet (fail)
    go_wp2_with fail
    · go_ret
      have hd : L.drop k = [] := List.drop_eq_nil_of_le (by omega)
      have hn0 : n - k = 0 := by omega
      refine ⟨_, _, rfl, ⟨by rw [hd, hn0]; rfl, Or.inr ⟨_, _, rfl, fun j x hx => by rw [hd] at hx; simp at hx⟩, fun e => by cases e⟩, below_drewN (Below.refl _ _) _, (fun e => by cases e), by omega, Or.inr ⟨_, _, rfl⟩⟩
    · go_ret
      exact ⟨_, _, rfl, HB.out.below (below_drewN (Below.refl _ _) _), below_drewN (Below.refl _ _) _, (fun e => by cases e), by omega, Or.inr ⟨_, _, rfl⟩⟩
/-- How many bytes are left. -/
theorem frLeft (h : FrS B w g m A n c k L f) (hn : n ≤ 2000000000) : Calls Tryz.prog 13 #[.pointer (some ⟨g, 0, none⟩)] w fun e w' => e = .returned (.int .i64 ((n - k : Nat) : Int)) ∧ Below w.heap.size w w' := by
  have H := Lib.hid h
  clear h
  go_enter Tryz.func13, Tryz.ntmps13
  go_wp2_with fail
  refine (frMade H.out).mono ?_
  rintro e w1 ⟨rfl, rfl⟩
  go_wp2_with fail
  refine (frBuffer H.out hn).mono ?_
  rintro e w2 ⟨A', c', rfl, _, hb, _⟩
  go_wp2_with fail
  go_ret
  exact ⟨rfl, hb⟩
end
/-- What a call on the framer at g, its bytes at o, leaves as it was. -/
structure Fd (w w' : World) (g : Nat) (o : Option Nat) : Prop where
  os : w'.os = w.os
  tape : w'.tape = w.tape
  output : w'.output = w.output
  size : w.heap.size ≤ w'.heap.size
  block : ∀ b, b < w.heap.size → b ≠ g → some b ≠ o → w'.heap[b]? = w.heap[b]?
/-- The bytes lie where they lay, or anew. -/
def NewO (w : World) (o o' : Option Nat) : Prop := ∀ b, o' = some b → o = some b ∨ w.heap.size ≤ b
section
variable {w w1 w2 : World} {g B : Nat} {o o1 o2 : Option Nat}
theorem Fd.refl (w : World) (g : Nat) (o : Option Nat) : Fd w w g o := ⟨rfl, rfl, rfl, Nat.le_refl _, fun _ _ _ _ => rfl⟩
theorem Fd.of_below (h : Below w.heap.size w w1) : Fd w w1 g o := ⟨h.os, h.tape, h.output, h.size, fun b hb _ _ => h.block b hb⟩
theorem Fd.more (h : Fd w w1 g o) (hb : Below w1.heap.size w1 w2) : Fd w w2 g o := ⟨hb.os.trans h.os, hb.tape.trans h.tape, hb.output.trans h.output, Nat.le_trans h.size hb.size, fun b hl h1 h2 => (hb.block b (Nat.lt_of_lt_of_le hl h.size)).trans (h.block b hl h1 h2)⟩
theorem Fd.set (h : Fd w w1 g o) (cs : Array Value) : Fd w (w1.setRow g cs) g o := ⟨h.os, h.tape, h.output, by simpa using h.size, fun b hl h1 h2 => (setRow_other w1 g b cs h1).trans (h.block b hl h1 h2)⟩
theorem Fd.grown (h : Fd w w1 g o) {r : Option Nat} (hg : w1.grownBy w2 r) (hr : ∀ b, r = some b → o = some b ∨ w.heap.size ≤ b) : Fd w w2 g o :=
  ⟨hg.os.trans h.os, hg.tape.trans h.tape, hg.output.trans h.output, Nat.le_trans h.size hg.size, fun b hl h1 h2 => (hg.block b (Nat.lt_of_lt_of_le hl h.size) (fun e => by
    rcases hr b e.symm with h3 | h3
    · exact h2 h3.symm
    · omega)).trans (h.block b hl h1 h2)⟩
theorem Fd.trans (h : Fd w w1 g o) (hk : Fd w1 w2 g o1) (hn : NewO w o o1) : Fd w w2 g o :=
  ⟨hk.os.trans h.os, hk.tape.trans h.tape, hk.output.trans h.output, Nat.le_trans h.size hk.size, fun b hl h1 h2 => (hk.block b (Nat.lt_of_lt_of_le hl h.size) h1 (fun e => by
    rcases hn b e.symm with h3 | h3
    · exact h2 h3.symm
    · omega)).trans (h.block b hl h1 h2)⟩
theorem NewO.refl (w : World) (o : Option Nat) : NewO w o o := fun _ h => Or.inl h
theorem NewO.trans (h : NewO w o o1) (hs : w.heap.size ≤ w1.heap.size) (k : NewO w1 o1 o2) : NewO w o o2 := fun b e => by
  rcases k b e with h1 | h1
  · exact h b h1
  · exact Or.inr (by omega)
theorem NewO.none (w : World) (o : Option Nat) : NewO w o none := fun _ h => by cases h
theorem Fd.below (h : Fd w w1 g o) (hg : B ≤ g) (ho : ∀ b, o = some b → B ≤ b) (hB : B ≤ w.heap.size) : Below B w w1 :=
  ⟨h.os, h.tape, h.output, h.size, fun b hb => h.block b (by omega) (by omega) (fun e => by have := ho b e.symm; omega)⟩
end
/-- A framer: its limit, its bytes, its error; the bytes lie in the block o. -/
def Fr (B : Nat) (w : World) (g : Nat) (o : Option Nat) (m : Int) (b : List UInt8) (f : Int) : Prop :=
  ∃ A n c k L, FrS B w g m A n c k L f ∧ L.drop k = b ∧ 2 * k ≤ n ∧ (Value.slice A n c).ownBlock = o
section
variable {B : Nat} {w w' : World} {g g2 : Nat} {o o2 : Option Nat} {m m2 : Int} {b b2 : List UInt8} {f f2 : Int}
theorem Fr.below (h : Fr B w g o m b f) (hb : Below w.heap.size w w') : Fr B w' g o m b f := by
  obtain ⟨A, n, c, k, L, h1, h2⟩ := h
  exact ⟨A, n, c, k, L, h1.below hb, h2⟩
theorem Fr.gB (h : Fr B w g o m b f) : B ≤ g := by
  obtain ⟨A, n, c, k, L, h1, h2⟩ := h
  exact h1.base
theorem Fr.lt (h : Fr B w g o m b f) : g < w.heap.size := by
  obtain ⟨A, n, c, k, L, h1, h2⟩ := h
  exact h1.lt
theorem Fr.lim (h : Fr B w g o m b f) : 16 ≤ m ∧ m ≤ 65536 := by
  obtain ⟨A, n, c, k, L, h1, h2⟩ := h
  exact ⟨h1.lo, h1.hi⟩
theorem Fr.gT (h : Fr B w g o m b f) : ∃ cs, w.heap[g]? = some (.cells cs 53 (0, 0)) := by
  obtain ⟨A, n, c, k, L, h1, h2⟩ := h
  exact ⟨_, h1.heap⟩
theorem Fr.oT (h : Fr B w g o m b f) : ∀ d, o = some d → B ≤ d ∧ ∃ cs, w.heap[d]? = some (.cells cs 5 (0, 0)) := by
  obtain ⟨A, n, c, k, L, h1, h2, h3, rfl⟩ := h
  intro d e
  rcases h1.own.2 with ⟨h4, _⟩ | ⟨g, cap, cur, e2, h4, h5, _⟩
  · rw [h4] at e; cases e
  · rw [e2] at e
    obtain rfl : g = d := by simpa [Value.ownBlock] using e
    exact ⟨h4, cur, h5⟩
theorem Fr.oB (h : Fr B w g o m b f) : ∀ d, o = some d → B ≤ d := fun d e => (h.oT d e).1
/-- What a call on a framer leaves as it was: all other blocks, and those of no framer and of no bytes. -/
theorem Fr.other (h : Fr B w g o m b f) (hd : Fd w w' g o) {d : Nat} {cs : Array Value} {t : TypeId} (hk : w.heap[d]? = some (.cells cs t (0, 0))) (h1 : t ≠ 53) (h2 : t ≠ 5) : w'.heap[d]? = some (.cells cs t (0, 0)) := by
  refine (hd.block d (Array.getElem?_eq_some_iff.1 hk).1 ?_ ?_).trans hk
  · rintro rfl
    obtain ⟨cs2, h3⟩ := h.gT
    rw [h3] at hk
    injection hk with hk
    injection hk with _ h4 _
    exact h1 h4.symm
  · intro e
    obtain ⟨_, cs2, h3⟩ := h.oT d e.symm
    rw [h3] at hk
    injection hk with hk
    injection hk with _ h4 _
    exact h2 h4.symm
end
theorem u8_info : (Tryz.prog.info? 5).map (fun i => (i.zero, i.size, i.bytes)) = some (some (.int .u8 0), 1, 1) := by kernel_rfl
theorem strC (s : List UInt8) : Lib.strCells ⟨s.toArray⟩ = bcells s := by simp [Lib.strCells, bcells]
theorem slice_of {w : World} {B : Nat} {v : Value} {n : Nat} {xs : List Value} {t : TypeId} {z : Nat} (h : w.ownsRow B t z v n xs) : ∃ A c, v = .slice A n c := by
  rcases h.2 with ⟨rfl, hn⟩ | ⟨g, cap, cur, rfl, _⟩
  · exact ⟨none, 0, by rw [hn]⟩
  · exact ⟨_, _, rfl⟩
theorem own_base {w : World} {B B' : Nat} {t : TypeId} {z : Nat} {v : Value} {n : Nat} {xs : List Value} (h : w.ownsRow B t z v n xs) (hB : B' ≤ B) : w.ownsRow B' t z v n xs := by
  refine ⟨h.1, ?_⟩
  rcases h.2 with hn | ⟨g, cap, cur, e, hb, rest⟩
  · exact .inl hn
  · exact .inr ⟨g, cap, cur, e, Nat.le_trans hB hb, rest⟩
theorem own_set {w : World} {B g : Nat} {t t2 : TypeId} {z : Nat} {v : Value} {n : Nat} {xs : List Value} {cs cs2 : Array Value} (h : w.ownsRow B t z v n xs) (hg : w.heap[g]? = some (.cells cs t2 (0, 0))) (ht : t ≠ t2) : (w.setRow g cs2).ownsRow B t z v n xs := by
  refine ⟨h.1, ?_⟩
  rcases h.2 with hn | ⟨d, cap, cur, e, hb, hh, rest⟩
  · exact .inl hn
  · refine .inr ⟨d, cap, cur, e, hb, (setRow_other w g d cs2 ?_).trans hh, rest⟩
    rintro rfl
    rw [hh] at hg
    injection hg with hg
    injection hg with _ h4 _
    exact ht h4
/-- A string's bytes onto the own row: where the row lies then. -/
theorem wpList_strapp {w : World} {ops : Array Oper} {rest : List Oper} {o : Oper} {a : Act} {Q : Exit → Act → World → Prop} (hgd : o.guard = none) (sl x : Operand)
    (ho : o.op = .call { callee := .builtin .append, args := #[sl, x], argTypes := #[23, 9] })
    (base : Nat) (A : Option Addr) (n c : Nat) (L s : List UInt8) (hs : a.eval sl = .slice A n c) (hown : w.ownsRow base 5 1 (.slice A n c) n (bcells L)) (hx : a.eval x = .string ⟨s.toArray⟩)
    (hb : n + s.length ≤ 2000000000) (hbase : base ≤ w.heap.size)
    (h : ∀ A' c' w', w'.ownsRow base 5 1 (.slice A' (n + s.length) c') (n + s.length) (bcells (L ++ s)) → w.grownBy w' (Value.slice A n c).ownBlock → NewO w (Value.slice A n c).ownBlock (Value.slice A' (n + s.length) c').ownBlock → wpList Tryz.prog ops Q rest (a.put o.dst (.slice A' (n + s.length) c')) w') : wpList Tryz.prog ops Q (o :: rest) a w := by
  obtain ⟨i, hi, hz0, hz1, hz2⟩ := info_parts u8_info
  have hsz : (ByteArray.mk s.toArray).size = s.length := by show s.toArray.size = _; simp
  refine wpList_plain hgd fun K hK => ?_
  obtain ⟨v', w', hr, h2, h3, _⟩ := Lib.run_append_own_string (P := Tryz.prog) w base 23 9 o.type 5 i Tryz.underlying23 Tryz.underlying9 hi hz0 hz1 hz2 (.slice A n c) n (bcells L) hown ⟨s.toArray⟩ (by rw [hsz]; unfold maxLen; omega) (by rw [hsz]; omega) hbase
  have hnew : NewO w (Value.slice A n c).ownBlock v'.ownBlock := by
    rcases hown.2 with ⟨e, hn⟩ | ⟨g, cap, cur, e, hbg, hg, hnc, hcm, hcs, htake⟩
    · rw [e] at hr
      subst hn
      have hL : bcells L = [] := by have := hown.1; exact List.eq_nil_of_length_eq_zero (by omega)
      obtain ⟨v2, w2, hr2, k2, _⟩ := Lib.run_append_own_string (P := Tryz.prog) w w.heap.size 23 9 o.type 5 i Tryz.underlying23 Tryz.underlying9 hi hz0 hz1 hz2 (.slice none 0 0) 0 [] (World.ownsRow_nil _ _ _ _) ⟨s.toArray⟩ (by rw [hsz]; unfold maxLen; omega) (by rw [hsz]; omega) (Nat.le_refl _)
      rw [hr] at hr2
      injection hr2 with e1 e2
      subst e1
      exact fun d hd => Or.inr (k2.lt d hd).1
    · rw [e] at hr
      injection e with e1 e2 e3
      subst e1 e3
      by_cases hroom : n + (ByteArray.mk s.toArray).size ≤ c
      · have hcs' : cur.size = c := by simpa using hcs
        have hr2 := Lib.run_append_room_string (P := Tryz.prog) w 23 9 o.type 5 i Tryz.underlying23 Tryz.underlying9 hi hz1 g n c cur hg ⟨s.toArray⟩ hroom (by omega)
        rw [hr] at hr2
        injection hr2 with e1 e2
        subst e1
        exact fun d hd => Or.inl hd
      · have holds : ∀ j u, (bcells L)[j]? = some u → w.cell? ((⟨g, 0, none⟩ : Addr).add j) = some u := hown.cells (g := g) rfl
        have hr2 := Lib.run_append_grow_string (P := Tryz.prog) w 23 9 o.type 5 i (.int .u8 0) Tryz.underlying23 Tryz.underlying9 hi hz0 ⟨g, 0, none⟩ n c (bcells L) (by rw [hz1]; exact hown.1) holds ⟨s.toArray⟩ (by omega) (by rw [hsz]; omega) (by rw [hz2, hsz]; exact growslice_fits (by omega) (by omega))
        rw [hr] at hr2
        injection hr2 with e1 e2
        subst e1
        exact fun d hd => Or.inr (by simp only [Value.ownBlock, Option.some.injEq] at hd; omega)
  rw [hsz, strC, ← bcells_append] at h2
  obtain ⟨A', c', rfl⟩ := slice_of h2
  unfold Oper.wp execOp
  simp only [ho, resolve, invoke, builtin, Sem.run_bind, Sem.run_pure, Result.andThen_ok, List.map_toArray, List.map_cons, List.map_nil, hs, hx, hr]
  exact hK _ _ (h A' c' w' h2 h3 hnew)
/-- Bytes onto nothing: a row anew. -/
theorem wpList_anew {w : World} {ops : Array Oper} {rest : List Oper} {o : Oper} {a : Act} {Q : Exit → Act → World → Prop} (hgd : o.guard = none) (sl x : Operand)
    (ho : o.op = .call { callee := .builtin .append, args := #[sl, x], argTypes := #[23, 23] }) (hs : a.eval sl = .slice none 0 0)
    (A : Option Addr) (n c : Nat) (l : List UInt8) (hx : a.eval x = .slice A n c) (hl : Bys w A n l) (hc : A = none → c = 0) (hA : A = none ∨ ∃ b o, A = some ⟨b, o, none⟩) (hn : n ≤ 2000000000)
    (h : ∀ A' c' w', w'.ownsRow w.heap.size 5 1 (.slice A' n c') n (bcells l) → Below w.heap.size w w' → wpList Tryz.prog ops Q rest (a.put o.dst (.slice A' n c')) w') : wpList Tryz.prog ops Q (o :: rest) a w := by
  obtain ⟨i, hi, hz0, hz1, hz2⟩ := info_parts u8_info
  obtain ⟨rfl, h2, h3⟩ := hl
  have hb : ∀ w', w.grownBy w' (Value.slice none 0 0).ownBlock → Below w.heap.size w w' := fun w' hg => (Below.refl _ _).grown hg (Nat.le_refl _) (fun k hk => by cases hk)
  rcases hA with rfl | ⟨b, off, rfl⟩
  · obtain rfl := hc rfl
    have h0 := h3 rfl
    rw [h0] at hx h
    have : l = [] := List.eq_nil_of_length_eq_zero h0
    subst this
    exact wpList_append_own_none hgd sl x _ ho w.heap.size _ i 1 Tryz.underlying23 hi (.slice none 0 0) 0 _ hs (World.ownsRow_nil _ _ _ _) hx (h _ _ w (World.ownsRow_nil _ _ _ _) (Below.refl _ _))
  · rcases h2 with e | ⟨b', off', e, hcell⟩
    · cases e
    cases e
    refine wpList_append_own w hgd sl x _ ho w.heap.size _ i _ 1 1 Tryz.underlying23 hi hz0 hz1 hz2 rfl (by decide) (.slice none 0 0) 0 [] hs (World.ownsRow_nil _ _ _ _) ⟨b, off, none⟩ l.length c (bcells l) hx (by rw [bcells_len]; omega) ?_ (bcells_one l) (by unfold maxLen; omega) (by omega) (Nat.le_refl _) ?_
    · intro j u hu
      simp only [bcells, List.getElem?_map, Option.map_eq_some_iff] at hu
      obtain ⟨y, hy, rfl⟩ := hu
      rw [add_p]
      exact hcell j y hy
    · intro v' w' hown' hgr _
      rw [Nat.zero_add, List.nil_append] at hown'
      obtain ⟨A', c', rfl⟩ := slice_of hown'
      exact h A' c' w' hown' (hb _ hgr)
section
variable {B : Nat} {w w' : World} {g : Nat} {o : Option Nat} {m : Int} {b : List UInt8} {f : Int}
theorem frPush (h : Fr B w g o m b 0) (s : List UInt8) (hs : b.length + s.length ≤ 900000000) :
    Calls Tryz.prog 8 #[.pointer (some ⟨g, 0, none⟩), .string ⟨s.toArray⟩] w fun e w' => e = .returned (.tuple #[]) ∧ ∃ o', Fr B w' g o' m (b ++ s) 0 ∧ Fd w w' g o ∧ NewO w o o' := by
  obtain ⟨A, n, c, k, L, hS, hd, h2, ho⟩ := h
  obtain ⟨a1, a2, a3, a4, a5⟩ := blk_row hS.heap
  have hle := hS.le
  have hL := hS.len
  have hbl : b.length = n - k := by rw [← hd, List.length_drop]; omega
  have hgB : B ≤ w.heap.size := by have := hS.base; omega
  have HS := Lib.hid hS
  have HO := Lib.hid hS.own
  have HD := Lib.hid hd
  have HOO := Lib.hid ho
  clear hd ho
  go_enter Tryz.func8, Tryz.ntmps8
  go_wp2_with fail
  refine (frMade HS.out).mono ?_
  rintro e w1 ⟨rfl, rfl⟩
  clear hS
  go_wp2_with (at_builtin; refine wpList_strapp rfl _ _ rfl B A n c L s rfl HO.out rfl (by omega) hgB ?_)
  intro A' c' w2 hown' hgr hnew
  have hne : g ≠ w1.heap.size := by omega
  have hh := HS.out.heap
  have hgo : some g ≠ (Value.slice A n c).ownBlock := by
    intro e
    obtain ⟨cs, h9⟩ := (Fr.oT (b := L.drop k) ⟨A, n, c, k, L, HS.out, rfl, h2, rfl⟩ g e.symm).2
    rw [hh] at h9
    injection h9 with h9
    injection h9 with _ h8 _
    revert h8
    decide
  have hh2 := (hgr.block g a4 hgo).trans hh
  obtain ⟨b1, b2, b3, b4, b5⟩ := blk_row hh2
  have hfin : FrS B (w2.setRow g (FrC m A' (n + s.length) c' k 0)) g m A' (n + s.length) c' k (L ++ s) 0 :=
    ⟨setRow_heap w2 g _ _ _ _ hh2, HS.out.base, own_set hown' hh2 (by decide), by omega, HS.out.lo, HS.out.hi⟩
  have hfd := ((Fd.refl w1 g (Value.slice A n c).ownBlock).grown hgr (fun d e => Or.inl e)).set (FrC m A' (n + s.length) c' k 0)
  have HFIN := Lib.hid hfin
  have HFD := Lib.hid hfd
  have HNEW := Lib.hid hnew
  clear hfin hfd hnew hown' hgr hh hh2 hgo a1 a2 a3 a4 a5
  go_wp2_with fail
  go_end0
  have hdr : (L ++ s).drop k = b ++ s := by rw [List.drop_append_of_le_length (by omega), HD.out]
  rw [← HOO.out]
  exact ⟨rfl, _, ⟨A', n + s.length, c', k, L ++ s, HFIN.out, hdr, by omega, rfl⟩, HFD.out, HNEW.out⟩
/-- An error stays: nothing is taken any more. -/
theorem frPushE (h : Fr B w g o m b f) (hf : f ≠ 0) (s : List UInt8) :
    Calls Tryz.prog 8 #[.pointer (some ⟨g, 0, none⟩), .string ⟨s.toArray⟩] w fun e w' => e = .returned (.tuple #[]) ∧ w' = w := by
  obtain ⟨A, n, c, k, L, hS, hd, h2, ho⟩ := h
  obtain ⟨a1, a2, a3, a4, a5⟩ := blk_row hS.heap
  have HS := Lib.hid hS
  have hf2 : (f == 0) = false := by simpa using hf
  clear hd ho hS hf
  go_enter Tryz.func8, Tryz.ntmps8
  go_wp2_with fail
  refine (frMade HS.out).mono ?_
  rintro e w1 ⟨rfl, rfl⟩
  go_wp2_with fail
  go_end0
  exact ⟨rfl, rfl⟩
theorem frLeft' (h : Fr B w g o m b f) (hb : b.length ≤ 900000000) : Calls Tryz.prog 13 #[.pointer (some ⟨g, 0, none⟩)] w fun e w' => e = .returned (.int .i64 b.length) ∧ Below w.heap.size w w' := by
  obtain ⟨A, n, c, k, L, hS, rfl, h2, ho⟩ := h
  have hl := hS.len
  have hk := hS.le
  rw [List.length_drop] at hb ⊢
  rw [hl] at hb ⊢
  exact frLeft hS (by omega)
set_option maxHeartbeats 1000000 in
/-- What is taken goes. -/
theorem frDrop (h : Fr B w g o m b f) (j : Nat) (hj : j ≤ b.length) (hb : b.length ≤ 900000000) :
    Calls Tryz.prog 18 #[.pointer (some ⟨g, 0, none⟩), .int .i64 j] w fun e w' => e = .returned (.tuple #[]) ∧ ∃ o', Fr B w' g o' m (b.drop j) f ∧ Fd w w' g o ∧ NewO w o o' := by
  obtain ⟨A, n, c, k, L, hS, hd, h2, ho⟩ := h
  obtain ⟨a1, a2, a3, a4, a5⟩ := blk_row hS.heap
  have hle := hS.le
  have hL := hS.len
  have hbl : b.length = n - k := by rw [← hd, List.length_drop]; omega
  have hgB : B ≤ w.heap.size := by have := hS.base; omega
  obtain ⟨q, hq⟩ : ∃ q : Nat, q = k + j := ⟨_, rfl⟩
  have hqI : (k : Int) + (j : Int) = (q : Int) := by omega
  have hqn : q ≤ n := by omega
  have HSUM : Hid (IntKind.i64.wrap (q : Int) = q) := IntWalk.i64_in _ (by omega)
  have hS2 : FrS B (w.setRow g (FrC m A n c q f)) g m A n c q L f := ⟨setRow_heap w g _ _ _ _ hS.heap, hS.base, own_set hS.own hS.heap (by decide), hqn, hS.lo, hS.hi⟩
  have hfd := (Fd.refl w g o).set (FrC m A n c q f)
  have HDR : Hid (L.drop q = b.drop j) := by show _ = _; rw [← hd, List.drop_drop, hq]
  have HO := Lib.hid ho
  clear hd ho hq hS
  go_enter Tryz.func18, Tryz.ntmps18
  have hwrap := HSUM.out
  go_wp2_with fail
  clear hwrap a1 a2 a3 a4 a5
  obtain ⟨w1, hw1⟩ : ∃ w1, w1 = w.setRow g (FrC m A n c q f) := ⟨_, rfl⟩
  rw [← hw1] at hS2 hfd ⊢
  clear hw1
  have HS2 := Lib.hid hS2
  have HFD := Lib.hid hfd
  obtain ⟨r, hr⟩ : ∃ r : Nat, r = n - q := ⟨_, rfl⟩
  have HR := Lib.hid hr
  clear hfd hS2
  have hlt : g < w1.heap.size := HS2.out.lt
  refine wp_region_held_drew (S := (fun w' => Below w1.heap.size w1 w')) (by kernel_rfl) ((Below.refl _ _).drew) (fun hHeld => ?_)
  refine tkY 0 oFrAllM1 ?vv3_0 rfl (by kernel_rfl) (by kernel_rfl) (by kernel_rfl) (fun _ _ _ h => h) (by rfl) ?hy3_0 (by assumption) ?rest3_0
  case hy3_0 => (intro w hSw; unfold oFrAllM1; (try dsimp only at hSw); (try go_split_ands); go_simp; all_goals with_reducible rfl)
  try simp only [oFrAllM1, Act.put, sA, sB, sC]
  refine tkY 1 oFrAllM2 ?vv3_1 rfl (by kernel_rfl) (by kernel_rfl) (by kernel_rfl) (fun _ _ _ h => h) (by rfl) ?hy3_1 (by assumption) ?rest3_1
  case hy3_1 => (intro w hSw; unfold oFrAllM2; (try dsimp only at hSw); (try go_split_ands); go_simp; all_goals with_reducible rfl)
  try simp only [oFrAllM2, Act.put, sA, sB, sC]
  refine tkY 2 oFrAllM3 ?vv3_2 rfl (by kernel_rfl) (by kernel_rfl) (by kernel_rfl) (fun _ _ _ h => h) (by rfl) ?hy3_2 (by assumption) ?rest3_2
  case hy3_2 => (intro w hSw; unfold oFrAllM3; (try dsimp only at hSw); (try go_split_ands); go_simp; all_goals with_reducible rfl)
  try simp only [oFrAllM3, Act.put, sA, sB, sC]
  refine tkY 3 oFrAllM4 ?vv3_3 rfl (by kernel_rfl) (by kernel_rfl) (by kernel_rfl) (fun _ _ _ h => h) (by rfl) ?hy3_3 (by assumption) ?rest3_3
  case hy3_3 => (intro w hSw; unfold oFrAllM4; (try dsimp only at hSw); have ⟨b1, b2, b3, b4, b5⟩ := blk_row (HS2.out.below hSw).heap; go_simp; all_goals with_reducible rfl)
  try simp only [oFrAllM4, Act.put, sA, sB, sC]
  refine tkY 4 oFrAllM5 ?vv3_4 rfl (by kernel_rfl) (by kernel_rfl) (by kernel_rfl) (fun _ _ _ h => h) (by rfl) ?hy3_4 (by assumption) ?rest3_4
  case hy3_4 => (intro w hSw; unfold oFrAllM5; (try dsimp only at hSw); (try go_split_ands); go_simp; all_goals with_reducible rfl)
  try simp only [oFrAllM5, Act.put, sA, sB, sC]
  refine wpAnyH_ready (rs := [5]) (by kernel_rfl) (by simp) ?_
  refine AllReadyH.cons (o := oFrAllM6) rfl (fun K hK => ?_) AllReadyH.nil
  unfold oFrAllM6
  go_simp
  (go_at_call 13; refine (frLeft (HS2.out.below hHeld) (by omega)).mono ?_; rintro e w6 ⟨rfl, hb6⟩; rw [← HR.out])
  refine hK.out _ _ ?_ (fun hHeld => ?_)
  · (exact below_more hHeld hb6)
  clear hK K
  try simp only [oFrAllM6, Act.put, sA, sB, sC]
  refine tkY 6 oFrAllM7 ?vv3_6 rfl (by kernel_rfl) (by kernel_rfl) (by kernel_rfl) (fun _ _ _ h => h) (by rfl) ?hy3_6 (by assumption) ?rest3_6
  case hy3_6 => (intro w hSw; unfold oFrAllM7; (try dsimp only at hSw); (try go_split_ands); go_simp; all_goals with_reducible rfl)
  try simp only [oFrAllM7, Act.put, sA, sB, sC]
  refine wpAnyH_done (by kernel_rfl) ?_ _
  replace HFD := Lib.hid (HFD.out.more hHeld)
  replace HS2 := Lib.hid (HS2.out.below hHeld)
  obtain ⟨b1, b2, b3, b4, b5⟩ := blk_row HS2.out.heap
  by_cases hgt : r < q
  · have hgd : decide ((r : Int) < (q : Int)) = true := by simpa using hgt
    go_wp2_with fail
    refine (frBuffer HS2.out (by omega)).mono ?_
    rintro e w7 ⟨A2, c2, rfl, hby, hb7, hc2, _, hA2⟩
    have hB7 : B ≤ w7.heap.size := by have := HS2.out.base; have := hb7.size; omega
    replace HS2 := Lib.hid (HS2.out.below hb7)
    replace HFD := Lib.hid (HFD.out.more hb7)
    have HBY := Lib.hid hby
    have HC2 := Lib.hid hc2
    clear hby hc2 hb7 b1 b2 b3 b4 b5
    go_wp2_with (at_builtin; refine wpList_anew rfl _ _ rfl rfl A2 (n - q) c2 (L.drop q) rfl HBY.out HC2.out hA2 (by omega) ?_)
    intro A3 c3 w8 hown8 hb8
    replace HS2 := Lib.hid (HS2.out.below hb8)
    have hh := HS2.out.heap
    obtain ⟨b1, b2, b3, b4, b5⟩ := blk_row hh
    have hfin : FrS B (w8.setRow g (FrC m A3 (n - q) c3 0 f)) g m A3 (n - q) c3 0 (L.drop q) f :=
      ⟨setRow_heap w8 g _ _ _ _ hh, HS2.out.base, own_set (own_base hown8 hB7) hh (by decide), by omega, HS2.out.lo, HS2.out.hi⟩
    have HFIN := Lib.hid hfin
    have HNEW : Hid (NewO w o (Value.slice A3 (n - q) c3).ownBlock) := fun d hd => Or.inr (Nat.le_trans HFD.out.size (hown8.lt d hd).1)
    replace HFD := Lib.hid ((HFD.out.more hb8).set (FrC m A3 (n - q) c3 0 f))
    clear hfin hown8 hb8 hh HBY
    go_wp2_with fail
    go_end0
    rw [← HDR.out]
    exact ⟨rfl, _, ⟨A3, n - q, c3, 0, L.drop q, HFIN.out, rfl, by omega, rfl⟩, HFD.out, HNEW.out⟩
  · have hgd : decide ((r : Int) < (q : Int)) = false := by simpa using hgt
    go_wp2_with fail
    go_end0
    rw [← HDR.out]
    exact ⟨rfl, o, ⟨A, n, c, q, L, HS2.out, rfl, by omega, HO.out⟩, HFD.out, NewO.refl _ _⟩
/-- A framer anew. -/
theorem frNew (w : World) (m : Int) (h0 : 16 ≤ m) (h1 : m ≤ 65536) : Calls Tryz.prog 6 #[.int .i64 m] w fun e w' => ∃ g, e = .returned (.pointer (some ⟨g, 0, none⟩)) ∧ Below w.heap.size w w' ∧ w.heap.size ≤ g ∧ Fr w.heap.size w' g none m [] 0 := by
  have d1 : decide (m < 16) = false := by simp; omega
  have d2 : decide (65536 < m) = false := by simp; omega
  go_enter Tryz.func6, Tryz.ntmps6
  go_wp2_with fail
  go_ret
  exact ⟨_, rfl, (Below.refl _ _).alloc (Nat.le_refl _) _, Nat.le_refl _, none, 0, 0, 0, [], ⟨heap_alloc_new w _, Nat.le_refl _, World.ownsRow_nil _ _ _ _, Nat.le_refl _, h0, h1⟩, rfl, by omega, rfl⟩
theorem frNone (w : World) (m : Int) (h : m < 16 ∨ 65536 < m) : Calls Tryz.prog 6 #[.int .i64 m] w fun e w' => e = .returned (.pointer none) ∧ w' = w := by
  rcases h with h | h
  · have d1 : decide (m < 16) = true := by simpa using h
    go_enter Tryz.func6, Tryz.ntmps6
    go_wp2_with fail
    go_ret
    exact ⟨rfl, rfl⟩
  · have d1 : decide (m < 16) = false := by simp; omega
    have d2 : decide (65536 < m) = true := by simpa using h
    go_enter Tryz.func6, Tryz.ntmps6
    go_wp2_with fail
    go_ret
    exact ⟨rfl, rfl⟩
end
end Go.Proofs.YtnaedcennichlaaGreatDoor

/-
  frame: what a framer answers, as plain functions.
-/
namespace Go.Proofs.YtnaedcennichlaaGreatDoor
set_option maxRecDepth 100000
/-- What is told: a packet (and its Subs), an error. -/
abbrev TX := (Pk × List (List UInt8 × Int)) × Int
/-- How many bytes a packet has, of what its length's bytes are read as. -/
def szT (m : Int) (t : Int × Int × Int) : Int × Int := if t.2.2 = 2 then (0, 0) else if t.2.2 = 0 then (if m < 1 + t.2.1 + t.1 then (0, 3) else (1 + t.2.1 + t.1, 0)) else (0, t.2.2)
def szR (m : Int) (b : List UInt8) : Int × Int := if b.isEmpty then (0, 0) else if firB (byV b) then szT m (rdR (b.tail.take 4)) else (0, 4)
def dcR (m : Int) (b : List UInt8) : Pk × List (List UInt8 × Int) × Int × Int :=
  if (szR m b).2 ≠ 0 ∨ (szR m b).1 = 0 ∨ (b.length : Int) < (szR m b).1 then (zPk, [], 0, (szR m b).2) else decR (b.take (szR m b).1.toNat)
theorem rdL_enough : ∀ (f : Nat) (l : List UInt8) (s u i : Int), rdL f (l.take f) s u i = rdL f l s u i
  | 0, l, s, u, i => rfl
  | f + 1, [], s, u, i => by simp
  | f + 1, c :: l, s, u, i => by
    simp only [List.take_succ_cons, rdL]
    rw [rdL_enough f l]
theorem rd_take (l : List UInt8) : rdR (l.take 4) = rdR l := rdL_enough 4 l 0 1 0
theorem szT_two {m : Int} {t : Int × Int × Int} (h : (szT m t).1 ≠ 0 ∨ (szT m t).2 ≠ 0) : t.2.2 ≠ 2 := by
  intro e
  unfold szT at h
  rw [if_pos e] at h
  simp at h
theorem sz_cons (m : Int) (x : UInt8) (r : List UInt8) : szR m (x :: r) = if firB (x.toNat : Int) then szT m (rdR (r.take 4)) else (0, 4) := rfl
/-- What a size is. -/
theorem sz_ok {m : Int} {b : List UInt8} (h0 : (szR m b).1 ≠ 0) : ∃ x r v u, b = x :: r ∧ firB x.toNat = true ∧ rdR r = (v, u, 0) ∧ 0 ≤ v ∧ 1 ≤ u ∧ u ≤ 4 ∧ u ≤ r.length ∧ (szR m b) = (1 + u + v, 0) ∧ 1 + u + v ≤ m := by
  rcases b with _ | ⟨x, r⟩
  · simp [szR] at h0
  · have hb : byV (x :: r) = x.toNat := rfl
    unfold szR at h0 ⊢
    simp only [List.isEmpty_cons, List.tail_cons, Bool.false_eq_true, if_false, hb] at h0 ⊢
    by_cases hf : firB (x.toNat) = true
    · simp only [hf, if_true, rd_take] at h0 ⊢
      have h2 := szT_two (Or.inl h0)
      unfold szT at h0 ⊢
      rw [if_neg h2] at h0 ⊢
      by_cases h3 : (rdR r).2.2 = 0
      · rw [if_pos h3] at h0 ⊢
        obtain ⟨j, hj, hc, hjl, hn0, hn1, ht⟩ := rdR_ok r (rdR r).1 (rdR r).2.1 (by rw [← h3])
        by_cases h4 : m < 1 + (rdR r).2.1 + (rdR r).1
        · rw [if_pos h4] at h0; simp at h0
        · exact ⟨x, r, (rdR r).1, (rdR r).2.1, rfl, hf, by rw [← h3], hn0, by omega, by omega, by omega, by rw [if_neg h4], by omega⟩
      · rw [if_neg h3] at h0; simp at h0
    · simp only [hf, Bool.false_eq_true, if_false] at h0
      simp at h0
theorem sz_bd (m : Int) (b : List UInt8) (hm : 0 ≤ m) : 0 ≤ (szR m b).1 ∧ (szR m b).1 ≤ m := by
  by_cases h : (szR m b).1 = 0
  · omega
  · obtain ⟨x, r, v, u, _, _, _, h1, h2, _, _, h4, h5⟩ := sz_ok h
    rw [h4]
    dsimp only
    omega
theorem sz_er (m : Int) (b : List UInt8) : (szR m b).2 = 0 ∨ (szR m b).2 = 3 ∨ (szR m b).2 = 4 := by
  unfold szR
  split
  · left; rfl
  · split
    · unfold szT
      split
      · left; rfl
      · split
        · split
          · right; left; rfl
          · left; rfl
        · rename_i h1 h2
          rcases rdR_bad (b.tail.take 4) with ⟨n, c, hh⟩ | hh | hh
          · rw [hh] at h2; exact absurd rfl h2
          · rw [hh] at h1; exact absurd rfl h1
          · rw [hh]; right; right; rfl
    · right; right; rfl
/-- A packet that is cut off whole is cut out whole. -/
theorem cut_whole {m : Int} {b : List UInt8} (h0 : (szR m b).1 ≠ 0) (hl : (szR m b).1 ≤ b.length) : (cutR (b.take (szR m b).1.toNat)).2.1 = (szR m b).1 ∧ (cutR (b.take (szR m b).1.toNat)).2.2 = 0 := by
  obtain ⟨x, r, v, u, rfl, hf, hr, h1, h2, h3, h4, h5, h6⟩ := sz_ok h0
  rw [h5] at hl ⊢
  dsimp only at hl ⊢
  rw [List.length_cons] at hl
  have e : (x :: r).take (1 + u + v).toNat = x :: r.take (u + v).toNat := by
    rw [show (1 + u + v).toNat = (u + v).toNat + 1 by omega, List.take_succ_cons]
  have hrd : rdR (r.take (u + v).toNat) = (v, u, 0) := by
    obtain ⟨j, hj, hc, hjl, hn0, hn1, ht⟩ := rdR_ok r v u hr
    have e2 : r.take (u + v).toNat = encF j v ++ (r.take (u + v).toNat).drop (j + 1) := by
      rw [← ht]
      conv => lhs; rw [← List.take_append_drop (j + 1) (r.take (u + v).toNat)]
      rw [List.take_take, Nat.min_eq_left (by omega)]
    have e3 := rdL_enc j 3 v 0 1 0 ((r.take (u + v).toNat).drop (j + 1)) hj hn0 hn1
    rw [← e2] at e3
    unfold rdR
    rw [e3, hc]
    simp
  have hcl : ((r.take (u + v).toNat).length : Int) = u + v := by rw [List.length_take]; omega
  rw [e, cut_cons, if_pos hf, hrd, if_pos rfl]
  dsimp only
  rw [if_neg (by omega)]
  exact ⟨rfl, rfl⟩
/-- What the bytes of one packet are read as. -/
inductive DcK (m : Int) (b : List UInt8) : Prop
  | none (h : dcR m b = (zPk, [], 0, 0)) : DcK m b
  | err (e : Int) (h : dcR m b = (zPk, [], 0, e)) (he : e = 3 ∨ e = 4) : DcK m b
  | some (p : Pk) (xs : List (List UInt8 × Int)) (n : Nat) (h : dcR m b = (p, xs, (n : Int), 0)) (h1 : 2 ≤ n) (h2 : n ≤ b.length) (hk : (∃ v, p = (zPk.s_ty 1).s_level v ∧ xs = [] ∧ 0 ≤ v ∧ v ≤ 255 ∧ v ≠ 4) ∨ (Ok p xs ∧ Fit p xs ∧ (encL p xs).length ≤ n)) : DcK m b
theorem dc_sz {m : Int} {b : List UInt8} (h : ¬ ((szR m b).2 ≠ 0 ∨ (szR m b).1 = 0 ∨ (b.length : Int) < (szR m b).1)) : (szR m b).2 = 0 ∧ (szR m b).1 ≠ 0 ∧ (szR m b).1 ≤ b.length := by
  refine ⟨?_, ?_, ?_⟩
  · by_cases e : (szR m b).2 = 0
    · exact e
    · exact absurd (Or.inl e) h
  · intro e; exact h (Or.inr (Or.inl e))
  · by_cases e : (szR m b).1 ≤ b.length
    · exact e
    · exact absurd (Or.inr (Or.inr (by omega))) h
theorem dc_any (m : Int) (b : List UInt8) (hm : m ≤ 65536) : DcK m b := by
  by_cases h : (szR m b).2 ≠ 0 ∨ (szR m b).1 = 0 ∨ (b.length : Int) < (szR m b).1
  · have hd : dcR m b = (zPk, [], 0, (szR m b).2) := by unfold dcR; rw [if_pos h]
    rcases sz_er m b with e | e
    · rw [e] at hd; exact .none hd
    · exact .err _ hd e
  · obtain ⟨h1, h2, h3⟩ := dc_sz h
    have hd : dcR m b = decR (b.take (szR m b).1.toNat) := by unfold dcR; rw [if_neg h]
    obtain ⟨h4, h5⟩ := cut_whole h2 h3
    obtain ⟨s, hs⟩ : ∃ s, s = (szR m b).1 := ⟨_, rfl⟩
    have hsb : s ≤ 65536 := by
      obtain ⟨_, _, v, u, _, _, _, _, _, _, _, k4, k5⟩ := sz_ok h2
      rw [hs, k4]
      dsimp only
      omega
    rw [← hs] at hd h2 h3 h4 h5
    obtain ⟨T, hT⟩ : ∃ T, T = b.take s.toNat := ⟨_, rfl⟩
    have hTl : (T.length : Int) ≤ b.length := by rw [hT, List.length_take]; omega
    have hT6 : T.length ≤ 65536 := by rw [hT, List.length_take]; omega
    rw [← hT] at hd h4 h5
    have hcl : (cutR T).1.length ≤ 90000 := by
      obtain ⟨b0, r, n, u, k1, _, _, _, _, _, _, k8, _⟩ := cut_ok h5
      rw [k8]
      dsimp only
      rw [List.length_take, List.length_drop]
      rw [k1, List.length_cons] at hT6
      omega
    obtain ⟨p, xs, n, e, hde⟩ : ∃ p xs n e, decR T = (p, xs, n, e) := ⟨_, _, _, _, rfl⟩
    rw [hde] at hd
    by_cases he : e = 0
    · subst he
      rcases dec_ok hde hcl with ⟨v, b0, r, k1, k2, k3, k4, k5, k6, k7, k8, k9⟩ | ⟨b0, r, v, u, hw⟩
      · refine .some p xs n.toNat (by rw [hd]; congr 3; omega) (by omega) (by omega) (Or.inl ⟨v, k2, k3, k4, k5, k6⟩)
      · have w1 := hw.n
        have w2 := hw.lo
        have w3 := hw.u1
        have w4 := hw.le
        have w5 := hw.s
        have w6 := hw.enc
        have w7 := hw.len
        have hl : ((encL p xs).length : Int) ≤ n := by
          rw [w6, List.length_cons, List.length_append, List.length_take, List.length_drop]
          omega
        have hTl2 : T.length = r.length + 1 := by rw [w5]; simp
        refine .some p xs n.toNat (by rw [hd]; congr 3; omega) (by omega) (by omega) (Or.inr ⟨hw.ok, hw.fit, by omega⟩)
    · obtain ⟨k1, rfl, rfl, rfl⟩ := dec_er hde he
      refine .err e hd (Or.inr ?_)
      rcases k1 with rfl | rfl
      · exfalso
        unfold decR at hde
        rw [if_pos h5] at hde
        split at hde
        · simp at hde
        · split at hde <;> simp at hde
      · rfl
/-- What Next tells again and again, and what is left: bytes, and an error. -/
def drF : Nat → Int → List UInt8 → List TX × List UInt8 × Int
  | 0, _, b => ([], b, 0)
  | f + 1, m, b => if (dcR m b).2.2.2 = 0 then
      if 0 < (dcR m b).2.2.1 then ((((dcR m b).1, (dcR m b).2.1), 0) :: (drF f m (b.drop (dcR m b).2.2.1.toNat)).1, (drF f m (b.drop (dcR m b).2.2.1.toNat)).2) else ([], b, 0)
    else ([((zPk, []), (dcR m b).2.2.2)], [], (dcR m b).2.2.2)
def drR (m : Int) (b : List UInt8) : List TX × List UInt8 × Int := drF (b.length + 1) m b
section
variable {m : Int} {b t : List UInt8}
theorem drF_enough : ∀ (f : Nat) (b : List UInt8), m ≤ 65536 → b.length < f → drF f m b = drF (b.length + 1) m b
  | 0, b, _, h => by omega
  | f + 1, b, hm, h => by
    rcases dc_any m b hm with h1 | ⟨e, h1, he⟩ | ⟨p, xs, n, h1, h2, h3, _⟩
    · simp only [drF, h1]
      simp
    · have : e ≠ 0 := by omega
      simp only [drF, h1, this, if_false]
    · have hl : (b.drop n).length = b.length - n := List.length_drop
      simp only [drF, h1, if_true, Int.toNat_natCast]
      rw [drF_enough f (b.drop n) hm (by omega), drF_enough b.length (b.drop n) hm (by omega)]
theorem dr_none (h : dcR m b = (zPk, [], 0, 0)) : drR m b = ([], b, 0) := by
  unfold drR
  simp only [drF, h]
  simp
theorem dr_err {e : Int} (h : dcR m b = (zPk, [], 0, e)) (he : e ≠ 0) : drR m b = ([((zPk, []), e)], [], e) := by
  unfold drR
  simp only [drF, h, he, if_false]
theorem dr_some {p : Pk} {xs : List (List UInt8 × Int)} {n : Nat} (hm : m ≤ 65536) (h : dcR m b = (p, xs, (n : Int), 0)) (h1 : 1 ≤ n) (h2 : n ≤ b.length) : drR m b = (((p, xs), 0) :: (drR m (b.drop n)).1, (drR m (b.drop n)).2) := by
  unfold drR
  have hl : (b.drop n).length = b.length - n := List.length_drop
  rw [drF, h]
  have h3 : (0 : Int) < (n : Int) := by omega
  simp only [if_true, h3, Int.toNat_natCast]
  rw [drF_enough b.length (b.drop n) hm (by omega)]
/-- A framer is asked till it tells no packet: of its bytes and its error. -/
def dnR (m : Int) (b : List UInt8) (f : Int) : List TX × List UInt8 × Int := if f = 0 then drR m b else ([((zPk, []), f)], b, f)
end
end Go.Proofs.YtnaedcennichlaaGreatDoor

/-
  A row of what is told: its cells, how it reads, the call's own one.
-/
namespace Go.Proofs.YtnaedcennichlaaGreatDoor
open Go.RowKit
set_option maxRecDepth 100000
/-- The cells of what is told. -/
def TdC (p : Pk) (A : Option Addr) (n c : Nat) (e : Int) : Array Value := PkC p A n c ++ #[.int .i64 e]
section
variable {p : Pk} {A : Option Addr} {n c : Nat} {e : Int}
@[go_sem, simp] theorem TdC_size : (TdC p A n c e).size = 25 := by simp [TdC]
@[go_sem] theorem TdC_one : ones (TdC p A n c e) = true := by simp [TdC, ones, PkC, Value.oneCell']
@[go_sem] theorem TdC_ne : (TdC p A n c e = #[]) = False := by simp [TdC]
@[go_sem high] theorem TdC_24 : (TdC p A n c e)[24]? = some (.int .i64 e) := by unfold TdC; rw [Array.getElem?_append_right (by simp)]; simp
@[go_sem] theorem TdC_g24 (h : 24 < (TdC p A n c e).size) : (TdC p A n c e)[24]'h = .int .i64 e := Option.some.inj (by rw [← Array.getElem?_eq_getElem h, TdC_24])
@[go_sem] theorem TdC_g0 (h : 0 < (TdC p A n c e).size) : (TdC p A n c e)[0]'h = (PkC p A n c)[0]'(by simp) := by simp [TdC, PkC]
@[go_sem high] theorem TdC_0 : (TdC p A n c e)[0]? = (PkC p A n c)[0]? := by unfold TdC; rw [Array.getElem?_append_left (by simp)]
@[go_sem] theorem TdC_g1 (h : 1 < (TdC p A n c e).size) : (TdC p A n c e)[1]'h = (PkC p A n c)[1]'(by simp) := by simp [TdC, PkC]
@[go_sem high] theorem TdC_1 : (TdC p A n c e)[1]? = (PkC p A n c)[1]? := by unfold TdC; rw [Array.getElem?_append_left (by simp)]
@[go_sem] theorem TdC_g2 (h : 2 < (TdC p A n c e).size) : (TdC p A n c e)[2]'h = (PkC p A n c)[2]'(by simp) := by simp [TdC, PkC]
@[go_sem high] theorem TdC_2 : (TdC p A n c e)[2]? = (PkC p A n c)[2]? := by unfold TdC; rw [Array.getElem?_append_left (by simp)]
@[go_sem] theorem TdC_g3 (h : 3 < (TdC p A n c e).size) : (TdC p A n c e)[3]'h = (PkC p A n c)[3]'(by simp) := by simp [TdC, PkC]
@[go_sem high] theorem TdC_3 : (TdC p A n c e)[3]? = (PkC p A n c)[3]? := by unfold TdC; rw [Array.getElem?_append_left (by simp)]
@[go_sem] theorem TdC_g4 (h : 4 < (TdC p A n c e).size) : (TdC p A n c e)[4]'h = (PkC p A n c)[4]'(by simp) := by simp [TdC, PkC]
@[go_sem high] theorem TdC_4 : (TdC p A n c e)[4]? = (PkC p A n c)[4]? := by unfold TdC; rw [Array.getElem?_append_left (by simp)]
@[go_sem] theorem TdC_g5 (h : 5 < (TdC p A n c e).size) : (TdC p A n c e)[5]'h = (PkC p A n c)[5]'(by simp) := by simp [TdC, PkC]
@[go_sem high] theorem TdC_5 : (TdC p A n c e)[5]? = (PkC p A n c)[5]? := by unfold TdC; rw [Array.getElem?_append_left (by simp)]
@[go_sem] theorem TdC_g6 (h : 6 < (TdC p A n c e).size) : (TdC p A n c e)[6]'h = (PkC p A n c)[6]'(by simp) := by simp [TdC, PkC]
@[go_sem high] theorem TdC_6 : (TdC p A n c e)[6]? = (PkC p A n c)[6]? := by unfold TdC; rw [Array.getElem?_append_left (by simp)]
@[go_sem] theorem TdC_g7 (h : 7 < (TdC p A n c e).size) : (TdC p A n c e)[7]'h = (PkC p A n c)[7]'(by simp) := by simp [TdC, PkC]
@[go_sem high] theorem TdC_7 : (TdC p A n c e)[7]? = (PkC p A n c)[7]? := by unfold TdC; rw [Array.getElem?_append_left (by simp)]
@[go_sem] theorem TdC_g8 (h : 8 < (TdC p A n c e).size) : (TdC p A n c e)[8]'h = (PkC p A n c)[8]'(by simp) := by simp [TdC, PkC]
@[go_sem high] theorem TdC_8 : (TdC p A n c e)[8]? = (PkC p A n c)[8]? := by unfold TdC; rw [Array.getElem?_append_left (by simp)]
@[go_sem] theorem TdC_g9 (h : 9 < (TdC p A n c e).size) : (TdC p A n c e)[9]'h = (PkC p A n c)[9]'(by simp) := by simp [TdC, PkC]
@[go_sem high] theorem TdC_9 : (TdC p A n c e)[9]? = (PkC p A n c)[9]? := by unfold TdC; rw [Array.getElem?_append_left (by simp)]
@[go_sem] theorem TdC_g10 (h : 10 < (TdC p A n c e).size) : (TdC p A n c e)[10]'h = (PkC p A n c)[10]'(by simp) := by simp [TdC, PkC]
@[go_sem high] theorem TdC_10 : (TdC p A n c e)[10]? = (PkC p A n c)[10]? := by unfold TdC; rw [Array.getElem?_append_left (by simp)]
@[go_sem] theorem TdC_g11 (h : 11 < (TdC p A n c e).size) : (TdC p A n c e)[11]'h = (PkC p A n c)[11]'(by simp) := by simp [TdC, PkC]
@[go_sem high] theorem TdC_11 : (TdC p A n c e)[11]? = (PkC p A n c)[11]? := by unfold TdC; rw [Array.getElem?_append_left (by simp)]
@[go_sem] theorem TdC_g12 (h : 12 < (TdC p A n c e).size) : (TdC p A n c e)[12]'h = (PkC p A n c)[12]'(by simp) := by simp [TdC, PkC]
@[go_sem high] theorem TdC_12 : (TdC p A n c e)[12]? = (PkC p A n c)[12]? := by unfold TdC; rw [Array.getElem?_append_left (by simp)]
@[go_sem] theorem TdC_g13 (h : 13 < (TdC p A n c e).size) : (TdC p A n c e)[13]'h = (PkC p A n c)[13]'(by simp) := by simp [TdC, PkC]
@[go_sem high] theorem TdC_13 : (TdC p A n c e)[13]? = (PkC p A n c)[13]? := by unfold TdC; rw [Array.getElem?_append_left (by simp)]
@[go_sem] theorem TdC_g14 (h : 14 < (TdC p A n c e).size) : (TdC p A n c e)[14]'h = (PkC p A n c)[14]'(by simp) := by simp [TdC, PkC]
@[go_sem high] theorem TdC_14 : (TdC p A n c e)[14]? = (PkC p A n c)[14]? := by unfold TdC; rw [Array.getElem?_append_left (by simp)]
@[go_sem] theorem TdC_g15 (h : 15 < (TdC p A n c e).size) : (TdC p A n c e)[15]'h = (PkC p A n c)[15]'(by simp) := by simp [TdC, PkC]
@[go_sem high] theorem TdC_15 : (TdC p A n c e)[15]? = (PkC p A n c)[15]? := by unfold TdC; rw [Array.getElem?_append_left (by simp)]
@[go_sem] theorem TdC_g16 (h : 16 < (TdC p A n c e).size) : (TdC p A n c e)[16]'h = (PkC p A n c)[16]'(by simp) := by simp [TdC, PkC]
@[go_sem high] theorem TdC_16 : (TdC p A n c e)[16]? = (PkC p A n c)[16]? := by unfold TdC; rw [Array.getElem?_append_left (by simp)]
@[go_sem] theorem TdC_g17 (h : 17 < (TdC p A n c e).size) : (TdC p A n c e)[17]'h = (PkC p A n c)[17]'(by simp) := by simp [TdC, PkC]
@[go_sem high] theorem TdC_17 : (TdC p A n c e)[17]? = (PkC p A n c)[17]? := by unfold TdC; rw [Array.getElem?_append_left (by simp)]
@[go_sem] theorem TdC_g18 (h : 18 < (TdC p A n c e).size) : (TdC p A n c e)[18]'h = (PkC p A n c)[18]'(by simp) := by simp [TdC, PkC]
@[go_sem high] theorem TdC_18 : (TdC p A n c e)[18]? = (PkC p A n c)[18]? := by unfold TdC; rw [Array.getElem?_append_left (by simp)]
@[go_sem] theorem TdC_g19 (h : 19 < (TdC p A n c e).size) : (TdC p A n c e)[19]'h = (PkC p A n c)[19]'(by simp) := by simp [TdC, PkC]
@[go_sem high] theorem TdC_19 : (TdC p A n c e)[19]? = (PkC p A n c)[19]? := by unfold TdC; rw [Array.getElem?_append_left (by simp)]
@[go_sem] theorem TdC_g20 (h : 20 < (TdC p A n c e).size) : (TdC p A n c e)[20]'h = (PkC p A n c)[20]'(by simp) := by simp [TdC, PkC]
@[go_sem high] theorem TdC_20 : (TdC p A n c e)[20]? = (PkC p A n c)[20]? := by unfold TdC; rw [Array.getElem?_append_left (by simp)]
@[go_sem] theorem TdC_g21 (h : 21 < (TdC p A n c e).size) : (TdC p A n c e)[21]'h = (PkC p A n c)[21]'(by simp) := by simp [TdC, PkC]
@[go_sem high] theorem TdC_21 : (TdC p A n c e)[21]? = (PkC p A n c)[21]? := by unfold TdC; rw [Array.getElem?_append_left (by simp)]
@[go_sem] theorem TdC_g22 (h : 22 < (TdC p A n c e).size) : (TdC p A n c e)[22]'h = (PkC p A n c)[22]'(by simp) := by simp [TdC, PkC]
@[go_sem high] theorem TdC_22 : (TdC p A n c e)[22]? = (PkC p A n c)[22]? := by unfold TdC; rw [Array.getElem?_append_left (by simp)]
@[go_sem] theorem TdC_g23 (h : 23 < (TdC p A n c e).size) : (TdC p A n c e)[23]'h = (PkC p A n c)[23]'(by simp) := by simp [TdC, PkC]
@[go_sem high] theorem TdC_23 : (TdC p A n c e)[23]? = (PkC p A n c)[23]? := by unfold TdC; rw [Array.getElem?_append_left (by simp)]
@[go_sem] theorem TdC_head : (TdC p A n c e).extract 0 24 = PkC p A n c := by simp [TdC, PkC]
@[go_sem] theorem TdC_all : (TdC p A n c e).extract 0 25 = TdC p A n c e := by simp [TdC, PkC]
theorem TdC_onec : ∀ u ∈ (TdC p A n c e).toList, u.oneCell' = true := by
  intro u hu
  have h := TdC_one (p := p) (A := A) (n := n) (c := c) (e := e)
  unfold ones at h
  rw [Array.all_eq_true_iff_forall_mem] at h
  exact h u (by simpa using hu)
end
@[go_sem] theorem TdC_fold (x_ty : Int) (x_dup : Bool) (x_qos : Int) (x_ret : Bool) (x_id : Int) (x_topic : List UInt8) (x_load : List UInt8) (x_level : Int) (x_clean : Bool) (x_keep : Int) (x_client : List UInt8) (x_hasWill : Bool) (x_wt : List UInt8) (x_wl : List UInt8) (x_wq : Int) (x_wr : Bool) (x_hasUser : Bool) (x_hasPass : Bool) (x_user : List UInt8) (x_pass : List UInt8) (x_present : Bool) (x_code : Int) (x_codes : List UInt8) (A : Option Addr) (n c : Nat) (e : Int) : (#[.int .u8 x_ty, .bool x_dup, .int .u8 x_qos, .bool x_ret, .int .u16 x_id, .string ⟨x_topic.toArray⟩, .string ⟨x_load.toArray⟩, .int .u8 x_level, .bool x_clean, .int .u16 x_keep, .string ⟨x_client.toArray⟩, .bool x_hasWill, .string ⟨x_wt.toArray⟩, .string ⟨x_wl.toArray⟩, .int .u8 x_wq, .bool x_wr, .bool x_hasUser, .bool x_hasPass, .string ⟨x_user.toArray⟩, .string ⟨x_pass.toArray⟩, .bool x_present, .int .u8 x_code, .slice A n c, .string ⟨x_codes.toArray⟩, .int .i64 e] : Array Value) = TdC ⟨x_ty, x_dup, x_qos, x_ret, x_id, x_topic, x_load, x_level, x_clean, x_keep, x_client, x_hasWill, x_wt, x_wl, x_wq, x_wr, x_hasUser, x_hasPass, x_user, x_pass, x_present, x_code, x_codes⟩ A n c e := by simp [TdC, PkC]
@[go_sem] theorem TdC_app {p : Pk} {A : Option Addr} {n c : Nat} {e : Int} : (PkC p A n c ++ #[.int .i64 e] : Array Value) = TdC p A n c e := rfl
@[go_sem] theorem TdC_push {p : Pk} {A : Option Addr} {n c : Nat} {e : Int} : ((PkC p A n c).push (.int .i64 e) : Array Value) = TdC p A n c e := by simp [TdC]
@[go_sem] theorem foldl_TdC (p q : Pk) (A B : Option Addr) (n c m d : Nat) (e f : Int) : Array.foldl (fun (cs : Array Value) (x : Value × Nat) => cs.setIfInBounds x.snd x.fst) (TdC p A n c e) (TdC q B m d f).zipIdx 0 25 = TdC q B m d f := by simp [TdC, PkC]
@[go_sem] theorem foldl_TdPk (p q : Pk) (A B : Option Addr) (n c m d : Nat) (e : Int) : Array.foldl (fun (cs : Array Value) (x : Value × Nat) => cs.setIfInBounds x.snd x.fst) (TdC p A n c e) (PkC q B m d).zipIdx 0 24 = TdC q B m d e := by simp [TdC, PkC]
@[go_sem] theorem TdC_s24 (p : Pk) (A : Option Addr) (n c : Nat) (e f : Int) : (TdC p A n c e).setIfInBounds 24 (.int .i64 f) = TdC p A n c f := by simp [TdC, PkC]
/-- Two in a row. -/
def Td2 (p : Pk) (A : Option Addr) (n c : Nat) (e : Int) (q : Pk) (B : Option Addr) (m d : Nat) (f : Int) : Array Value := TdC p A n c e ++ TdC q B m d f
@[go_sem] theorem fold_td0 (p : Pk) (A : Option Addr) (n c : Nat) (e : Int) : Array.foldl (fun (cs : Array Value) (x : Value × Nat) => cs.setIfInBounds x.snd x.fst)
    #[.int .u8 0, .bool false, .int .u8 0, .bool false, .int .u16 0, .string ⟨#[]⟩, .string ⟨#[]⟩, .int .u8 0, .bool false, .int .u16 0, .string ⟨#[]⟩, .bool false, .string ⟨#[]⟩, .string ⟨#[]⟩, .int .u8 0, .bool false, .bool false, .bool false, .string ⟨#[]⟩, .string ⟨#[]⟩, .bool false, .int .u8 0, .slice none 0 0, .string ⟨#[]⟩, .int .i64 0,
      .int .u8 0, .bool false, .int .u8 0, .bool false, .int .u16 0, .string ⟨#[]⟩, .string ⟨#[]⟩, .int .u8 0, .bool false, .int .u16 0, .string ⟨#[]⟩, .bool false, .string ⟨#[]⟩, .string ⟨#[]⟩, .int .u8 0, .bool false, .bool false, .bool false, .string ⟨#[]⟩, .string ⟨#[]⟩, .bool false, .int .u8 0, .slice none 0 0, .string ⟨#[]⟩, .int .i64 0]
    (TdC p A n c e).zipIdx 0 25 = Td2 p A n c e zPk none 0 0 0 := by simp [Td2, TdC, PkC, zPk]
@[go_sem] theorem fold_td1 (p q r : Pk) (A B C : Option Addr) (n c m d k l : Nat) (e f h : Int) : Array.foldl (fun (cs : Array Value) (x : Value × Nat) => cs.setIfInBounds (25 + x.snd) x.fst) (Td2 p A n c e r C k l h) (TdC q B m d f).zipIdx 0 25 = Td2 p A n c e q B m d f := by simp [Td2, TdC, PkC]
@[go_sem, simp] theorem Td2_size {p : Pk} {A : Option Addr} {n c : Nat} {e : Int} {q : Pk} {B : Option Addr} {m d : Nat} {f : Int} : (Td2 p A n c e q B m d f).size = 50 := by simp [Td2]
@[go_sem] theorem Td2_one {p : Pk} {A : Option Addr} {n c : Nat} {e : Int} {q : Pk} {B : Option Addr} {m d : Nat} {f : Int} : ones (Td2 p A n c e q B m d f) = true := by simp [Td2, TdC, ones, PkC, Value.oneCell']
/-- Cells that read as a row of what is told. -/
def RdD (w : World) (L : List Value) (ts : List TX) : Prop :=
  L.length = ts.length * 25 ∧ ∀ j x, ts[j]? = some x → ∃ A' n' c', (L.drop (j * 25)).take 25 = (TdC x.1.1 A' n' c' x.2).toList ∧ Subs w A' n' x.1.2 ∧ (A' = none → c' = 0) ∧ SubT 0 w A' n'
/-- What a change leaves of the blocks of Subs: all. -/
def KeepS (w w' : World) : Prop := w.heap.size ≤ w'.heap.size ∧ ∀ (b : Nat) (cur : Array Value), w.heap[b]? = some (.cells cur 42 (0, 0)) → w'.heap[b]? = some (.cells cur 42 (0, 0))
theorem KeepS.of_below {w w' : World} (hb : Below w.heap.size w w') : KeepS w w' := ⟨hb.size, fun b cur h => (hb.block b (Array.getElem?_eq_some_iff.1 h).1).trans h⟩
theorem subT_keep {B : Nat} {w w' : World} {A : Option Addr} {n : Nat} (h : SubT B w A n) (hk : KeepS w w') : SubT B w' A n := fun hn b o e => by
  obtain ⟨h9, cur, hc⟩ := h hn b o e
  exact ⟨h9, cur, hk.2 b cur hc⟩
theorem subT_zero {B : Nat} {w : World} {A : Option Addr} {n : Nat} (h : SubT B w A n) : SubT 0 w A n := subT_base h (Nat.zero_le _)
theorem subs_keep {B : Nat} {w w' : World} {A : Option Addr} {n : Nat} {xs : List (List UInt8 × Int)} (h : Subs w A n xs) (ht : SubT B w A n) (hk : KeepS w w') : Subs w' A n xs :=
  ⟨h.1, fun hn => by
    obtain ⟨b, off, e, hlt, hc⟩ := h.2 hn
    obtain ⟨_, cur, hcur⟩ := ht hn b off e
    have hr : rowAt w' b = rowAt w b := by rw [rowAt_blk hcur, rowAt_blk (hk.2 b cur hcur)]
    exact ⟨b, off, e, Nat.lt_of_lt_of_le hlt hk.1, fun j x hx => by rw [hr]; exact hc j x hx⟩⟩
section
variable {w w' : World} {B : Nat} {L M : List Value} {ts us : List TX}
theorem RdD.nil : RdD w [] [] := ⟨rfl, fun j x hx => by simp at hx⟩
theorem RdD.keep (h : RdD w L ts) (hk : KeepS w w') : RdD w' L ts :=
  ⟨h.1, fun j x hx => by
    obtain ⟨A', n', c', h1, h2, h3, h4⟩ := h.2 j x hx
    exact ⟨A', n', c', h1, subs_keep h2 h4 hk, h3, subT_keep h4 hk⟩⟩
theorem RdD.app (h : RdD w L ts) (k : RdD w M us) : RdD w (L ++ M) (ts ++ us) := by
  refine ⟨by rw [List.length_append, List.length_append, h.1, k.1]; omega, fun j x hx => ?_⟩
  by_cases hj : j < ts.length
  · rw [List.getElem?_append_left hj] at hx
    obtain ⟨A', n', c', h1, h2⟩ := h.2 j x hx
    refine ⟨A', n', c', ?_, h2⟩
    rw [List.drop_append_of_le_length (by rw [h.1]; omega), List.take_append_of_le_length (by rw [List.length_drop, h.1]; omega), h1]
  · rw [List.getElem?_append_right (by omega)] at hx
    obtain ⟨A', n', c', h1, h2⟩ := k.2 _ x hx
    refine ⟨A', n', c', ?_, h2⟩
    rw [List.drop_append, List.drop_eq_nil_of_le (by rw [h.1]; omega), List.nil_append, h.1, ← Nat.sub_mul, h1]
theorem RdD.ones (h : RdD w L ts) : ∀ u ∈ L, u.oneCell' = true := by
  intro u hu
  obtain ⟨i, hi, rfl⟩ := List.mem_iff_getElem.1 hu
  have hl := h.1
  have hk : i / 25 < ts.length := by omega
  obtain ⟨A', n', c', h1, _⟩ := h.2 (i / 25) ts[i / 25] (List.getElem?_eq_getElem hk)
  refine TdC_onec (p := ts[i / 25].1.1) (A := A') (n := n') (c := c') (e := ts[i / 25].2) _ ?_
  rw [← h1]
  refine List.mem_iff_getElem?.2 ⟨i % 25, ?_⟩
  rw [List.getElem?_take_of_lt (by omega), List.getElem?_drop, show i / 25 * 25 + i % 25 = i by omega]
  exact List.getElem?_eq_getElem hi
end
/-- A slice reads as a row of what is told. -/
def Tds (w : World) (A : Option Addr) (n : Nat) (ts : List TX) : Prop :=
  ts.length = n ∧ (0 < n → ∃ b off, A = some ⟨b, off, none⟩ ∧ b < w.heap.size ∧ ∀ j x, ts[j]? = some x → off + j * 25 + 25 ≤ (rowAt w b).size ∧
    ∃ A' n' c', (rowAt w b).extract (off + j * 25) (off + j * 25 + 25) = TdC x.1.1 A' n' c' x.2 ∧ Subs w A' n' x.1.2 ∧ (A' = none → c' = 0) ∧ SubT 0 w A' n')
section
variable {w w' : World} {A : Option Addr} {n : Nat} {ts : List TX}
theorem Tds.len (h : Tds w A n ts) : ts.length = n := h.1
theorem Tds.nil (A : Option Addr) : Tds w A 0 [] := ⟨rfl, fun h => by omega⟩
theorem Tds.keep (h : Tds w A n ts) (hk : KeepS w w') (hr : ∀ b o, 0 < n → A = some ⟨b, o, none⟩ → b < w.heap.size → w'.heap[b]? = w.heap[b]?) : Tds w' A n ts :=
  ⟨h.1, fun hn => by
    obtain ⟨b, off, e, hlt, hc⟩ := h.2 hn
    have h9 : rowAt w' b = rowAt w b := by unfold rowAt; rw [hr b off hn e hlt]
    refine ⟨b, off, e, Nat.lt_of_lt_of_le hlt hk.1, fun j x hx => ?_⟩
    obtain ⟨h1, A', n', c', h2, h3, h4, h5⟩ := hc j x hx
    rw [h9]
    exact ⟨h1, A', n', c', h2, subs_keep h3 h5 hk, h4, subT_keep h5 hk⟩⟩
theorem Tds.below (h : Tds w A n ts) (hb : Below w.heap.size w w') : Tds w' A n ts := h.keep (.of_below hb) (fun b _ _ _ hlt => hb.block b hlt)
/-- One of a row. -/
theorem Tds.at_ (h : Tds w A n ts) {k : Nat} (hk : k < n) : ∃ b off x A' n' c', A = some ⟨b, off, none⟩ ∧ ts[k]? = some x ∧ b < w.heap.size ∧ off + k * 25 + 25 ≤ (rowAt w b).size ∧
    (rowAt w b).extract (off + k * 25) (off + k * 25 + 24) = PkC x.1.1 A' n' c' ∧ (rowAt w b)[off + k * 25 + 24]? = some (.int .i64 x.2) ∧ w.cell? ⟨b, off + k * 25 + 24, none⟩ = some (.int .i64 x.2) ∧ Subs w A' n' x.1.2 ∧ (A' = none → c' = 0) ∧ SubT 0 w A' n' := by
  obtain ⟨b, off, e, hlt, hc⟩ := h.2 (by omega)
  have hkl : k < ts.length := by rw [h.1]; exact hk
  obtain ⟨h1, A', n', c', h2, h3, h4, h5⟩ := hc k ts[k] (List.getElem?_eq_getElem hkl)
  have h6 : (rowAt w b)[off + k * 25 + 24]? = some (.int .i64 ts[k].2) := by
    have := TdC_24 (p := ts[k].1.1) (A := A') (n := n') (c := c') (e := ts[k].2)
    rw [← h2, Array.getElem?_extract, if_pos (by omega)] at this
    exact this
  refine ⟨b, off, ts[k], A', n', c', e, List.getElem?_eq_getElem hkl, hlt, h1, ?_, h6, ?_, h3, h4, h5⟩
  · rw [← TdC_head (p := ts[k].1.1) (A := A') (n := n') (c := c') (e := ts[k].2), ← h2, Array.extract_extract]
    congr 1
    omega
  · rw [rowAt_cell (by omega)]
    exact h6
theorem Tds.rd (h : Tds w A n ts) : 0 < n → ∃ b off L, A = some ⟨b, off, none⟩ ∧ RdD w L ts ∧ ∀ j u, L[j]? = some u → w.cell? ⟨b, off + j, none⟩ = some u := by
  obtain ⟨rfl, h⟩ := h
  intro hn
  obtain ⟨b, off, e, hlt, hc⟩ := h hn
  have hsz : off + ts.length * 25 ≤ (rowAt w b).size := by
    have := (hc (ts.length - 1) ts[ts.length - 1] (List.getElem?_eq_getElem (by omega))).1
    omega
  refine ⟨b, off, ((rowAt w b).extract off (off + ts.length * 25)).toList, e, ⟨by simp; omega, fun j x hx => ?_⟩, fun j u hu => ?_⟩
  · obtain ⟨h1, A', n', c', h2, h3, h4, h5⟩ := hc j x hx
    have hj : j < ts.length := (List.getElem?_eq_some_iff.1 hx).1
    refine ⟨A', n', c', ?_, h3, h4, h5⟩
    rw [← h2]
    simp only [Array.toList_extract, List.extract_eq_take_drop, List.drop_take, List.take_take, List.drop_drop]
    congr 1
    omega
  · have hj : j < ts.length * 25 := by
      have := (List.getElem?_eq_some_iff.1 hu).1
      simp at this
      omega
    rw [rowAt_cell (by omega), ← hu, Array.getElem?_toList, Array.getElem?_extract, if_pos (by omega)]
/-- A block that has just one. -/
theorem tds_one {g : Nat} {p : Pk} {A : Option Addr} {n c : Nat} {xs : List (List UInt8 × Int)} {e : Int} (hr : rowAt w g = TdC p A n c e) (hg : g < w.heap.size) (hS : Subs w A n xs) (hc : A = none → c = 0) (ht : SubT 0 w A n) : Tds w (some ⟨g, 0, none⟩) 1 [((p, xs), e)] := by
  refine ⟨rfl, fun _ => ⟨g, 0, rfl, hg, fun j x hx => ?_⟩⟩
  match j, hx with
  | 0, hx =>
    cases hx
    rw [hr]
    exact ⟨by simp, A, n, c, by simp [TdC_all], hS, hc, ht⟩
  | j + 1, hx => simp at hx
end
theorem tds_two {w : World} {g : Nat} {p q : Pk} {A B : Option Addr} {n c m d : Nat} {xs ys : List (List UInt8 × Int)} {e f : Int} (h : rowAt w g = Td2 p A n c e q B m d f) (hg : g < w.heap.size) (hs : Subs w A n xs) (hc : A = none → c = 0) (ht : SubT 0 w A n) (ks : Subs w B m ys) (kc : B = none → d = 0) (kt : SubT 0 w B m) : Tds w (some ⟨g, 0, none⟩) 2 [((p, xs), e), ((q, ys), f)] := by
  refine ⟨rfl, fun _ => ⟨g, 0, rfl, hg, fun j x hx => ?_⟩⟩
  match j, hx with
  | 0, hx =>
    cases hx
    rw [h]
    exact ⟨by simp [Td2], A, n, c, by simp [Td2, TdC, PkC], hs, hc, ht⟩
  | 1, hx =>
    cases hx
    rw [h]
    exact ⟨by simp [Td2], B, m, d, by simp [Td2, TdC, PkC], ks, kc, kt⟩
  | j + 2, hx => simp at hx
theorem subT_nil {B : Nat} (w : World) (A : Option Addr) : SubT B w A 0 := fun h => absurd h (Nat.lt_irrefl 0)
/-- The call's own row of what is told. -/
def OwnD (B : Nat) (wr : World) (v : Value) (ts : List TX) : Prop :=
  ∃ L, wr.ownsRow B 51 25 v ts.length L ∧ RdD wr L ts ∧ B ≤ wr.heap.size
section
variable {B B' : Nat} {wr w' : World} {v : Value} {ts : List TX}
theorem OwnD.nil (hB : B ≤ wr.heap.size) : OwnD B wr (.slice none 0 0) [] := ⟨[], World.ownsRow_nil _ _ _ _, RdD.nil, hB⟩
theorem OwnD.more (h : OwnD B wr v ts) (hb : Below wr.heap.size wr w') : OwnD B w' v ts := by
  obtain ⟨L, h1, h2, h4⟩ := h
  exact ⟨L, own_below h1 hb, h2.keep (.of_below hb), Nat.le_trans h4 hb.size⟩
theorem OwnD.size (h : OwnD B wr v ts) : B ≤ wr.heap.size := by obtain ⟨L, h1, h2, h4⟩ := h; exact h4
theorem OwnD.base (h : OwnD B wr v ts) (hB : B' ≤ B) : OwnD B' wr v ts := by
  obtain ⟨L, h1, h2, h4⟩ := h
  refine ⟨L, ⟨h1.1, ?_⟩, h2, Nat.le_trans hB h4⟩
  rcases h1.2 with h5 | ⟨g, cap, cur, e, h5, h6, h7⟩
  · exact Or.inl h5
  · exact Or.inr ⟨g, cap, cur, e, Nat.le_trans hB h5, h6, h7⟩
/-- What changes neither a block of Subs nor one of what is told. -/
def KeepD (w w' : World) : Prop := KeepS w w' ∧ ∀ (b : Nat) (cur : Array Value), w.heap[b]? = some (.cells cur 51 (0, 0)) → w'.heap[b]? = some (.cells cur 51 (0, 0))
theorem OwnD.keep (h : OwnD B wr v ts) (hk : KeepD wr w') : OwnD B w' v ts := by
  obtain ⟨L, h1, h2, h4⟩ := h
  refine ⟨L, ⟨h1.1, ?_⟩, h2.keep hk.1, Nat.le_trans h4 hk.1.1⟩
  rcases h1.2 with h5 | ⟨g, cap, cur, e, h5, h6, h7⟩
  · exact Or.inl h5
  · exact Or.inr ⟨g, cap, cur, e, h5, hk.2 g cur h6, h7⟩
theorem OwnD.tds (h : OwnD B wr v ts) : ∃ A c, v = .slice A ts.length c ∧ Tds wr A ts.length ts ∧ (A = none → c = 0) ∧ (∀ b o, A = some ⟨b, o, none⟩ → B ≤ b ∧ ∃ cur, wr.heap[b]? = some (.cells cur 51 (0, 0))) ∧ (A = none ∨ ∃ b, A = some ⟨b, 0, none⟩) := by
  obtain ⟨L, h1, h2, _⟩ := h
  rcases h1.2 with ⟨rfl, hn⟩ | ⟨g, cap, cur, rfl, hB, hh, hc, _, hsz, ht⟩
  · exact ⟨none, 0, by rw [hn], ⟨rfl, fun h => by omega⟩, fun _ => rfl, fun b o e => (by cases e), Or.inl rfl⟩
  · refine ⟨some ⟨g, 0, none⟩, cap, rfl, ⟨rfl, fun _ => ⟨g, 0, rfl, (Array.getElem?_eq_some_iff.1 hh).1, fun j x hx => ?_⟩⟩, fun e => (by cases e), fun b o e => by cases e; exact ⟨hB, cur, hh⟩, Or.inr ⟨g, rfl⟩⟩
    have hj : j < ts.length := (List.getElem?_eq_some_iff.1 hx).1
    rw [rowAt_blk hh]
    refine ⟨by omega, ?_⟩
    obtain ⟨A', n', c', h3, h4, h5, h6⟩ := h2.2 j x hx
    refine ⟨A', n', c', ?_, h4, h5, h6⟩
    rw [← ht, List.drop_take, List.take_take, show min 25 (ts.length * 25 - j * 25) = 25 by omega] at h3
    apply Array.ext'
    rw [← h3, Nat.zero_add, Array.toList_extract, List.extract_eq_take_drop]
    simp
theorem OwnD.tds' {A : Option Addr} {n c : Nat} (h : OwnD B wr (.slice A n c) ts) (hn : ts.length = n) : Tds wr A n ts ∧ (A = none → c = 0) ∧ (A = none ∨ ∃ b o, A = some ⟨b, o, none⟩) := by
  obtain ⟨A2, c2, e, h1, h2, _, h3⟩ := h.tds
  injection e with e1 e2 e3
  subst e1 e3 hn
  refine ⟨h1, h2, ?_⟩
  rcases h3 with h3 | ⟨b, h3⟩
  · exact Or.inl h3
  · exact Or.inr ⟨b, 0, h3⟩
theorem ownd_no {w : World} {b n : Nat} {L : List Value} (h : w.ownsRow B 51 25 v n L) {cur : Array Value} {t : TypeId} (hb : w.heap[b]? = some (.cells cur t (0, 0))) (ht : t ≠ 51) : some b ≠ v.ownBlock := by
  intro e
  rcases h.2 with ⟨rfl, hn⟩ | ⟨g, cap, cur2, rfl, hB, hh, _⟩
  · cases e
  · obtain rfl : b = g := by simpa [Value.ownBlock] using e
    rw [hh] at hb
    injection hb with h1
    injection h1 with _ h2 _
    exact ht h2.symm
end
theorem td_info : (Tryz.prog.info? 51).map (fun i => (i.zero.map fun z => z.cells.size, i.size)) = some (some 25, 25) := by kernel_rfl
theorem td_bytes : (Tryz.prog.info? 51).map (fun i => decide (i.bytes ≤ 1000)) = some true := by kernel_rfl
/-- What an append onto the own row changes: nothing but it. -/
theorem grown_keep {B : Nat} {w w' : World} {v : Value} {n : Nat} {L : List Value} (h : w.ownsRow B 51 25 v n L) (hgr : w.grownBy w' v.ownBlock) {b : Nat} {cur : Array Value} {t : TypeId} (hb : w.heap[b]? = some (.cells cur t (0, 0))) (ht : t ≠ 51) : w'.heap[b]? = some (.cells cur t (0, 0)) :=
  (hgr.block b (Array.getElem?_eq_some_iff.1 hb).1 (ownd_no h hb ht)).trans hb
theorem grown_keepS {B : Nat} {w w' : World} {v : Value} {n : Nat} {L : List Value} (h : w.ownsRow B 51 25 v n L) (hgr : w.grownBy w' v.ownBlock) : KeepS w w' :=
  ⟨hgr.size, fun _ _ hb => grown_keep h hgr hb (by decide)⟩
theorem wpList_dapp {ops : Array Oper} {rest : List Oper} {o : Oper} {a : Act} {Q : Exit → Act → World → Prop} {B : Nat} {wr : World} {v : Value} {ts : List TX} (hgd : o.guard = none) (s x : Operand)
    (ho : o.op = .call { callee := .builtin .append, args := #[s, x], argTypes := #[47, 47] })
    (hs : a.eval s = v) (hb : OwnD B wr v ts) (A : Option Addr) (n c : Nat) (us : List TX) (hx : a.eval x = .slice A n c) (hI : Tds wr A n us) (hc0 : A = none → c = 0)
    (hl : ts.length + n ≤ 1000000) (hA : A = none ∨ ∃ b o, A = some ⟨b, o, none⟩)
    (h : ∀ v' w', OwnD B w' v' (ts ++ us) → wr.grownBy w' v.ownBlock → (∃ L, wr.ownsRow B 51 25 v ts.length L) → wpList Tryz.prog ops Q rest (a.put o.dst v') w') : wpList Tryz.prog ops Q (o :: rest) a wr := by
  obtain ⟨i, hi, hz1⟩ := Option.map_eq_some_iff.1 td_info
  have hz4 : i.bytes ≤ 1000 := by
    have := td_bytes
    rw [hi] at this
    simpa using this
  obtain ⟨hz2, hz3⟩ := Prod.mk.inj hz1
  obtain ⟨z, hz, hzs⟩ := Option.map_eq_some_iff.1 hz2
  obtain ⟨L, hown, hrd, hB⟩ := hb
  have hrdI := hI.rd
  obtain ⟨rfl, _⟩ := hI
  rcases Nat.eq_zero_or_pos us.length with h0 | h0
  · obtain rfl : us = [] := List.eq_nil_of_length_eq_zero h0
    rcases hA with rfl | ⟨b, o, rfl⟩
    · obtain rfl := hc0 rfl
      exact wpList_append_own_none hgd s x _ ho B _ i 25 Tryz.underlying47 hi v ts.length _ hs hown hx (h v wr ⟨L, by simpa using hown, by simpa using hrd, hB⟩ (World.grownBy.refl wr _) ⟨L, hown⟩)
    · refine wpList_append_own wr hgd s x _ ho B _ i z 25 i.bytes Tryz.underlying47 hi hz hz3 rfl hzs (by decide) v ts.length _ hs hown ⟨b, o, none⟩ 0 c [] hx rfl (fun j u hu => by simp at hu) (fun u hu => by cases hu) (by unfold maxLen; omega) (by simp only [List.length_nil] at hl; exact Nat.le_trans (Nat.mul_le_mul (show ts.length + 0 ≤ 1000000 by omega) hz4) (by decide)) hB ?_
      intro v' w' hown' hgr _
      refine h v' w' ⟨L, by simpa using hown', ?_, Nat.le_trans hB hgr.size⟩ hgr ⟨L, hown⟩
      rw [List.append_nil]
      exact hrd.keep (grown_keepS hown hgr)
  · obtain ⟨b, off, M, rfl, hM, hcell⟩ := hrdI h0
    refine wpList_append_own wr hgd s x _ ho B _ i z 25 i.bytes Tryz.underlying47 hi hz hz3 rfl hzs (by decide) v ts.length _ hs hown ⟨b, off, none⟩ us.length c M hx hM.1 ?_ hM.ones (by unfold maxLen; omega) (Nat.le_trans (Nat.mul_le_mul hl hz4) (by decide)) hB ?_
    · intro j u hu
      have hadd : (⟨b, off, none⟩ : Addr).add j = ⟨b, off + j, none⟩ := by unfold Addr.add; split <;> simp_all
      rw [hadd]
      exact hcell j u hu
    · intro v' w' hown' hgr _
      refine h v' w' ⟨L ++ M, by rw [List.length_append]; exact hown', (hrd.app hM).keep (grown_keepS hown hgr), Nat.le_trans hB hgr.size⟩ hgr ⟨L, hown⟩
end Go.Proofs.YtnaedcennichlaaGreatDoor

/-
  frame: how many bytes a packet has, and the packet.
-/
namespace Go.Proofs.YtnaedcennichlaaGreatDoor
open Go.RowKit
set_option maxRecDepth 100000
theorem cutl_le (s : List UInt8) : (cutR s).1.length ≤ s.length := by
  by_cases h : (cutR s).2.2 = 0
  · obtain ⟨b, r, n, u, hs, _, _, _, _, _, _, hc, _⟩ := cut_ok h
    rw [hc, hs]
    show ((r.drop u.toNat).take n.toNat).length ≤ (b :: r).length
    rw [List.length_take, List.length_drop, List.length_cons]
    omega
  · rcases cut_er s with h1 | h1 | h1
    · exact absurd h1 h
    · rw [h1]; simp
    · rw [h1]; simp
section
variable {B : Nat} {w w' : World} {g : Nat} {m : Int} {A : Option Addr} {n c k : Nat} {L : List UInt8} {f : Int}
set_option maxHeartbeats 1000000 in
theorem frSize (h : FrS B w g m A n c k L f) (hn : n ≤ 2000000000) (b : List UInt8) (hb : L.drop k = b) (S E : Int) (hS : szR m b = (S, E)) : Calls Tryz.prog 24 #[.pointer (some ⟨g, 0, none⟩)] w fun e w' => e = .returned (.tuple #[.int .i64 S, .int .i64 E]) ∧ Below w.heap.size w w' := by
  have hbl : b.length = n - k := by rw [← hb, List.length_drop, h.len]
  obtain ⟨p, hp⟩ : ∃ p, p = n - k := ⟨_, rfl⟩
  have HP := Lib.hid hp
  have HB := Lib.hid hb
  have HM := Lib.hid h.lo
  have H := Lib.hid h
  have HS := Lib.hid hS
  rw [← hp] at hbl
  clear h hS hb hp
  go_enter Tryz.func24, Tryz.ntmps24
  go_wp2_with fail
  refine (frBuffer H.out hn).mono ?_
  rintro e w1 ⟨A', c', rfl, hby, hb1, hc1, hc2, hA⟩
  rw [HB.out] at hby
  rw [← HP.out] at hby ⊢
  have hpc : p ≤ c' := by have := HP.out; omega
  replace H := Lib.hid (H.out.below hb1)
  rcases b with _ | ⟨x, r⟩
  · have HS2 : Hid (S = 0 ∧ E = 0) := by show _ ∧ _; have := HS.out; unfold szR at this; simp at this; exact ⟨this.1.symm, this.2.symm⟩
    simp at hbl
    subst hbl
    clear hby
    go_wp2_with fail
    go_ret2
    obtain ⟨rfl, rfl⟩ := HS2.out
    exact ⟨rfl, hb1⟩
  · rw [List.length_cons] at hbl
    rcases hby.2.1 with rfl | ⟨blk, off, rfl, hc⟩
    · have := hby.2.2 rfl; omega
    have hx0 := hc 0 x rfl
    rw [Nat.add_zero] at hx0
    have hx9 := x.toNat_lt
    have p0 : 0 < p := by omega
    have p1 : (0 : Int) < (p : Int) := by omega
    have p2 : ((p : Int) == 0) = false := by simp; omega
    have HC := Lib.hid hc
    have HS2 := Lib.hid (HS.out)
    rw [sz_cons] at HS2
    clear hc hby hA hc1 hc2
    cases hf : firB (x.toNat : Int) with
    | false =>
      rw [hf] at HS2
      have HF := Lib.hid hf
      clear hf
      go_wp2_with fail
      refine (first_eq x.toNat false _ (by omega) (by omega) HF.out).mono ?_
      rintro e w2 ⟨rfl, rfl⟩
      go_wp2_with fail
      go_ret2
      have := HS2.out
      simp at this
      obtain ⟨rfl, rfl⟩ := this
      exact ⟨rfl, hb1⟩
    | true =>
      rw [hf, if_pos rfl] at HS2
      have HF := Lib.hid hf
      clear hf
      go_wp2_with fail
      refine (first_eq x.toNat true _ (by omega) (by omega) HF.out).mono ?_
      rintro e w2 ⟨rfl, rfl⟩
      obtain ⟨q4, hq4⟩ : ∃ q4, q4 = (r.take 4).length := ⟨_, rfl⟩
      obtain ⟨q5, hq5⟩ : ∃ q5, q5 = q4 + 1 := ⟨_, rfl⟩
      have hq4' := hq4
      rw [List.length_take] at hq4'
      have hmin : min (p : Int) 5 = (q5 : Int) := by omega
      have h54 : q5 - 1 = q4 := by omega
      have h5p : (q5 : Int) ≤ (c' : Int) := by omega
      have h51 : (1 : Int) ≤ (q5 : Int) := by omega
      have h50 : (0 : Int) ≤ (q5 : Int) := by omega
      have hcell4 : ∀ j y, (r.take 4)[j]? = some y → w2.cell? ⟨blk, off + 1 + j, none⟩ = some (.int .u8 (y.toNat : Int)) := by
        intro j y hy
        rw [List.getElem?_take] at hy
        split at hy
        · rw [show off + 1 + j = off + (j + 1) by omega]
          exact HC.out (j + 1) y hy
        · cases hy
      have hcv := fun cc => Bys.conv (A := some ⟨blk, off + 1, none⟩) (n := q4) (l := r.take 4) (w := w2) ⟨hq4.symm, Or.inr ⟨blk, off + 1, rfl, hcell4⟩, fun e => by cases e⟩ cc
      have hcv0 : c' = 1 → ∀ cc o, (convert 23 9 (.slice (some ⟨blk, o, none⟩) q4 cc)).run Tryz.prog w2 = .ok (.string ⟨(r.take 4).toArray⟩) w2 := fun hc1 cc o => by
        have hr0 : r = [] := List.eq_nil_of_length_eq_zero (by omega)
        exact Bys.conv (A := some ⟨blk, o, none⟩) ⟨hq4.symm, Or.inr ⟨blk, o, rfl, fun j y hy => by rw [hr0] at hy; simp at hy⟩, fun e => by cases e⟩ cc
      obtain ⟨v, u, er, hrd⟩ : ∃ v u er, rdR (r.take 4) = (v, u, er) := ⟨_, _, _, rfl⟩
      obtain ⟨R, hRR⟩ : ∃ R, R = r.take 4 := ⟨_, rfl⟩
      rw [← hRR] at hcv hcv0 hrd HS2 hq4
      have HRD := Lib.hid hrd
      have hRl : R.length ≤ 4 := by rw [hRR, List.length_take]; omega
      have hrg := rdR_range R
      rw [hrd] at hrg HS2
      have HT : Hid (szT m (v, u, er) = (S, E)) := HS2.out
      clear hrd HS2 hRR hq4 hq4' hcell4 HC HB hq5
      go_wp2_with fail
      all_goals
        refine (readLen_eq R v u er _ (by omega) HRD.out).mono ?_
        rintro e w3 ⟨rfl, rfl⟩
        clear hcv hcv0 hmin h54 h5p h51 h50
        have HTT := HT.out
        unfold szT at HTT
        dsimp only at HTT
        by_cases he2 : er = 2
        · subst he2
          simp only [if_true, Prod.mk.injEq] at HTT
          obtain ⟨rfl, rfl⟩ := HTT
          go_wp2_with fail
          go_ret2
          exact ⟨rfl, hb1⟩
        · rw [if_neg he2] at HTT
          have he2b : (er == 2) = false := by simpa using he2
          by_cases he0 : er = 0
          · subst he0
            rw [if_pos rfl] at HTT
            obtain ⟨r1, r2, r3, r4⟩ := hrg rfl
            obtain ⟨z1, hz1⟩ : ∃ z1 : Int, z1 = 1 + u := ⟨_, rfl⟩
            obtain ⟨z2, hz2⟩ : ∃ z2 : Int, z2 = z1 + v := ⟨_, rfl⟩
            rw [← hz1, ← hz2] at HTT
            have s1 : 1 + u = z1 := hz1.symm
            have s2 : z1 + v = z2 := hz2.symm
            have W1 : IntKind.i64.wrap z1 = z1 := IntWalk.i64_in _ (by omega)
            have W2 : IntKind.i64.wrap z2 = z2 := IntWalk.i64_in _ (by omega)
            obtain ⟨b1, b2, b3, b4, b5⟩ := blk_row H.out.heap
            clear hz1 hz2 hrg
            by_cases hlg : m < z2
            · rw [if_pos hlg] at HTT
              simp only [Prod.mk.injEq] at HTT
              obtain ⟨rfl, rfl⟩ := HTT
              have hd : decide (m < z2) = true := by simpa using hlg
              clear r1 r2 r3 r4
              go_wp2_with fail
              go_ret2
              exact ⟨rfl, hb1⟩
            · rw [if_neg hlg] at HTT
              simp only [Prod.mk.injEq] at HTT
              obtain ⟨rfl, rfl⟩ := HTT
              have hd : decide (m < z2) = false := by simpa using hlg
              clear r1 r2 r3 r4
              go_wp2_with fail
              go_ret2
              exact ⟨rfl, hb1⟩
          · rw [if_neg he0] at HTT
            simp only [Prod.mk.injEq] at HTT
            obtain ⟨rfl, rfl⟩ := HTT
            have he0b : (er != 0) = true := by simpa using he0
            go_wp2_with fail
            go_ret2
            exact ⟨rfl, hb1⟩
theorem Bys.take {w : World} {A : Option Addr} {n q : Nat} {l : List UInt8} (h : Bys w A n l) (hq : q ≤ n) : Bys w A q (l.take q) := by
  obtain ⟨h1, h2, h3⟩ := h
  refine ⟨by rw [List.length_take]; omega, ?_, fun e => by have := h3 e; omega⟩
  rcases h2 with h2 | ⟨b, off, e, hc⟩
  · exact Or.inl h2
  · refine Or.inr ⟨b, off, e, fun j x hx => ?_⟩
    rw [List.getElem?_take] at hx
    split at hx
    · exact hc j x hx
    · cases hx
set_option maxHeartbeats 2000000 in
theorem frDecode (h : FrS B w g m A n c k L f) (hG : ∀ w', Below w.heap.size w w' → Glo w') (hn : n ≤ 2000000000) (b : List UInt8) (hb : L.drop k = b) (P : Pk) (X : List (List UInt8 × Int)) (N E : Int) (hD : dcR m b = (P, X, N, E)) :
    Calls Tryz.prog 17 #[.pointer (some ⟨g, 0, none⟩)] w fun e w' => DEC w P X N E e w' := by
  have hbl : b.length = n - k := by rw [← hb, List.length_drop, h.len]
  obtain ⟨S, F, hS⟩ : ∃ S F, szR m b = (S, F) := ⟨_, _, rfl⟩
  have hbd := sz_bd m b (by have := h.lo; omega)
  have hlim := h.hi
  rw [hS] at hbd
  dsimp only at hbd
  have HD := Lib.hid hD
  have HS := Lib.hid hS
  have HB := Lib.hid hb
  have H := Lib.hid h
  have HG := Lib.hid hG
  have HW := Lib.hid (cut_whole (m := m) (b := b))
  rw [hS] at HW
  have hK0 := (Kp.nil w).new (PkC zPk none 0 0) 36
  clear h hb hD hS hG
  by_cases hz : F ≠ 0 ∨ S = 0 ∨ (b.length : Int) < S
  · have HR : Hid (P = zPk ∧ X = [] ∧ N = 0 ∧ E = F) := by
      show _ ∧ _
      have h1 := HD.out
      unfold dcR at h1
      rw [HS.out, if_pos hz] at h1
      simp only [Prod.mk.injEq] at h1
      obtain ⟨rfl, rfl, rfl, rfl⟩ := h1
      exact ⟨rfl, rfl, rfl, rfl⟩
    obtain ⟨rfl, rfl, rfl, rfl⟩ := HR.out
    clear HD HR HW
    by_cases hF : E = 0
    · subst hF
      by_cases hS0 : S = 0
      · subst hS0
        clear hz
        go_enter Tryz.func17, Tryz.ntmps17
        go_wp2_with fail
        refine (frSize (H.out.below hK0.below) hn b HB.out 0 0 HS.out).mono ?_
        rintro e w1 ⟨rfl, hb1⟩
        have hK1 := hK0.more hb1
        have a1r := hK1.row; have a1f := hK1.free; have a1c := hK1.cell; have a1l := hK1.lt; have a1z := hK1.froz
        clear hb1 hK0
        go_wp2_with fail
        refine ret_pk3 2 3 4 w.heap.size zPk none 0 0 (.int .i64 0) (.int .i64 0) rfl rfl (by go_simp <;> rfl) rfl rfl rfl ?_
        exact dec_no (hK1.set (by simp) _).below
      · have hS9 : (b.length : Int) < S := by omega
        have hSb : (S == 0) = false := by simpa using hS0
        have hd : decide (((n - k : Nat) : Int) < S) = true := by simp; omega
        clear hz
        go_enter Tryz.func17, Tryz.ntmps17
        go_wp2_with fail
        refine (frSize (H.out.below hK0.below) hn b HB.out S 0 HS.out).mono ?_
        rintro e w1 ⟨rfl, hb1⟩
        have hK1 := hK0.more hb1
        clear hb1 hK0
        go_wp2_with fail
        refine (frLeft (H.out.below hK1.below) hn).mono ?_
        rintro e w2 ⟨rfl, hb2⟩
        have hK2 := hK1.more hb2
        have a1r := hK2.row; have a1f := hK2.free; have a1c := hK2.cell; have a1l := hK2.lt; have a1z := hK2.froz
        clear hb2 hK1
        go_wp2_with fail
        refine ret_pk3 2 3 4 w.heap.size zPk none 0 0 (.int .i64 0) (.int .i64 0) rfl rfl (by go_simp <;> rfl) rfl rfl rfl ?_
        exact dec_no (hK2.set (by simp) _).below
    · have hEb : (E == 0) = false := by simpa using hF
      have hEn : (E != 0) = true := by simpa using hF
      clear hz
      go_enter Tryz.func17, Tryz.ntmps17
      go_wp2_with fail
      refine (frSize (H.out.below hK0.below) hn b HB.out S E HS.out).mono ?_
      rintro e w1 ⟨rfl, hb1⟩
      have hK1 := hK0.more hb1
      have a1r := hK1.row; have a1f := hK1.free; have a1c := hK1.cell; have a1l := hK1.lt; have a1z := hK1.froz
      clear hb1 hK0
      go_wp2_with fail
      refine ret_pk3 2 3 4 w.heap.size zPk none 0 0 (.int .i64 0) (.int .i64 E) rfl rfl (by go_simp <;> rfl) rfl rfl rfl ?_
      exact dec_no (hK1.set (by simp) _).below
  · have h2 := HW.out
    dsimp only at h2
    have hF0 : F = 0 := by by_cases e : F = 0; exact e; exact absurd (Or.inl e) hz
    have hS0 : S ≠ 0 := fun e => hz (Or.inr (Or.inl e))
    have hSl : S ≤ b.length := by by_cases e : S ≤ b.length; exact e; exact absurd (Or.inr (Or.inr (by omega))) hz
    have h3 : decR (b.take S.toNat) = (P, X, N, E) := by
      have h1 := HD.out
      unfold dcR at h1
      rw [HS.out, if_neg hz] at h1
      exact h1
    subst hF0
    clear hz HD HW h2
    obtain ⟨s, rfl⟩ : ∃ s : Nat, S = s := ⟨S.toNat, by omega⟩
    rw [Int.toNat_natCast] at h3
    have HDD := Lib.hid h3
    have hSb : ((s : Int) == 0) = false := by simpa using hS0
    have hd : decide (((n - k : Nat) : Int) < (s : Int)) = false := by simp; omega
    have HTL : Hid ((b.take s).length ≤ 65536) := by show _ ≤ _; rw [List.length_take]; omega
    have s0 : (0 : Int) ≤ (s : Int) := by omega
    have hsp : s ≤ n - k := by omega
    clear h3 hS0 hSl
    go_enter Tryz.func17, Tryz.ntmps17
    go_wp2_with fail
    refine (frSize (H.out.below hK0.below) hn b HB.out s 0 HS.out).mono ?_
    rintro e w1 ⟨rfl, hb1⟩
    have hK1 := hK0.more hb1
    clear hb1 hK0
    go_wp2_with fail
    refine (frLeft (H.out.below hK1.below) hn).mono ?_
    rintro e w2 ⟨rfl, hb2⟩
    have hK2 := hK1.more hb2
    clear hb2 hK1
    go_wp2_with fail
    refine (frBuffer (H.out.below hK2.below) hn).mono ?_
    rintro e w3 ⟨A', c', rfl, hby, hb3, hc1, hc2, hA⟩
    have hK3 := hK2.more hb3
    rw [HB.out] at hby
    have hsc : (s : Int) ≤ (c' : Int) := by omega
    have hcv := (hby.take hsp).conv
    clear hb3 hK2 hby
    go_wp2_with fail
    refine (decode_any (b.take s) _ (HG.out _ hK3.below) (by have := HTL.out; omega) (Nat.le_trans (cutl_le _) (by have := HTL.out; omega))).mono ?_
    rw [HDD.out]
    rintro e w4 ⟨A2, c2, rfl, hb4, hS2, hcc2, hst2⟩
    have hK4 := hK3.more hb4
    have HROW := Lib.hid (hK4.rows (w.heap.size, PkC zPk none 0 0, 36) (by simp)).2
    have HSU := Lib.hid hS2
    have HST := Lib.hid (subT_base hst2 hK3.below.size)
    have HCC := Lib.hid hcc2
    clear hK3 hb4 hS2 hcc2 hst2 hcv
    have a1r := hK4.row; have a1f := hK4.free; have a1c := hK4.cell; have a1l := hK4.lt; have a1z := hK4.froz
    go_wp2_with fail
    refine ret_pk3 2 3 4 w.heap.size P A2 X.length c2 (.int .i64 N) (.int .i64 E) rfl rfl (by go_simp <;> rfl) rfl rfl rfl ?_
    exact dec_mk (hK4.set (by simp) _).below (subs_setT HSU.out HST.out HROW.out) HCC.out (subT_set HST.out HROW.out)
end
end Go.Proofs.YtnaedcennichlaaGreatDoor

/-
  frame: Next.
-/
namespace Go.Proofs.YtnaedcennichlaaGreatDoor
open Go.RowKit
set_option maxRecDepth 100000
/-- What Next tells, and what is left. -/
def nxR (m : Int) (b : List UInt8) (f : Int) : (Pk × List (List UInt8 × Int)) × Bool × Int × List UInt8 × Int :=
  if f = 0 then
    if (dcR m b).2.2.2 = 0 then (((dcR m b).1, (dcR m b).2.1), decide (0 < (dcR m b).2.2.1), 0, b.drop (dcR m b).2.2.1.toNat, 0) else ((zPk, []), false, (dcR m b).2.2.2, [], (dcR m b).2.2.2)
  else ((zPk, []), false, f, b, f)
/-- A packet that is told, and a bool, and an error. -/
def NEX (w : World) (P : Pk) (X : List (List UInt8 × Int)) (r : Bool) (er : Int) (e : Ending) (w' : World) : Prop :=
  ∃ A c, e = .returned (.tuple #[.agg (PkC P A X.length c), .bool r, .int .i64 er]) ∧ Subs w' A X.length X ∧ (A = none → c = 0) ∧ SubT w.heap.size w' A X.length
theorem nex_no {w w' : World} {er : Int} : NEX w zPk [] false er (.returned (.tuple #[.agg (PkC zPk none 0 0), .bool false, .int .i64 er])) w' := ⟨none, 0, rfl, Subs.nil _, fun _ => rfl, fun hn => absurd hn (Nat.lt_irrefl 0)⟩
section
variable {B : Nat} {w w' : World} {g gp : Nat} {o : Option Nat} {m : Int} {b : List UInt8} {f : Int} {cs cs' : Array Value} {t : TypeId}
theorem Fr.keepS (h : Fr B w g o m b f) (hd : Fd w w' g o) : KeepS w w' := ⟨hd.size, fun _ _ hb => h.other hd hb (by decide) (by decide)⟩
theorem Fr.keepD (h : Fr B w g o m b f) (hd : Fd w w' g o) : KeepD w w' := ⟨h.keepS hd, fun _ _ hb => h.other hd hb (by decide) (by decide)⟩
theorem keepS_set (hg : w.heap[gp]? = some (.cells cs t (0, 0))) (ht : t ≠ 42) : KeepS w (w.setRow gp cs') :=
  ⟨by simp, fun b cur hb => (setRow_other w gp b cs' (by
    rintro rfl
    rw [hb] at hg
    injection hg with hg
    injection hg with _ h4 _
    exact ht h4.symm)).trans hb⟩
theorem Fd.set2 {w1 : World} (h : Fd w w1 g o) (hg : w.heap.size ≤ gp) (cs : Array Value) : Fd w (w1.setRow gp cs) g o := ⟨h.os, h.tape, h.output, by simpa using h.size, fun b hl h1 h2 => (setRow_other w1 gp b cs (by omega)).trans (h.block b hl h1 h2)⟩
/-- A store into a block that is none of the framer's. -/
theorem Fr.setP (h : Fr B w g o m b f) (hg : w.heap[gp]? = some (.cells cs t (0, 0))) (h1 : t ≠ 53) (h2 : t ≠ 5) : Fr B (w.setRow gp cs') g o m b f := by
  obtain ⟨A, n, c, k, L, hS, hr⟩ := h
  refine ⟨A, n, c, k, L, ⟨(setRow_other w gp g cs' ?_).trans hS.heap, hS.base, own_set hS.own hg (fun e => h2 e.symm), hS.le, hS.lo, hS.hi⟩, hr⟩
  rintro rfl
  have h3 := hS.heap
  rw [h3] at hg
  injection hg with hg
  injection hg with _ h4 _
  exact h1 h4.symm
/-- The error is written. -/
theorem Fr.setF (h : Fr B w g o m b f) (e : Int) : ∃ A n c k L, FrS B w g m A n c k L f ∧ Fr B (w.setRow g (FrC m A n c k e)) g o m b e := by
  obtain ⟨A, n, c, k, L, hS, h1, h2, h3⟩ := h
  exact ⟨A, n, c, k, L, hS, A, n, c, k, L, ⟨setRow_heap w g _ _ _ _ hS.heap, hS.base, own_set hS.own hS.heap (by decide), hS.le, hS.lo, hS.hi⟩, h1, h2, h3⟩
theorem frDecode' (h : Fr B w g o m b f) (hG : ∀ w', Below w.heap.size w w' → Glo w') (hb : b.length ≤ 900000000) (P : Pk) (X : List (List UInt8 × Int)) (N E : Int) (hD : dcR m b = (P, X, N, E)) :
    Calls Tryz.prog 17 #[.pointer (some ⟨g, 0, none⟩)] w fun e w' => DEC w P X N E e w' := by
  obtain ⟨A, n, c, k, L, hS, rfl, h2, h3⟩ := h
  have hl := hS.len
  have hk := hS.le
  rw [List.length_drop, hl] at hb
  exact frDecode hS hG (by omega) _ rfl P X N E hD
set_option maxHeartbeats 2000000 in
theorem frNextE (h : Fr B w g o m b f) (hf : f ≠ 0) :
    Calls Tryz.prog 10 #[.pointer (some ⟨g, 0, none⟩)] w fun e w' => NEX w zPk [] false f e w' ∧ Below w.heap.size w w' := by
  obtain ⟨A, n, c, k, L, hS, rfl, h2, h3⟩ := h
  have hfb : (f != 0) = true := by simpa using hf
  have hfb2 : (f == 0) = false := by simpa using hf
  have H := Lib.hid hS
  have hK0 := (Kp.nil w).new (PkC zPk none 0 0) 36
  clear hS h3 hf
  go_enter Tryz.func10, Tryz.ntmps10
  go_wp2_with fail
  refine (frMade (H.out.below hK0.below)).mono ?_
  rintro e w1 ⟨rfl, rfl⟩
  obtain ⟨w2, hw2⟩ : ∃ w2, w2 = w.alloc (.cells (PkC zPk none 0 0) 36) := ⟨_, rfl⟩
  rw [← hw2] at hK0 ⊢
  clear hw2
  obtain ⟨b1, b2, b3, b4, b5⟩ := blk_row (H.out.below hK0.below).heap
  go_wp2_with fail
  clear b1 b2 b3 b4 b5
  refine wp_region_held_drew (S := (fun w' => Kp w [(w.heap.size, PkC zPk none 0 0, 36)] w')) (by kernel_rfl) (hK0.drew) (fun hHeld => ?_)
  refine tkY 0 oFrAllM8 ?vv4_0 rfl (by kernel_rfl) (by kernel_rfl) (by kernel_rfl) (fun _ _ _ h => h) (by rfl) ?hy4_0 (by assumption) ?rest4_0
  case hy4_0 => (intro w hSw; unfold oFrAllM8; (try dsimp only at hSw); (try go_split_ands); go_simp; all_goals with_reducible rfl)
  try simp only [oFrAllM8, Act.put, sA, sB, sC]
  refine tkY 1 oFrAllM9 ?vv4_1 rfl (by kernel_rfl) (by kernel_rfl) (by kernel_rfl) (fun _ _ _ h => h) (by rfl) ?hy4_1 (by assumption) ?rest4_1
  case hy4_1 => (intro w hSw; unfold oFrAllM9; (try dsimp only at hSw); (try go_split_ands); go_simp; all_goals with_reducible rfl)
  try simp only [oFrAllM9, Act.put, sA, sB, sC]
  refine tkY 2 oFrAllM10 ?vv4_2 rfl (by kernel_rfl) (by kernel_rfl) (by kernel_rfl) (fun _ _ _ h => h) (by rfl) ?hy4_2 (by assumption) ?rest4_2
  case hy4_2 => (intro w hSw; unfold oFrAllM10; (try dsimp only at hSw); (try go_split_ands); go_simp; all_goals with_reducible rfl)
  try simp only [oFrAllM10, Act.put, sA, sB, sC]
  refine tkY 3 oFrAllM11 ?vv4_3 rfl (by kernel_rfl) (by kernel_rfl) (by kernel_rfl) (fun _ _ _ h => h) (by rfl) ?hy4_3 (by assumption) ?rest4_3
  case hy4_3 => (intro w hSw; unfold oFrAllM11; (try dsimp only at hSw); (try go_split_ands); go_simp; all_goals with_reducible rfl)
  try simp only [oFrAllM11, Act.put, sA, sB, sC]
  refine tkY 4 oFrAllM12 ?vv4_4 rfl (by kernel_rfl) (by kernel_rfl) (by kernel_rfl) (fun _ _ _ h => h) (by rfl) ?hy4_4 (by assumption) ?rest4_4
  case hy4_4 => (intro w hSw; unfold oFrAllM12; (try dsimp only at hSw); have ⟨b1, b2, b3, b4, b5⟩ := blk_row (H.out.below hSw.below).heap; go_simp; all_goals with_reducible rfl)
  try simp only [oFrAllM12, Act.put, sA, sB, sC]
  have c1 := hHeld.row
  have c2 := hHeld.free
  have c3 := hHeld.cell
  have c4 := hHeld.lt
  have c5 := hHeld.froz
  refine wpAnyH_ready (rs := [5]) (by kernel_rfl) (by simp) ?_
  refine AllReadyH.cons (o := oFrAllM13) rfl (fun K hK => ?_) AllReadyH.nil
  unfold oFrAllM13
  go_simp
  refine hK.out _ _ ?_ (fun hHeld => ?_)
  · (exact hHeld.set (by simp) _)
  clear hK K
  try simp only [oFrAllM13, Act.put, sA, sB, sC]
  clear c1 c2 c3 c4 c5
  refine tkY 6 oFrAllM14 ?vv4_6 rfl (by kernel_rfl) (by kernel_rfl) (by kernel_rfl) (fun _ _ _ h => h) (by rfl) ?hy4_6 (by assumption) ?rest4_6
  case hy4_6 => (intro w hSw; unfold oFrAllM14; (try dsimp only at hSw); (try go_split_ands); go_simp; all_goals with_reducible rfl)
  try simp only [oFrAllM14, Act.put, sA, sB, sC]
  refine tkY 7 oFrAllM15 ?vv4_7 rfl (by kernel_rfl) (by kernel_rfl) (by kernel_rfl) (fun _ _ _ h => h) (by rfl) ?hy4_7 (by assumption) ?rest4_7
  case hy4_7 => (intro w hSw; unfold oFrAllM15; (try dsimp only at hSw); (try go_split_ands); go_simp; all_goals with_reducible rfl)
  try simp only [oFrAllM15, Act.put, sA, sB, sC]
  refine wpAnyH_done (by kernel_rfl) ?_ _
  have a1r := hHeld.row; have a1f := hHeld.free; have a1c := hHeld.cell; have a1l := hHeld.lt; have a1z := hHeld.froz
  go_wp2_with fail
  refine ret_pk3 2 3 4 w.heap.size zPk none 0 0 (.bool false) (.int .i64 f) rfl rfl (by go_simp <;> rfl) rfl rfl rfl ?_
  exact ⟨nex_no, hHeld.below⟩
set_option maxHeartbeats 2000000 in
theorem frNextO (h : Fr B w g o m b 0) (hG : ∀ w', Below w.heap.size w w' → Glo w') (hb : b.length ≤ 900000000) (P : Pk) (X : List (List UInt8 × Int)) (N : Nat) (hD : dcR m b = (P, X, (N : Int), 0)) (hN : N ≤ b.length) (r : Bool) (hr : decide (0 < N) = r) :
    Calls Tryz.prog 10 #[.pointer (some ⟨g, 0, none⟩)] w fun e w' => NEX w P X r 0 e w' ∧ ∃ o', Fr B w' g o' m (b.drop N) 0 ∧ Fd w w' g o ∧ NewO w o o' := by
  have hrI : decide ((0 : Int) < (N : Int)) = r := by rw [← hr, decide_eq_decide]; omega
  have H := Lib.hid h
  have HG := Lib.hid hG
  have hK0 := (Kp.nil w).new (PkC zPk none 0 0) 36
  have HD := Lib.hid hD
  have HR := Lib.hid hrI
  have HRN := Lib.hid hr
  obtain ⟨A, n, c, k, L, hS, _⟩ := h
  have HS := Lib.hid hS
  clear hS hr hG hD hrI
  go_enter Tryz.func10, Tryz.ntmps10
  go_wp2_with fail
  refine (frMade (HS.out.below hK0.below)).mono ?_
  rintro e w1 ⟨rfl, rfl⟩
  obtain ⟨w2, hw2⟩ : ∃ w2, w2 = w.alloc (.cells (PkC zPk none 0 0) 36) := ⟨_, rfl⟩
  rw [← hw2] at hK0 ⊢
  clear hw2
  obtain ⟨b1, b2, b3, b4, b5⟩ := blk_row (HS.out.below hK0.below).heap
  go_wp2_with fail
  refine (frDecode' (H.out.below hK0.below) (fun w' h9 => HG.out _ (below_more hK0.below h9)) hb P X N 0 HD.out).mono ?_
  clear b1 b2 b3 b4 b5
  rintro e w3 ⟨A2, c2, rfl, hb3, hS2, hc2, hst2⟩
  have hK3 := hK0.more hb3
  have hgp := (hK3.rows (w.heap.size, PkC zPk none 0 0, 36) (by simp)).2
  dsimp only at hgp
  have hKS := keepS_set (cs' := PkC P A2 X.length c2) hgp (by decide)
  have hH3 := H.out.below hK3.below
  have HF := Lib.hid (hH3.setP (cs' := PkC P A2 X.length c2) hgp (by decide) (by decide))
  have HFD := Lib.hid ((Fd.of_below (g := g) (o := o) hK3.below).set2 (Nat.le_refl _) (PkC P A2 X.length c2))
  have HSU := Lib.hid (subs_keep hS2 hst2 hKS)
  have HST := Lib.hid (subT_base (subT_keep hst2 hKS) hK0.below.size)
  have HCC := Lib.hid hc2
  have hgp2 := setRow_heap w3 w.heap.size _ (PkC P A2 X.length c2) _ _ hgp
  have hgs : w.heap.size < (w3.setRow w.heap.size (PkC P A2 X.length c2)).heap.size := (Array.getElem?_eq_some_iff.1 hgp2).1
  obtain ⟨d1, d2, d3, d4, d5⟩ := blk_row hgp
  clear hS2 hst2 hc2 hKS hb3 hK3 hH3 hK0 HS hgp
  go_wp2_with fail
  obtain ⟨w4, hw4⟩ : ∃ w4, w4 = w3.setRow w.heap.size (PkC P A2 X.length c2) := ⟨_, rfl⟩
  rw [← hw4] at HF HFD HSU HST hgp2 hgs ⊢
  clear hw4 d1 d2 d3 d4 d5
  refine (frDrop HF.out N hN hb).mono ?_
  rintro e w5 ⟨rfl, o', hF5, hd5, hn5⟩
  have hKS := HF.out.keepS hd5
  have hgp5 := HF.out.other hd5 hgp2 (by decide) (by decide)
  have HF5 := Lib.hid (hF5.setP (cs' := PkC P A2 X.length c2) hgp5 (by decide) (by decide))
  have hfd5 := HFD.out.trans hd5 (NewO.refl _ _)
  have HFD5 := Lib.hid (hfd5.set2 (Nat.le_refl _) (PkC P A2 X.length c2))
  have HN5 : Hid (NewO w o o') := (NewO.refl w o).trans HFD.out.size hn5
  have hKS2 := keepS_set (cs' := PkC P A2 X.length c2) hgp5 (by decide)
  replace HSU := Lib.hid (subs_keep (subs_keep HSU.out HST.out hKS) (subT_keep HST.out hKS) hKS2)
  replace HST := Lib.hid (subT_keep (subT_keep HST.out hKS) hKS2)
  obtain ⟨d1, d2, d3, d4, d5⟩ := blk_row hgp5
  have hrr := HR.out
  have hrn := HRN.out
  clear hKS hKS2 hgp2 hgs hgp5 hF5 hd5 hn5 hfd5 HF HFD
  go_wp2_with fail
  refine ret_pk3 2 3 4 w.heap.size P A2 X.length c2 (.bool r) (.int .i64 0) rfl rfl (by go_simp <;> rfl) rfl rfl rfl ?_
  exact ⟨⟨A2, c2, rfl, HSU.out, HCC.out, HST.out⟩, o', HF5.out, HFD5.out, HN5.out⟩
set_option maxHeartbeats 2000000 in
theorem frNextB (h : Fr B w g o m b 0) (hG : ∀ w', Below w.heap.size w w' → Glo w') (hb : b.length ≤ 900000000) (E : Int) (hD : dcR m b = (zPk, [], 0, E)) (hE : E ≠ 0) :
    Calls Tryz.prog 10 #[.pointer (some ⟨g, 0, none⟩)] w fun e w' => NEX w zPk [] false E e w' ∧ ∃ o', Fr B w' g o' m [] E ∧ Fd w w' g o ∧ NewO w o o' := by
  have hEb : (E != 0) = true := by simpa using hE
  have H := Lib.hid h
  have HG := Lib.hid hG
  have hK0 := (Kp.nil w).new (PkC zPk none 0 0) 36
  have HD := Lib.hid hD
  obtain ⟨A, n, c, k, L, hS, _⟩ := h
  have HS := Lib.hid hS
  clear hS hG hD hE
  go_enter Tryz.func10, Tryz.ntmps10
  go_wp2_with fail
  refine (frMade (HS.out.below hK0.below)).mono ?_
  rintro e w1 ⟨rfl, rfl⟩
  obtain ⟨w2, hw2⟩ : ∃ w2, w2 = w.alloc (.cells (PkC zPk none 0 0) 36) := ⟨_, rfl⟩
  rw [← hw2] at hK0 ⊢
  clear hw2
  obtain ⟨b1, b2, b3, b4, b5⟩ := blk_row (HS.out.below hK0.below).heap
  go_wp2_with fail
  refine (frDecode' (H.out.below hK0.below) (fun w' h9 => HG.out _ (below_more hK0.below h9)) hb zPk [] 0 E HD.out).mono ?_
  clear b1 b2 b3 b4 b5 HS
  rintro e w3 ⟨A2, c2, rfl, hb3, _, _, _⟩
  have hK3 := hK0.more hb3
  have hgp := (hK3.rows (w.heap.size, PkC zPk none 0 0, 36) (by simp)).2
  dsimp only at hgp
  have hH3 := H.out.below hK3.below
  have hF4 := hH3.setP (cs' := PkC zPk A2 0 c2) hgp (by decide) (by decide)
  have hfd4 := (Fd.of_below (g := g) (o := o) hK3.below).set2 (Nat.le_refl _) (PkC zPk A2 0 c2)
  have hgp2 := setRow_heap w3 w.heap.size _ (PkC zPk A2 0 c2) _ _ hgp
  have hgl : g < w.heap.size := H.out.lt
  obtain ⟨A, n, c, k, L, hS4, hF5⟩ := hF4.setF E
  obtain ⟨b1, b2, b3, b4, b5⟩ := blk_row hS4.heap
  have hgp3 := (setRow_other (w3.setRow w.heap.size (PkC zPk A2 0 c2)) g w.heap.size (FrC m A n c k E) (by omega)).trans hgp2
  have hfd5 := hfd4.set (FrC m A n c k E)
  have HF := Lib.hid hF5
  have HFD := Lib.hid hfd5
  have HGP := Lib.hid hgp3
  obtain ⟨d1, d2, d3, d4, d5⟩ := blk_row hgp
  have hne : ¬ w.heap.size = g := by omega
  have hne2 : ¬ g = w.heap.size := by omega
  clear hb3 hK3 hH3 hK0 hF4 hfd4 hS4 hF5 hgp3 hfd5 hgp2
  go_wp2_with fail
  obtain ⟨w4, hw4⟩ : ∃ w4, w4 = (w3.setRow w.heap.size (PkC zPk A2 0 c2)).setRow g (FrC m A n c k E) := ⟨_, rfl⟩
  rw [← hw4] at HF HFD HGP ⊢
  clear hw4 d1 d2 d3 d4 d5 b1 b2 b3 b4 b5
  refine (frLeft' HF.out hb).mono ?_
  rintro e w5 ⟨rfl, hb5⟩
  have HGP5 := Lib.hid ((hb5.block _ (Array.getElem?_eq_some_iff.1 HGP.out).1).trans HGP.out)
  replace HF := Lib.hid (HF.out.below hb5)
  replace HFD := Lib.hid (HFD.out.more hb5)
  clear hb5 HGP
  go_wp2_with fail
  refine (frDrop HF.out b.length (Nat.le_refl _) hb).mono ?_
  rintro e w6 ⟨rfl, o', hF6, hd6, hn6⟩
  rw [List.drop_length] at hF6
  have hgp6 := HF.out.other hd6 HGP5.out (by decide) (by decide)
  have HF6 := Lib.hid (hF6.setP (cs' := PkC zPk none 0 0) hgp6 (by decide) (by decide))
  have hfd6 := HFD.out.trans hd6 (NewO.refl _ _)
  have HFD6 := Lib.hid (hfd6.set2 (Nat.le_refl _) (PkC zPk none 0 0))
  have HN6 : Hid (NewO w o o') := (NewO.refl w o).trans HFD.out.size hn6
  obtain ⟨d1, d2, d3, d4, d5⟩ := blk_row hgp6
  clear hgp6 hF6 hd6 hn6 hfd6 HF HFD HGP5
  go_wp2_with fail
  refine ret_pk3 2 3 4 w.heap.size zPk none 0 0 (.bool false) (.int .i64 E) rfl rfl (by go_simp <;> rfl) rfl rfl rfl ?_
  exact ⟨nex_no, o', HF6.out, HFD6.out, HN6.out⟩
end
end Go.Proofs.YtnaedcennichlaaGreatDoor

/-
  frame's statements: what Next tells till it tells no packet.
-/
namespace Go.Proofs.YtnaedcennichlaaGreatDoor
open Go.RowKit
set_option maxRecDepth 100000
/-- How many bytes a framer has. -/
def leftF (w : World) (g : Nat) : Nat := match ((rowAt w g)[1]? : Option Value), ((rowAt w g)[2]? : Option Value) with
  | some (.slice _ n _), some (.int _ k) => n - k.toNat
  | _, _ => 0
section
variable {B : Nat} {w w' : World} {g : Nat} {o : Option Nat} {m : Int} {b : List UInt8} {f : Int}
theorem leftF_of (h : Fr B w g o m b f) : leftF w g = b.length := by
  obtain ⟨A, n, c, k, L, hS, rfl, _⟩ := h
  unfold leftF
  rw [rowAt_blk hS.heap, FrC_1, FrC_2]
  show n - (k : Int).toNat = _
  rw [List.length_drop, hS.len, Int.toNat_natCast]
/-- An append onto a row of what is told. -/
theorem Fr.grownT (h : Fr B w g o m b f) {v : Value} {n B2 : Nat} {L : List Value} (hgr : w.grownBy w' v.ownBlock) (hL : w.ownsRow B2 51 25 v n L) : Fr B w' g o m b f := by
  obtain ⟨A, n, c, k, L, hS, hr⟩ := h
  refine ⟨A, n, c, k, L, ⟨grown_keep hL hgr hS.heap (by decide), hS.base, ⟨hS.own.1, ?_⟩, hS.le, hS.lo, hS.hi⟩, hr⟩
  rcases hS.own.2 with h5 | ⟨d, cap, cur, e2, h5, h6, h7⟩
  · exact Or.inl h5
  · exact Or.inr ⟨d, cap, cur, e2, h5, grown_keep hL hgr h6 (by decide), h7⟩
theorem dn_zero (m : Int) (b : List UInt8) : dnR m b 0 = drR m b := by unfold dnR; rw [if_pos rfl]
theorem dn_err (m : Int) (b : List UInt8) (f : Int) (hf : f ≠ 0) : dnR m b f = ([((zPk, []), f)], b, f) := by unfold dnR; rw [if_neg hf]
/-- What drain answers. -/
def DRP (B : Nat) (w : World) (g : Nat) (o : Option Nat) (m : Int) (T : List TX) (b' : List UInt8) (f' : Int) (e : Ending) (w' : World) : Prop :=
  ∃ A c o', e = .returned (.slice A T.length c) ∧ OwnD w.heap.size w' (.slice A T.length c) T ∧ Fr B w' g o' m b' f' ∧ Fd w w' g o ∧ NewO w o o'
set_option maxHeartbeats 1000000 in
theorem drain_any (h : Fr B w g o m b f) (hB : B ≤ w.heap.size) (hG : ∀ w', Below B w w' → Glo w') (hb : b.length ≤ 900000000) (T : List TX) (b' : List UInt8) (f' : Int) (hD : dnR m b f = (T, b', f')) (hT : T.length ≤ 70000) :
    Calls Tryz.prog 14 #[.pointer (some ⟨g, 0, none⟩)] w fun e w' => DRP B w g o m T b' f' e w' := by
  have hm := h.lim
  have H := Lib.hid h
  have HG := Lib.hid hG
  have HD : Hid ([] ++ (dnR m b f).1 = T ∧ (dnR m b f).2 = (b', f')) := by show _ ∧ _; rw [hD]; exact ⟨rfl, rfl⟩
  clear h hG hD
  go_enter Tryz.func14, Tryz.ntmps14
  go_wp2_with fail
  go_loopw [3] (fun v wr => ∃ (Ti : List TX) (bi : List UInt8) (fi : Int) (oi : Option Nat), OwnD w.heap.size wr v Ti ∧ Fr B wr g oi m bi fi ∧ Fd w wr g o ∧ NewO w o oi ∧ bi.length ≤ 900000000 ∧ Hid (Ti ++ (dnR m bi fi).1 = T ∧ (dnR m bi fi).2 = (b', f'))) (fun _ wr => leftF wr g)
  case atStart => exact ⟨[], b, f, o, OwnD.nil (Nat.le_refl _), H.out, Fd.refl _ _ _, NewO.refl _ _, hb, HD⟩
  case round =>
    clear HD
    obtain ⟨Ti, bi, fi, oi, hO, hF, hfd, hno, hbi, hst⟩ := hrel
    have hleft : leftF wr g = bi.length := leftF_of hF
    have HO := Lib.hid hO
    have HF := Lib.hid hF
    have HFD := Lib.hid hfd
    have HNO := Lib.hid hno
    have HBel : Hid (Below B w wr) := HFD.out.below H.out.gB H.out.oB hB
    obtain ⟨A1, c1, rfl, _⟩ := hO.tds
    clear hO hF hfd hno
    have HGI := Lib.hid (fun w' (h : Below wr.heap.size wr w') => HG.out w' (HBel.out.trans (h.mono (Nat.le_trans hB HFD.out.size))))
    by_cases hf0 : fi = 0
    · subst hf0
      rcases dc_any m bi hm.2 with h1 | ⟨e9, h1, he9⟩ | ⟨p, xs, N, h1, h2, h3, _⟩
      · have HR : Hid (Ti = T ∧ bi = b' ∧ 0 = f') := by
          show _ ∧ _
          have := hst.out
          rw [dn_zero, dr_none h1, List.append_nil, Prod.mk.injEq] at this
          exact this
        obtain ⟨rfl, rfl, rfl⟩ := HR.out
        have H1 := Lib.hid h1
        clear hst h1
        go_wp2_with fail
        refine (frNextO HF.out HGI.out hbi zPk [] 0 H1.out (by omega) false rfl).mono ?_
        rintro e w1 ⟨⟨A2, c2, rfl, _, _, _⟩, o', hF1, hd1, hn1⟩
        rw [List.drop_zero] at hF1
        have hba := (Below.refl w1.heap.size w1).alloc (Nat.le_refl _) (.cells (PkC zPk A2 0 c2) 36)
        have HO1 := Lib.hid ((HO.out.keep (HF.out.keepD hd1)).more hba)
        have HF1 := Lib.hid (hF1.below hba)
        have HFD1 := Lib.hid ((HFD.out.trans hd1 HNO.out).more hba)
        have HN1 : Hid (NewO w o o') := HNO.out.trans HFD.out.size hn1
        clear hF1 hd1 hn1 hba
        go_wp2_with fail
        go_ret
        exact ⟨A1, c1, o', rfl, HO1.out, HF1.out, HFD1.out, HN1.out⟩
      · have HR : Hid (Ti ++ [((zPk, []), e9)] = T ∧ [] = b' ∧ e9 = f') := by
          show _ ∧ _
          have := hst.out
          rw [dn_zero, dr_err h1 (by omega), Prod.mk.injEq] at this
          exact this
        have H1 := Lib.hid h1
        clear hst h1
        go_wp2_with fail
        refine (frNextB HF.out HGI.out hbi e9 H1.out (by omega)).mono ?_
        rintro e w1 ⟨⟨A2, c2, rfl, _, _, _⟩, o', hF1, hd1, hn1⟩
        have hba := (Below.refl w1.heap.size w1).alloc (Nat.le_refl _) (.cells (PkC zPk A2 0 c2) 36)
        have hbb := hba.alloc (by simp) (.cells (TdC zPk none 0 0 e9) 51)
        have HO1 := Lib.hid ((HO.out.keep (HF.out.keepD hd1)).more hbb)
        have HF1 := Lib.hid (hF1.below hbb)
        have HFD1 := Lib.hid ((HFD.out.trans hd1 HNO.out).more hbb)
        have HN1 : Hid (NewO w o o') := HNO.out.trans HFD.out.size hn1
        have HT1 := Lib.hid (tds_one (w := (w1.alloc (.cells (PkC zPk A2 0 c2) 36)).alloc (.cells (TdC zPk none 0 0 e9) 51)) (xs := []) (rowAt_alloc_at _ _ _ rfl) (by simp) (Subs.nil _) (fun _ => rfl) (subT_nil _ _))
        have he9b : (e9 != 0) = true := by simp; omega
        have hl70 : (Ti.length : Int) + 1 ≤ 70000 := by
          have h9 := congrArg List.length HR.out.1
          simp only [List.length_append, List.length_singleton] at h9
          omega
        clear hba hbb hleft hF1 hd1 hn1
        go_wp2_with (first | refine wpList_buildE rfl _ _ rfl (TdC zPk none 0 0 e9) (by kernel_rfl) ?_ | (at_builtin; refine wpList_dapp rfl _ _ rfl rfl HO1.out (some ⟨w1.heap.size + 1, 0, none⟩) 1 1 [((zPk, []), e9)] rfl (by simpa using HT1.out) (fun e => by cases e) (by omega) (Or.inr ⟨_, _, rfl⟩) ?_))
        intro v2 w2 hO2 hgr L2 hL2
        have HF2 := Lib.hid (HF1.out.grownT hgr hL2)
        have HFD2 := Lib.hid (HFD1.out.grown hgr (fun d hd => Or.inr (hL2.lt d hd).1))
        have HO2 := Lib.hid hO2
        obtain ⟨A3, c3, rfl, _⟩ := hO2.tds
        clear hO2 hgr hL2 HT1 HO1 HF1 HFD1
        go_wp2_with fail
        go_ret
        obtain ⟨rfl, rfl, rfl⟩ := HR.out
        exact ⟨A3, c3, o', rfl, HO2.out, HF2.out, HFD2.out, HN1.out⟩
      · have HR : Hid ((Ti ++ [((p, xs), 0)]) ++ (dnR m (bi.drop N) 0).1 = T ∧ (dnR m (bi.drop N) 0).2 = (b', f')) := by
          show _ ∧ _
          have := hst.out
          rw [dn_zero, dr_some hm.2 h1 (by omega) h3] at this
          rw [dn_zero, List.append_assoc]
          exact this
        have H1 := Lib.hid h1
        clear hst h1
        go_wp2_with fail
        refine (frNextO HF.out HGI.out hbi p xs N H1.out h3 true (by simp; omega)).mono ?_
        rintro e w1 ⟨⟨A2, c2, rfl, hS2, hc2, ht2⟩, o', hF1, hd1, hn1⟩
        have hba := (Below.refl w1.heap.size w1).alloc (Nat.le_refl _) (.cells (PkC p A2 xs.length c2) 36)
        have hbb := hba.alloc (by simp) (.cells (TdC p A2 xs.length c2 0) 51)
        have HO1 := Lib.hid ((HO.out.keep (HF.out.keepD hd1)).more hbb)
        have HF1 := Lib.hid (hF1.below hbb)
        have HFD1 := Lib.hid ((HFD.out.trans hd1 HNO.out).more hbb)
        have HN1 : Hid (NewO w o o') := HNO.out.trans HFD.out.size hn1
        have HT1 := Lib.hid (tds_one (w := (w1.alloc (.cells (PkC p A2 xs.length c2) 36)).alloc (.cells (TdC p A2 xs.length c2 0) 51)) (rowAt_alloc_at _ _ _ rfl) (by simp) (hS2.below hbb) hc2 (subT_zero (subT_keep ht2 (.of_below hbb))))
        have HLT : Hid (leftF wr g = bi.length) := hleft
        have hl70 : (Ti.length : Int) + 1 ≤ 70000 := by
          have h9 := congrArg List.length HR.out.1
          simp only [List.length_append, List.length_singleton] at h9
          omega
        have HN : Hid (2 ≤ N ∧ N ≤ bi.length) := ⟨h2, h3⟩
        have hdl : (bi.drop N).length = bi.length - N := List.length_drop
        have HDL := Lib.hid hdl
        clear hF1 hd1 hn1 hba hbb hS2 hc2 ht2 h2 h3 hleft hdl
        go_wp2_with (first | refine wpList_buildE rfl _ _ rfl (TdC p A2 xs.length c2 0) (by kernel_rfl) ?_ | (at_builtin; refine wpList_dapp rfl _ _ rfl rfl HO1.out (some ⟨w1.heap.size + 1, 0, none⟩) 1 1 [((p, xs), 0)] rfl (by simpa using HT1.out) (fun e => by cases e) (by omega) (Or.inr ⟨_, _, rfl⟩) ?_))
        intro v2 w2 hO2 hgr L2 hL2
        have HF2 := Lib.hid (HF1.out.grownT hgr hL2)
        have HFD2 := Lib.hid (HFD1.out.grown hgr (fun d hd => Or.inr (hL2.lt d hd).1))
        have HO2 := Lib.hid hO2
        obtain ⟨A3, c3, rfl, _⟩ := hO2.tds
        rw [List.length_append, List.length_singleton] at HO2 ⊢
        have hlen : ((Ti.length + 1 : Nat) : Int) = (Ti.length : Int) + 1 := by omega
        have hd70 : decide ((70000 : Int) < ((Ti.length + 1 : Nat) : Int)) = false := by simp; omega
        obtain ⟨q, hq⟩ : ∃ q, q = Ti.length + 1 := ⟨_, rfl⟩
        rw [← hq] at HO2 hd70 ⊢
        clear hO2 hgr hL2 HT1 HO1 HF1 HFD1 hl70 hlen hq
        go_wp2_with fail
        go_roundw
        case rel => exact ⟨Ti ++ [((p, xs), 0)], bi.drop N, 0, o', HO2.out, HF2.out, HFD2.out, HN1.out, by have := HDL.out; omega, HR.out⟩
        case measure => rw [leftF_of HF2.out, HLT.out, HDL.out]; have := HN.out; omega
    · have HR : Hid (Ti ++ [((zPk, []), fi)] = T ∧ bi = b' ∧ fi = f') := by
          show _ ∧ _
          have := hst.out
          rw [dn_err _ _ _ hf0, Prod.mk.injEq] at this
          exact this
      clear hst
      go_wp2_with fail
      refine (frNextE HF.out hf0).mono ?_
      rintro e w1 ⟨⟨A2, c2, rfl, _, _, _⟩, hb1⟩
      have hba := (Below.refl w1.heap.size w1).alloc (Nat.le_refl _) (.cells (PkC zPk A2 0 c2) 36)
      have hbb := hba.alloc (by simp) (.cells (TdC zPk none 0 0 fi) 51)
      have hbc := below_more hb1 hbb
      have HO1 := Lib.hid (HO.out.more hbc)
      have HF1 := Lib.hid (HF.out.below hbc)
      have HFD1 := Lib.hid (HFD.out.more hbc)
      have HN1 := HNO
      clear hbc
      have HT1 := Lib.hid (tds_one (w := (w1.alloc (.cells (PkC zPk A2 0 c2) 36)).alloc (.cells (TdC zPk none 0 0 fi) 51)) (xs := []) (rowAt_alloc_at _ _ _ rfl) (by simp) (Subs.nil _) (fun _ => rfl) (subT_nil _ _))
      have he9b : (fi != 0) = true := by simp; omega
      have hl70 : (Ti.length : Int) + 1 ≤ 70000 := by
        have h9 := congrArg List.length HR.out.1
        simp only [List.length_append, List.length_singleton] at h9
        omega
      clear hba hbb hleft hb1
      go_wp2_with (first | refine wpList_buildE rfl _ _ rfl (TdC zPk none 0 0 fi) (by kernel_rfl) ?_ | (at_builtin; refine wpList_dapp rfl _ _ rfl rfl HO1.out (some ⟨w1.heap.size + 1, 0, none⟩) 1 1 [((zPk, []), fi)] rfl (by simpa using HT1.out) (fun e => by cases e) (by omega) (Or.inr ⟨_, _, rfl⟩) ?_))
      intro v2 w2 hO2 hgr L2 hL2
      have HF2 := Lib.hid (HF1.out.grownT hgr hL2)
      have HFD2 := Lib.hid (HFD1.out.grown hgr (fun d hd => Or.inr (hL2.lt d hd).1))
      have HO2 := Lib.hid hO2
      obtain ⟨A3, c3, rfl, _⟩ := hO2.tds
      clear hO2 hgr hL2 HT1 HO1 HF1 HFD1
      go_wp2_with fail
      go_ret
      obtain ⟨rfl, rfl, rfl⟩ := HR.out
      exact ⟨A3, c3, oi, rfl, HO2.out, HF2.out, HFD2.out, HN1.out⟩
end
end Go.Proofs.YtnaedcennichlaaGreatDoor

/-
  frame's statements: are two rows the same?
-/
namespace Go.Proofs.YtnaedcennichlaaGreatDoor
open Go.RowKit
set_option maxRecDepth 100000
theorem refSame_one (p : Pk) (A B : Option Addr) (n m c d : Nat) (xs : List (List UInt8 × Int)) (w : World) (hx : Subs w A n xs) (hy : Subs w B m xs) (hn : n ≤ 1000000) :
    Calls Tryz.prog 12 #[.agg (PkC p A n c), .agg (PkC p B m d)] w fun e w' => e = .returned (.bool true) ∧ Below w.heap.size w w' := by
  obtain rfl : n = m := by rw [← hx.len, ← hy.len]
  have := refSame_self p A B n c d xs xs w hx hy hn
  rw [show (xs == xs) = true by simp] at this
  exact this
set_option maxHeartbeats 2000000 in
theorem tsame (w : World) (A A2 : Option Addr) (n c c2 : Nat) (ts : List TX) (h1 : Tds w A n ts) (h2 : Tds w A2 n ts) (hn : n ≤ 1000000) (hx : ∀ x ∈ ts, x.1.2.length ≤ 1000000) :
    Calls Tryz.prog 15 #[.slice A n c, .slice A2 n c2] w fun e w' => e = .returned (.bool true) ∧ Below w.heap.size w w' := by
  have H1 := Lib.hid h1
  have H2 := Lib.hid h2
  have HX := Lib.hid hx
  have hb : Below w.heap.size w w := Below.refl _ _
  clear h1 h2 hx
  go_enter Tryz.func15, Tryz.ntmps15
  go_wp2_with fail
  go_loopw [5] (fun i wr => ∃ k : Nat, i = .int .i64 k ∧ k ≤ n ∧ Below w.heap.size w wr) (fun i _ => n - (intOf i).toNat)
  case atStart => exact ⟨0, rfl, by omega, hb⟩
  case round =>
    clear hb
    obtain ⟨k, rfl, hk, hb⟩ := hrel
    by_cases hlt : k < n
    · have hlt2 : (k : Int) < (n : Int) := by omega
      have k0 : (0 : Int) ≤ (k : Int) := by omega
      obtain ⟨bx, ox, x, B1, n1, d1, rfl, hxk, hbx, hsx, hex, hrx, hcx, hS1, _⟩ := (H1.out.below hb).at_ hlt
      obtain ⟨by_, oy, y, B2, n2, d2, rfl, hyk, hby, hsy, hey, hry, hcy, hS2, _⟩ := (H2.out.below hb).at_ hlt
      rw [hxk] at hyk
      obtain rfl : x = y := Option.some.inj hyk
      have hxl : x.1.2.length ≤ 1000000 := HX.out x (List.mem_of_getElem? hxk)
      have hn1 : n1 ≤ 1000000 := by rw [← hS1.len]; exact hxl
      have HS1 := Lib.hid hS1
      have HS2 := Lib.hid hS2
      replace hsx : ox + k * 25 + 24 ≤ (rowAt wr bx).size := by omega
      replace hsy : oy + k * 25 + 24 ≤ (rowAt wr by_).size := by omega
      clear hS1 hS2 hxk hyk hxl hrx hry
      go_wp2_with fail
      refine wp_region_held_drew (S := (fun w' => Below wr.heap.size wr w')) (by kernel_rfl) ((Below.refl _ _).drew) (fun hHeld => ?_)
      refine tkY 0 oFrAllM16 ?vv5_0 rfl (by kernel_rfl) (by kernel_rfl) (by kernel_rfl) (fun _ _ _ h => h) (by rfl) ?hy5_0 (by assumption) ?rest5_0
      case hy5_0 => (intro w hSw; unfold oFrAllM16; (try dsimp only at hSw); (try go_split_ands); go_simp; all_goals with_reducible rfl)
      try simp only [oFrAllM16, Act.put, sA, sB, sC]
      refine tkY 1 oFrAllM17 ?vv5_1 rfl (by kernel_rfl) (by kernel_rfl) (by kernel_rfl) (fun _ _ _ h => h) (by rfl) ?hy5_1 (by assumption) ?rest5_1
      case hy5_1 => (intro w hSw; unfold oFrAllM17; (try dsimp only at hSw); (try go_split_ands); go_simp; all_goals with_reducible rfl)
      try simp only [oFrAllM17, Act.put, sA, sB, sC]
      refine tkY 2 oFrAllM18 ?vv5_2 rfl (by kernel_rfl) (by kernel_rfl) (by kernel_rfl) (fun _ _ _ h => h) (by rfl) ?hy5_2 (by assumption) ?rest5_2
      case hy5_2 => (intro w hSw; unfold oFrAllM18; (try dsimp only at hSw); (try go_split_ands); go_simp; all_goals with_reducible rfl)
      try simp only [oFrAllM18, Act.put, sA, sB, sC]
      refine tkY 3 oFrAllM19 ?vv5_3 rfl (by kernel_rfl) (by kernel_rfl) (by kernel_rfl) (fun _ _ _ h => h) (by rfl) ?hy5_3 (by assumption) ?rest5_3
      case hy5_3 => (intro w hSw; unfold oFrAllM19; (try dsimp only at hSw); (try go_split_ands); go_simp; all_goals with_reducible rfl)
      try simp only [oFrAllM19, Act.put, sA, sB, sC]
      refine tkY 4 oFrAllM20 ?vv5_4 rfl (by kernel_rfl) (by kernel_rfl) (by kernel_rfl) (fun _ _ _ h => h) (by rfl) ?hy5_4 (by assumption) ?rest5_4
      case hy5_4 => (intro w hSw; unfold oFrAllM20; (try dsimp only at hSw); have z1 := (hSw.cell (p := ⟨bx, ox + k * 25 + 24, none⟩) hbx).trans hcx; go_simp; all_goals with_reducible rfl)
      try simp only [oFrAllM20, Act.put, sA, sB, sC]
      refine tkY 5 oFrAllM21 ?vv5_5 rfl (by kernel_rfl) (by kernel_rfl) (by kernel_rfl) (fun _ _ _ h => h) (by rfl) ?hy5_5 (by assumption) ?rest5_5
      case hy5_5 => (intro w hSw; unfold oFrAllM21; (try dsimp only at hSw); (try go_split_ands); go_simp; all_goals with_reducible rfl)
      try simp only [oFrAllM21, Act.put, sA, sB, sC]
      refine tkY 6 oFrAllM22 ?vv5_6 rfl (by kernel_rfl) (by kernel_rfl) (by kernel_rfl) (fun _ _ _ h => h) (by rfl) ?hy5_6 (by assumption) ?rest5_6
      case hy5_6 => (intro w hSw; unfold oFrAllM22; (try dsimp only at hSw); (try go_split_ands); go_simp; all_goals with_reducible rfl)
      try simp only [oFrAllM22, Act.put, sA, sB, sC]
      refine tkY 7 oFrAllM23 ?vv5_7 rfl (by kernel_rfl) (by kernel_rfl) (by kernel_rfl) (fun _ _ _ h => h) (by rfl) ?hy5_7 (by assumption) ?rest5_7
      case hy5_7 => (intro w hSw; unfold oFrAllM23; (try dsimp only at hSw); (try go_split_ands); go_simp; all_goals with_reducible rfl)
      try simp only [oFrAllM23, Act.put, sA, sB, sC]
      refine tkY 8 oFrAllM24 ?vv5_8 rfl (by kernel_rfl) (by kernel_rfl) (by kernel_rfl) (fun _ _ _ h => h) (by rfl) ?hy5_8 (by assumption) ?rest5_8
      case hy5_8 => (intro w hSw; unfold oFrAllM24; (try dsimp only at hSw); (try go_split_ands); go_simp; all_goals with_reducible rfl)
      try simp only [oFrAllM24, Act.put, sA, sB, sC]
      refine tkY 9 oFrAllM25 ?vv5_9 rfl (by kernel_rfl) (by kernel_rfl) (by kernel_rfl) (fun _ _ _ h => h) (by rfl) ?hy5_9 (by assumption) ?rest5_9
      case hy5_9 => (intro w hSw; unfold oFrAllM25; (try dsimp only at hSw); have z1 := (hSw.cell (p := ⟨by_, oy + k * 25 + 24, none⟩) hby).trans hcy; go_simp; all_goals with_reducible rfl)
      try simp only [oFrAllM25, Act.put, sA, sB, sC]
      refine tkY 10 oFrAllM26 ?vv5_10 rfl (by kernel_rfl) (by kernel_rfl) (by kernel_rfl) (fun _ _ _ h => h) (by rfl) ?hy5_10 (by assumption) ?rest5_10
      case hy5_10 => (intro w hSw; unfold oFrAllM26; (try dsimp only at hSw); (try go_split_ands); go_simp; all_goals with_reducible rfl)
      try simp only [oFrAllM26, Act.put, sA, sB, sC]
      refine tkY 11 oFrAllM27 ?vv5_11 rfl (by kernel_rfl) (by kernel_rfl) (by kernel_rfl) (fun _ _ _ h => h) (by rfl) ?hy5_11 (by assumption) ?rest5_11
      case hy5_11 => (intro w hSw; unfold oFrAllM27; (try dsimp only at hSw); (try go_split_ands); go_simp; all_goals with_reducible rfl)
      try simp only [oFrAllM27, Act.put, sA, sB, sC]
      refine tkY 12 oFrAllM28 ?vv5_12 rfl (by kernel_rfl) (by kernel_rfl) (by kernel_rfl) (fun _ _ _ h => h) (by rfl) ?hy5_12 (by assumption) ?rest5_12
      case hy5_12 => (intro w hSw; unfold oFrAllM28; (try dsimp only at hSw); (try go_split_ands); go_simp; all_goals with_reducible rfl)
      try simp only [oFrAllM28, Act.put, sA, sB, sC]
      refine tkY 13 oFrAllM29 ?vv5_13 rfl (by kernel_rfl) (by kernel_rfl) (by kernel_rfl) (fun _ _ _ h => h) (by rfl) ?hy5_13 (by assumption) ?rest5_13
      case hy5_13 => (intro w hSw; unfold oFrAllM29; (try dsimp only at hSw); (try go_split_ands); go_simp; all_goals with_reducible rfl)
      try simp only [oFrAllM29, Act.put, sA, sB, sC]
      refine tkY 14 oFrAllM30 ?vv5_14 rfl (by kernel_rfl) (by kernel_rfl) (by kernel_rfl) (fun _ _ _ h => h) (by rfl) ?hy5_14 (by assumption) ?rest5_14
      case hy5_14 => (intro w hSw; unfold oFrAllM30; (try dsimp only at hSw); (try go_split_ands); go_simp; all_goals with_reducible rfl)
      try simp only [oFrAllM30, Act.put, sA, sB, sC]
      refine tkY 15 oFrAllM31 ?vv5_15 rfl (by kernel_rfl) (by kernel_rfl) (by kernel_rfl) (fun _ _ _ h => h) (by rfl) ?hy5_15 (by assumption) ?rest5_15
      case hy5_15 => (intro w hSw; unfold oFrAllM31; (try dsimp only at hSw); (try go_split_ands); go_simp; all_goals with_reducible rfl)
      try simp only [oFrAllM31, Act.put, sA, sB, sC]
      refine tkY 16 oFrAllM32 ?vv5_16 rfl (by kernel_rfl) (by kernel_rfl) (by kernel_rfl) (fun _ _ _ h => h) (by rfl) ?hy5_16 (by assumption) ?rest5_16
      case hy5_16 => (intro w hSw; unfold oFrAllM32; (try dsimp only at hSw); have z1 := rowAt_below hSw hbx; go_simp; all_goals with_reducible rfl)
      try simp only [oFrAllM32, Act.put, sA, sB, sC]
      refine tkY 17 oFrAllM33 ?vv5_17 rfl (by kernel_rfl) (by kernel_rfl) (by kernel_rfl) (fun _ _ _ h => h) (by rfl) ?hy5_17 (by assumption) ?rest5_17
      case hy5_17 => (intro w hSw; unfold oFrAllM33; (try dsimp only at hSw); (try go_split_ands); go_simp; all_goals with_reducible rfl)
      try simp only [oFrAllM33, Act.put, sA, sB, sC]
      refine tkY 18 oFrAllM34 ?vv5_18 rfl (by kernel_rfl) (by kernel_rfl) (by kernel_rfl) (fun _ _ _ h => h) (by rfl) ?hy5_18 (by assumption) ?rest5_18
      case hy5_18 => (intro w hSw; unfold oFrAllM34; (try dsimp only at hSw); (try go_split_ands); go_simp; all_goals with_reducible rfl)
      try simp only [oFrAllM34, Act.put, sA, sB, sC]
      refine tkY 19 oFrAllM35 ?vv5_19 rfl (by kernel_rfl) (by kernel_rfl) (by kernel_rfl) (fun _ _ _ h => h) (by rfl) ?hy5_19 (by assumption) ?rest5_19
      case hy5_19 => (intro w hSw; unfold oFrAllM35; (try dsimp only at hSw); (try go_split_ands); go_simp; all_goals with_reducible rfl)
      try simp only [oFrAllM35, Act.put, sA, sB, sC]
      refine tkY 20 oFrAllM36 ?vv5_20 rfl (by kernel_rfl) (by kernel_rfl) (by kernel_rfl) (fun _ _ _ h => h) (by rfl) ?hy5_20 (by assumption) ?rest5_20
      case hy5_20 => (intro w hSw; unfold oFrAllM36; (try dsimp only at hSw); (try go_split_ands); go_simp; all_goals with_reducible rfl)
      try simp only [oFrAllM36, Act.put, sA, sB, sC]
      refine tkY 21 oFrAllM37 ?vv5_21 rfl (by kernel_rfl) (by kernel_rfl) (by kernel_rfl) (fun _ _ _ h => h) (by rfl) ?hy5_21 (by assumption) ?rest5_21
      case hy5_21 => (intro w hSw; unfold oFrAllM37; (try dsimp only at hSw); have z1 := rowAt_below hSw hby; go_simp; all_goals with_reducible rfl)
      try simp only [oFrAllM37, Act.put, sA, sB, sC]
      refine wpAnyH_ready (rs := [22]) (by kernel_rfl) (by simp) ?_
      refine AllReadyH.cons (o := oFrAllM38) rfl (fun K hK => ?_) AllReadyH.nil
      unfold oFrAllM38
      go_simp
      (go_at_call 12; refine (refSame_one x.1.1 B1 B2 n1 n2 d1 d2 x.1.2 _ (HS1.out.below hHeld) (HS2.out.below hHeld) hn1).mono ?_; rintro e w6 ⟨rfl, hb6⟩)
      refine hK.out _ _ ?_ (fun hHeld => ?_)
      · (exact below_more hHeld hb6)
      clear hK K
      try simp only [oFrAllM38, Act.put, sA, sB, sC]
      refine tkY 23 oFrAllM39 ?vv5_23 rfl (by kernel_rfl) (by kernel_rfl) (by kernel_rfl) (fun _ _ _ h => h) (by rfl) ?hy5_23 (by assumption) ?rest5_23
      case hy5_23 => (intro w hSw; unfold oFrAllM39; (try dsimp only at hSw); (try go_split_ands); go_simp; all_goals with_reducible rfl)
      try simp only [oFrAllM39, Act.put, sA, sB, sC]
      refine tkY 24 oFrAllM40 ?vv5_24 rfl (by kernel_rfl) (by kernel_rfl) (by kernel_rfl) (fun _ _ _ h => h) (by rfl) ?hy5_24 (by assumption) ?rest5_24
      case hy5_24 => (intro w hSw; unfold oFrAllM40; (try dsimp only at hSw); (try go_split_ands); go_simp; all_goals with_reducible rfl)
      try simp only [oFrAllM40, Act.put, sA, sB, sC]
      refine wpAnyH_done (by kernel_rfl) ?_ _
      replace hb := below_more hb hHeld
      clear hHeld
      go_wp2_with fail
      go_roundw
      case rel => exact ⟨k + 1, by go_num, by omega, hb⟩
      case measure => simp [intOf]; omega
    · have hge : ¬ (k : Int) < (n : Int) := by omega
      go_wp2_with fail
      go_ret
      exact ⟨rfl, hb⟩
end Go.Proofs.YtnaedcennichlaaGreatDoor

/-
  frame's statements: what their helpers answer.
-/
namespace Go.Proofs.YtnaedcennichlaaGreatDoor
open Go.RowKit
set_option maxRecDepth 100000
theorem Fr.step {w wr w' : World} {g : Nat} {o : Option Nat} {m : Int} {b : List UInt8} {f : Int} (h : Fr w.heap.size wr g o m b f) (hd : Fd wr w' g o) (hb : Below w.heap.size w wr) : Below w.heap.size w w' := hb.trans (hd.below h.gB h.oB hb.size)
theorem glo_b {w wr : World} (h : ∀ w', Below w.heap.size w w' → Glo w') (hb : Below w.heap.size w wr) : ∀ w', Below w.heap.size wr w' → Glo w' := fun w' k => h w' (hb.trans k)
theorem glo_c {w wr : World} (h : ∀ w', Below w.heap.size w w' → Glo w') (hb : Below w.heap.size w wr) : ∀ w', Below wr.heap.size wr w' → Glo w' := fun w' k => h w' (hb.trans (k.mono hb.size))
theorem aw_1 : dcR 16 [192] = (zPk, [], ((0 : Nat) : Int), 0) := by kernel_rfl
theorem aw_2 : dcR 16 [192, 0, 224] = (zPk.s_ty 12, [], ((2 : Nat) : Int), 0) := by kernel_rfl
theorem aw_3 : dnR 16 [224, 0, 48, 15] 0 = ([((zPk.s_ty 14, []), 0), ((zPk, []), 3)], [], 3) := by kernel_rfl
set_option maxHeartbeats 4000000 in
theorem awake6_any (w : World) (hG : Glo w) :
    Calls Tryz.prog 5 #[] w fun e w' => e = .returned (.bool true) ∧ Below w.heap.size w w' := by
  have HG : Hid (∀ w', Below w.heap.size w w' → Glo w') := fun w' h => hG.below h
  clear hG
  go_enter Tryz.func5, Tryz.ntmps5
  go_wp2_with fail
  refine (frNew _ 16 (by omega) (by omega)).mono ?_
  rintro e w1 ⟨g, rfl, hb, _, hF⟩
  have HF := Lib.hid hF
  clear hF
  go_wp2_with fail
  refine (frNone _ 15 (by omega)).mono ?_
  rintro e w2 ⟨rfl, rfl⟩
  go_wp2_with fail
  refine (frNone _ 65537 (by omega)).mono ?_
  rintro e w3 ⟨rfl, rfl⟩
  go_wp2_with fail
  refine (frPush HF.out [192] (by decide)).mono ?_
  rintro e w4 ⟨rfl, o4, hF4, hd4, _⟩
  have hb4 := HF.out.step hd4 hb
  clear hb HF hd4
  have HF := Lib.hid (show Fr w.heap.size w4 g o4 16 [192] 0 from hF4)
  clear hF4
  go_wp2_with fail
  refine (frNextO HF.out (glo_c HG.out hb4) (by decide) zPk [] 0 aw_1 (by decide) false rfl).mono ?_
  rintro e w5 ⟨⟨A5, c5, rfl, _, _, _⟩, o5, hF5, hd5, _⟩
  have hb5 := HF.out.step hd5 hb4
  have hba := (Below.refl w5.heap.size w5).alloc (Nat.le_refl _) (.cells (PkC zPk A5 0 c5) 36)
  have HF5 := Lib.hid (show Fr w.heap.size _ g o5 16 [192] 0 from hF5.below hba)
  replace hb5 := below_more hb5 hba
  clear hF5 hd5 hb4 HF hba
  go_wp2_with fail
  refine (frPush HF5.out [0, 224] (by decide)).mono ?_
  rintro e w6 ⟨rfl, o6, hF6, hd6, _⟩
  have hb6 := HF5.out.step hd6 hb5
  have HF6 := Lib.hid (show Fr w.heap.size _ g o6 16 [192, 0, 224] 0 from hF6)
  clear hF6 hd6 hb5 HF5
  go_wp2_with fail
  refine (frNextO HF6.out (glo_c HG.out hb6) (by decide) (zPk.s_ty 12) [] 2 aw_2 (by decide) true rfl).mono ?_
  rintro e w7 ⟨⟨A7, c7, rfl, _, _, _⟩, o7, hF7, hd7, _⟩
  have hb7 := HF6.out.step hd7 hb6
  have hba := (Below.refl w7.heap.size w7).alloc (Nat.le_refl _) (.cells (PkC (zPk.s_ty 12) A7 0 c7) 36)
  have HF7 := Lib.hid (show Fr w.heap.size _ g o7 16 [224] 0 from hF7.below hba)
  have HP7 := Lib.hid (heap_alloc_new w7 (.cells (PkC (zPk.s_ty 12) A7 0 c7) 36))
  replace hb7 := below_more hb7 hba
  clear hF7 hd7 hb6 HF6 hba
  go_wp2_with fail
  refine (frLeft' HF7.out (by decide)).mono ?_
  rintro e w8 ⟨rfl, hb8⟩
  have HF8 := Lib.hid (HF7.out.below hb8)
  have HP8 := Lib.hid ((hb8.block _ (Array.getElem?_eq_some_iff.1 HP7.out).1).trans HP7.out)
  have hb9 := below_more hb7 hb8
  clear HF7 HP7 hb7 hb8
  go_wp2_with fail
  refine (frPush HF8.out [0, 48, 15] (by decide)).mono ?_
  rintro e w9 ⟨rfl, o9, hF9, hd9, _⟩
  have hb10 := HF8.out.step hd9 hb9
  have HF9 := Lib.hid (show Fr w.heap.size _ g o9 16 [224, 0, 48, 15] 0 from hF9)
  have HP9 := Lib.hid (HF8.out.other hd9 HP8.out (by decide) (by decide))
  clear hF9 hd9 hb9 HF8 HP8
  go_wp2_with fail
  refine (drain_any HF9.out hb10.size (glo_b HG.out hb10) (by decide) [((zPk.s_ty 14, []), 0), ((zPk, []), 3)] [] 3 aw_3 (by decide)).mono ?_
  rintro e w10 ⟨A10, c10, o10, rfl, hO10, hF10, hd10, _⟩
  have hb11 := HF9.out.step hd10 hb10
  have HP10 := Lib.hid (HF9.out.other hd10 HP9.out (by decide) (by decide))
  have HF10 := Lib.hid hF10
  have HO10 := Lib.hid hO10
  clear hF10 hd10 hb10 HF9 HP9 hO10
  go_wp2_with fail
  refine (frPushE HF10.out (by decide) [192, 0]).mono ?_
  rintro e w11 ⟨rfl, rfl⟩
  go_wp2_with fail
  refine (frNextE HF10.out (by decide)).mono ?_
  rintro e w12 ⟨⟨A12, c12, rfl, _, _, _⟩, hb12⟩
  have hba := below_more hb12 ((Below.refl w12.heap.size w12).alloc (Nat.le_refl _) (.cells (PkC zPk A12 0 c12) 36))
  have HF12 := Lib.hid (HF10.out.below hba)
  have HO12 := Lib.hid (HO10.out.more hba)
  have hp12 := (hba.block _ (Array.getElem?_eq_some_iff.1 HP10.out).1).trans HP10.out
  have hb13 := below_more hb11 hba
  clear hb11 hba hb12 HF10 HO10 HP10
  obtain ⟨d1, d2, d3, d4, d5⟩ := blk_row hp12
  go_wp2_with fail
  have hbt := (Below.refl w12.heap.size w12).alloc (Nat.le_refl _) (.cells (PkC zPk A12 0 c12) 36)
  have hbu := ((Below.refl (w12.alloc (.cells (PkC zPk A12 0 c12) 36)).heap.size (w12.alloc (.cells (PkC zPk A12 0 c12) 36))).alloc (Nat.le_refl _) (.cells (Td2 (zPk.s_ty 14) none 0 0 0 zPk none 0 0 3) 51))
  have ht1 := (HO12.out.tds' rfl).1.below hbu
  have ht2 := tds_two (g := w12.heap.size + 1) (w := (w12.alloc (.cells (PkC zPk A12 0 c12) 36)).alloc (.cells (Td2 (zPk.s_ty 14) none 0 0 0 zPk none 0 0 3) 51)) (xs := []) (ys := []) (rowAt_alloc_at _ _ _ (by simp)) (by simp) (Subs.nil _) (fun _ => rfl) (subT_nil _ _) (Subs.nil _) (fun _ => rfl) (subT_nil _ _)
  refine (tsame _ A10 _ 2 c10 2 _ ht1 ht2 (by omega) (by simp)).mono ?_
  rintro e w13 ⟨rfl, hb14⟩
  have HF13 := Lib.hid ((HF12.out.below hbu).below hb14)
  have hb15 := below_more (below_more hb13 hbu) hb14
  clear ht1 ht2 hbt hbu hb14 hb13 HF12 HO12 d1 d2 d3 d4 d5 hp12
  go_wp2_with fail
  refine (frLeft' HF13.out (by decide)).mono ?_
  rintro e w14 ⟨rfl, hb16⟩
  go_wp2_with fail
  go_ret
  exact ⟨rfl, below_more hb15 hb16⟩
end Go.Proofs.YtnaedcennichlaaGreatDoor
