/-
  ShardParts: however texts are cut, their hash is one; of two texts that differ in one byte it is another one. The card.
-/
import Derived.Test.YtiiojdlmbfkkhaaDoorShLaw
import Derived.Test.YtiiojdlmbfkkhaaDoorTpLaw
import Derived.Test.YtiiojdlmbfkkhaaDoorWrFrame
import Derived.Test.YtiiojdlmbfkkhaaDoorTie
import Derived.Test.YtiiojdlmbfkkhaaDoorCards
import Derived.SevenTiedAt
import Derived.ProofKit
set_option linter.unusedSimpArgs false
set_option linter.unusedVariables false
namespace Go.Proofs.YtiiojdlmbfkkhaaDoor
section
open Go.RowKit
def oShParts1 : Oper := ({ dst := some 37, op := Go.Op.move (Go.Operand.tmp 0), type := 9, pos := "outright.go:46", after := #[], guard := none } : Oper)
def oShParts2 : Oper := ({ dst := some 38, op := Go.Op.move (Go.Operand.tmp 1), type := 3, pos := "outright.go:46", after := #[], guard := none } : Oper)
def oShParts3 : Oper := ({ dst := some 39, op := Go.Op.slice 9 (Go.Operand.tmp 37) none (some (Go.Operand.tmp 38)) none, type := 9, pos := "outright.go:46", after := #[{ on := 0, ground := Go.Ground.data }, { on := 1, ground := Go.Ground.data }], guard := none } : Oper)
def oShParts4 : Oper := ({ dst := some 40, op := Go.Op.move (Go.Operand.tmp 0), type := 9, pos := "outright.go:46", after := #[], guard := none } : Oper)
def oShParts5 : Oper := ({ dst := some 41, op := Go.Op.move (Go.Operand.tmp 1), type := 3, pos := "outright.go:46", after := #[], guard := none } : Oper)
def oShParts6 : Oper := ({ dst := some 42, op := Go.Op.slice 9 (Go.Operand.tmp 40) (some (Go.Operand.tmp 41)) none none, type := 9, pos := "outright.go:46", after := #[{ on := 3, ground := Go.Ground.data }, { on := 4, ground := Go.Ground.data }], guard := none } : Oper)
def oShParts7 : Oper := ({ dst := some 45, op := Go.Op.move (Go.Operand.tmp 8), type := 25, pos := "outright.go:46", after := #[], guard := none } : Oper)
def oShParts8 : Oper := ({ dst := some 43, op := Go.Op.buildSlice 22 2 #[(0, Go.Operand.tmp 39), (1, Go.Operand.tmp 42)], type := 22, pos := "outright.go:46", after := #[{ on := 2, ground := Go.Ground.data }, { on := 5, ground := Go.Ground.data }], guard := none } : Oper)
def oShParts9 : Oper := ({ dst := some 44, op := Go.Op.call { callee := Go.Callee.value (Go.Operand.func 11), args := #[Go.Operand.tmp 43], argTypes := #[22] }, type := 25, pos := "outright.go:46", after := #[{ on := 6, ground := Go.Ground.data }], guard := none } : Oper)
def oShParts10 : Oper := ({ dst := some 46, op := Go.Op.binOp Go.BinOp.eql 25 (Go.Operand.tmp 44) (Go.Operand.tmp 45) 25, type := 4, pos := "outright.go:46", after := #[{ on := 7, ground := Go.Ground.data }, { on := 8, ground := Go.Ground.data }], guard := none } : Oper)
def oShParts11 : Oper := ({ dst := some 47, op := Go.Op.move (Go.Operand.tmp 46), type := 4, pos := "outright.go:46", after := #[{ on := 9, ground := Go.Ground.data }, { on := 7, ground := Go.Ground.chain }], guard := none } : Oper)
def oShParts12 : Oper := ({ dst := some 48, op := Go.Op.move (Go.Operand.tmp 0), type := 9, pos := "outright.go:46", after := #[{ on := 10, ground := Go.Ground.guard }], guard := some (10, true) } : Oper)
def oShParts13 : Oper := ({ dst := some 49, op := Go.Op.move (Go.Operand.tmp 1), type := 3, pos := "outright.go:46", after := #[{ on := 10, ground := Go.Ground.guard }], guard := some (10, true) } : Oper)
def oShParts14 : Oper := ({ dst := some 50, op := Go.Op.slice 9 (Go.Operand.tmp 48) none (some (Go.Operand.tmp 49)) none, type := 9, pos := "outright.go:46", after := #[{ on := 11, ground := Go.Ground.data }, { on := 12, ground := Go.Ground.data }, { on := 10, ground := Go.Ground.guard }], guard := some (10, true) } : Oper)
def oShParts15 : Oper := ({ dst := some 51, op := Go.Op.move (Go.Operand.tmp 0), type := 9, pos := "outright.go:46", after := #[{ on := 10, ground := Go.Ground.guard }], guard := some (10, true) } : Oper)
def oShParts16 : Oper := ({ dst := some 52, op := Go.Op.move (Go.Operand.tmp 1), type := 3, pos := "outright.go:46", after := #[{ on := 10, ground := Go.Ground.guard }], guard := some (10, true) } : Oper)
def oShParts17 : Oper := ({ dst := some 53, op := Go.Op.move (Go.Operand.tmp 1), type := 3, pos := "outright.go:46", after := #[{ on := 10, ground := Go.Ground.guard }], guard := some (10, true) } : Oper)
def oShParts18 : Oper := ({ dst := some 54, op := Go.Op.binOp Go.BinOp.add 3 (Go.Operand.tmp 53) (Go.Operand.const (Go.Value.int Go.IntKind.i64 1)) 3, type := 3, pos := "outright.go:46", after := #[{ on := 16, ground := Go.Ground.data }, { on := 10, ground := Go.Ground.guard }], guard := some (10, true) } : Oper)
def oShParts19 : Oper := ({ dst := some 55, op := Go.Op.slice 9 (Go.Operand.tmp 51) (some (Go.Operand.tmp 52)) (some (Go.Operand.tmp 54)) none, type := 9, pos := "outright.go:46", after := #[{ on := 14, ground := Go.Ground.data }, { on := 15, ground := Go.Ground.data }, { on := 17, ground := Go.Ground.data }, { on := 10, ground := Go.Ground.guard }], guard := some (10, true) } : Oper)
def oShParts20 : Oper := ({ dst := some 56, op := Go.Op.move (Go.Operand.tmp 0), type := 9, pos := "outright.go:46", after := #[{ on := 10, ground := Go.Ground.guard }], guard := some (10, true) } : Oper)
def oShParts21 : Oper := ({ dst := some 57, op := Go.Op.move (Go.Operand.tmp 1), type := 3, pos := "outright.go:46", after := #[{ on := 10, ground := Go.Ground.guard }], guard := some (10, true) } : Oper)
def oShParts22 : Oper := ({ dst := some 58, op := Go.Op.binOp Go.BinOp.add 3 (Go.Operand.tmp 57) (Go.Operand.const (Go.Value.int Go.IntKind.i64 1)) 3, type := 3, pos := "outright.go:46", after := #[{ on := 20, ground := Go.Ground.data }, { on := 10, ground := Go.Ground.guard }], guard := some (10, true) } : Oper)
def oShParts23 : Oper := ({ dst := some 59, op := Go.Op.slice 9 (Go.Operand.tmp 56) (some (Go.Operand.tmp 58)) none none, type := 9, pos := "outright.go:46", after := #[{ on := 19, ground := Go.Ground.data }, { on := 21, ground := Go.Ground.data }, { on := 10, ground := Go.Ground.guard }], guard := some (10, true) } : Oper)
def oShParts24 : Oper := ({ dst := some 62, op := Go.Op.move (Go.Operand.tmp 8), type := 25, pos := "outright.go:46", after := #[{ on := 10, ground := Go.Ground.guard }], guard := some (10, true) } : Oper)
def oShParts25 : Oper := ({ dst := some 60, op := Go.Op.buildSlice 22 5 #[(0, Go.Operand.const (Go.Value.string { data := #[] })), (1, Go.Operand.tmp 50), (2, Go.Operand.tmp 55), (3, Go.Operand.const (Go.Value.string { data := #[] })), (4, Go.Operand.tmp 59)], type := 22, pos := "outright.go:46", after := #[{ on := 13, ground := Go.Ground.data }, { on := 18, ground := Go.Ground.data }, { on := 22, ground := Go.Ground.data }, { on := 10, ground := Go.Ground.guard }], guard := some (10, true) } : Oper)
def oShParts26 : Oper := ({ dst := some 61, op := Go.Op.call { callee := Go.Callee.value (Go.Operand.func 11), args := #[Go.Operand.tmp 60], argTypes := #[22] }, type := 25, pos := "outright.go:46", after := #[{ on := 23, ground := Go.Ground.data }, { on := 10, ground := Go.Ground.chain }, { on := 10, ground := Go.Ground.guard }], guard := some (10, true) } : Oper)
def oShParts27 : Oper := ({ dst := some 63, op := Go.Op.binOp Go.BinOp.eql 25 (Go.Operand.tmp 61) (Go.Operand.tmp 62) 25, type := 4, pos := "outright.go:46", after := #[{ on := 24, ground := Go.Ground.data }, { on := 25, ground := Go.Ground.data }, { on := 10, ground := Go.Ground.guard }], guard := some (10, true) } : Oper)
def oShParts28 : Oper := ({ dst := some 64, op := Go.Op.pick (Go.Operand.tmp 47) (Go.Operand.tmp 63) (Go.Operand.const (Go.Value.bool false)), type := 4, pos := "outright.go:46", after := #[{ on := 10, ground := Go.Ground.data }, { on := 26, ground := Go.Ground.data }], guard := none } : Oper)
def oShParts29 : Oper := ({ dst := some 65, op := Go.Op.move (Go.Operand.tmp 64), type := 4, pos := "outright.go:46", after := #[{ on := 27, ground := Go.Ground.data }, { on := 24, ground := Go.Ground.chain }], guard := none } : Oper)
def oShParts30 : Oper := ({ dst := some 66, op := Go.Op.move (Go.Operand.tmp 7), type := 39, pos := "outright.go:46", after := #[{ on := 28, ground := Go.Ground.guard }], guard := some (28, true) } : Oper)
def oShParts31 : Oper := ({ dst := some 70, op := Go.Op.move (Go.Operand.tmp 8), type := 25, pos := "outright.go:46", after := #[{ on := 28, ground := Go.Ground.guard }], guard := some (28, true) } : Oper)
def oShParts32 : Oper := ({ dst := some 72, op := Go.Op.move (Go.Operand.tmp 2), type := 5, pos := "outright.go:46", after := #[{ on := 28, ground := Go.Ground.guard }], guard := some (28, true) } : Oper)
def oShParts33 : Oper := ({ dst := some 73, op := Go.Op.binOp Go.BinOp.eql 5 (Go.Operand.tmp 72) (Go.Operand.const (Go.Value.int Go.IntKind.u8 0)) 5, type := 4, pos := "outright.go:46", after := #[{ on := 35, ground := Go.Ground.data }, { on := 28, ground := Go.Ground.guard }], guard := some (28, true) } : Oper)
def oShParts34 : Oper := ({ dst := some 67, op := Go.Op.convert 39 9 (Go.Operand.tmp 66), type := 9, pos := "outright.go:46", after := #[{ on := 29, ground := Go.Ground.data }, { on := 28, ground := Go.Ground.guard }], guard := some (28, true) } : Oper)
def oShParts35 : Oper := ({ dst := some 68, op := Go.Op.buildSlice 22 1 #[(0, Go.Operand.tmp 67)], type := 22, pos := "outright.go:46", after := #[{ on := 30, ground := Go.Ground.data }, { on := 28, ground := Go.Ground.guard }], guard := some (28, true) } : Oper)
def oShParts36 : Oper := ({ dst := some 69, op := Go.Op.call { callee := Go.Callee.value (Go.Operand.func 11), args := #[Go.Operand.tmp 68], argTypes := #[22] }, type := 25, pos := "outright.go:46", after := #[{ on := 31, ground := Go.Ground.data }, { on := 28, ground := Go.Ground.chain }, { on := 28, ground := Go.Ground.guard }], guard := some (28, true) } : Oper)
def oShParts37 : Oper := ({ dst := some 71, op := Go.Op.binOp Go.BinOp.eql 25 (Go.Operand.tmp 69) (Go.Operand.tmp 70) 25, type := 4, pos := "outright.go:46", after := #[{ on := 32, ground := Go.Ground.data }, { on := 33, ground := Go.Ground.data }, { on := 28, ground := Go.Ground.guard }], guard := some (28, true) } : Oper)
def oShParts38 : Oper := ({ dst := some 74, op := Go.Op.binOp Go.BinOp.eql 4 (Go.Operand.tmp 71) (Go.Operand.tmp 73) 4, type := 4, pos := "outright.go:46", after := #[{ on := 34, ground := Go.Ground.data }, { on := 36, ground := Go.Ground.data }, { on := 28, ground := Go.Ground.guard }], guard := some (28, true) } : Oper)
def oShParts39 : Oper := ({ dst := some 75, op := Go.Op.pick (Go.Operand.tmp 65) (Go.Operand.tmp 74) (Go.Operand.const (Go.Value.bool false)), type := 4, pos := "outright.go:46", after := #[{ on := 28, ground := Go.Ground.data }, { on := 37, ground := Go.Ground.data }], guard := none } : Oper)
def oShParts40 : Oper := ({ dst := some 76, op := Go.Op.move (Go.Operand.tmp 75), type := 4, pos := "outright.go:46", after := #[{ on := 38, ground := Go.Ground.data }, { on := 32, ground := Go.Ground.chain }], guard := none } : Oper)
def oShParts41 : Oper := ({ dst := some 77, op := Go.Op.call { callee := Go.Callee.value (Go.Operand.func 10), args := #[], argTypes := #[] }, type := 4, pos := "outright.go:46", after := #[{ on := 39, ground := Go.Ground.chain }, { on := 39, ground := Go.Ground.guard }], guard := some (39, true) } : Oper)
def oShParts42 : Oper := ({ dst := some 78, op := Go.Op.pick (Go.Operand.tmp 76) (Go.Operand.tmp 77) (Go.Operand.const (Go.Value.bool false)), type := 4, pos := "outright.go:46", after := #[{ on := 39, ground := Go.Ground.data }, { on := 40, ground := Go.Ground.data }], guard := none } : Oper)
def oShParts43 : Oper := ({ dst := some 6, op := Go.Op.assign (Go.Operand.tmp 78), type := 4, pos := "outright.go:46", after := #[{ on := 41, ground := Go.Ground.data }, { on := 40, ground := Go.Ground.chain }, { on := 0, ground := Go.Ground.phase }, { on := 1, ground := Go.Ground.phase }, { on := 2, ground := Go.Ground.phase }, { on := 3, ground := Go.Ground.phase }, { on := 4, ground := Go.Ground.phase }, { on := 5, ground := Go.Ground.phase }, { on := 6, ground := Go.Ground.phase }, { on := 7, ground := Go.Ground.phase }, { on := 8, ground := Go.Ground.phase }, { on := 9, ground := Go.Ground.phase }, { on := 10, ground := Go.Ground.phase }, { on := 11, ground := Go.Ground.phase }, { on := 12, ground := Go.Ground.phase }, { on := 13, ground := Go.Ground.phase }, { on := 14, ground := Go.Ground.phase }, { on := 15, ground := Go.Ground.phase }, { on := 16, ground := Go.Ground.phase }, { on := 17, ground := Go.Ground.phase }, { on := 18, ground := Go.Ground.phase }, { on := 19, ground := Go.Ground.phase }, { on := 20, ground := Go.Ground.phase }, { on := 21, ground := Go.Ground.phase }, { on := 22, ground := Go.Ground.phase }, { on := 23, ground := Go.Ground.phase }, { on := 24, ground := Go.Ground.phase }, { on := 25, ground := Go.Ground.phase }, { on := 26, ground := Go.Ground.phase }, { on := 27, ground := Go.Ground.phase }, { on := 28, ground := Go.Ground.phase }, { on := 29, ground := Go.Ground.phase }, { on := 30, ground := Go.Ground.phase }, { on := 31, ground := Go.Ground.phase }, { on := 32, ground := Go.Ground.phase }, { on := 33, ground := Go.Ground.phase }, { on := 34, ground := Go.Ground.phase }, { on := 35, ground := Go.Ground.phase }, { on := 36, ground := Go.Ground.phase }, { on := 37, ground := Go.Ground.phase }, { on := 38, ground := Go.Ground.phase }, { on := 39, ground := Go.Ground.phase }, { on := 40, ground := Go.Ground.phase }, { on := 41, ground := Go.Ground.phase }], guard := none } : Oper)
end
open Go.RowKit Go.ChangeShapes Go.WideShapes Go.ChangeAt
open Go.ChangeMaps (open_string shut_string)
/-- A block of bytes. -/
def Bts (w : World) (g : Nat) (l : List UInt8) : Prop := ∀ (j : Nat) (x : UInt8), l[j]? = some x → w.cell? ⟨g, j, none⟩ = some (.int .u8 (x.toNat : Int))
theorem Bts.below {w w' : World} {g : Nat} {l : List UInt8} (h : Bts w g l) (hb : Below w.heap.size w w') : Bts w' g l := fun j x hx => (hb.cell (World.block_lt_of_cell? _ _ (h j x hx))).trans (h j x hx)
theorem Bts.set {w : World} {g : Nat} {l : List UInt8} (h : Bts w g l) (k : Nat) (x : UInt8) : Bts (w.setCell ⟨g, k, none⟩ (.int .u8 (x.toNat : Int))) g (l.set k x) := by
  intro j y hy
  rw [List.getElem?_set] at hy
  by_cases hjk : k = j
  · subst hjk
    rw [if_pos rfl] at hy
    split at hy
    · next hlt =>
      cases hy
      exact World.cell?_setCell_same _ _ _ (h k _ (List.getElem?_eq_getElem hlt))
    · cases hy
  · rw [if_neg hjk] at hy
    rw [World.cell?_setCell_other _ _ _ _ (fun e => hjk (by injection e))]
    exact h j y hy
theorem conv_bytes (l : List UInt8) (w : World) : ∃ (c : Nat) (w' : World), (convert 9 39 (.string ⟨l.toArray⟩)).run Tryd.prog w = .ok (.slice (some ⟨w.heap.size, 0, none⟩) l.length c) w' ∧ l.length ≤ c ∧ Below w.heap.size w w' ∧ w'.heap.size = w.heap.size + 1 ∧ Bts w' w.heap.size l ∧ ∀ i, i < l.length → w'.frozen? ⟨w.heap.size, i, none⟩ = false := by
  have hr := run_bytes_of_string (P := Tryd.prog) w 9 39 5 ⟨l.toArray⟩ Tryd.underlying9 Tryd.underlying39 Tryd.underlying5
  have hge := grownCap_ge w l.length 0 5
  have hsz : (ByteArray.mk l.toArray).size = l.length := by show l.toArray.size = _; simp
  rw [hsz] at hr
  generalize grownCap w l.length 0 5 = c at hr hge
  refine ⟨c, _, hr, hge, (Below.refl w.heap.size w).drew.alloc (Nat.le_refl _) _, by simp, ?_, ?_⟩
  · intro j x hx
    have hlt := (List.getElem?_eq_some_iff.1 hx).1
    rw [cell_of_row _ w.heap.size j _ _ _ (heap_alloc_new w.drew _)]
    unfold bytesRow
    rw [Array.getElem?_append_left (by simpa using hlt)]
    simp [hx]
  · intro i hi
    unfold World.frozen?
    rw [show (w.drew.alloc (.cells (bytesRow ⟨l.toArray⟩ c) 5 ((bytesRow ⟨l.toArray⟩ c).size, (bytesRow ⟨l.toArray⟩ c).size + 1))).heap[w.heap.size]? = some _ from heap_alloc_new w.drew _]
    have : i < (bytesRow ⟨l.toArray⟩ c).size := by unfold bytesRow; rw [Array.size_append]; simp; omega
    simp
    omega
theorem xor_byte (c y : UInt8) : bits .xor .u8 (c.toNat : Int) (y.toNat : Int) = ((c ^^^ y).toNat : Int) := by
  rw [u8_xor_nat _ _ c.toNat_lt y.toNat_lt, UInt8.toNat_xor]
theorem strs_new5 (w : World) (x y z u v : List UInt8) (t : TypeId) : Strs (w.alloc (.cells #[.string ⟨x.toArray⟩, .string ⟨y.toArray⟩, .string ⟨z.toArray⟩, .string ⟨u.toArray⟩, .string ⟨v.toArray⟩] t)) (some ⟨w.heap.size, 0, none⟩) 5 [x, y, z, u, v] := strs_new w [x, y, z, u, v] t
theorem below_new (w : World) (o : Obj) : Below w.heap.size w (w.alloc o) := (Below.refl _ _).alloc (Nat.le_refl _) _
theorem conv_bts (w : World) (g n c : Nat) (l : List UInt8) (hn : n = l.length) (h : Bts w g l) : (convert 39 9 (.slice (some ⟨g, 0, none⟩) n c)).run Tryd.prog w = .ok (.string ⟨l.toArray⟩) w := by
  subst hn
  refine run_convert_bytes_back w 39 9 5 ⟨g, 0, none⟩ c l Tryd.underlying39 Tryd.underlying5 Tryd.underlying9 (fun j hj => ?_)
  have hadd : (⟨g, 0, none⟩ : Addr).add j = ⟨g, j, none⟩ := by unfold Addr.add; split <;> simp_all
  rw [hadd]
  exact h j _ (List.getElem?_eq_getElem hj)
namespace lawShardParts
set_option maxHeartbeats 1000000 in
set_option maxRecDepth 100000 in
theorem walkIn (w : World) (hG : Glo w) (a : List UInt8) (ha : a.length ≤ 2000) (k : Nat) (hk : k < a.length) (y : UInt8) :
    Calls Tryd.prog 7 #[.string ⟨a.toArray⟩, .int .i64 (k : Int), .int .u8 (y.toNat : Int)] w fun e w' => e = .returned (.bool true) ∧ Below w.heap.size w w' := by
  have HG := Lib.hid hG
  have hb : Below w.heap.size w w := Below.refl _ _
  clear hG
  have i1 : ¬ (2000 : Int) < (a.length : Int) := by omega
  have i2 : ¬ (k : Int) < 0 := by omega
  have i3 : (k : Int) < (a.length : Int) := by omega
  obtain ⟨c, hc⟩ : ∃ c, a[k]? = some c := ⟨_, List.getElem?_eq_getElem hk⟩
  have HT := Lib.hid (hsh_turn a k c y hc)
  obtain ⟨C, w1, hrun, hC, hb1, hsz1, hB1, hfr1⟩ := conv_bytes a w
  have hcell := hB1 k c hc
  have hfz := hfr1 k hk
  have hxor := xor_byte c y
  obtain ⟨d, hd⟩ : ∃ d, c ^^^ y = d := ⟨_, rfl⟩
  rw [hd] at hxor HT
  obtain ⟨q, hq⟩ : ∃ q, hsh a = q := ⟨_, rfl⟩
  rw [hq] at HT
  have HQ := Lib.hid hq
  have HB1 := Lib.hid hB1
  have HS1 := Lib.hid hsz1
  have hkC : (k : Int) < (C : Int) := by omega
  clear hc hB1 hfr1 hd hq hsz1
  go_enter Tryd.func7, Tryd.ntmps7
  go_wp2_with fail
  have hss : (w1.setCell ⟨w.heap.size, k, none⟩ (.int .u8 (d.toNat : Int))).heap.size = w1.heap.size := by simp [World.setCell]
  have hs0 : Strs ((w1.setCell ⟨w.heap.size, k, none⟩ (.int .u8 (d.toNat : Int))).alloc (.cells #[.string ⟨a.toArray⟩] 9)) (some ⟨w1.heap.size, 0, none⟩) 1 [a] := by
    have := strs_new1 (w1.setCell ⟨w.heap.size, k, none⟩ (.int .u8 (d.toNat : Int))) a 9
    rwa [hss] at this
  refine (shHash_eq _ 1 1 [a] q _ hs0 (by omega) (by intro x hx; simp at hx; subst hx; omega) (by simpa using HQ.out)).mono ?_
  rintro e w2 ⟨rfl, hw2⟩
  have hb2 : Below w.heap.size w w2 := by rw [← hw2]; exact (hb1.setCell (by exact Nat.le_refl _) _).alloc (by rw [hss, HS1.out]; omega) _
  have hB2 : Hid (Bts w2 w.heap.size (a.set k d)) := by
    show Bts _ _ _
    rw [← hw2]
    exact (HB1.out.set k d).below ((Below.refl _ _).alloc (Nat.le_refl _) _)
  clear hw2 hs0 hss hcell hfz hxor hrun hb1 HB1 HS1 hb
  obtain ⟨q2, hq2⟩ : ∃ v, hsh (a.set k d) = v := ⟨_, rfl⟩
  rw [hq2] at HT
  obtain ⟨t, ht⟩ : ∃ t, (y == 0) = t := ⟨_, rfl⟩
  rw [ht] at HT
  have e1 : ((q2 : Int) == (q : Int)) = t := by
    rw [← HT.out, Bool.eq_iff_iff, beq_iff_eq, beq_iff_eq]; omega
  have e2 : ((y.toNat : Int) == 0) = t := by
    rw [← ht, Bool.eq_iff_iff, beq_iff_eq, beq_iff_eq]
    exact ⟨fun e => UInt8.toNat_inj.1 (by show y.toNat = 0; omega), fun e => by rw [e]; rfl⟩
  have HQ2 := Lib.hid hq2
  obtain ⟨k1, hk1⟩ : ∃ k1, k1 = k + 1 := ⟨_, rfl⟩
  have HP : Hid (hsh [a.take k, a.drop k].flatten = q) := by show _ = _; rw [← HQ.out]; simp
  have HP2 : Hid (hsh [[], a.take k, (a.take k1).drop k, [], a.drop k1].flatten = q) := by
    show _ = _
    rw [← HQ.out]
    simp only [List.flatten_cons, List.nil_append, List.flatten_nil, List.append_nil]
    rw [show a.take k = (a.take k1).take k by rw [List.take_take]; congr 1; omega, ← List.append_assoc, List.take_append_drop, List.take_append_drop]
  have i4 : (k : Int) ≤ (a.length : Int) := by omega
  have hw1 : IntKind.i64.wrap ((k : Int) + 1) = (k1 : Int) := by rw [IntWalk.i64_in _ (by omega)]; omega
  have i5 : (k1 : Int) ≤ (a.length : Int) := by omega
  have i6 : (k : Int) ≤ (k1 : Int) := by omega
  have i7 : (0 : Int) ≤ (k1 : Int) := by omega
  have HL2 : Hid (∀ x ∈ [a.take k, a.drop k], x.length ≤ 1000000000) := by
    intro x hx
    simp only [List.mem_cons, List.not_mem_nil, or_false] at hx
    rcases hx with rfl | rfl
    · rw [List.length_take]; omega
    · rw [List.length_drop]; omega
  have HL1 : Hid (∀ x ∈ [a.set k d], x.length ≤ 1000000000) := by
    intro x hx
    simp only [List.mem_cons, List.not_mem_nil, or_false] at hx
    subst hx
    rw [List.length_set]; omega
  have HP1 : Hid (hsh [a.set k d].flatten = q2) := by show _ = _; rw [← HQ2.out]; simp
  have HL5 : Hid (∀ x ∈ [[], a.take k, (a.take k1).drop k, [], a.drop k1], x.length ≤ 1000000000) := by
    intro x hx
    simp only [List.mem_cons, List.not_mem_nil, or_false] at hx
    rcases hx with rfl | rfl | rfl | rfl | rfl
    · simp
    · rw [List.length_take]; omega
    · rw [List.length_drop, List.length_take]; omega
    · simp
    · rw [List.length_drop]; omega
  clear ht hq2 hk1
  go_wp2_with fail
  refine wp_region_held_drew (S := (fun w' => Below w.heap.size w w' ∧ Hid (Bts w' w.heap.size (a.set k d)))) (by kernel_rfl) (⟨hb2.drew, hB2⟩) (fun hHeld => ?_)
  refine tkY 0 oShParts1 ?vv1_0 rfl (by kernel_rfl) (by kernel_rfl) (by kernel_rfl) (fun _ _ _ h => h) (by rfl) ?hy1_0 (by assumption) ?rest1_0
  case hy1_0 => (intro w hSw; unfold oShParts1; (try dsimp only at hSw); (try go_split_ands); go_simp; all_goals with_reducible rfl)
  try simp only [oShParts1, Act.put, sA, sB, sC]
  refine tkY 1 oShParts2 ?vv1_1 rfl (by kernel_rfl) (by kernel_rfl) (by kernel_rfl) (fun _ _ _ h => h) (by rfl) ?hy1_1 (by assumption) ?rest1_1
  case hy1_1 => (intro w hSw; unfold oShParts2; (try dsimp only at hSw); (try go_split_ands); go_simp; all_goals with_reducible rfl)
  try simp only [oShParts2, Act.put, sA, sB, sC]
  refine tkY 2 oShParts3 ?vv1_2 rfl (by kernel_rfl) (by kernel_rfl) (by kernel_rfl) (fun _ _ _ h => h) (by rfl) ?hy1_2 (by assumption) ?rest1_2
  case hy1_2 => (intro w hSw; unfold oShParts3; (try dsimp only at hSw); (try go_split_ands); go_simp; all_goals with_reducible rfl)
  try simp only [oShParts3, Act.put, sA, sB, sC]
  refine tkY 3 oShParts4 ?vv1_3 rfl (by kernel_rfl) (by kernel_rfl) (by kernel_rfl) (fun _ _ _ h => h) (by rfl) ?hy1_3 (by assumption) ?rest1_3
  case hy1_3 => (intro w hSw; unfold oShParts4; (try dsimp only at hSw); (try go_split_ands); go_simp; all_goals with_reducible rfl)
  try simp only [oShParts4, Act.put, sA, sB, sC]
  refine tkY 4 oShParts5 ?vv1_4 rfl (by kernel_rfl) (by kernel_rfl) (by kernel_rfl) (fun _ _ _ h => h) (by rfl) ?hy1_4 (by assumption) ?rest1_4
  case hy1_4 => (intro w hSw; unfold oShParts5; (try dsimp only at hSw); (try go_split_ands); go_simp; all_goals with_reducible rfl)
  try simp only [oShParts5, Act.put, sA, sB, sC]
  refine tkY 5 oShParts6 ?vv1_5 rfl (by kernel_rfl) (by kernel_rfl) (by kernel_rfl) (fun _ _ _ h => h) (by rfl) ?hy1_5 (by assumption) ?rest1_5
  case hy1_5 => (intro w hSw; unfold oShParts6; (try dsimp only at hSw); (try go_split_ands); go_simp; all_goals with_reducible rfl)
  try simp only [oShParts6, Act.put, sA, sB, sC]
  refine tkY 8 oShParts7 ?vv1_8 rfl (by kernel_rfl) (by kernel_rfl) (by kernel_rfl) (fun _ _ _ h => h) (by rfl) ?hy1_8 (by assumption) ?rest1_8
  case hy1_8 => (intro w hSw; unfold oShParts7; (try dsimp only at hSw); (try go_split_ands); go_simp; all_goals with_reducible rfl)
  try simp only [oShParts7, Act.put, sA, sB, sC]
  refine wpAnyH_ready (rs := [6]) (by kernel_rfl) (by simp) ?_
  refine AllReadyH.cons (o := oShParts8) rfl (fun K hK => ?_) AllReadyH.nil
  unfold oShParts8
  go_simp
  refine hK.out _ _ ?_ (fun hHeld => ?_)
  · (exact ⟨below_alloc hHeld.1 _, hHeld.2.out.below (below_new _ _)⟩)
  clear hK K
  try simp only [oShParts8, Act.put, sA, sB, sC]
  refine wpAnyH_more (S2 := fun w' => (Below w.heap.size w w' ∧ Hid (Bts w' w.heap.size (a.set k d))) ∧ Strs w' (some ⟨w2.heap.size, 0, none⟩) 2 [a.take k, a.drop k]) (fun _ h => h.1) ⟨hHeld, strs_new2 w2.drew _ _ _⟩ (fun hHeld2 => ?_)
  clear hHeld
  have hHeld := hHeld2
  clear hHeld2
  refine wpAnyH_ready (rs := [7]) (by kernel_rfl) (by simp) ?_
  refine AllReadyH.cons (o := oShParts9) rfl (fun K hK => ?_) AllReadyH.nil
  unfold oShParts9
  go_simp
  (go_at_call 11; refine (shHash_eq _ 2 2 [a.take k, a.drop k] q _ hHeld.2 (by omega) HL2 HP.out).mono ?_; rintro e w6 ⟨rfl, rfl⟩)
  refine hK.out _ _ ?_ (fun hHeld => ?_)
  · (exact hHeld)
  clear hK K
  try simp only [oShParts9, Act.put, sA, sB, sC]
  refine tkY 9 oShParts10 ?vv1_9 rfl (by kernel_rfl) (by kernel_rfl) (by kernel_rfl) (fun _ _ _ h => h) (by rfl) ?hy1_9 (by assumption) ?rest1_9
  case hy1_9 => (intro w hSw; unfold oShParts10; (try dsimp only at hSw); (try go_split_ands); go_simp; all_goals with_reducible rfl)
  try simp only [oShParts10, Act.put, sA, sB, sC]
  refine tkY 10 oShParts11 ?vv1_10 rfl (by kernel_rfl) (by kernel_rfl) (by kernel_rfl) (fun _ _ _ h => h) (by rfl) ?hy1_10 (by assumption) ?rest1_10
  case hy1_10 => (intro w hSw; unfold oShParts11; (try dsimp only at hSw); (try go_split_ands); go_simp; all_goals with_reducible rfl)
  try simp only [oShParts11, Act.put, sA, sB, sC]
  refine tkY 11 oShParts12 ?vv1_11 rfl (by kernel_rfl) (by kernel_rfl) (by kernel_rfl) (fun _ _ _ h => h) (by rfl) ?hy1_11 (by assumption) ?rest1_11
  case hy1_11 => (intro w hSw; unfold oShParts12; (try dsimp only at hSw); (try go_split_ands); go_simp; all_goals with_reducible rfl)
  try simp only [oShParts12, Act.put, sA, sB, sC]
  refine tkY 12 oShParts13 ?vv1_12 rfl (by kernel_rfl) (by kernel_rfl) (by kernel_rfl) (fun _ _ _ h => h) (by rfl) ?hy1_12 (by assumption) ?rest1_12
  case hy1_12 => (intro w hSw; unfold oShParts13; (try dsimp only at hSw); (try go_split_ands); go_simp; all_goals with_reducible rfl)
  try simp only [oShParts13, Act.put, sA, sB, sC]
  refine tkY 13 oShParts14 ?vv1_13 rfl (by kernel_rfl) (by kernel_rfl) (by kernel_rfl) (fun _ _ _ h => h) (by rfl) ?hy1_13 (by assumption) ?rest1_13
  case hy1_13 => (intro w hSw; unfold oShParts14; (try dsimp only at hSw); (try go_split_ands); go_simp; all_goals with_reducible rfl)
  try simp only [oShParts14, Act.put, sA, sB, sC]
  refine tkY 14 oShParts15 ?vv1_14 rfl (by kernel_rfl) (by kernel_rfl) (by kernel_rfl) (fun _ _ _ h => h) (by rfl) ?hy1_14 (by assumption) ?rest1_14
  case hy1_14 => (intro w hSw; unfold oShParts15; (try dsimp only at hSw); (try go_split_ands); go_simp; all_goals with_reducible rfl)
  try simp only [oShParts15, Act.put, sA, sB, sC]
  refine tkY 15 oShParts16 ?vv1_15 rfl (by kernel_rfl) (by kernel_rfl) (by kernel_rfl) (fun _ _ _ h => h) (by rfl) ?hy1_15 (by assumption) ?rest1_15
  case hy1_15 => (intro w hSw; unfold oShParts16; (try dsimp only at hSw); (try go_split_ands); go_simp; all_goals with_reducible rfl)
  try simp only [oShParts16, Act.put, sA, sB, sC]
  refine tkY 16 oShParts17 ?vv1_16 rfl (by kernel_rfl) (by kernel_rfl) (by kernel_rfl) (fun _ _ _ h => h) (by rfl) ?hy1_16 (by assumption) ?rest1_16
  case hy1_16 => (intro w hSw; unfold oShParts17; (try dsimp only at hSw); (try go_split_ands); go_simp; all_goals with_reducible rfl)
  try simp only [oShParts17, Act.put, sA, sB, sC]
  refine tkY 17 oShParts18 ?vv1_17 rfl (by kernel_rfl) (by kernel_rfl) (by kernel_rfl) (fun _ _ _ h => h) (by rfl) ?hy1_17 (by assumption) ?rest1_17
  case hy1_17 => (intro w hSw; unfold oShParts18; (try dsimp only at hSw); (try go_split_ands); go_simp; all_goals with_reducible rfl)
  try simp only [oShParts18, Act.put, sA, sB, sC]
  refine tkY 18 oShParts19 ?vv1_18 rfl (by kernel_rfl) (by kernel_rfl) (by kernel_rfl) (fun _ _ _ h => h) (by rfl) ?hy1_18 (by assumption) ?rest1_18
  case hy1_18 => (intro w hSw; unfold oShParts19; (try dsimp only at hSw); (try go_split_ands); go_simp; all_goals with_reducible rfl)
  try simp only [oShParts19, Act.put, sA, sB, sC]
  refine tkY 19 oShParts20 ?vv1_19 rfl (by kernel_rfl) (by kernel_rfl) (by kernel_rfl) (fun _ _ _ h => h) (by rfl) ?hy1_19 (by assumption) ?rest1_19
  case hy1_19 => (intro w hSw; unfold oShParts20; (try dsimp only at hSw); (try go_split_ands); go_simp; all_goals with_reducible rfl)
  try simp only [oShParts20, Act.put, sA, sB, sC]
  refine tkY 20 oShParts21 ?vv1_20 rfl (by kernel_rfl) (by kernel_rfl) (by kernel_rfl) (fun _ _ _ h => h) (by rfl) ?hy1_20 (by assumption) ?rest1_20
  case hy1_20 => (intro w hSw; unfold oShParts21; (try dsimp only at hSw); (try go_split_ands); go_simp; all_goals with_reducible rfl)
  try simp only [oShParts21, Act.put, sA, sB, sC]
  refine tkY 21 oShParts22 ?vv1_21 rfl (by kernel_rfl) (by kernel_rfl) (by kernel_rfl) (fun _ _ _ h => h) (by rfl) ?hy1_21 (by assumption) ?rest1_21
  case hy1_21 => (intro w hSw; unfold oShParts22; (try dsimp only at hSw); (try go_split_ands); go_simp; all_goals with_reducible rfl)
  try simp only [oShParts22, Act.put, sA, sB, sC]
  refine tkY 22 oShParts23 ?vv1_22 rfl (by kernel_rfl) (by kernel_rfl) (by kernel_rfl) (fun _ _ _ h => h) (by rfl) ?hy1_22 (by assumption) ?rest1_22
  case hy1_22 => (intro w hSw; unfold oShParts23; (try dsimp only at hSw); (try go_split_ands); go_simp; all_goals with_reducible rfl)
  try simp only [oShParts23, Act.put, sA, sB, sC]
  refine tkY 25 oShParts24 ?vv1_25 rfl (by kernel_rfl) (by kernel_rfl) (by kernel_rfl) (fun _ _ _ h => h) (by rfl) ?hy1_25 (by assumption) ?rest1_25
  case hy1_25 => (intro w hSw; unfold oShParts24; (try dsimp only at hSw); (try go_split_ands); go_simp; all_goals with_reducible rfl)
  try simp only [oShParts24, Act.put, sA, sB, sC]
  generalize (w2.alloc (.cells #[.string ⟨(a.take k).toArray⟩, .string ⟨(a.drop k).toArray⟩] 9)).drew = w3 at hHeld ⊢
  refine wpAnyH_ready (rs := [23]) (by kernel_rfl) (by simp) ?_
  refine AllReadyH.cons (o := oShParts25) rfl (fun K hK => ?_) AllReadyH.nil
  unfold oShParts25
  go_simp
  refine hK.out _ _ ?_ (fun hHeld => ?_)
  · (exact ⟨⟨below_alloc hHeld.1.1 _, hHeld.1.2.out.below (below_new _ _)⟩, hHeld.2.below (below_new _ _)⟩)
  clear hK K
  try simp only [oShParts25, Act.put, sA, sB, sC]
  refine wpAnyH_more (S2 := fun w' => ((Below w.heap.size w w' ∧ Hid (Bts w' w.heap.size (a.set k d))) ∧ Strs w' (some ⟨w2.heap.size, 0, none⟩) 2 [a.take k, a.drop k]) ∧ Strs w' (some ⟨w3.heap.size, 0, none⟩) 5 [[], a.take k, (a.take k1).drop k, [], a.drop k1]) (fun _ h => h.1) ⟨hHeld, strs_new5 w3 _ _ _ _ _ _⟩ (fun hHeld2 => ?_)
  clear hHeld
  have hHeld := hHeld2
  clear hHeld2
  refine wpAnyH_ready (rs := [24]) (by kernel_rfl) (by simp) ?_
  refine AllReadyH.cons (o := oShParts26) rfl (fun K hK => ?_) AllReadyH.nil
  unfold oShParts26
  go_simp
  (go_at_call 11; refine (shHash_eq _ 5 5 [[], a.take k, (a.take k1).drop k, [], a.drop k1] q _ hHeld.2 (by omega) HL5 HP2.out).mono ?_; rintro e w6 ⟨rfl, rfl⟩)
  refine hK.out _ _ ?_ (fun hHeld => ?_)
  · (exact hHeld)
  clear hK K
  try simp only [oShParts26, Act.put, sA, sB, sC]
  refine tkY 26 oShParts27 ?vv1_26 rfl (by kernel_rfl) (by kernel_rfl) (by kernel_rfl) (fun _ _ _ h => h) (by rfl) ?hy1_26 (by assumption) ?rest1_26
  case hy1_26 => (intro w hSw; unfold oShParts27; (try dsimp only at hSw); (try go_split_ands); go_simp; all_goals with_reducible rfl)
  try simp only [oShParts27, Act.put, sA, sB, sC]
  refine tkY 27 oShParts28 ?vv1_27 rfl (by kernel_rfl) (by kernel_rfl) (by kernel_rfl) (fun _ _ _ h => h) (by rfl) ?hy1_27 (by assumption) ?rest1_27
  case hy1_27 => (intro w hSw; unfold oShParts28; (try dsimp only at hSw); (try go_split_ands); go_simp; all_goals with_reducible rfl)
  try simp only [oShParts28, Act.put, sA, sB, sC]
  refine tkY 28 oShParts29 ?vv1_28 rfl (by kernel_rfl) (by kernel_rfl) (by kernel_rfl) (fun _ _ _ h => h) (by rfl) ?hy1_28 (by assumption) ?rest1_28
  case hy1_28 => (intro w hSw; unfold oShParts29; (try dsimp only at hSw); (try go_split_ands); go_simp; all_goals with_reducible rfl)
  try simp only [oShParts29, Act.put, sA, sB, sC]
  refine tkY 29 oShParts30 ?vv1_29 rfl (by kernel_rfl) (by kernel_rfl) (by kernel_rfl) (fun _ _ _ h => h) (by rfl) ?hy1_29 (by assumption) ?rest1_29
  case hy1_29 => (intro w hSw; unfold oShParts30; (try dsimp only at hSw); (try go_split_ands); go_simp; all_goals with_reducible rfl)
  try simp only [oShParts30, Act.put, sA, sB, sC]
  refine tkY 33 oShParts31 ?vv1_33 rfl (by kernel_rfl) (by kernel_rfl) (by kernel_rfl) (fun _ _ _ h => h) (by rfl) ?hy1_33 (by assumption) ?rest1_33
  case hy1_33 => (intro w hSw; unfold oShParts31; (try dsimp only at hSw); (try go_split_ands); go_simp; all_goals with_reducible rfl)
  try simp only [oShParts31, Act.put, sA, sB, sC]
  refine tkY 35 oShParts32 ?vv1_35 rfl (by kernel_rfl) (by kernel_rfl) (by kernel_rfl) (fun _ _ _ h => h) (by rfl) ?hy1_35 (by assumption) ?rest1_35
  case hy1_35 => (intro w hSw; unfold oShParts32; (try dsimp only at hSw); (try go_split_ands); go_simp; all_goals with_reducible rfl)
  try simp only [oShParts32, Act.put, sA, sB, sC]
  refine tkY 36 oShParts33 ?vv1_36 rfl (by kernel_rfl) (by kernel_rfl) (by kernel_rfl) (fun _ _ _ h => h) (by rfl) ?hy1_36 (by assumption) ?rest1_36
  case hy1_36 => (intro w hSw; unfold oShParts33; (try dsimp only at hSw); (try go_split_ands); go_simp; all_goals with_reducible rfl)
  try simp only [oShParts33, Act.put, sA, sB, sC]
  refine tkY 30 oShParts34 ?vv1_30 rfl (by kernel_rfl) (by kernel_rfl) (by kernel_rfl) (fun _ _ _ h => h) (by rfl) ?hy1_30 (by assumption) ?rest1_30
  case hy1_30 => (intro w hSw; unfold oShParts34; (try dsimp only at hSw); have hcv := conv_bts w _ a.length C (a.set k d) (by simp) hSw.1.1.2.out; clear hSw; go_simp; all_goals with_reducible rfl)
  try simp only [oShParts34, Act.put, sA, sB, sC]
  generalize (w3.alloc _) = w4 at hHeld ⊢
  refine wpAnyH_ready (rs := [31]) (by kernel_rfl) (by simp) ?_
  refine AllReadyH.cons (o := oShParts35) rfl (fun K hK => ?_) AllReadyH.nil
  unfold oShParts35
  go_simp
  refine hK.out _ _ ?_ (fun hHeld => ?_)
  · (exact ⟨⟨⟨below_alloc hHeld.1.1.1 _, hHeld.1.1.2.out.below (below_new _ _)⟩, hHeld.1.2.below (below_new _ _)⟩, hHeld.2.below (below_new _ _)⟩)
  clear hK K
  try simp only [oShParts35, Act.put, sA, sB, sC]
  refine wpAnyH_more (S2 := fun w' => (((Below w.heap.size w w' ∧ Hid (Bts w' w.heap.size (a.set k d))) ∧ Strs w' (some ⟨w2.heap.size, 0, none⟩) 2 [a.take k, a.drop k]) ∧ Strs w' (some ⟨w3.heap.size, 0, none⟩) 5 [[], a.take k, (a.take k1).drop k, [], a.drop k1]) ∧ Strs w' (some ⟨w4.heap.size, 0, none⟩) 1 [a.set k d]) (fun _ h => h.1) ⟨hHeld, strs_new1 w4 _ _⟩ (fun hHeld2 => ?_)
  clear hHeld
  have hHeld := hHeld2
  clear hHeld2
  refine wpAnyH_ready (rs := [32]) (by kernel_rfl) (by simp) ?_
  refine AllReadyH.cons (o := oShParts36) rfl (fun K hK => ?_) AllReadyH.nil
  unfold oShParts36
  go_simp
  (go_at_call 11; refine (shHash_eq _ 1 1 [a.set k d] q2 _ hHeld.2 (by omega) HL1 HP1.out).mono ?_; rintro e w6 ⟨rfl, rfl⟩)
  refine hK.out _ _ ?_ (fun hHeld => ?_)
  · (exact hHeld)
  clear hK K
  try simp only [oShParts36, Act.put, sA, sB, sC]
  refine tkY 34 oShParts37 ?vv1_34 rfl (by kernel_rfl) (by kernel_rfl) (by kernel_rfl) (fun _ _ _ h => h) (by rfl) ?hy1_34 (by assumption) ?rest1_34
  case hy1_34 => (intro w hSw; unfold oShParts37; (try dsimp only at hSw); (try go_split_ands); go_simp; all_goals with_reducible rfl)
  try simp only [oShParts37, Act.put, sA, sB, sC]
  refine tkY 37 oShParts38 ?vv1_37 rfl (by kernel_rfl) (by kernel_rfl) (by kernel_rfl) (fun _ _ _ h => h) (by rfl) ?hy1_37 (by assumption) ?rest1_37
  case hy1_37 => (intro w hSw; unfold oShParts38; (try dsimp only at hSw); (try go_split_ands); go_simp; all_goals with_reducible rfl)
  try simp only [oShParts38, Act.put, sA, sB, sC]
  refine tkY 38 oShParts39 ?vv1_38 rfl (by kernel_rfl) (by kernel_rfl) (by kernel_rfl) (fun _ _ _ h => h) (by rfl) ?hy1_38 (by assumption) ?rest1_38
  case hy1_38 => (intro w hSw; unfold oShParts39; (try dsimp only at hSw); (try go_split_ands); go_simp; all_goals with_reducible rfl)
  try simp only [oShParts39, Act.put, sA, sB, sC]
  refine tkY 39 oShParts40 ?vv1_39 rfl (by kernel_rfl) (by kernel_rfl) (by kernel_rfl) (fun _ _ _ h => h) (by rfl) ?hy1_39 (by assumption) ?rest1_39
  case hy1_39 => (intro w hSw; unfold oShParts40; (try dsimp only at hSw); (try go_split_ands); go_simp; all_goals with_reducible rfl)
  try simp only [oShParts40, Act.put, sA, sB, sC]
  refine wpAnyH_ready (rs := [40]) (by kernel_rfl) (by simp) ?_
  refine AllReadyH.cons (o := oShParts41) rfl (fun K hK => ?_) AllReadyH.nil
  unfold oShParts41
  go_simp
  (go_at_call 10; refine (awake8_any _ (HG.out.below hHeld.1.1.1.1)).mono ?_; rintro e w7 ⟨rfl, hb6⟩)
  refine hK.out _ _ ?_ (fun hHeld => ?_)
  · (exact ⟨⟨⟨⟨below_more hHeld.1.1.1.1 hb6, hHeld.1.1.1.2.out.below hb6⟩, hHeld.1.1.2.below hb6⟩, hHeld.1.2.below hb6⟩, hHeld.2.below hb6⟩)
  clear hK K
  try simp only [oShParts41, Act.put, sA, sB, sC]
  refine tkY 41 oShParts42 ?vv1_41 rfl (by kernel_rfl) (by kernel_rfl) (by kernel_rfl) (fun _ _ _ h => h) (by rfl) ?hy1_41 (by assumption) ?rest1_41
  case hy1_41 => (intro w hSw; unfold oShParts42; (try dsimp only at hSw); (try go_split_ands); go_simp; all_goals with_reducible rfl)
  try simp only [oShParts42, Act.put, sA, sB, sC]
  refine tkY 42 oShParts43 ?vv1_42 rfl (by kernel_rfl) (by kernel_rfl) (by kernel_rfl) (fun _ _ _ h => h) (by rfl) ?hy1_42 (by assumption) ?rest1_42
  case hy1_42 => (intro w hSw; unfold oShParts43; (try dsimp only at hSw); (try go_split_ands); go_simp; all_goals with_reducible rfl)
  try simp only [oShParts43, Act.put, sA, sB, sC]
  refine wpAnyH_done (by kernel_rfl) ?_ _
  have hb7 := hHeld.1.1.1.1
  clear hHeld
  go_wp2_with fail
  go_ret
  exact ⟨rfl, hb7⟩
theorem walk (w : World) (hG : Glo w) (a : List UInt8) (ha : a.length ≤ 9223372036854775807) (p : Int) (hp : (Lit.int .i64 p).wf = true) (n : Int) (hn : (Lit.int .u8 n).wf = true) :
    Calls Tryd.prog 7 #[.string ⟨a.toArray⟩, .int .i64 p, .int .u8 n] w fun e w' => e = .returned (.bool true) ∧ Below w.heap.size w w' := by
  have hn2 := u8_bd n hn
  clear hp hn
  by_cases h1 : 2000 < a.length
  · have i1 : (2000 : Int) < (a.length : Int) := by omega
    have hb : Below w.heap.size w w := Below.refl _ _
    have HG := Lib.hid hG
    clear hG
    go_enter Tryd.func7, Tryd.ntmps7
    go_wp2_with fail
    refine (awake8_any _ (HG.out.below hb)).mono ?_
    rintro e w1 ⟨rfl, hb1⟩
    replace hb := below_more hb hb1
    clear hb1
    go_wp2_with fail
    go_ret
    exact ⟨rfl, hb⟩
  by_cases h2 : p < 0
  · have i1 : ¬ (2000 : Int) < (a.length : Int) := by omega
    have hb : Below w.heap.size w w := Below.refl _ _
    have HG := Lib.hid hG
    clear hG
    go_enter Tryd.func7, Tryd.ntmps7
    go_wp2_with fail
    refine (awake8_any _ (HG.out.below hb)).mono ?_
    rintro e w1 ⟨rfl, hb1⟩
    replace hb := below_more hb hb1
    clear hb1
    go_wp2_with fail
    go_ret
    exact ⟨rfl, hb⟩
  by_cases h3 : (a.length : Int) ≤ p
  · have i1 : ¬ (2000 : Int) < (a.length : Int) := by omega
    have hb : Below w.heap.size w w := Below.refl _ _
    have HG := Lib.hid hG
    clear hG
    go_enter Tryd.func7, Tryd.ntmps7
    go_wp2_with fail
    refine (awake8_any _ (HG.out.below hb)).mono ?_
    rintro e w1 ⟨rfl, hb1⟩
    replace hb := below_more hb hb1
    clear hb1
    go_wp2_with fail
    go_ret
    exact ⟨rfl, hb⟩
  obtain ⟨k, rfl⟩ : ∃ k : Nat, p = (k : Int) := ⟨p.toNat, by omega⟩
  have hy := toB_toNat n hn2.1 (by omega)
  rw [← hy]
  exact walkIn w hG a (by omega) k (by omega) (toB n)
set_option maxRecDepth 100000 in
theorem lifted (os : Os) (started : os.Started) (H : Type) (enc : TypeId × Value → H) :
    ReturnsInHanded {} Tryd.checked os 7 .any (fun w args => (Rows.shardPartsSpec.pre enc Tryd.prog Tryd.f7 [] false w args ∧ laidMetH Tryd.prog laidL w) ∧ sizedMet enc Tryd.prog Tryd.f7 (OpenSpec.ofChange Rows.shardPartsSpec) false w args)
      (Rows.shardPartsSpec.post enc Tryd.prog Tryd.f7 false true false false) := by
  refine handed_laid (C := Tryd.checked) (X := fun w _ => laidMetH Tryd.prog laidL w) own_none started (by kernel_rfl) Tryd.func7 (laid_witness os Rows.shardPartsSpec #[.string ByteArray.empty, .int .i64 0, .int .u8 0] (by kernel_rfl) (by kernel_rfl) (by kernel_rfl)) ?_
  intro W base args ds gs before hval0 hW hsh
  have hval : ∀ (j : Nat) t v, Tryd.f7.params[j]? = some t → args[j]? = some v → Value.okWide Tryd.prog W .any base t v := hval0
  have hWk := hW
  obtain ⟨p, q, hA0, hV, hbef, _, _⟩ := hWk
  have hA : DataW.TrodAll enc Tryd.prog W 0 (fun _ => true) true Tryd.f7.params.toList args.toList ds p := hA0
  obtain ⟨rfl, rfl⟩ := trodVars_none hV
  rw [Tryd.params7] at hA hval
  obtain ⟨v0, vs0, d0, ds0, p0, q0, hargs, rfl, hp0, h0, r0⟩ := trodAll_cons hA
  obtain ⟨v1, vs1, d1, ds1, p1, q1, rfl, rfl, hp1, h1, r1⟩ := trodAll_cons r0
  obtain ⟨v2, vs2, d2, ds2, p2, q2, rfl, rfl, hp2, h2, r2⟩ := trodAll_cons r1
  obtain ⟨rfl, rfl, hpn⟩ := trodAll_nil r2
  obtain rfl : args = #[v0, v1, v2] := by cases args; simp_all
  obtain ⟨s0, rfl, rfl, hx0, w0⟩ := open_string Tryd.underlying9 (hval 0 9 v0 rfl rfl) h0
  obtain ⟨a0, rfl, hl0⟩ := str_of s0
  obtain ⟨a1, rfl, rfl, hx1, w1⟩ := open_int Tryd.underlying3 (hval 1 3 v1 rfl rfl) h1
  obtain ⟨a2, rfl, rfl, hx2, w2⟩ := open_int Tryd.underlying5 (hval 2 5 v2 rfl rfl) h2
  refine (walk W (glo_of hsh) a0 (by unfold maxLen at w0; omega) a1 w1 a2 w2).mono fun e W' ⟨he, hg⟩ => ?_
  subst he
  exact ⟨_, rfl, law_post laid_out (by kernel_rfl) rfl (by kernel_rfl) Tryd.underlying4 hW rfl hg⟩

theorem over : Rows.shardPartsRow.holds Tryd.pinned (OpenSpec.ofChange Rows.shardPartsSpec) :=
  OpenClaim.holds_of_wide 7 Tryd.f7 rfl rfl rfl rfl rfl rfl rfl ⟨rfl, rfl, rfl, rfl, rfl⟩ rfl rfl rfl rfl rfl (by kernel_rfl) Tryd.func7 (by kernel_rfl)
    (of_decide_eq_true (by kernel_rfl)) (by unfold Func.isWrapper; first | (rw [if_pos (by decide +kernel)]; kernel_rfl) | (rw [if_neg (by decide +kernel)]; exact ⟨rfl, rfl⟩))
    (fun os started H enc _ => lifted os started H enc)

/-- THE STATEMENT: the card. -/
theorem proved : Rows.ShardPartsCardSaid :=
  Claim7.holds_tied_plain_at .later [] [.data, .pinned] true Rows.shardPartsCard.stood.harness false over (fun _ h => by cases h) (by kernel_rfl) (fun _ h => by cases h) shardParts_row_tie rfl ⟨rfl, rfl⟩ (by kernel_rfl) rfl
    (fun f fn hf hfn => by
      obtain rfl : f = 7 := Option.some.inj ((show Tryd.prog.funcNamed Rows.shardPartsRow.func = some 7 by kernel_rfl).symm.trans hf) |>.symm
      obtain rfl : fn = Tryd.f7 := (Option.some.inj (Tryd.func7.symm.trans hfn)).symm
      exact ⟨by kernel_rfl, fun j t ht => by
        have hm : t ∈ Tryd.f7.params.toList := by simpa using Array.mem_of_getElem? ht
        have hall : (Tryd.f7.params.toList.all fun u => !Tryd.prog.wantsStandIn u) = true := by kernel_rfl
        exact (show Tryd.prog.wantsStandIn t = false by simpa using List.all_eq_true.1 hall t hm)⟩)
    (by kernel_rfl)
end lawShardParts
end Go.Proofs.YtiiojdlmbfkkhaaDoor
