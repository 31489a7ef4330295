/-
  The document's own encodings: the rest, the first byte, a packet, packets. (By tools/genwrr.py.)
-/
import Derived.Test.YtnaedcennichlaaGreatDoorMg
import Derived.Test.YtnaedcennichlaaGreatDoorPkRg
import Derived.Test.YtnaedcennichlaaGreatDoorPkRh
import Derived.Deep.Cut
import Derived.BigQuiet
set_option linter.unusedSimpArgs false
set_option linter.unusedVariables false
namespace Go.Proofs.YtnaedcennichlaaGreatDoor
section
open Go.RowKit
def oWrRest1 : Oper := ({ dst := some 82, op := Go.Op.fieldAddr 36 (Go.Operand.tmp 1) 17, type := 0, pos := "ref.go:59", after := #[], guard := none } : Oper)
def oWrRest2 : Oper := ({ dst := some 83, op := Go.Op.load 4 (Go.Operand.tmp 82), type := 4, pos := "ref.go:59", after := #[{ on := 0, ground := Go.Ground.data }], guard := none } : Oper)
def oWrRest3 : Oper := ({ dst := some 86, op := Go.Op.fieldAddr 36 (Go.Operand.tmp 1) 18, type := 0, pos := "ref.go:59", after := #[], guard := none } : Oper)
def oWrRest4 : Oper := ({ dst := some 87, op := Go.Op.load 5 (Go.Operand.tmp 86), type := 5, pos := "ref.go:59", after := #[{ on := 4, ground := Go.Ground.data }], guard := none } : Oper)
def oWrRest5 : Oper := ({ dst := some 88, op := Go.Op.convert 5 3 (Go.Operand.tmp 87), type := 3, pos := "ref.go:59", after := #[{ on := 5, ground := Go.Ground.data }], guard := none } : Oper)
def oWrRest6 : Oper := ({ dst := some 84, op := Go.Op.call { callee := Go.Callee.value (Go.Operand.func 36), args := #[Go.Operand.tmp 83, Go.Operand.const (Go.Value.int Go.IntKind.i64 1)], argTypes := #[4, 3] }, type := 3, pos := "ref.go:59", after := #[{ on := 1, ground := Go.Ground.data }], guard := none } : Oper)
def oWrRest7 : Oper := ({ dst := some 85, op := Go.Op.call { callee := Go.Callee.value (Go.Operand.func 48), args := #[Go.Operand.tmp 84], argTypes := #[3] }, type := 9, pos := "ref.go:59", after := #[{ on := 2, ground := Go.Ground.data }, { on := 2, ground := Go.Ground.chain }], guard := none } : Oper)
def oWrRest8 : Oper := ({ dst := some 89, op := Go.Op.call { callee := Go.Callee.value (Go.Operand.func 48), args := #[Go.Operand.tmp 88], argTypes := #[3] }, type := 9, pos := "ref.go:59", after := #[{ on := 6, ground := Go.Ground.data }, { on := 3, ground := Go.Ground.chain }], guard := none } : Oper)
def oWrRest9 : Oper := ({ dst := some 90, op := Go.Op.binOp Go.BinOp.add 9 (Go.Operand.tmp 85) (Go.Operand.tmp 89) 9, type := 9, pos := "ref.go:59", after := #[{ on := 3, ground := Go.Ground.data }, { on := 7, ground := Go.Ground.data }], guard := none } : Oper)
def oWrRest10 : Oper := ({ dst := some 3, op := Go.Op.assign (Go.Operand.tmp 90), type := 9, pos := "ref.go:59", after := #[{ on := 8, ground := Go.Ground.data }, { on := 7, ground := Go.Ground.chain }, { on := 0, ground := Go.Ground.phase }, { on := 1, ground := Go.Ground.phase }, { on := 2, ground := Go.Ground.phase }, { on := 3, ground := Go.Ground.phase }, { on := 4, ground := Go.Ground.phase }, { on := 5, ground := Go.Ground.phase }, { on := 6, ground := Go.Ground.phase }, { on := 7, ground := Go.Ground.phase }, { on := 8, ground := Go.Ground.phase }], guard := none } : Oper)
def oWrRest11 : Oper := ({ dst := some 145, op := Go.Op.fieldAddr 36 (Go.Operand.tmp 1) 4, type := 0, pos := "ref.go:75", after := #[], guard := none } : Oper)
def oWrRest12 : Oper := ({ dst := some 146, op := Go.Op.load 31 (Go.Operand.tmp 145), type := 31, pos := "ref.go:75", after := #[{ on := 0, ground := Go.Ground.data }], guard := none } : Oper)
def oWrRest13 : Oper := ({ dst := some 148, op := Go.Op.fieldAddr 36 (Go.Operand.tmp 1) 20, type := 0, pos := "ref.go:75", after := #[], guard := none } : Oper)
def oWrRest14 : Oper := ({ dst := some 149, op := Go.Op.load 9 (Go.Operand.tmp 148), type := 9, pos := "ref.go:75", after := #[{ on := 3, ground := Go.Ground.data }], guard := none } : Oper)
def oWrRest15 : Oper := ({ dst := some 147, op := Go.Op.call { callee := Go.Callee.value (Go.Operand.func 49), args := #[Go.Operand.tmp 146], argTypes := #[31] }, type := 9, pos := "ref.go:75", after := #[{ on := 1, ground := Go.Ground.data }], guard := none } : Oper)
def oWrRest16 : Oper := ({ dst := some 150, op := Go.Op.binOp Go.BinOp.add 9 (Go.Operand.tmp 147) (Go.Operand.tmp 149) 9, type := 9, pos := "ref.go:75", after := #[{ on := 2, ground := Go.Ground.data }, { on := 4, ground := Go.Ground.data }], guard := none } : Oper)
def oWrRest17 : Oper := ({ dst := some 3, op := Go.Op.assign (Go.Operand.tmp 150), type := 9, pos := "ref.go:75", after := #[{ on := 5, ground := Go.Ground.data }, { on := 2, ground := Go.Ground.chain }, { on := 0, ground := Go.Ground.phase }, { on := 1, ground := Go.Ground.phase }, { on := 2, ground := Go.Ground.phase }, { on := 3, ground := Go.Ground.phase }, { on := 4, ground := Go.Ground.phase }, { on := 5, ground := Go.Ground.phase }], guard := none } : Oper)
def oWrRest18 : Oper := ({ dst := some 42, op := Go.Op.move (Go.Operand.tmp 4), type := 3, pos := "ref.go:48", after := #[], guard := none } : Oper)
def oWrRest19 : Oper := ({ dst := some 45, op := Go.Op.fieldAddr 36 (Go.Operand.tmp 1) 9, type := 0, pos := "ref.go:48", after := #[], guard := none } : Oper)
def oWrRest20 : Oper := ({ dst := some 46, op := Go.Op.load 31 (Go.Operand.tmp 45), type := 31, pos := "ref.go:48", after := #[{ on := 6, ground := Go.Ground.data }], guard := none } : Oper)
def oWrRest21 : Oper := ({ dst := some 49, op := Go.Op.fieldAddr 36 (Go.Operand.tmp 1) 10, type := 0, pos := "ref.go:48", after := #[], guard := none } : Oper)
def oWrRest22 : Oper := ({ dst := some 50, op := Go.Op.load 9 (Go.Operand.tmp 49), type := 9, pos := "ref.go:48", after := #[{ on := 10, ground := Go.Ground.data }], guard := none } : Oper)
def oWrRest23 : Oper := ({ dst := some 39, op := Go.Op.call { callee := Go.Callee.value (Go.Operand.func 47), args := #[Go.Operand.const (Go.Value.string { data := #[77, 81, 84, 84] })], argTypes := #[9] }, type := 9, pos := "ref.go:48", after := #[], guard := none } : Oper)
def oWrRest24 : Oper := ({ dst := some 40, op := Go.Op.call { callee := Go.Callee.value (Go.Operand.func 48), args := #[Go.Operand.const (Go.Value.int Go.IntKind.i64 4)], argTypes := #[3] }, type := 9, pos := "ref.go:48", after := #[{ on := 0, ground := Go.Ground.chain }], guard := none } : Oper)
def oWrRest25 : Oper := ({ dst := some 41, op := Go.Op.binOp Go.BinOp.add 9 (Go.Operand.tmp 39) (Go.Operand.tmp 40) 9, type := 9, pos := "ref.go:48", after := #[{ on := 0, ground := Go.Ground.data }, { on := 1, ground := Go.Ground.data }], guard := none } : Oper)
def oWrRest26 : Oper := ({ dst := some 43, op := Go.Op.call { callee := Go.Callee.value (Go.Operand.func 48), args := #[Go.Operand.tmp 42], argTypes := #[3] }, type := 9, pos := "ref.go:48", after := #[{ on := 3, ground := Go.Ground.data }, { on := 1, ground := Go.Ground.chain }], guard := none } : Oper)
def oWrRest27 : Oper := ({ dst := some 44, op := Go.Op.binOp Go.BinOp.add 9 (Go.Operand.tmp 41) (Go.Operand.tmp 43) 9, type := 9, pos := "ref.go:48", after := #[{ on := 2, ground := Go.Ground.data }, { on := 4, ground := Go.Ground.data }], guard := none } : Oper)
def oWrRest28 : Oper := ({ dst := some 47, op := Go.Op.call { callee := Go.Callee.value (Go.Operand.func 49), args := #[Go.Operand.tmp 46], argTypes := #[31] }, type := 9, pos := "ref.go:48", after := #[{ on := 7, ground := Go.Ground.data }, { on := 4, ground := Go.Ground.chain }], guard := none } : Oper)
def oWrRest29 : Oper := ({ dst := some 48, op := Go.Op.binOp Go.BinOp.add 9 (Go.Operand.tmp 44) (Go.Operand.tmp 47) 9, type := 9, pos := "ref.go:48", after := #[{ on := 5, ground := Go.Ground.data }, { on := 8, ground := Go.Ground.data }], guard := none } : Oper)
def oWrRest30 : Oper := ({ dst := some 51, op := Go.Op.call { callee := Go.Callee.value (Go.Operand.func 47), args := #[Go.Operand.tmp 50], argTypes := #[9] }, type := 9, pos := "ref.go:48", after := #[{ on := 11, ground := Go.Ground.data }, { on := 8, ground := Go.Ground.chain }], guard := none } : Oper)
def oWrRest31 : Oper := ({ dst := some 52, op := Go.Op.binOp Go.BinOp.add 9 (Go.Operand.tmp 48) (Go.Operand.tmp 51) 9, type := 9, pos := "ref.go:48", after := #[{ on := 9, ground := Go.Ground.data }, { on := 12, ground := Go.Ground.data }], guard := none } : Oper)
def oWrRest32 : Oper := ({ dst := some 3, op := Go.Op.assign (Go.Operand.tmp 52), type := 9, pos := "ref.go:48", after := #[{ on := 13, ground := Go.Ground.data }, { on := 12, ground := Go.Ground.chain }, { on := 0, ground := Go.Ground.phase }, { on := 1, ground := Go.Ground.phase }, { on := 2, ground := Go.Ground.phase }, { on := 3, ground := Go.Ground.phase }, { on := 4, ground := Go.Ground.phase }, { on := 5, ground := Go.Ground.phase }, { on := 6, ground := Go.Ground.phase }, { on := 7, ground := Go.Ground.phase }, { on := 8, ground := Go.Ground.phase }, { on := 9, ground := Go.Ground.phase }, { on := 10, ground := Go.Ground.phase }, { on := 11, ground := Go.Ground.phase }, { on := 12, ground := Go.Ground.phase }, { on := 13, ground := Go.Ground.phase }], guard := none } : Oper)
def oWrRest33 : Oper := ({ dst := some 55, op := Go.Op.move (Go.Operand.tmp 3), type := 9, pos := "ref.go:50", after := #[], guard := none } : Oper)
def oWrRest34 : Oper := ({ dst := some 56, op := Go.Op.fieldAddr 36 (Go.Operand.tmp 1) 12, type := 0, pos := "ref.go:50", after := #[], guard := none } : Oper)
def oWrRest35 : Oper := ({ dst := some 57, op := Go.Op.fieldAddr 33 (Go.Operand.tmp 56) 0, type := 0, pos := "ref.go:50", after := #[{ on := 1, ground := Go.Ground.data }], guard := none } : Oper)
def oWrRest36 : Oper := ({ dst := some 58, op := Go.Op.load 9 (Go.Operand.tmp 57), type := 9, pos := "ref.go:50", after := #[{ on := 2, ground := Go.Ground.data }], guard := none } : Oper)
def oWrRest37 : Oper := ({ dst := some 61, op := Go.Op.fieldAddr 36 (Go.Operand.tmp 1) 12, type := 0, pos := "ref.go:50", after := #[], guard := none } : Oper)
def oWrRest38 : Oper := ({ dst := some 62, op := Go.Op.fieldAddr 33 (Go.Operand.tmp 61) 1, type := 0, pos := "ref.go:50", after := #[{ on := 6, ground := Go.Ground.data }], guard := none } : Oper)
def oWrRest39 : Oper := ({ dst := some 63, op := Go.Op.load 9 (Go.Operand.tmp 62), type := 9, pos := "ref.go:50", after := #[{ on := 7, ground := Go.Ground.data }], guard := none } : Oper)
def oWrRest40 : Oper := ({ dst := some 59, op := Go.Op.call { callee := Go.Callee.value (Go.Operand.func 47), args := #[Go.Operand.tmp 58], argTypes := #[9] }, type := 9, pos := "ref.go:50", after := #[{ on := 3, ground := Go.Ground.data }], guard := none } : Oper)
def oWrRest41 : Oper := ({ dst := some 60, op := Go.Op.binOp Go.BinOp.add 9 (Go.Operand.tmp 55) (Go.Operand.tmp 59) 9, type := 9, pos := "ref.go:50", after := #[{ on := 0, ground := Go.Ground.data }, { on := 4, ground := Go.Ground.data }], guard := none } : Oper)
def oWrRest42 : Oper := ({ dst := some 64, op := Go.Op.call { callee := Go.Callee.value (Go.Operand.func 47), args := #[Go.Operand.tmp 63], argTypes := #[9] }, type := 9, pos := "ref.go:50", after := #[{ on := 8, ground := Go.Ground.data }, { on := 4, ground := Go.Ground.chain }], guard := none } : Oper)
def oWrRest43 : Oper := ({ dst := some 65, op := Go.Op.binOp Go.BinOp.add 9 (Go.Operand.tmp 60) (Go.Operand.tmp 64) 9, type := 9, pos := "ref.go:50", after := #[{ on := 5, ground := Go.Ground.data }, { on := 9, ground := Go.Ground.data }], guard := none } : Oper)
def oWrRest44 : Oper := ({ dst := some 3, op := Go.Op.assign (Go.Operand.tmp 65), type := 9, pos := "ref.go:50", after := #[{ on := 10, ground := Go.Ground.data }, { on := 9, ground := Go.Ground.chain }, { on := 0, ground := Go.Ground.phase }, { on := 1, ground := Go.Ground.phase }, { on := 2, ground := Go.Ground.phase }, { on := 3, ground := Go.Ground.phase }, { on := 4, ground := Go.Ground.phase }, { on := 5, ground := Go.Ground.phase }, { on := 6, ground := Go.Ground.phase }, { on := 7, ground := Go.Ground.phase }, { on := 8, ground := Go.Ground.phase }, { on := 9, ground := Go.Ground.phase }, { on := 10, ground := Go.Ground.phase }], guard := none } : Oper)
end
open Go.RowKit
set_option maxRecDepth 100000
theorem fld_len (k : Nat) : (fldF k).length ≤ 100 := by
  unfold fldF
  by_cases h : k < 15
  · have : k = 0 ∨ k = 1 ∨ k = 2 ∨ k = 3 ∨ k = 4 ∨ k = 5 ∨ k = 6 ∨ k = 7 ∨ k = 8 ∨ k = 9 ∨ k = 10 ∨ k = 11 ∨ k = 12 ∨ k = 13 ∨ k = 14 := by omega
    rcases this with rfl | rfl | rfl | rfl | rfl | rfl | rfl | rfl | rfl | rfl | rfl | rfl | rfl | rfl | rfl <;> decide
  · rw [List.getElem?_eq_none (by show 15 ≤ k; omega)]
    decide
theorem refRightW_eq (p : Pk) (A : Option Addr) (n c : Nat) (xs : List (List UInt8 × Int)) (r : Bool) (w : World) (hs : Subs w A n xs) (hf : Fit p xs) (h : decide (0 ≤ restN p xs) = r) :
    Calls Tryz.prog 29 #[.agg (PkC p A n c)] w fun e w' => e = .returned (.bool r) ∧ Below w.heap.size w w' := by
  obtain ⟨k, hk⟩ : ∃ k : Nat, p.ty = (k : Int) := ⟨p.ty.toNat, by have := hf.ty; omega⟩
  refine refRight_eq p A n c k (fldF k) xs r w hs hf hk (by have := hf.ty; omega) rfl (fld_len k) ?_
  rw [right_same p xs hf k hk, h]
section
variable {w : World}
set_option maxHeartbeats 4000000 in
theorem refRest_4 (p : Pk) (A : Option Addr) (n c : Nat) (xs : List (List UInt8 × Int)) (hs : Subs w A n xs) (hf : Fit p xs) (ho : Ok p xs) (e : p.ty = 4) :
    Calls Tryz.prog 30 #[.agg (PkC p A n c)] w fun e w' => e = .returned (.string ⟨(bodyL p xs).toArray⟩) ∧ Below w.heap.size w w' := by
  have HX : Hid (bodyL p xs = wordL p.id) := by show _ = _; unfold bodyL; rw [e]; simp
  have hK0 := (Kp.nil w).new (PkC p A n c) 36
  have hid := hf.id
  have hld := load_le hf.tot
  have t1 : (p.ty == 1) = false := by rw [e]; rfl
  have t2 : (p.ty == 2) = false := by rw [e]; rfl
  have t3 : (p.ty == 3) = false := by rw [e]; rfl
  have t8 : (p.ty == 8) = false := by rw [e]; rfl
  have t9 : (p.ty == 9) = false := by rw [e]; rfl
  have t10 : (p.ty == 10) = false := by rw [e]; rfl
  have t12 : (p.ty == 12) = false := by rw [e]; rfl
  have t13 : (p.ty == 13) = false := by rw [e]; rfl
  have t14 : (p.ty == 14) = false := by rw [e]; rfl
  clear e hs hf ho
  go_enter Tryz.func30, Tryz.ntmps30
  go_wp2_with fail
  refine (refWord_any p.id _ hid.1 hid.2).mono ?_
  rintro e w6 ⟨rfl, hb6⟩
  have hK1 := hK0.more hb6
  clear hb6
  go_wp2_with fail
  go_ret
  exact ⟨by rw [HX.out]; rfl, hK1.below⟩
set_option maxHeartbeats 4000000 in
theorem refRest_5 (p : Pk) (A : Option Addr) (n c : Nat) (xs : List (List UInt8 × Int)) (hs : Subs w A n xs) (hf : Fit p xs) (ho : Ok p xs) (e : p.ty = 5) :
    Calls Tryz.prog 30 #[.agg (PkC p A n c)] w fun e w' => e = .returned (.string ⟨(bodyL p xs).toArray⟩) ∧ Below w.heap.size w w' := by
  have HX : Hid (bodyL p xs = wordL p.id) := by show _ = _; unfold bodyL; rw [e]; simp
  have hK0 := (Kp.nil w).new (PkC p A n c) 36
  have hid := hf.id
  have hld := load_le hf.tot
  have t1 : (p.ty == 1) = false := by rw [e]; rfl
  have t2 : (p.ty == 2) = false := by rw [e]; rfl
  have t3 : (p.ty == 3) = false := by rw [e]; rfl
  have t8 : (p.ty == 8) = false := by rw [e]; rfl
  have t9 : (p.ty == 9) = false := by rw [e]; rfl
  have t10 : (p.ty == 10) = false := by rw [e]; rfl
  have t12 : (p.ty == 12) = false := by rw [e]; rfl
  have t13 : (p.ty == 13) = false := by rw [e]; rfl
  have t14 : (p.ty == 14) = false := by rw [e]; rfl
  clear e hs hf ho
  go_enter Tryz.func30, Tryz.ntmps30
  go_wp2_with fail
  refine (refWord_any p.id _ hid.1 hid.2).mono ?_
  rintro e w6 ⟨rfl, hb6⟩
  have hK1 := hK0.more hb6
  clear hb6
  go_wp2_with fail
  go_ret
  exact ⟨by rw [HX.out]; rfl, hK1.below⟩
set_option maxHeartbeats 4000000 in
theorem refRest_6 (p : Pk) (A : Option Addr) (n c : Nat) (xs : List (List UInt8 × Int)) (hs : Subs w A n xs) (hf : Fit p xs) (ho : Ok p xs) (e : p.ty = 6) :
    Calls Tryz.prog 30 #[.agg (PkC p A n c)] w fun e w' => e = .returned (.string ⟨(bodyL p xs).toArray⟩) ∧ Below w.heap.size w w' := by
  have HX : Hid (bodyL p xs = wordL p.id) := by show _ = _; unfold bodyL; rw [e]; simp
  have hK0 := (Kp.nil w).new (PkC p A n c) 36
  have hid := hf.id
  have hld := load_le hf.tot
  have t1 : (p.ty == 1) = false := by rw [e]; rfl
  have t2 : (p.ty == 2) = false := by rw [e]; rfl
  have t3 : (p.ty == 3) = false := by rw [e]; rfl
  have t8 : (p.ty == 8) = false := by rw [e]; rfl
  have t9 : (p.ty == 9) = false := by rw [e]; rfl
  have t10 : (p.ty == 10) = false := by rw [e]; rfl
  have t12 : (p.ty == 12) = false := by rw [e]; rfl
  have t13 : (p.ty == 13) = false := by rw [e]; rfl
  have t14 : (p.ty == 14) = false := by rw [e]; rfl
  clear e hs hf ho
  go_enter Tryz.func30, Tryz.ntmps30
  go_wp2_with fail
  refine (refWord_any p.id _ hid.1 hid.2).mono ?_
  rintro e w6 ⟨rfl, hb6⟩
  have hK1 := hK0.more hb6
  clear hb6
  go_wp2_with fail
  go_ret
  exact ⟨by rw [HX.out]; rfl, hK1.below⟩
set_option maxHeartbeats 4000000 in
theorem refRest_7 (p : Pk) (A : Option Addr) (n c : Nat) (xs : List (List UInt8 × Int)) (hs : Subs w A n xs) (hf : Fit p xs) (ho : Ok p xs) (e : p.ty = 7) :
    Calls Tryz.prog 30 #[.agg (PkC p A n c)] w fun e w' => e = .returned (.string ⟨(bodyL p xs).toArray⟩) ∧ Below w.heap.size w w' := by
  have HX : Hid (bodyL p xs = wordL p.id) := by show _ = _; unfold bodyL; rw [e]; simp
  have hK0 := (Kp.nil w).new (PkC p A n c) 36
  have hid := hf.id
  have hld := load_le hf.tot
  have t1 : (p.ty == 1) = false := by rw [e]; rfl
  have t2 : (p.ty == 2) = false := by rw [e]; rfl
  have t3 : (p.ty == 3) = false := by rw [e]; rfl
  have t8 : (p.ty == 8) = false := by rw [e]; rfl
  have t9 : (p.ty == 9) = false := by rw [e]; rfl
  have t10 : (p.ty == 10) = false := by rw [e]; rfl
  have t12 : (p.ty == 12) = false := by rw [e]; rfl
  have t13 : (p.ty == 13) = false := by rw [e]; rfl
  have t14 : (p.ty == 14) = false := by rw [e]; rfl
  clear e hs hf ho
  go_enter Tryz.func30, Tryz.ntmps30
  go_wp2_with fail
  refine (refWord_any p.id _ hid.1 hid.2).mono ?_
  rintro e w6 ⟨rfl, hb6⟩
  have hK1 := hK0.more hb6
  clear hb6
  go_wp2_with fail
  go_ret
  exact ⟨by rw [HX.out]; rfl, hK1.below⟩
set_option maxHeartbeats 4000000 in
theorem refRest_11 (p : Pk) (A : Option Addr) (n c : Nat) (xs : List (List UInt8 × Int)) (hs : Subs w A n xs) (hf : Fit p xs) (ho : Ok p xs) (e : p.ty = 11) :
    Calls Tryz.prog 30 #[.agg (PkC p A n c)] w fun e w' => e = .returned (.string ⟨(bodyL p xs).toArray⟩) ∧ Below w.heap.size w w' := by
  have HX : Hid (bodyL p xs = wordL p.id) := by show _ = _; unfold bodyL; rw [e]; simp
  have hK0 := (Kp.nil w).new (PkC p A n c) 36
  have hid := hf.id
  have hld := load_le hf.tot
  have t1 : (p.ty == 1) = false := by rw [e]; rfl
  have t2 : (p.ty == 2) = false := by rw [e]; rfl
  have t3 : (p.ty == 3) = false := by rw [e]; rfl
  have t8 : (p.ty == 8) = false := by rw [e]; rfl
  have t9 : (p.ty == 9) = false := by rw [e]; rfl
  have t10 : (p.ty == 10) = false := by rw [e]; rfl
  have t12 : (p.ty == 12) = false := by rw [e]; rfl
  have t13 : (p.ty == 13) = false := by rw [e]; rfl
  have t14 : (p.ty == 14) = false := by rw [e]; rfl
  clear e hs hf ho
  go_enter Tryz.func30, Tryz.ntmps30
  go_wp2_with fail
  refine (refWord_any p.id _ hid.1 hid.2).mono ?_
  rintro e w6 ⟨rfl, hb6⟩
  have hK1 := hK0.more hb6
  clear hb6
  go_wp2_with fail
  go_ret
  exact ⟨by rw [HX.out]; rfl, hK1.below⟩
set_option maxHeartbeats 4000000 in
theorem refRest_12 (p : Pk) (A : Option Addr) (n c : Nat) (xs : List (List UInt8 × Int)) (hs : Subs w A n xs) (hf : Fit p xs) (ho : Ok p xs) (e : p.ty = 12) :
    Calls Tryz.prog 30 #[.agg (PkC p A n c)] w fun e w' => e = .returned (.string ⟨(bodyL p xs).toArray⟩) ∧ Below w.heap.size w w' := by
  have HX : Hid (bodyL p xs = []) := by show _ = _; unfold bodyL; rw [e]; simp
  have hK0 := (Kp.nil w).new (PkC p A n c) 36
  have hid := hf.id
  have hld := load_le hf.tot
  have t1 : (p.ty == 1) = false := by rw [e]; rfl
  have t2 : (p.ty == 2) = false := by rw [e]; rfl
  have t3 : (p.ty == 3) = false := by rw [e]; rfl
  have t8 : (p.ty == 8) = false := by rw [e]; rfl
  have t9 : (p.ty == 9) = false := by rw [e]; rfl
  have t10 : (p.ty == 10) = false := by rw [e]; rfl
  have t12 : (p.ty == 12) = true := by rw [e]; rfl
  have t13 : (p.ty == 13) = false := by rw [e]; rfl
  have t14 : (p.ty == 14) = false := by rw [e]; rfl
  clear e hs hf ho
  go_enter Tryz.func30, Tryz.ntmps30
  go_wp2_with fail
  go_ret
  exact ⟨by rw [HX.out]; rfl, hK0.below⟩
set_option maxHeartbeats 4000000 in
theorem refRest_13 (p : Pk) (A : Option Addr) (n c : Nat) (xs : List (List UInt8 × Int)) (hs : Subs w A n xs) (hf : Fit p xs) (ho : Ok p xs) (e : p.ty = 13) :
    Calls Tryz.prog 30 #[.agg (PkC p A n c)] w fun e w' => e = .returned (.string ⟨(bodyL p xs).toArray⟩) ∧ Below w.heap.size w w' := by
  have HX : Hid (bodyL p xs = []) := by show _ = _; unfold bodyL; rw [e]; simp
  have hK0 := (Kp.nil w).new (PkC p A n c) 36
  have hid := hf.id
  have hld := load_le hf.tot
  have t1 : (p.ty == 1) = false := by rw [e]; rfl
  have t2 : (p.ty == 2) = false := by rw [e]; rfl
  have t3 : (p.ty == 3) = false := by rw [e]; rfl
  have t8 : (p.ty == 8) = false := by rw [e]; rfl
  have t9 : (p.ty == 9) = false := by rw [e]; rfl
  have t10 : (p.ty == 10) = false := by rw [e]; rfl
  have t12 : (p.ty == 12) = false := by rw [e]; rfl
  have t13 : (p.ty == 13) = true := by rw [e]; rfl
  have t14 : (p.ty == 14) = false := by rw [e]; rfl
  clear e hs hf ho
  go_enter Tryz.func30, Tryz.ntmps30
  go_wp2_with fail
  go_ret
  exact ⟨by rw [HX.out]; rfl, hK0.below⟩
set_option maxHeartbeats 4000000 in
theorem refRest_14 (p : Pk) (A : Option Addr) (n c : Nat) (xs : List (List UInt8 × Int)) (hs : Subs w A n xs) (hf : Fit p xs) (ho : Ok p xs) (e : p.ty = 14) :
    Calls Tryz.prog 30 #[.agg (PkC p A n c)] w fun e w' => e = .returned (.string ⟨(bodyL p xs).toArray⟩) ∧ Below w.heap.size w w' := by
  have HX : Hid (bodyL p xs = []) := by show _ = _; unfold bodyL; rw [e]; simp
  have hK0 := (Kp.nil w).new (PkC p A n c) 36
  have hid := hf.id
  have hld := load_le hf.tot
  have t1 : (p.ty == 1) = false := by rw [e]; rfl
  have t2 : (p.ty == 2) = false := by rw [e]; rfl
  have t3 : (p.ty == 3) = false := by rw [e]; rfl
  have t8 : (p.ty == 8) = false := by rw [e]; rfl
  have t9 : (p.ty == 9) = false := by rw [e]; rfl
  have t10 : (p.ty == 10) = false := by rw [e]; rfl
  have t12 : (p.ty == 12) = false := by rw [e]; rfl
  have t13 : (p.ty == 13) = false := by rw [e]; rfl
  have t14 : (p.ty == 14) = true := by rw [e]; rfl
  clear e hs hf ho
  go_enter Tryz.func30, Tryz.ntmps30
  go_wp2_with fail
  go_ret
  exact ⟨by rw [HX.out]; rfl, hK0.below⟩
set_option maxHeartbeats 4000000 in
theorem refRest_2 (p : Pk) (A : Option Addr) (n c : Nat) (xs : List (List UInt8 × Int)) (hs : Subs w A n xs) (hf : Fit p xs) (ho : Ok p xs) (e : p.ty = 2) :
    Calls Tryz.prog 30 #[.agg (PkC p A n c)] w fun e w' => e = .returned (.string ⟨(bodyL p xs).toArray⟩) ∧ Below w.heap.size w w' := by
  have HX : Hid (bodyL p xs = [toB (yesI p.present 1), toB p.code]) := by show _ = _; unfold bodyL; rw [e]; simp
  have hK0 := (Kp.nil w).new (PkC p A n c) 36
  have hid := hf.id
  have hld := load_le hf.tot
  have t1 : (p.ty == 1) = false := by rw [e]; rfl
  have t2 : (p.ty == 2) = true := by rw [e]; rfl
  have t3 : (p.ty == 3) = false := by rw [e]; rfl
  have t8 : (p.ty == 8) = false := by rw [e]; rfl
  have t9 : (p.ty == 9) = false := by rw [e]; rfl
  have t10 : (p.ty == 10) = false := by rw [e]; rfl
  have t12 : (p.ty == 12) = false := by rw [e]; rfl
  have t13 : (p.ty == 13) = false := by rw [e]; rfl
  have t14 : (p.ty == 14) = false := by rw [e]; rfl
  have hcd := hf.code
  have hpr := yes_bd p.present 1 (by omega)
  have w1 : IntKind.i64.wrap p.code = p.code := IntWalk.i64_in _ (by omega)
  have had := fun W => add_str (P := Tryz.prog) W [toB (yesI p.present 1)] [toB p.code] (by simp)
  clear e hs hf ho
  go_enter Tryz.func30, Tryz.ntmps30
  go_upto_region 14 with fail
  refine wp_region_held_drew (S := Kp w [(w.heap.size, PkC p A n c, 36)]) (by kernel_rfl) hK0.drew (fun hHeld => ?_)
  clear hK0
  generalize hwd : World.drew _ = wd at hHeld ⊢
  clear hwd
  refine tkY 0 oWrRest1 ?vw265 rfl (by kernel_rfl) (by kernel_rfl) (by kernel_rfl) (fun _ _ _ h => h) (by rfl) ?hz265 (by assumption) ?rs265
  case hz265 => (intro wz hSw; unfold oWrRest1; (try clear hSw); go_simp; all_goals with_reducible rfl)
  try simp only [oWrRest1, Act.put, sA, sB, sC]
  refine tkY 1 oWrRest2 ?vw266 rfl (by kernel_rfl) (by kernel_rfl) (by kernel_rfl) (fun _ _ _ h => h) (by rfl) ?hz266 (by assumption) ?rs266
  case hz266 => (intro wz hSw; unfold oWrRest2; (try have hq1 := hSw.tail.cell); (try have hq2 := hSw.tail.tail.cell); (try have hq3 := hSw.cell); (try have hq4 := hSw.tail.row); (try have hq5 := hSw.tail.tail.row); (try have hq6 := hSw.row); (try have hq7 := hSw.tail.tail.tail.row); (try clear hSw); go_simp; all_goals with_reducible rfl)
  try simp only [oWrRest2, Act.put, sA, sB, sC]
  refine tkY 4 oWrRest3 ?vw267 rfl (by kernel_rfl) (by kernel_rfl) (by kernel_rfl) (fun _ _ _ h => h) (by rfl) ?hz267 (by assumption) ?rs267
  case hz267 => (intro wz hSw; unfold oWrRest3; (try clear hSw); go_simp; all_goals with_reducible rfl)
  try simp only [oWrRest3, Act.put, sA, sB, sC]
  refine tkY 5 oWrRest4 ?vw268 rfl (by kernel_rfl) (by kernel_rfl) (by kernel_rfl) (fun _ _ _ h => h) (by rfl) ?hz268 (by assumption) ?rs268
  case hz268 => (intro wz hSw; unfold oWrRest4; (try have hq1 := hSw.tail.cell); (try have hq2 := hSw.tail.tail.cell); (try have hq3 := hSw.cell); (try have hq4 := hSw.tail.row); (try have hq5 := hSw.tail.tail.row); (try have hq6 := hSw.row); (try have hq7 := hSw.tail.tail.tail.row); (try clear hSw); go_simp; all_goals with_reducible rfl)
  try simp only [oWrRest4, Act.put, sA, sB, sC]
  refine tkY 6 oWrRest5 ?vw269 rfl (by kernel_rfl) (by kernel_rfl) (by kernel_rfl) (fun _ _ _ h => h) (by rfl) ?hz269 (by assumption) ?rs269
  case hz269 => (intro wz hSw; unfold oWrRest5; (try clear hSw); go_simp; all_goals with_reducible rfl)
  try simp only [oWrRest5, Act.put, sA, sB, sC]
  refine wpAnyH_ready (rs := [2]) (by kernel_rfl) (by simp) ?_
  refine (AllReadyH.cons (o := oWrRest6) rfl (fun K hK => ?_) AllReadyH.nil)
  unfold oWrRest6
  go_simp
  (go_at_call 36; refine (refYes_any _ _ _).mono ?_; rintro e w6 ⟨rfl, rfl⟩)
  refine hK.out _ _ (by first | exact hHeld.more hb6 | exact hHeld | exact ⟨_, hK9⟩ | exact below_more hHeld hb6) (fun hHeld1 => ?_)
  clear hHeld; have hHeld := hHeld1; clear hHeld1 hK K
  try simp only [oWrRest6, Act.put, sA, sB, sC]
  refine wpAnyH_ready (rs := [3]) (by kernel_rfl) (by simp) ?_
  refine (AllReadyH.cons (o := oWrRest7) rfl (fun K hK => ?_) AllReadyH.nil)
  unfold oWrRest7
  go_simp
  (go_at_call 48; refine (refOne_any _ _ hpr.1 (by omega)).mono ?_; rintro e w6 ⟨rfl, hb6⟩)
  refine hK.out _ _ (by first | exact hHeld.more hb6 | exact hHeld | exact ⟨_, hK9⟩ | exact below_more hHeld hb6) (fun hHeld1 => ?_)
  clear hHeld; have hHeld := hHeld1; clear hHeld1 hK K
  try simp only [oWrRest7, Act.put, sA, sB, sC]
  refine wpAnyH_ready (rs := [7]) (by kernel_rfl) (by simp) ?_
  refine (AllReadyH.cons (o := oWrRest8) rfl (fun K hK => ?_) AllReadyH.nil)
  unfold oWrRest8
  go_simp
  (go_at_call 48; refine (refOne_any _ _ hcd.1 (by omega)).mono ?_; rintro e w6 ⟨rfl, hb6⟩)
  refine hK.out _ _ (by first | exact hHeld.more hb6 | exact hHeld | exact ⟨_, hK9⟩ | exact below_more hHeld hb6) (fun hHeld1 => ?_)
  clear hHeld; have hHeld := hHeld1; clear hHeld1 hK K
  try simp only [oWrRest8, Act.put, sA, sB, sC]
  refine tkY 8 oWrRest9 ?vw270 rfl (by kernel_rfl) (by kernel_rfl) (by kernel_rfl) (fun _ _ _ h => h) (by rfl) ?hz270 (by assumption) ?rs270
  case hz270 => (intro wz hSw; unfold oWrRest9; (try clear hSw); go_simp; all_goals with_reducible rfl)
  try simp only [oWrRest9, Act.put, sA, sB, sC]
  refine tkY 9 oWrRest10 ?vw271 rfl (by kernel_rfl) (by kernel_rfl) (by kernel_rfl) (fun _ _ _ h => h) (by rfl) ?hz271 (by assumption) ?rs271
  case hz271 => (intro wz hSw; unfold oWrRest10; (try clear hSw); go_simp; all_goals with_reducible rfl)
  try simp only [oWrRest10, Act.put, sA, sB, sC]
  refine wpAnyH_done (by kernel_rfl) ?_ _
  go_wp2_with fail
  go_ret
  exact ⟨by rw [HX.out]; rfl, hHeld.below⟩
set_option maxHeartbeats 4000000 in
theorem refRest_3 (p : Pk) (A : Option Addr) (n c : Nat) (xs : List (List UInt8 × Int)) (hs : Subs w A n xs) (hf : Fit p xs) (ho : Ok p xs) (e : p.ty = 3) :
    Calls Tryz.prog 30 #[.agg (PkC p A n c)] w fun e w' => e = .returned (.string ⟨(bodyL p xs).toArray⟩) ∧ Below w.heap.size w w' := by
  have HX : Hid (bodyL p xs = pubX p) := by show _ = _; unfold bodyL; rw [e]; simp
  have hK0 := (Kp.nil w).new (PkC p A n c) 36
  have hid := hf.id
  have hld := load_le hf.tot
  have t1 : (p.ty == 1) = false := by rw [e]; rfl
  have t2 : (p.ty == 2) = false := by rw [e]; rfl
  have t3 : (p.ty == 3) = true := by rw [e]; rfl
  have t8 : (p.ty == 8) = false := by rw [e]; rfl
  have t9 : (p.ty == 9) = false := by rw [e]; rfl
  have t10 : (p.ty == 10) = false := by rw [e]; rfl
  have t12 : (p.ty == 12) = false := by rw [e]; rfl
  have t13 : (p.ty == 13) = false := by rw [e]; rfl
  have t14 : (p.ty == 14) = false := by rw [e]; rfl
  have hv := nm_val (pub_qos ho e).2
  have l1 := val_len hv
  have hq0 := hf.qos.1
  clear e hs hf ho
  go_enter Tryz.func30, Tryz.ntmps30
  by_cases hq : 0 < p.qos
  · have hg : decide (0 < p.qos) = true := by simpa using hq
    have HP : Hid (pubX p = fieldL p.topic ++ (wordL p.id ++ p.load)) := by show _ = _; unfold pubX; rw [if_pos hq]
    clear hq
    go_wp2_with fail
    refine (refData_any p.topic _ l1).mono ?_
    rintro e w6 ⟨rfl, hb6⟩
    have hK1 := hK0.more hb6
    clear hb6
    clear hK0
    have a1r := hK1.row; have a1f := hK1.free; have a1c := hK1.cell; have a1l := hK1.lt; have a1z := hK1.froz
    obtain ⟨m1, hm1⟩ : ∃ m, fieldL p.topic ++ wordL p.id = m := ⟨_, rfl⟩
    have q1 : m1.length = (fieldL p.topic).length + 2 := by rw [← hm1, List.length_append]; try simp only [fieldL_len, wordL_len, List.length_cons, List.length_nil]
    try simp only [fieldL_len, wordL_len, List.length_cons, List.length_nil] at q1
    have had1 := fun W => add_str (P := Tryz.prog) W (fieldL p.topic) (wordL p.id) (by (try simp only [fieldL_len, wordL_len, List.length_cons, List.length_nil]); omega)
    rw [hm1] at had1
    have HM1 := Lib.hid hm1
    clear hm1
    obtain ⟨m2, hm2⟩ : ∃ m, m1 ++ p.load = m := ⟨_, rfl⟩
    have q2 : m2.length = (m1).length + p.load.length := by rw [← hm2, List.length_append]; try simp only [fieldL_len, wordL_len, List.length_cons, List.length_nil]
    try simp only [fieldL_len, wordL_len, List.length_cons, List.length_nil] at q2
    have had2 := fun W => add_str (P := Tryz.prog) W (m1) (p.load) (by (try simp only [fieldL_len, wordL_len, List.length_cons, List.length_nil]); omega)
    rw [hm2] at had2
    have HM2 := Lib.hid hm2
    clear hm2
    go_wp2_with fail
    refine (refWord_any p.id _ hid.1 hid.2).mono ?_
    rintro e w6 ⟨rfl, hb6⟩
    have hK2 := hK1.more hb6
    clear hb6
    clear a1r a1f a1c a1l a1z
    have a1r := hK2.row; have a1f := hK2.free; have a1c := hK2.cell; have a1l := hK2.lt; have a1z := hK2.froz
    go_wp2_with fail
    go_ret
    exact ⟨by rw [HX.out, HP.out, ← List.append_assoc, HM1.out, HM2.out]; rfl, hK2.below⟩
  · have hg : decide (0 < p.qos) = false := by simpa using hq
    have HP : Hid (pubX p = fieldL p.topic ++ ([] ++ p.load)) := by show _ = _; unfold pubX; rw [if_neg hq]
    clear hq
    go_wp2_with fail
    refine (refData_any p.topic _ l1).mono ?_
    rintro e w6 ⟨rfl, hb6⟩
    have hK1 := hK0.more hb6
    clear hb6
    clear hK0
    have a1r := hK1.row; have a1f := hK1.free; have a1c := hK1.cell; have a1l := hK1.lt; have a1z := hK1.froz
    obtain ⟨m1, hm1⟩ : ∃ m, fieldL p.topic ++ p.load = m := ⟨_, rfl⟩
    have q1 : m1.length = (fieldL p.topic).length + p.load.length := by rw [← hm1, List.length_append]; try simp only [fieldL_len, wordL_len, List.length_cons, List.length_nil]
    try simp only [fieldL_len, wordL_len, List.length_cons, List.length_nil] at q1
    have had1 := fun W => add_str (P := Tryz.prog) W (fieldL p.topic) (p.load) (by (try simp only [fieldL_len, wordL_len, List.length_cons, List.length_nil]); omega)
    rw [hm1] at had1
    have HM1 := Lib.hid hm1
    clear hm1
    go_wp2_with fail
    go_ret
    exact ⟨by rw [HX.out, HP.out, List.nil_append, HM1.out]; rfl, hK1.below⟩
set_option maxHeartbeats 4000000 in
theorem refRest_9 (p : Pk) (A : Option Addr) (n c : Nat) (xs : List (List UInt8 × Int)) (hs : Subs w A n xs) (hf : Fit p xs) (ho : Ok p xs) (e : p.ty = 9) :
    Calls Tryz.prog 30 #[.agg (PkC p A n c)] w fun e w' => e = .returned (.string ⟨(bodyL p xs).toArray⟩) ∧ Below w.heap.size w w' := by
  have HX : Hid (bodyL p xs = wordL p.id ++ p.codes) := by show _ = _; unfold bodyL; rw [e]; simp
  have hK0 := (Kp.nil w).new (PkC p A n c) 36
  have hid := hf.id
  have hld := load_le hf.tot
  have t1 : (p.ty == 1) = false := by rw [e]; rfl
  have t2 : (p.ty == 2) = false := by rw [e]; rfl
  have t3 : (p.ty == 3) = false := by rw [e]; rfl
  have t8 : (p.ty == 8) = false := by rw [e]; rfl
  have t9 : (p.ty == 9) = true := by rw [e]; rfl
  have t10 : (p.ty == 10) = false := by rw [e]; rfl
  have t12 : (p.ty == 12) = false := by rw [e]; rfl
  have t13 : (p.ty == 13) = false := by rw [e]; rfl
  have t14 : (p.ty == 14) = false := by rw [e]; rfl
  have had := fun W => add_str (P := Tryz.prog) W (wordL p.id) p.codes (by simp only [wordL_len]; omega)
  clear e hs hf ho
  go_enter Tryz.func30, Tryz.ntmps30
  go_upto_region 30 with fail
  refine wp_region_held_drew (S := Kp w [(w.heap.size, PkC p A n c, 36)]) (by kernel_rfl) hK0.drew (fun hHeld => ?_)
  clear hK0
  generalize hwd : World.drew _ = wd at hHeld ⊢
  clear hwd
  refine tkY 0 oWrRest11 ?vw272 rfl (by kernel_rfl) (by kernel_rfl) (by kernel_rfl) (fun _ _ _ h => h) (by rfl) ?hz272 (by assumption) ?rs272
  case hz272 => (intro wz hSw; unfold oWrRest11; (try clear hSw); go_simp; all_goals with_reducible rfl)
  try simp only [oWrRest11, Act.put, sA, sB, sC]
  refine tkY 1 oWrRest12 ?vw273 rfl (by kernel_rfl) (by kernel_rfl) (by kernel_rfl) (fun _ _ _ h => h) (by rfl) ?hz273 (by assumption) ?rs273
  case hz273 => (intro wz hSw; unfold oWrRest12; (try have hq1 := hSw.tail.cell); (try have hq2 := hSw.tail.tail.cell); (try have hq3 := hSw.cell); (try have hq4 := hSw.tail.row); (try have hq5 := hSw.tail.tail.row); (try have hq6 := hSw.row); (try have hq7 := hSw.tail.tail.tail.row); (try clear hSw); go_simp; all_goals with_reducible rfl)
  try simp only [oWrRest12, Act.put, sA, sB, sC]
  refine tkY 3 oWrRest13 ?vw274 rfl (by kernel_rfl) (by kernel_rfl) (by kernel_rfl) (fun _ _ _ h => h) (by rfl) ?hz274 (by assumption) ?rs274
  case hz274 => (intro wz hSw; unfold oWrRest13; (try clear hSw); go_simp; all_goals with_reducible rfl)
  try simp only [oWrRest13, Act.put, sA, sB, sC]
  refine tkY 4 oWrRest14 ?vw275 rfl (by kernel_rfl) (by kernel_rfl) (by kernel_rfl) (fun _ _ _ h => h) (by rfl) ?hz275 (by assumption) ?rs275
  case hz275 => (intro wz hSw; unfold oWrRest14; (try have hq1 := hSw.tail.cell); (try have hq2 := hSw.tail.tail.cell); (try have hq3 := hSw.cell); (try have hq4 := hSw.tail.row); (try have hq5 := hSw.tail.tail.row); (try have hq6 := hSw.row); (try have hq7 := hSw.tail.tail.tail.row); (try clear hSw); go_simp; all_goals with_reducible rfl)
  try simp only [oWrRest14, Act.put, sA, sB, sC]
  refine wpAnyH_ready (rs := [2]) (by kernel_rfl) (by simp) ?_
  refine (AllReadyH.cons (o := oWrRest15) rfl (fun K hK => ?_) AllReadyH.nil)
  unfold oWrRest15
  go_simp
  (go_at_call 49; refine (refWord_any p.id _ hid.1 hid.2).mono ?_; rintro e w6 ⟨rfl, hb6⟩)
  refine hK.out _ _ (by first | exact hHeld.more hb6 | exact hHeld | exact ⟨_, hK9⟩ | exact below_more hHeld hb6) (fun hHeld1 => ?_)
  clear hHeld; have hHeld := hHeld1; clear hHeld1 hK K
  try simp only [oWrRest15, Act.put, sA, sB, sC]
  refine tkY 5 oWrRest16 ?vw276 rfl (by kernel_rfl) (by kernel_rfl) (by kernel_rfl) (fun _ _ _ h => h) (by rfl) ?hz276 (by assumption) ?rs276
  case hz276 => (intro wz hSw; unfold oWrRest16; (try clear hSw); go_simp; all_goals with_reducible rfl)
  try simp only [oWrRest16, Act.put, sA, sB, sC]
  refine tkY 6 oWrRest17 ?vw277 rfl (by kernel_rfl) (by kernel_rfl) (by kernel_rfl) (fun _ _ _ h => h) (by rfl) ?hz277 (by assumption) ?rs277
  case hz277 => (intro wz hSw; unfold oWrRest17; (try clear hSw); go_simp; all_goals with_reducible rfl)
  try simp only [oWrRest17, Act.put, sA, sB, sC]
  refine wpAnyH_done (by kernel_rfl) ?_ _
  go_wp2_with fail
  go_ret
  exact ⟨by rw [HX.out]; rfl, hHeld.below⟩
set_option maxHeartbeats 4000000 in
theorem refRest_8 (p : Pk) (A : Option Addr) (n c : Nat) (xs : List (List UInt8 × Int)) (hs : Subs w A n xs) (hf : Fit p xs) (ho : Ok p xs) (e : p.ty = 8) :
    Calls Tryz.prog 30 #[.agg (PkC p A n c)] w fun e w' => e = .returned (.string ⟨(bodyL p xs).toArray⟩) ∧ Below w.heap.size w w' := by
  have HX : Hid (bodyL p xs = wordL p.id ++ subX 8 xs) := by show _ = _; unfold bodyL; rw [e]; simp
  have hK0 := (Kp.nil w).new (PkC p A n c) 36
  have hid := hf.id
  have hld := load_le hf.tot
  have t1 : (p.ty == 1) = false := by rw [e]; rfl
  have t2 : (p.ty == 2) = false := by rw [e]; rfl
  have t3 : (p.ty == 3) = false := by rw [e]; rfl
  have t8 : (p.ty == 8) = true := by rw [e]; rfl
  have t9 : (p.ty == 9) = false := by rw [e]; rfl
  have t10 : (p.ty == 10) = false := by rw [e]; rfl
  have t12 : (p.ty == 12) = false := by rw [e]; rfl
  have t13 : (p.ty == 13) = false := by rw [e]; rfl
  have t14 : (p.ty == 14) = false := by rw [e]; rfl
  have HS := Lib.hid hs
  have hlen := hs.len
  have hnn : n ≤ 1000000 := by have := hf.num; omega
  have HXS : Hid (∀ x ∈ xs, valB x.1 = true ∧ 0 ≤ x.2 ∧ x.2 ≤ 255) := fun x hx => ⟨(sbR_mem (ho.sub e) x hx).1, hf.sub x hx⟩
  have HLE : Hid (∀ k, (subX 8 (xs.take k)).length ≤ 65538 * xs.length) := by
    show ∀ k, _
    intro k
    have h1 := subX_le 8 (xs.take k) (fun x hx' => (HXS.out x (List.mem_of_mem_take hx')).1)
    have h2 : (xs.take k).length ≤ xs.length := by rw [List.length_take]; omega
    omega
  clear e hs hf ho
  go_enter Tryz.func30, Tryz.ntmps30
  go_wp2_with fail
  refine (refWord_any p.id _ hid.1 hid.2).mono ?_
  rintro e w6 ⟨rfl, hb6⟩
  have hK1 := hK0.more hb6
  clear hb6
  clear hK0
  have a1r := hK1.row; have a1f := hK1.free; have a1c := hK1.cell; have a1l := hK1.lt; have a1z := hK1.froz
  go_wp2_with fail
  go_loopw [3, 5] (fun s i wr => ∃ k : Nat, i = .int .i64 k ∧ k ≤ n ∧ s = .string ⟨(wordL p.id ++ subX 8 (xs.take k)).toArray⟩ ∧ Kp w [(w.heap.size, PkC p A n c, 36)] wr) (fun _ i _ => n - (intOf i).toNat)
  case atStart => exact ⟨0, rfl, by omega, by simp [subX], hK1⟩
  case round =>
    clear a1r a1f a1c a1l a1z hK1
    obtain ⟨k, rfl, hk, rfl, hK2⟩ := hrel
    have a1r := hK2.row; have a1f := hK2.free; have a1c := hK2.cell; have a1l := hK2.lt; have a1z := hK2.froz
    have hle := HLE.out k
    by_cases hlt : k < n
    · have hlt2 : (k : Int) < (n : Int) := by omega
      obtain ⟨bx, off, x, rfl, hxk, hx1, hx2⟩ := (HS.out.below hK2.below).two hlt
      have HSN := Lib.hid (subX_snoc 8 xs k x hxk)
      have HXK := Lib.hid hxk
      obtain ⟨hv, q0, q1⟩ := HXS.out x (List.mem_of_getElem? hxk)
      have hvl := val_len hv
      clear hxk hv
      obtain ⟨m0, hm0⟩ : ∃ m, wordL p.id ++ subX 8 (xs.take k) = m := ⟨_, rfl⟩
      have q9 : m0.length ≤ 65538 * xs.length + 2 := by rw [← hm0, List.length_append, wordL_len]; omega
      rw [hm0]
      have HM0 := Lib.hid hm0
      clear hm0
      obtain ⟨m1, hm1⟩ : ∃ m, m0 ++ fieldL x.1 = m := ⟨_, rfl⟩
      have q1 : m1.length = (m0).length + (x.1.length + 2) := by rw [← hm1, List.length_append]; try simp only [fieldL_len, wordL_len, List.length_cons, List.length_nil]
      try simp only [fieldL_len, wordL_len, List.length_cons, List.length_nil] at q1
      have had1 := fun W => add_str (P := Tryz.prog) W (m0) (fieldL x.1) (by (try simp only [fieldL_len, wordL_len, List.length_cons, List.length_nil]); omega)
      rw [hm1] at had1
      have HM1 := Lib.hid hm1
      clear hm1
      obtain ⟨m2, hm2⟩ : ∃ m, m1 ++ [toB x.2] = m := ⟨_, rfl⟩
      have q2 : m2.length = (m1).length + 1 := by rw [← hm2, List.length_append]; try simp only [fieldL_len, wordL_len, List.length_cons, List.length_nil]
      try simp only [fieldL_len, wordL_len, List.length_cons, List.length_nil] at q2
      have had2 := fun W => add_str (P := Tryz.prog) W (m1) ([toB x.2]) (by (try simp only [fieldL_len, wordL_len, List.length_cons, List.length_nil]); omega)
      rw [hm2] at had2
      have HM2 := Lib.hid hm2
      clear hm2
      go_wp2_with fail
      refine (refData_any x.1 _ hvl).mono ?_
      rintro e w6 ⟨rfl, hb6⟩
      have hK3 := hK2.more hb6
      clear hb6
      have HB3 := Lib.hid hK3.below
      clear a1r a1f a1c a1l a1z
      clear hK2
      have a1r := hK3.row; have a1f := hK3.free; have a1c := hK3.cell; have a1l := hK3.lt; have a1z := hK3.froz
      obtain ⟨by', off', x', he', hxk', hy1, hy2⟩ := (HS.out.below hK3.below).two hlt
      cases he'
      obtain rfl : x = x' := by have := HXK.out; rw [this] at hxk'; exact Option.some.inj hxk'
      clear hx1 hx2 hxk'
      have w1 : IntKind.i64.wrap x.2 = x.2 := IntWalk.i64_in _ (by omega)
      go_wp2_with fail
      refine (refOne_any x.2 _ q0 (by omega)).mono ?_
      rintro e w6 ⟨rfl, hb6⟩
      have hK4 := hK3.more hb6
      clear hb6
      clear a1r a1f a1c a1l a1z
      clear hK3
      go_wp2_with fail
      go_roundw
      case rel => exact ⟨k + 1, by go_num, by omega, by rw [HSN.out]; rw [← HM2.out, ← HM1.out, ← HM0.out]; simp, hK4⟩
      case measure => simp [intOf]; omega
    · have hge : ¬ (k : Int) < (n : Int) := by omega
      have hke : xs.take k = xs := List.take_of_length_le (by omega)
      rw [hke]
      clear hke
      go_wp2_with fail
      go_ret
      exact ⟨by rw [HX.out]; rfl, hK2.below⟩
set_option maxHeartbeats 4000000 in
theorem refRest_10 (p : Pk) (A : Option Addr) (n c : Nat) (xs : List (List UInt8 × Int)) (hs : Subs w A n xs) (hf : Fit p xs) (ho : Ok p xs) (e : p.ty = 10) :
    Calls Tryz.prog 30 #[.agg (PkC p A n c)] w fun e w' => e = .returned (.string ⟨(bodyL p xs).toArray⟩) ∧ Below w.heap.size w w' := by
  have HX : Hid (bodyL p xs = wordL p.id ++ subX 10 xs) := by show _ = _; unfold bodyL; rw [e]; simp
  have hK0 := (Kp.nil w).new (PkC p A n c) 36
  have hid := hf.id
  have hld := load_le hf.tot
  have t1 : (p.ty == 1) = false := by rw [e]; rfl
  have t2 : (p.ty == 2) = false := by rw [e]; rfl
  have t3 : (p.ty == 3) = false := by rw [e]; rfl
  have t8 : (p.ty == 8) = false := by rw [e]; rfl
  have t9 : (p.ty == 9) = false := by rw [e]; rfl
  have t10 : (p.ty == 10) = true := by rw [e]; rfl
  have t12 : (p.ty == 12) = false := by rw [e]; rfl
  have t13 : (p.ty == 13) = false := by rw [e]; rfl
  have t14 : (p.ty == 14) = false := by rw [e]; rfl
  have HS := Lib.hid hs
  have hlen := hs.len
  have hnn : n ≤ 1000000 := by have := hf.num; omega
  have HXS : Hid (∀ x ∈ xs, valB x.1 = true ∧ 0 ≤ x.2 ∧ x.2 ≤ 255) := fun x hx => ⟨(sbR_mem (ho.uns e) x hx).1, hf.sub x hx⟩
  have HLE : Hid (∀ k, (subX 10 (xs.take k)).length ≤ 65538 * xs.length) := by
    show ∀ k, _
    intro k
    have h1 := subX_le 10 (xs.take k) (fun x hx' => (HXS.out x (List.mem_of_mem_take hx')).1)
    have h2 : (xs.take k).length ≤ xs.length := by rw [List.length_take]; omega
    omega
  clear e hs hf ho
  go_enter Tryz.func30, Tryz.ntmps30
  go_wp2_with fail
  refine (refWord_any p.id _ hid.1 hid.2).mono ?_
  rintro e w6 ⟨rfl, hb6⟩
  have hK1 := hK0.more hb6
  clear hb6
  clear hK0
  have a1r := hK1.row; have a1f := hK1.free; have a1c := hK1.cell; have a1l := hK1.lt; have a1z := hK1.froz
  go_wp2_with fail
  go_loopw [3, 5] (fun s i wr => ∃ k : Nat, i = .int .i64 k ∧ k ≤ n ∧ s = .string ⟨(wordL p.id ++ subX 10 (xs.take k)).toArray⟩ ∧ Kp w [(w.heap.size, PkC p A n c, 36)] wr) (fun _ i _ => n - (intOf i).toNat)
  case atStart => exact ⟨0, rfl, by omega, by simp [subX], hK1⟩
  case round =>
    clear a1r a1f a1c a1l a1z hK1
    obtain ⟨k, rfl, hk, rfl, hK2⟩ := hrel
    have a1r := hK2.row; have a1f := hK2.free; have a1c := hK2.cell; have a1l := hK2.lt; have a1z := hK2.froz
    have hle := HLE.out k
    by_cases hlt : k < n
    · have hlt2 : (k : Int) < (n : Int) := by omega
      obtain ⟨bx, off, x, rfl, hxk, hx1, hx2⟩ := (HS.out.below hK2.below).two hlt
      have HSN := Lib.hid (subX_snoc 10 xs k x hxk)
      have HXK := Lib.hid hxk
      obtain ⟨hv, q0, q1⟩ := HXS.out x (List.mem_of_getElem? hxk)
      have hvl := val_len hv
      clear hxk hv
      obtain ⟨m0, hm0⟩ : ∃ m, wordL p.id ++ subX 10 (xs.take k) = m := ⟨_, rfl⟩
      have q9 : m0.length ≤ 65538 * xs.length + 2 := by rw [← hm0, List.length_append, wordL_len]; omega
      rw [hm0]
      have HM0 := Lib.hid hm0
      clear hm0
      obtain ⟨m1, hm1⟩ : ∃ m, m0 ++ fieldL x.1 = m := ⟨_, rfl⟩
      have q1 : m1.length = (m0).length + (x.1.length + 2) := by rw [← hm1, List.length_append]; try simp only [fieldL_len, wordL_len, List.length_cons, List.length_nil]
      try simp only [fieldL_len, wordL_len, List.length_cons, List.length_nil] at q1
      have had1 := fun W => add_str (P := Tryz.prog) W (m0) (fieldL x.1) (by (try simp only [fieldL_len, wordL_len, List.length_cons, List.length_nil]); omega)
      rw [hm1] at had1
      have HM1 := Lib.hid hm1
      clear hm1
      go_wp2_with fail
      refine (refData_any x.1 _ hvl).mono ?_
      rintro e w6 ⟨rfl, hb6⟩
      have hK3 := hK2.more hb6
      clear hb6
      have HB3 := Lib.hid hK3.below
      clear a1r a1f a1c a1l a1z
      clear hK2
      have a1r := hK3.row; have a1f := hK3.free; have a1c := hK3.cell; have a1l := hK3.lt; have a1z := hK3.froz
      go_wp2_with fail
      go_roundw
      case rel => exact ⟨k + 1, by go_num, by omega, by rw [HSN.out]; rw [← HM1.out, ← HM0.out]; simp, hK3⟩
      case measure => simp [intOf]; omega
    · have hge : ¬ (k : Int) < (n : Int) := by omega
      have hke : xs.take k = xs := List.take_of_length_le (by omega)
      rw [hke]
      clear hke
      go_wp2_with fail
      go_ret
      exact ⟨by rw [HX.out]; rfl, hK2.below⟩
set_option maxHeartbeats 4000000 in
theorem refRest_1 (p : Pk) (A : Option Addr) (n c : Nat) (xs : List (List UInt8 × Int)) (hs : Subs w A n xs) (hf : Fit p xs) (ho : Ok p xs) (e : p.ty = 1) :
    Calls Tryz.prog 30 #[.agg (PkC p A n c)] w fun e w' => e = .returned (.string ⟨(bodyL p xs).toArray⟩) ∧ Below w.heap.size w w' := by
  have HX : Hid (bodyL p xs = conX p) := by show _ = _; unfold bodyL; rw [e]; simp
  have hK0 := (Kp.nil w).new (PkC p A n c) 36
  have hid := hf.id
  have hld := load_le hf.tot
  have t1 : (p.ty == 1) = true := by rw [e]; rfl
  have t2 : (p.ty == 2) = false := by rw [e]; rfl
  have t3 : (p.ty == 3) = false := by rw [e]; rfl
  have t8 : (p.ty == 8) = false := by rw [e]; rfl
  have t9 : (p.ty == 9) = false := by rw [e]; rfl
  have t10 : (p.ty == 10) = false := by rw [e]; rfl
  have t12 : (p.ty == 12) = false := by rw [e]; rfl
  have t13 : (p.ty == 13) = false := by rw [e]; rfl
  have t14 : (p.ty == 14) = false := by rw [e]; rfl
  have HC := Lib.hid (con_of (ho.con e))
  have hq0 := hf.wq.1
  have hq2 := HC.out.wq hq0
  have l1 := val_len HC.out.client
  have hkp := hf.keep
  have hcb := cfl_bd hq0 hq2
  have b1 := yes_bd p.hasUser 128 (by omega)
  have b2 := yes_bd p.hasPass 64 (by omega)
  have b3 := yes_bd p.wr 32 (by omega)
  have b4 := yes_bd p.hasWill 4 (by omega)
  have b5 := yes_bd p.clean 2 (by omega)
  have w0 : IntKind.i64.wrap p.wq = p.wq := IntWalk.i64_in _ (by omega)
  have w1 : IntKind.i64.wrap (8 * p.wq) = 8 * p.wq := IntWalk.i64_in _ (by omega)
  have w2 : IntKind.i64.wrap (yesI p.hasUser 128 + yesI p.hasPass 64) = yesI p.hasUser 128 + yesI p.hasPass 64 := IntWalk.i64_in _ (by omega)
  have w3 : IntKind.i64.wrap (yesI p.hasUser 128 + yesI p.hasPass 64 + yesI p.wr 32) = yesI p.hasUser 128 + yesI p.hasPass 64 + yesI p.wr 32 := IntWalk.i64_in _ (by omega)
  have w4 : IntKind.i64.wrap (yesI p.hasUser 128 + yesI p.hasPass 64 + yesI p.wr 32 + 8 * p.wq) = yesI p.hasUser 128 + yesI p.hasPass 64 + yesI p.wr 32 + 8 * p.wq := IntWalk.i64_in _ (by omega)
  have w5 : IntKind.i64.wrap (yesI p.hasUser 128 + yesI p.hasPass 64 + yesI p.wr 32 + 8 * p.wq + yesI p.hasWill 4) = yesI p.hasUser 128 + yesI p.hasPass 64 + yesI p.wr 32 + 8 * p.wq + yesI p.hasWill 4 := IntWalk.i64_in _ (by omega)
  obtain ⟨cf, hcf⟩ : ∃ cf, cflN p = cf := ⟨_, rfl⟩
  have w6 : IntKind.i64.wrap (yesI p.hasUser 128 + yesI p.hasPass 64 + yesI p.wr 32 + 8 * p.wq + yesI p.hasWill 4 + yesI p.clean 2) = cf := by rw [← hcf, IntWalk.i64_in _ (by omega)]; unfold cflN; omega
  rw [hcf] at hcb
  have HCF := Lib.hid hcf
  clear hcf b1 b2 b3 b4 b5
  obtain ⟨m1, hm1⟩ : ∃ m, fieldL [77, 81, 84, 84] ++ [toB 4] = m := ⟨_, rfl⟩
  have q1 : m1.length = (fieldL [77, 81, 84, 84]).length + 1 := by rw [← hm1, List.length_append]; try simp only [fieldL_len, wordL_len, List.length_cons, List.length_nil]
  try simp only [fieldL_len, wordL_len, List.length_cons, List.length_nil] at q1
  have had1 := fun W => add_str (P := Tryz.prog) W (fieldL [77, 81, 84, 84]) ([toB 4]) (by (try simp only [fieldL_len, wordL_len, List.length_cons, List.length_nil]); omega)
  rw [hm1] at had1
  have HM1 := Lib.hid hm1
  clear hm1
  obtain ⟨m2, hm2⟩ : ∃ m, m1 ++ [toB cf] = m := ⟨_, rfl⟩
  have q2 : m2.length = (m1).length + 1 := by rw [← hm2, List.length_append]; try simp only [fieldL_len, wordL_len, List.length_cons, List.length_nil]
  try simp only [fieldL_len, wordL_len, List.length_cons, List.length_nil] at q2
  have had2 := fun W => add_str (P := Tryz.prog) W (m1) ([toB cf]) (by (try simp only [fieldL_len, wordL_len, List.length_cons, List.length_nil]); omega)
  rw [hm2] at had2
  have HM2 := Lib.hid hm2
  clear hm2
  obtain ⟨m3, hm3⟩ : ∃ m, m2 ++ wordL p.keep = m := ⟨_, rfl⟩
  have q3 : m3.length = (m2).length + 2 := by rw [← hm3, List.length_append]; try simp only [fieldL_len, wordL_len, List.length_cons, List.length_nil]
  try simp only [fieldL_len, wordL_len, List.length_cons, List.length_nil] at q3
  have had3 := fun W => add_str (P := Tryz.prog) W (m2) (wordL p.keep) (by (try simp only [fieldL_len, wordL_len, List.length_cons, List.length_nil]); omega)
  rw [hm3] at had3
  have HM3 := Lib.hid hm3
  clear hm3
  obtain ⟨m4, hm4⟩ : ∃ m, m3 ++ fieldL p.client = m := ⟨_, rfl⟩
  have q4 : m4.length = (m3).length + (p.client.length + 2) := by rw [← hm4, List.length_append]; try simp only [fieldL_len, wordL_len, List.length_cons, List.length_nil]
  try simp only [fieldL_len, wordL_len, List.length_cons, List.length_nil] at q4
  have had4 := fun W => add_str (P := Tryz.prog) W (m3) (fieldL p.client) (by (try simp only [fieldL_len, wordL_len, List.length_cons, List.length_nil]); omega)
  rw [hm4] at had4
  have HM4 := Lib.hid hm4
  clear hm4
  clear e hs hf ho
  go_enter Tryz.func30, Tryz.ntmps30
  go_upto_region 5 with fail
  go_quiet ((go_at_call 36; first | exact quiet_left (refYes_any _ _ _) | exact quiet_more (refYes_any _ _ _)))
  go_wp2_with fail
  have hKd := hK0.more (below_drewN (Below.refl _ _) nq)
  generalize hwd : World.drewN _ _ = wd at hKd ⊢
  clear hwd hK0 w0 w1 w2 w3 w4 w5 w6
  go_cut [3] (fun s3 wx => s3 = .string ⟨m4.toArray⟩ ∧ Kp w [(w.heap.size, PkC p A n c, 36)] wx)
  case first =>
    refine wp_region_held_drew (S := Kp w [(w.heap.size, PkC p A n c, 36)]) (by kernel_rfl) hKd.drew (fun hHeld => ?_)
    clear hKd
    generalize hwd : World.drew _ = we at hHeld ⊢
    clear hwd
    refine tkY 3 oWrRest18 ?vw278 rfl (by kernel_rfl) (by kernel_rfl) (by kernel_rfl) (fun _ _ _ h => h) (by rfl) ?hz278 (by assumption) ?rs278
    case hz278 => (intro wz hSw; unfold oWrRest18; (try clear hSw); go_simp; all_goals with_reducible rfl)
    try simp only [oWrRest18, Act.put, sA, sB, sC]
    refine tkY 6 oWrRest19 ?vw279 rfl (by kernel_rfl) (by kernel_rfl) (by kernel_rfl) (fun _ _ _ h => h) (by rfl) ?hz279 (by assumption) ?rs279
    case hz279 => (intro wz hSw; unfold oWrRest19; (try clear hSw); go_simp; all_goals with_reducible rfl)
    try simp only [oWrRest19, Act.put, sA, sB, sC]
    refine tkY 7 oWrRest20 ?vw280 rfl (by kernel_rfl) (by kernel_rfl) (by kernel_rfl) (fun _ _ _ h => h) (by rfl) ?hz280 (by assumption) ?rs280
    case hz280 => (intro wz hSw; unfold oWrRest20; (try have hq1 := hSw.tail.cell); (try have hq2 := hSw.tail.tail.cell); (try have hq3 := hSw.cell); (try have hq4 := hSw.tail.row); (try have hq5 := hSw.tail.tail.row); (try have hq6 := hSw.row); (try have hq7 := hSw.tail.tail.tail.row); (try clear hSw); go_simp; all_goals with_reducible rfl)
    try simp only [oWrRest20, Act.put, sA, sB, sC]
    refine tkY 10 oWrRest21 ?vw281 rfl (by kernel_rfl) (by kernel_rfl) (by kernel_rfl) (fun _ _ _ h => h) (by rfl) ?hz281 (by assumption) ?rs281
    case hz281 => (intro wz hSw; unfold oWrRest21; (try clear hSw); go_simp; all_goals with_reducible rfl)
    try simp only [oWrRest21, Act.put, sA, sB, sC]
    refine tkY 11 oWrRest22 ?vw282 rfl (by kernel_rfl) (by kernel_rfl) (by kernel_rfl) (fun _ _ _ h => h) (by rfl) ?hz282 (by assumption) ?rs282
    case hz282 => (intro wz hSw; unfold oWrRest22; (try have hq1 := hSw.tail.cell); (try have hq2 := hSw.tail.tail.cell); (try have hq3 := hSw.cell); (try have hq4 := hSw.tail.row); (try have hq5 := hSw.tail.tail.row); (try have hq6 := hSw.row); (try have hq7 := hSw.tail.tail.tail.row); (try clear hSw); go_simp; all_goals with_reducible rfl)
    try simp only [oWrRest22, Act.put, sA, sB, sC]
    refine wpAnyH_ready (rs := [0]) (by kernel_rfl) (by simp) ?_
    refine (AllReadyH.cons (o := oWrRest23) rfl (fun K hK => ?_) AllReadyH.nil)
    unfold oWrRest23
    go_simp
    (go_at_call 47; refine (refData_any [77, 81, 84, 84] _ (by simp)).mono ?_; rintro e w6 ⟨rfl, hb6⟩)
    refine hK.out _ _ (by first | exact hHeld.more hb6 | exact hHeld | exact ⟨_, hK9⟩ | exact below_more hHeld hb6) (fun hHeld1 => ?_)
    clear hHeld; have hHeld := hHeld1; clear hHeld1 hK K
    try simp only [oWrRest23, Act.put, sA, sB, sC]
    refine wpAnyH_ready (rs := [1]) (by kernel_rfl) (by simp) ?_
    refine (AllReadyH.cons (o := oWrRest24) rfl (fun K hK => ?_) AllReadyH.nil)
    unfold oWrRest24
    go_simp
    (go_at_call 48; refine (refOne_any 4 _ (by omega) (by omega)).mono ?_; rintro e w6 ⟨rfl, hb6⟩)
    refine hK.out _ _ (by first | exact hHeld.more hb6 | exact hHeld | exact ⟨_, hK9⟩ | exact below_more hHeld hb6) (fun hHeld1 => ?_)
    clear hHeld; have hHeld := hHeld1; clear hHeld1 hK K
    try simp only [oWrRest24, Act.put, sA, sB, sC]
    refine tkY 2 oWrRest25 ?vw283 rfl (by kernel_rfl) (by kernel_rfl) (by kernel_rfl) (fun _ _ _ h => h) (by rfl) ?hz283 (by assumption) ?rs283
    case hz283 => (intro wz hSw; unfold oWrRest25; (try clear hSw); go_simp; all_goals with_reducible rfl)
    try simp only [oWrRest25, Act.put, sA, sB, sC]
    refine wpAnyH_ready (rs := [4]) (by kernel_rfl) (by simp) ?_
    refine (AllReadyH.cons (o := oWrRest26) rfl (fun K hK => ?_) AllReadyH.nil)
    unfold oWrRest26
    go_simp
    (go_at_call 48; refine (refOne_any cf _ hcb.1 hcb.2).mono ?_; rintro e w6 ⟨rfl, hb6⟩)
    refine hK.out _ _ (by first | exact hHeld.more hb6 | exact hHeld | exact ⟨_, hK9⟩ | exact below_more hHeld hb6) (fun hHeld1 => ?_)
    clear hHeld; have hHeld := hHeld1; clear hHeld1 hK K
    try simp only [oWrRest26, Act.put, sA, sB, sC]
    refine tkY 5 oWrRest27 ?vw284 rfl (by kernel_rfl) (by kernel_rfl) (by kernel_rfl) (fun _ _ _ h => h) (by rfl) ?hz284 (by assumption) ?rs284
    case hz284 => (intro wz hSw; unfold oWrRest27; (try clear hSw); go_simp; all_goals with_reducible rfl)
    try simp only [oWrRest27, Act.put, sA, sB, sC]
    refine wpAnyH_ready (rs := [8]) (by kernel_rfl) (by simp) ?_
    refine (AllReadyH.cons (o := oWrRest28) rfl (fun K hK => ?_) AllReadyH.nil)
    unfold oWrRest28
    go_simp
    (go_at_call 49; refine (refWord_any p.keep _ hkp.1 hkp.2).mono ?_; rintro e w6 ⟨rfl, hb6⟩)
    refine hK.out _ _ (by first | exact hHeld.more hb6 | exact hHeld | exact ⟨_, hK9⟩ | exact below_more hHeld hb6) (fun hHeld1 => ?_)
    clear hHeld; have hHeld := hHeld1; clear hHeld1 hK K
    try simp only [oWrRest28, Act.put, sA, sB, sC]
    refine tkY 9 oWrRest29 ?vw285 rfl (by kernel_rfl) (by kernel_rfl) (by kernel_rfl) (fun _ _ _ h => h) (by rfl) ?hz285 (by assumption) ?rs285
    case hz285 => (intro wz hSw; unfold oWrRest29; (try clear hSw); go_simp; all_goals with_reducible rfl)
    try simp only [oWrRest29, Act.put, sA, sB, sC]
    refine wpAnyH_ready (rs := [12]) (by kernel_rfl) (by simp) ?_
    refine (AllReadyH.cons (o := oWrRest30) rfl (fun K hK => ?_) AllReadyH.nil)
    unfold oWrRest30
    go_simp
    (go_at_call 47; refine (refData_any p.client _ l1).mono ?_; rintro e w6 ⟨rfl, hb6⟩)
    refine hK.out _ _ (by first | exact hHeld.more hb6 | exact hHeld | exact ⟨_, hK9⟩ | exact below_more hHeld hb6) (fun hHeld1 => ?_)
    clear hHeld; have hHeld := hHeld1; clear hHeld1 hK K
    try simp only [oWrRest30, Act.put, sA, sB, sC]
    refine tkY 13 oWrRest31 ?vw286 rfl (by kernel_rfl) (by kernel_rfl) (by kernel_rfl) (fun _ _ _ h => h) (by rfl) ?hz286 (by assumption) ?rs286
    case hz286 => (intro wz hSw; unfold oWrRest31; (try clear hSw); go_simp; all_goals with_reducible rfl)
    try simp only [oWrRest31, Act.put, sA, sB, sC]
    refine tkY 14 oWrRest32 ?vw287 rfl (by kernel_rfl) (by kernel_rfl) (by kernel_rfl) (fun _ _ _ h => h) (by rfl) ?hz287 (by assumption) ?rs287
    case hz287 => (intro wz hSw; unfold oWrRest32; (try clear hSw); go_simp; all_goals with_reducible rfl)
    try simp only [oWrRest32, Act.put, sA, sB, sC]
    refine wpAnyH_done (by kernel_rfl) ?_ _
    go_wp2_with fail
    go_meet
    case rel => exact ⟨rfl, hHeld⟩
  obtain ⟨rfl, hHeld⟩ := hcut
  clear hKd
  clear had1 had2 had3 had4
  have a1r := hHeld.row; have a1f := hHeld.free; have a1c := hHeld.cell; have a1l := hHeld.lt; have a1z := hHeld.froz
  cases hW : p.hasWill <;> cases hU : p.hasUser <;> cases hP : p.hasPass
  · have HE : Hid (conX p = fieldL [77, 81, 84, 84] ++ ([4] ++ ([toB cf] ++ (wordL p.keep ++ (fieldL p.client ++ ([] ++ ([] ++ []))))))) := by show _ = _; unfold conX willL userL passL; rw [HCF.out, hW, hU, hP]; simp
    go_wp2_with fail
    go_ret
    exact ⟨by rw [HX.out, HE.out, ← HM4.out, ← HM3.out, ← HM2.out, ← HM1.out]; simp [toB], hHeld.below⟩
  · have HE : Hid (conX p = fieldL [77, 81, 84, 84] ++ ([4] ++ ([toB cf] ++ (wordL p.keep ++ (fieldL p.client ++ ([] ++ ([] ++ fieldL p.pass))))))) := by show _ = _; unfold conX willL userL passL; rw [HCF.out, hW, hU, hP]; simp
    have l5 := HC.out.pass hP
    obtain ⟨m5, hm5⟩ : ∃ m, m4 ++ fieldL p.pass = m := ⟨_, rfl⟩
    have q5 : m5.length = (m4).length + (p.pass.length + 2) := by rw [← hm5, List.length_append]; try simp only [fieldL_len, wordL_len, List.length_cons, List.length_nil]
    try simp only [fieldL_len, wordL_len, List.length_cons, List.length_nil] at q5
    have had5 := fun W => add_str (P := Tryz.prog) W (m4) (fieldL p.pass) (by (try simp only [fieldL_len, wordL_len, List.length_cons, List.length_nil]); omega)
    rw [hm5] at had5
    have HM5 := Lib.hid hm5
    clear hm5
    go_wp2_with fail
    refine (refData_any p.pass _ l5).mono ?_
    rintro e w6 ⟨rfl, hb6⟩
    have hP1 := hHeld.more hb6
    clear hb6
    clear a1r a1f a1c a1l a1z
    have a1r := hP1.row; have a1f := hP1.free; have a1c := hP1.cell; have a1l := hP1.lt; have a1z := hP1.froz
    go_wp2_with fail
    go_ret
    exact ⟨by rw [HX.out, HE.out, ← HM5.out, ← HM4.out, ← HM3.out, ← HM2.out, ← HM1.out]; simp [toB], hP1.below⟩
  · have HE : Hid (conX p = fieldL [77, 81, 84, 84] ++ ([4] ++ ([toB cf] ++ (wordL p.keep ++ (fieldL p.client ++ ([] ++ (fieldL p.user ++ []))))))) := by show _ = _; unfold conX willL userL passL; rw [HCF.out, hW, hU, hP]; simp
    have l4 := val_len (HC.out.user hU)
    obtain ⟨m5, hm5⟩ : ∃ m, m4 ++ fieldL p.user = m := ⟨_, rfl⟩
    have q5 : m5.length = (m4).length + (p.user.length + 2) := by rw [← hm5, List.length_append]; try simp only [fieldL_len, wordL_len, List.length_cons, List.length_nil]
    try simp only [fieldL_len, wordL_len, List.length_cons, List.length_nil] at q5
    have had5 := fun W => add_str (P := Tryz.prog) W (m4) (fieldL p.user) (by (try simp only [fieldL_len, wordL_len, List.length_cons, List.length_nil]); omega)
    rw [hm5] at had5
    have HM5 := Lib.hid hm5
    clear hm5
    go_wp2_with fail
    refine (refData_any p.user _ l4).mono ?_
    rintro e w6 ⟨rfl, hb6⟩
    have hU1 := hHeld.more hb6
    clear hb6
    clear a1r a1f a1c a1l a1z
    have a1r := hU1.row; have a1f := hU1.free; have a1c := hU1.cell; have a1l := hU1.lt; have a1z := hU1.froz
    go_wp2_with fail
    go_ret
    exact ⟨by rw [HX.out, HE.out, ← HM5.out, ← HM4.out, ← HM3.out, ← HM2.out, ← HM1.out]; simp [toB], hU1.below⟩
  · have HE : Hid (conX p = fieldL [77, 81, 84, 84] ++ ([4] ++ ([toB cf] ++ (wordL p.keep ++ (fieldL p.client ++ ([] ++ (fieldL p.user ++ fieldL p.pass))))))) := by show _ = _; unfold conX willL userL passL; rw [HCF.out, hW, hU, hP]; simp
    have l4 := val_len (HC.out.user hU)
    have l5 := HC.out.pass hP
    obtain ⟨m5, hm5⟩ : ∃ m, m4 ++ fieldL p.user = m := ⟨_, rfl⟩
    have q5 : m5.length = (m4).length + (p.user.length + 2) := by rw [← hm5, List.length_append]; try simp only [fieldL_len, wordL_len, List.length_cons, List.length_nil]
    try simp only [fieldL_len, wordL_len, List.length_cons, List.length_nil] at q5
    have had5 := fun W => add_str (P := Tryz.prog) W (m4) (fieldL p.user) (by (try simp only [fieldL_len, wordL_len, List.length_cons, List.length_nil]); omega)
    rw [hm5] at had5
    have HM5 := Lib.hid hm5
    clear hm5
    go_wp2_with fail
    refine (refData_any p.user _ l4).mono ?_
    rintro e w6 ⟨rfl, hb6⟩
    have hU1 := hHeld.more hb6
    clear hb6
    clear a1r a1f a1c a1l a1z
    have a1r := hU1.row; have a1f := hU1.free; have a1c := hU1.cell; have a1l := hU1.lt; have a1z := hU1.froz
    obtain ⟨m6, hm6⟩ : ∃ m, m5 ++ fieldL p.pass = m := ⟨_, rfl⟩
    have q6 : m6.length = (m5).length + (p.pass.length + 2) := by rw [← hm6, List.length_append]; try simp only [fieldL_len, wordL_len, List.length_cons, List.length_nil]
    try simp only [fieldL_len, wordL_len, List.length_cons, List.length_nil] at q6
    have had6 := fun W => add_str (P := Tryz.prog) W (m5) (fieldL p.pass) (by (try simp only [fieldL_len, wordL_len, List.length_cons, List.length_nil]); omega)
    rw [hm6] at had6
    have HM6 := Lib.hid hm6
    clear hm6
    go_wp2_with fail
    refine (refData_any p.pass _ l5).mono ?_
    rintro e w6 ⟨rfl, hb6⟩
    have hP1 := hU1.more hb6
    clear hb6
    clear a1r a1f a1c a1l a1z
    have a1r := hP1.row; have a1f := hP1.free; have a1c := hP1.cell; have a1l := hP1.lt; have a1z := hP1.froz
    go_wp2_with fail
    go_ret
    exact ⟨by rw [HX.out, HE.out, ← HM6.out, ← HM5.out, ← HM4.out, ← HM3.out, ← HM2.out, ← HM1.out]; simp [toB], hP1.below⟩
  · have HE : Hid (conX p = fieldL [77, 81, 84, 84] ++ ([4] ++ ([toB cf] ++ (wordL p.keep ++ (fieldL p.client ++ ((fieldL p.wt ++ fieldL p.wl) ++ ([] ++ []))))))) := by show _ = _; unfold conX willL userL passL; rw [HCF.out, hW, hU, hP]; simp
    have l2 := val_len (HC.out.wt hW)
    have l3 := HC.out.wl hW
    obtain ⟨m5, hm5⟩ : ∃ m, m4 ++ fieldL p.wt = m := ⟨_, rfl⟩
    have q5 : m5.length = (m4).length + (p.wt.length + 2) := by rw [← hm5, List.length_append]; try simp only [fieldL_len, wordL_len, List.length_cons, List.length_nil]
    try simp only [fieldL_len, wordL_len, List.length_cons, List.length_nil] at q5
    have had5 := fun W => add_str (P := Tryz.prog) W (m4) (fieldL p.wt) (by (try simp only [fieldL_len, wordL_len, List.length_cons, List.length_nil]); omega)
    rw [hm5] at had5
    have HM5 := Lib.hid hm5
    clear hm5
    obtain ⟨m6, hm6⟩ : ∃ m, m5 ++ fieldL p.wl = m := ⟨_, rfl⟩
    have q6 : m6.length = (m5).length + (p.wl.length + 2) := by rw [← hm6, List.length_append]; try simp only [fieldL_len, wordL_len, List.length_cons, List.length_nil]
    try simp only [fieldL_len, wordL_len, List.length_cons, List.length_nil] at q6
    have had6 := fun W => add_str (P := Tryz.prog) W (m5) (fieldL p.wl) (by (try simp only [fieldL_len, wordL_len, List.length_cons, List.length_nil]); omega)
    rw [hm6] at had6
    have HM6 := Lib.hid hm6
    clear hm6
    go_upto_region 8 with fail
    refine wp_region_held_drew (S := Kp w [(w.heap.size, PkC p A n c, 36)]) (by kernel_rfl) hHeld.drew (fun hHeld => ?_)
    clear a1r a1f a1c a1l a1z
    generalize hwd : World.drew _ = we at hHeld ⊢
    clear hwd
    refine tkY 0 oWrRest33 ?vw288 rfl (by kernel_rfl) (by kernel_rfl) (by kernel_rfl) (fun _ _ _ h => h) (by rfl) ?hz288 (by assumption) ?rs288
    case hz288 => (intro wz hSw; unfold oWrRest33; (try clear hSw); go_simp; all_goals with_reducible rfl)
    try simp only [oWrRest33, Act.put, sA, sB, sC]
    refine tkY 1 oWrRest34 ?vw289 rfl (by kernel_rfl) (by kernel_rfl) (by kernel_rfl) (fun _ _ _ h => h) (by rfl) ?hz289 (by assumption) ?rs289
    case hz289 => (intro wz hSw; unfold oWrRest34; (try clear hSw); go_simp; all_goals with_reducible rfl)
    try simp only [oWrRest34, Act.put, sA, sB, sC]
    refine tkY 2 oWrRest35 ?vw290 rfl (by kernel_rfl) (by kernel_rfl) (by kernel_rfl) (fun _ _ _ h => h) (by rfl) ?hz290 (by assumption) ?rs290
    case hz290 => (intro wz hSw; unfold oWrRest35; (try clear hSw); go_simp; all_goals with_reducible rfl)
    try simp only [oWrRest35, Act.put, sA, sB, sC]
    refine tkY 3 oWrRest36 ?vw291 rfl (by kernel_rfl) (by kernel_rfl) (by kernel_rfl) (fun _ _ _ h => h) (by rfl) ?hz291 (by assumption) ?rs291
    case hz291 => (intro wz hSw; unfold oWrRest36; (try have hq1 := hSw.tail.cell); (try have hq2 := hSw.tail.tail.cell); (try have hq3 := hSw.cell); (try have hq4 := hSw.tail.row); (try have hq5 := hSw.tail.tail.row); (try have hq6 := hSw.row); (try have hq7 := hSw.tail.tail.tail.row); (try clear hSw); go_simp; all_goals with_reducible rfl)
    try simp only [oWrRest36, Act.put, sA, sB, sC]
    refine tkY 6 oWrRest37 ?vw292 rfl (by kernel_rfl) (by kernel_rfl) (by kernel_rfl) (fun _ _ _ h => h) (by rfl) ?hz292 (by assumption) ?rs292
    case hz292 => (intro wz hSw; unfold oWrRest37; (try clear hSw); go_simp; all_goals with_reducible rfl)
    try simp only [oWrRest37, Act.put, sA, sB, sC]
    refine tkY 7 oWrRest38 ?vw293 rfl (by kernel_rfl) (by kernel_rfl) (by kernel_rfl) (fun _ _ _ h => h) (by rfl) ?hz293 (by assumption) ?rs293
    case hz293 => (intro wz hSw; unfold oWrRest38; (try clear hSw); go_simp; all_goals with_reducible rfl)
    try simp only [oWrRest38, Act.put, sA, sB, sC]
    refine tkY 8 oWrRest39 ?vw294 rfl (by kernel_rfl) (by kernel_rfl) (by kernel_rfl) (fun _ _ _ h => h) (by rfl) ?hz294 (by assumption) ?rs294
    case hz294 => (intro wz hSw; unfold oWrRest39; (try have hq1 := hSw.tail.cell); (try have hq2 := hSw.tail.tail.cell); (try have hq3 := hSw.cell); (try have hq4 := hSw.tail.row); (try have hq5 := hSw.tail.tail.row); (try have hq6 := hSw.row); (try have hq7 := hSw.tail.tail.tail.row); (try clear hSw); go_simp; all_goals with_reducible rfl)
    try simp only [oWrRest39, Act.put, sA, sB, sC]
    refine wpAnyH_ready (rs := [4]) (by kernel_rfl) (by simp) ?_
    refine (AllReadyH.cons (o := oWrRest40) rfl (fun K hK => ?_) AllReadyH.nil)
    unfold oWrRest40
    go_simp
    (go_at_call 47; refine (refData_any p.wt _ l2).mono ?_; rintro e w6 ⟨rfl, hb6⟩)
    refine hK.out _ _ (by first | exact hHeld.more hb6 | exact hHeld | exact ⟨_, hK9⟩ | exact below_more hHeld hb6) (fun hHeld1 => ?_)
    clear hHeld; have hHeld := hHeld1; clear hHeld1 hK K
    try simp only [oWrRest40, Act.put, sA, sB, sC]
    refine tkY 5 oWrRest41 ?vw295 rfl (by kernel_rfl) (by kernel_rfl) (by kernel_rfl) (fun _ _ _ h => h) (by rfl) ?hz295 (by assumption) ?rs295
    case hz295 => (intro wz hSw; unfold oWrRest41; (try clear hSw); go_simp; all_goals with_reducible rfl)
    try simp only [oWrRest41, Act.put, sA, sB, sC]
    refine wpAnyH_ready (rs := [9]) (by kernel_rfl) (by simp) ?_
    refine (AllReadyH.cons (o := oWrRest42) rfl (fun K hK => ?_) AllReadyH.nil)
    unfold oWrRest42
    go_simp
    (go_at_call 47; refine (refData_any p.wl _ l3).mono ?_; rintro e w6 ⟨rfl, hb6⟩)
    refine hK.out _ _ (by first | exact hHeld.more hb6 | exact hHeld | exact ⟨_, hK9⟩ | exact below_more hHeld hb6) (fun hHeld1 => ?_)
    clear hHeld; have hHeld := hHeld1; clear hHeld1 hK K
    try simp only [oWrRest42, Act.put, sA, sB, sC]
    refine tkY 10 oWrRest43 ?vw296 rfl (by kernel_rfl) (by kernel_rfl) (by kernel_rfl) (fun _ _ _ h => h) (by rfl) ?hz296 (by assumption) ?rs296
    case hz296 => (intro wz hSw; unfold oWrRest43; (try clear hSw); go_simp; all_goals with_reducible rfl)
    try simp only [oWrRest43, Act.put, sA, sB, sC]
    refine tkY 11 oWrRest44 ?vw297 rfl (by kernel_rfl) (by kernel_rfl) (by kernel_rfl) (fun _ _ _ h => h) (by rfl) ?hz297 (by assumption) ?rs297
    case hz297 => (intro wz hSw; unfold oWrRest44; (try clear hSw); go_simp; all_goals with_reducible rfl)
    try simp only [oWrRest44, Act.put, sA, sB, sC]
    refine wpAnyH_done (by kernel_rfl) ?_ _
    have a1r := hHeld.row; have a1f := hHeld.free; have a1c := hHeld.cell; have a1l := hHeld.lt; have a1z := hHeld.froz
    go_wp2_with fail
    go_ret
    exact ⟨by rw [HX.out, HE.out, ← HM6.out, ← HM5.out, ← HM4.out, ← HM3.out, ← HM2.out, ← HM1.out]; simp [toB], hHeld.below⟩
  · have HE : Hid (conX p = fieldL [77, 81, 84, 84] ++ ([4] ++ ([toB cf] ++ (wordL p.keep ++ (fieldL p.client ++ ((fieldL p.wt ++ fieldL p.wl) ++ ([] ++ fieldL p.pass))))))) := by show _ = _; unfold conX willL userL passL; rw [HCF.out, hW, hU, hP]; simp
    have l2 := val_len (HC.out.wt hW)
    have l3 := HC.out.wl hW
    have l5 := HC.out.pass hP
    obtain ⟨m5, hm5⟩ : ∃ m, m4 ++ fieldL p.wt = m := ⟨_, rfl⟩
    have q5 : m5.length = (m4).length + (p.wt.length + 2) := by rw [← hm5, List.length_append]; try simp only [fieldL_len, wordL_len, List.length_cons, List.length_nil]
    try simp only [fieldL_len, wordL_len, List.length_cons, List.length_nil] at q5
    have had5 := fun W => add_str (P := Tryz.prog) W (m4) (fieldL p.wt) (by (try simp only [fieldL_len, wordL_len, List.length_cons, List.length_nil]); omega)
    rw [hm5] at had5
    have HM5 := Lib.hid hm5
    clear hm5
    obtain ⟨m6, hm6⟩ : ∃ m, m5 ++ fieldL p.wl = m := ⟨_, rfl⟩
    have q6 : m6.length = (m5).length + (p.wl.length + 2) := by rw [← hm6, List.length_append]; try simp only [fieldL_len, wordL_len, List.length_cons, List.length_nil]
    try simp only [fieldL_len, wordL_len, List.length_cons, List.length_nil] at q6
    have had6 := fun W => add_str (P := Tryz.prog) W (m5) (fieldL p.wl) (by (try simp only [fieldL_len, wordL_len, List.length_cons, List.length_nil]); omega)
    rw [hm6] at had6
    have HM6 := Lib.hid hm6
    clear hm6
    go_upto_region 8 with fail
    refine wp_region_held_drew (S := Kp w [(w.heap.size, PkC p A n c, 36)]) (by kernel_rfl) hHeld.drew (fun hHeld => ?_)
    clear a1r a1f a1c a1l a1z
    generalize hwd : World.drew _ = we at hHeld ⊢
    clear hwd
    refine tkY 0 oWrRest33 ?vw298 rfl (by kernel_rfl) (by kernel_rfl) (by kernel_rfl) (fun _ _ _ h => h) (by rfl) ?hz298 (by assumption) ?rs298
    case hz298 => (intro wz hSw; unfold oWrRest33; (try clear hSw); go_simp; all_goals with_reducible rfl)
    try simp only [oWrRest33, Act.put, sA, sB, sC]
    refine tkY 1 oWrRest34 ?vw299 rfl (by kernel_rfl) (by kernel_rfl) (by kernel_rfl) (fun _ _ _ h => h) (by rfl) ?hz299 (by assumption) ?rs299
    case hz299 => (intro wz hSw; unfold oWrRest34; (try clear hSw); go_simp; all_goals with_reducible rfl)
    try simp only [oWrRest34, Act.put, sA, sB, sC]
    refine tkY 2 oWrRest35 ?vw300 rfl (by kernel_rfl) (by kernel_rfl) (by kernel_rfl) (fun _ _ _ h => h) (by rfl) ?hz300 (by assumption) ?rs300
    case hz300 => (intro wz hSw; unfold oWrRest35; (try clear hSw); go_simp; all_goals with_reducible rfl)
    try simp only [oWrRest35, Act.put, sA, sB, sC]
    refine tkY 3 oWrRest36 ?vw301 rfl (by kernel_rfl) (by kernel_rfl) (by kernel_rfl) (fun _ _ _ h => h) (by rfl) ?hz301 (by assumption) ?rs301
    case hz301 => (intro wz hSw; unfold oWrRest36; (try have hq1 := hSw.tail.cell); (try have hq2 := hSw.tail.tail.cell); (try have hq3 := hSw.cell); (try have hq4 := hSw.tail.row); (try have hq5 := hSw.tail.tail.row); (try have hq6 := hSw.row); (try have hq7 := hSw.tail.tail.tail.row); (try clear hSw); go_simp; all_goals with_reducible rfl)
    try simp only [oWrRest36, Act.put, sA, sB, sC]
    refine tkY 6 oWrRest37 ?vw302 rfl (by kernel_rfl) (by kernel_rfl) (by kernel_rfl) (fun _ _ _ h => h) (by rfl) ?hz302 (by assumption) ?rs302
    case hz302 => (intro wz hSw; unfold oWrRest37; (try clear hSw); go_simp; all_goals with_reducible rfl)
    try simp only [oWrRest37, Act.put, sA, sB, sC]
    refine tkY 7 oWrRest38 ?vw303 rfl (by kernel_rfl) (by kernel_rfl) (by kernel_rfl) (fun _ _ _ h => h) (by rfl) ?hz303 (by assumption) ?rs303
    case hz303 => (intro wz hSw; unfold oWrRest38; (try clear hSw); go_simp; all_goals with_reducible rfl)
    try simp only [oWrRest38, Act.put, sA, sB, sC]
    refine tkY 8 oWrRest39 ?vw304 rfl (by kernel_rfl) (by kernel_rfl) (by kernel_rfl) (fun _ _ _ h => h) (by rfl) ?hz304 (by assumption) ?rs304
    case hz304 => (intro wz hSw; unfold oWrRest39; (try have hq1 := hSw.tail.cell); (try have hq2 := hSw.tail.tail.cell); (try have hq3 := hSw.cell); (try have hq4 := hSw.tail.row); (try have hq5 := hSw.tail.tail.row); (try have hq6 := hSw.row); (try have hq7 := hSw.tail.tail.tail.row); (try clear hSw); go_simp; all_goals with_reducible rfl)
    try simp only [oWrRest39, Act.put, sA, sB, sC]
    refine wpAnyH_ready (rs := [4]) (by kernel_rfl) (by simp) ?_
    refine (AllReadyH.cons (o := oWrRest40) rfl (fun K hK => ?_) AllReadyH.nil)
    unfold oWrRest40
    go_simp
    (go_at_call 47; refine (refData_any p.wt _ l2).mono ?_; rintro e w6 ⟨rfl, hb6⟩)
    refine hK.out _ _ (by first | exact hHeld.more hb6 | exact hHeld | exact ⟨_, hK9⟩ | exact below_more hHeld hb6) (fun hHeld1 => ?_)
    clear hHeld; have hHeld := hHeld1; clear hHeld1 hK K
    try simp only [oWrRest40, Act.put, sA, sB, sC]
    refine tkY 5 oWrRest41 ?vw305 rfl (by kernel_rfl) (by kernel_rfl) (by kernel_rfl) (fun _ _ _ h => h) (by rfl) ?hz305 (by assumption) ?rs305
    case hz305 => (intro wz hSw; unfold oWrRest41; (try clear hSw); go_simp; all_goals with_reducible rfl)
    try simp only [oWrRest41, Act.put, sA, sB, sC]
    refine wpAnyH_ready (rs := [9]) (by kernel_rfl) (by simp) ?_
    refine (AllReadyH.cons (o := oWrRest42) rfl (fun K hK => ?_) AllReadyH.nil)
    unfold oWrRest42
    go_simp
    (go_at_call 47; refine (refData_any p.wl _ l3).mono ?_; rintro e w6 ⟨rfl, hb6⟩)
    refine hK.out _ _ (by first | exact hHeld.more hb6 | exact hHeld | exact ⟨_, hK9⟩ | exact below_more hHeld hb6) (fun hHeld1 => ?_)
    clear hHeld; have hHeld := hHeld1; clear hHeld1 hK K
    try simp only [oWrRest42, Act.put, sA, sB, sC]
    refine tkY 10 oWrRest43 ?vw306 rfl (by kernel_rfl) (by kernel_rfl) (by kernel_rfl) (fun _ _ _ h => h) (by rfl) ?hz306 (by assumption) ?rs306
    case hz306 => (intro wz hSw; unfold oWrRest43; (try clear hSw); go_simp; all_goals with_reducible rfl)
    try simp only [oWrRest43, Act.put, sA, sB, sC]
    refine tkY 11 oWrRest44 ?vw307 rfl (by kernel_rfl) (by kernel_rfl) (by kernel_rfl) (fun _ _ _ h => h) (by rfl) ?hz307 (by assumption) ?rs307
    case hz307 => (intro wz hSw; unfold oWrRest44; (try clear hSw); go_simp; all_goals with_reducible rfl)
    try simp only [oWrRest44, Act.put, sA, sB, sC]
    refine wpAnyH_done (by kernel_rfl) ?_ _
    have a1r := hHeld.row; have a1f := hHeld.free; have a1c := hHeld.cell; have a1l := hHeld.lt; have a1z := hHeld.froz
    obtain ⟨m7, hm7⟩ : ∃ m, m6 ++ fieldL p.pass = m := ⟨_, rfl⟩
    have q7 : m7.length = (m6).length + (p.pass.length + 2) := by rw [← hm7, List.length_append]; try simp only [fieldL_len, wordL_len, List.length_cons, List.length_nil]
    try simp only [fieldL_len, wordL_len, List.length_cons, List.length_nil] at q7
    have had7 := fun W => add_str (P := Tryz.prog) W (m6) (fieldL p.pass) (by (try simp only [fieldL_len, wordL_len, List.length_cons, List.length_nil]); omega)
    rw [hm7] at had7
    have HM7 := Lib.hid hm7
    clear hm7
    go_wp2_with fail
    refine (refData_any p.pass _ l5).mono ?_
    rintro e w6 ⟨rfl, hb6⟩
    have hP1 := hHeld.more hb6
    clear hb6
    clear a1r a1f a1c a1l a1z
    have a1r := hP1.row; have a1f := hP1.free; have a1c := hP1.cell; have a1l := hP1.lt; have a1z := hP1.froz
    go_wp2_with fail
    go_ret
    exact ⟨by rw [HX.out, HE.out, ← HM7.out, ← HM6.out, ← HM5.out, ← HM4.out, ← HM3.out, ← HM2.out, ← HM1.out]; simp [toB], hP1.below⟩
  · have HE : Hid (conX p = fieldL [77, 81, 84, 84] ++ ([4] ++ ([toB cf] ++ (wordL p.keep ++ (fieldL p.client ++ ((fieldL p.wt ++ fieldL p.wl) ++ (fieldL p.user ++ []))))))) := by show _ = _; unfold conX willL userL passL; rw [HCF.out, hW, hU, hP]; simp
    have l2 := val_len (HC.out.wt hW)
    have l3 := HC.out.wl hW
    have l4 := val_len (HC.out.user hU)
    obtain ⟨m5, hm5⟩ : ∃ m, m4 ++ fieldL p.wt = m := ⟨_, rfl⟩
    have q5 : m5.length = (m4).length + (p.wt.length + 2) := by rw [← hm5, List.length_append]; try simp only [fieldL_len, wordL_len, List.length_cons, List.length_nil]
    try simp only [fieldL_len, wordL_len, List.length_cons, List.length_nil] at q5
    have had5 := fun W => add_str (P := Tryz.prog) W (m4) (fieldL p.wt) (by (try simp only [fieldL_len, wordL_len, List.length_cons, List.length_nil]); omega)
    rw [hm5] at had5
    have HM5 := Lib.hid hm5
    clear hm5
    obtain ⟨m6, hm6⟩ : ∃ m, m5 ++ fieldL p.wl = m := ⟨_, rfl⟩
    have q6 : m6.length = (m5).length + (p.wl.length + 2) := by rw [← hm6, List.length_append]; try simp only [fieldL_len, wordL_len, List.length_cons, List.length_nil]
    try simp only [fieldL_len, wordL_len, List.length_cons, List.length_nil] at q6
    have had6 := fun W => add_str (P := Tryz.prog) W (m5) (fieldL p.wl) (by (try simp only [fieldL_len, wordL_len, List.length_cons, List.length_nil]); omega)
    rw [hm6] at had6
    have HM6 := Lib.hid hm6
    clear hm6
    go_upto_region 8 with fail
    refine wp_region_held_drew (S := Kp w [(w.heap.size, PkC p A n c, 36)]) (by kernel_rfl) hHeld.drew (fun hHeld => ?_)
    clear a1r a1f a1c a1l a1z
    generalize hwd : World.drew _ = we at hHeld ⊢
    clear hwd
    refine tkY 0 oWrRest33 ?vw308 rfl (by kernel_rfl) (by kernel_rfl) (by kernel_rfl) (fun _ _ _ h => h) (by rfl) ?hz308 (by assumption) ?rs308
    case hz308 => (intro wz hSw; unfold oWrRest33; (try clear hSw); go_simp; all_goals with_reducible rfl)
    try simp only [oWrRest33, Act.put, sA, sB, sC]
    refine tkY 1 oWrRest34 ?vw309 rfl (by kernel_rfl) (by kernel_rfl) (by kernel_rfl) (fun _ _ _ h => h) (by rfl) ?hz309 (by assumption) ?rs309
    case hz309 => (intro wz hSw; unfold oWrRest34; (try clear hSw); go_simp; all_goals with_reducible rfl)
    try simp only [oWrRest34, Act.put, sA, sB, sC]
    refine tkY 2 oWrRest35 ?vw310 rfl (by kernel_rfl) (by kernel_rfl) (by kernel_rfl) (fun _ _ _ h => h) (by rfl) ?hz310 (by assumption) ?rs310
    case hz310 => (intro wz hSw; unfold oWrRest35; (try clear hSw); go_simp; all_goals with_reducible rfl)
    try simp only [oWrRest35, Act.put, sA, sB, sC]
    refine tkY 3 oWrRest36 ?vw311 rfl (by kernel_rfl) (by kernel_rfl) (by kernel_rfl) (fun _ _ _ h => h) (by rfl) ?hz311 (by assumption) ?rs311
    case hz311 => (intro wz hSw; unfold oWrRest36; (try have hq1 := hSw.tail.cell); (try have hq2 := hSw.tail.tail.cell); (try have hq3 := hSw.cell); (try have hq4 := hSw.tail.row); (try have hq5 := hSw.tail.tail.row); (try have hq6 := hSw.row); (try have hq7 := hSw.tail.tail.tail.row); (try clear hSw); go_simp; all_goals with_reducible rfl)
    try simp only [oWrRest36, Act.put, sA, sB, sC]
    refine tkY 6 oWrRest37 ?vw312 rfl (by kernel_rfl) (by kernel_rfl) (by kernel_rfl) (fun _ _ _ h => h) (by rfl) ?hz312 (by assumption) ?rs312
    case hz312 => (intro wz hSw; unfold oWrRest37; (try clear hSw); go_simp; all_goals with_reducible rfl)
    try simp only [oWrRest37, Act.put, sA, sB, sC]
    refine tkY 7 oWrRest38 ?vw313 rfl (by kernel_rfl) (by kernel_rfl) (by kernel_rfl) (fun _ _ _ h => h) (by rfl) ?hz313 (by assumption) ?rs313
    case hz313 => (intro wz hSw; unfold oWrRest38; (try clear hSw); go_simp; all_goals with_reducible rfl)
    try simp only [oWrRest38, Act.put, sA, sB, sC]
    refine tkY 8 oWrRest39 ?vw314 rfl (by kernel_rfl) (by kernel_rfl) (by kernel_rfl) (fun _ _ _ h => h) (by rfl) ?hz314 (by assumption) ?rs314
    case hz314 => (intro wz hSw; unfold oWrRest39; (try have hq1 := hSw.tail.cell); (try have hq2 := hSw.tail.tail.cell); (try have hq3 := hSw.cell); (try have hq4 := hSw.tail.row); (try have hq5 := hSw.tail.tail.row); (try have hq6 := hSw.row); (try have hq7 := hSw.tail.tail.tail.row); (try clear hSw); go_simp; all_goals with_reducible rfl)
    try simp only [oWrRest39, Act.put, sA, sB, sC]
    refine wpAnyH_ready (rs := [4]) (by kernel_rfl) (by simp) ?_
    refine (AllReadyH.cons (o := oWrRest40) rfl (fun K hK => ?_) AllReadyH.nil)
    unfold oWrRest40
    go_simp
    (go_at_call 47; refine (refData_any p.wt _ l2).mono ?_; rintro e w6 ⟨rfl, hb6⟩)
    refine hK.out _ _ (by first | exact hHeld.more hb6 | exact hHeld | exact ⟨_, hK9⟩ | exact below_more hHeld hb6) (fun hHeld1 => ?_)
    clear hHeld; have hHeld := hHeld1; clear hHeld1 hK K
    try simp only [oWrRest40, Act.put, sA, sB, sC]
    refine tkY 5 oWrRest41 ?vw315 rfl (by kernel_rfl) (by kernel_rfl) (by kernel_rfl) (fun _ _ _ h => h) (by rfl) ?hz315 (by assumption) ?rs315
    case hz315 => (intro wz hSw; unfold oWrRest41; (try clear hSw); go_simp; all_goals with_reducible rfl)
    try simp only [oWrRest41, Act.put, sA, sB, sC]
    refine wpAnyH_ready (rs := [9]) (by kernel_rfl) (by simp) ?_
    refine (AllReadyH.cons (o := oWrRest42) rfl (fun K hK => ?_) AllReadyH.nil)
    unfold oWrRest42
    go_simp
    (go_at_call 47; refine (refData_any p.wl _ l3).mono ?_; rintro e w6 ⟨rfl, hb6⟩)
    refine hK.out _ _ (by first | exact hHeld.more hb6 | exact hHeld | exact ⟨_, hK9⟩ | exact below_more hHeld hb6) (fun hHeld1 => ?_)
    clear hHeld; have hHeld := hHeld1; clear hHeld1 hK K
    try simp only [oWrRest42, Act.put, sA, sB, sC]
    refine tkY 10 oWrRest43 ?vw316 rfl (by kernel_rfl) (by kernel_rfl) (by kernel_rfl) (fun _ _ _ h => h) (by rfl) ?hz316 (by assumption) ?rs316
    case hz316 => (intro wz hSw; unfold oWrRest43; (try clear hSw); go_simp; all_goals with_reducible rfl)
    try simp only [oWrRest43, Act.put, sA, sB, sC]
    refine tkY 11 oWrRest44 ?vw317 rfl (by kernel_rfl) (by kernel_rfl) (by kernel_rfl) (fun _ _ _ h => h) (by rfl) ?hz317 (by assumption) ?rs317
    case hz317 => (intro wz hSw; unfold oWrRest44; (try clear hSw); go_simp; all_goals with_reducible rfl)
    try simp only [oWrRest44, Act.put, sA, sB, sC]
    refine wpAnyH_done (by kernel_rfl) ?_ _
    have a1r := hHeld.row; have a1f := hHeld.free; have a1c := hHeld.cell; have a1l := hHeld.lt; have a1z := hHeld.froz
    obtain ⟨m7, hm7⟩ : ∃ m, m6 ++ fieldL p.user = m := ⟨_, rfl⟩
    have q7 : m7.length = (m6).length + (p.user.length + 2) := by rw [← hm7, List.length_append]; try simp only [fieldL_len, wordL_len, List.length_cons, List.length_nil]
    try simp only [fieldL_len, wordL_len, List.length_cons, List.length_nil] at q7
    have had7 := fun W => add_str (P := Tryz.prog) W (m6) (fieldL p.user) (by (try simp only [fieldL_len, wordL_len, List.length_cons, List.length_nil]); omega)
    rw [hm7] at had7
    have HM7 := Lib.hid hm7
    clear hm7
    go_wp2_with fail
    refine (refData_any p.user _ l4).mono ?_
    rintro e w6 ⟨rfl, hb6⟩
    have hU1 := hHeld.more hb6
    clear hb6
    clear a1r a1f a1c a1l a1z
    have a1r := hU1.row; have a1f := hU1.free; have a1c := hU1.cell; have a1l := hU1.lt; have a1z := hU1.froz
    go_wp2_with fail
    go_ret
    exact ⟨by rw [HX.out, HE.out, ← HM7.out, ← HM6.out, ← HM5.out, ← HM4.out, ← HM3.out, ← HM2.out, ← HM1.out]; simp [toB], hU1.below⟩
  · have HE : Hid (conX p = fieldL [77, 81, 84, 84] ++ ([4] ++ ([toB cf] ++ (wordL p.keep ++ (fieldL p.client ++ ((fieldL p.wt ++ fieldL p.wl) ++ (fieldL p.user ++ fieldL p.pass))))))) := by show _ = _; unfold conX willL userL passL; rw [HCF.out, hW, hU, hP]; simp
    have l2 := val_len (HC.out.wt hW)
    have l3 := HC.out.wl hW
    have l4 := val_len (HC.out.user hU)
    have l5 := HC.out.pass hP
    obtain ⟨m5, hm5⟩ : ∃ m, m4 ++ fieldL p.wt = m := ⟨_, rfl⟩
    have q5 : m5.length = (m4).length + (p.wt.length + 2) := by rw [← hm5, List.length_append]; try simp only [fieldL_len, wordL_len, List.length_cons, List.length_nil]
    try simp only [fieldL_len, wordL_len, List.length_cons, List.length_nil] at q5
    have had5 := fun W => add_str (P := Tryz.prog) W (m4) (fieldL p.wt) (by (try simp only [fieldL_len, wordL_len, List.length_cons, List.length_nil]); omega)
    rw [hm5] at had5
    have HM5 := Lib.hid hm5
    clear hm5
    obtain ⟨m6, hm6⟩ : ∃ m, m5 ++ fieldL p.wl = m := ⟨_, rfl⟩
    have q6 : m6.length = (m5).length + (p.wl.length + 2) := by rw [← hm6, List.length_append]; try simp only [fieldL_len, wordL_len, List.length_cons, List.length_nil]
    try simp only [fieldL_len, wordL_len, List.length_cons, List.length_nil] at q6
    have had6 := fun W => add_str (P := Tryz.prog) W (m5) (fieldL p.wl) (by (try simp only [fieldL_len, wordL_len, List.length_cons, List.length_nil]); omega)
    rw [hm6] at had6
    have HM6 := Lib.hid hm6
    clear hm6
    go_upto_region 8 with fail
    refine wp_region_held_drew (S := Kp w [(w.heap.size, PkC p A n c, 36)]) (by kernel_rfl) hHeld.drew (fun hHeld => ?_)
    clear a1r a1f a1c a1l a1z
    generalize hwd : World.drew _ = we at hHeld ⊢
    clear hwd
    refine tkY 0 oWrRest33 ?vw318 rfl (by kernel_rfl) (by kernel_rfl) (by kernel_rfl) (fun _ _ _ h => h) (by rfl) ?hz318 (by assumption) ?rs318
    case hz318 => (intro wz hSw; unfold oWrRest33; (try clear hSw); go_simp; all_goals with_reducible rfl)
    try simp only [oWrRest33, Act.put, sA, sB, sC]
    refine tkY 1 oWrRest34 ?vw319 rfl (by kernel_rfl) (by kernel_rfl) (by kernel_rfl) (fun _ _ _ h => h) (by rfl) ?hz319 (by assumption) ?rs319
    case hz319 => (intro wz hSw; unfold oWrRest34; (try clear hSw); go_simp; all_goals with_reducible rfl)
    try simp only [oWrRest34, Act.put, sA, sB, sC]
    refine tkY 2 oWrRest35 ?vw320 rfl (by kernel_rfl) (by kernel_rfl) (by kernel_rfl) (fun _ _ _ h => h) (by rfl) ?hz320 (by assumption) ?rs320
    case hz320 => (intro wz hSw; unfold oWrRest35; (try clear hSw); go_simp; all_goals with_reducible rfl)
    try simp only [oWrRest35, Act.put, sA, sB, sC]
    refine tkY 3 oWrRest36 ?vw321 rfl (by kernel_rfl) (by kernel_rfl) (by kernel_rfl) (fun _ _ _ h => h) (by rfl) ?hz321 (by assumption) ?rs321
    case hz321 => (intro wz hSw; unfold oWrRest36; (try have hq1 := hSw.tail.cell); (try have hq2 := hSw.tail.tail.cell); (try have hq3 := hSw.cell); (try have hq4 := hSw.tail.row); (try have hq5 := hSw.tail.tail.row); (try have hq6 := hSw.row); (try have hq7 := hSw.tail.tail.tail.row); (try clear hSw); go_simp; all_goals with_reducible rfl)
    try simp only [oWrRest36, Act.put, sA, sB, sC]
    refine tkY 6 oWrRest37 ?vw322 rfl (by kernel_rfl) (by kernel_rfl) (by kernel_rfl) (fun _ _ _ h => h) (by rfl) ?hz322 (by assumption) ?rs322
    case hz322 => (intro wz hSw; unfold oWrRest37; (try clear hSw); go_simp; all_goals with_reducible rfl)
    try simp only [oWrRest37, Act.put, sA, sB, sC]
    refine tkY 7 oWrRest38 ?vw323 rfl (by kernel_rfl) (by kernel_rfl) (by kernel_rfl) (fun _ _ _ h => h) (by rfl) ?hz323 (by assumption) ?rs323
    case hz323 => (intro wz hSw; unfold oWrRest38; (try clear hSw); go_simp; all_goals with_reducible rfl)
    try simp only [oWrRest38, Act.put, sA, sB, sC]
    refine tkY 8 oWrRest39 ?vw324 rfl (by kernel_rfl) (by kernel_rfl) (by kernel_rfl) (fun _ _ _ h => h) (by rfl) ?hz324 (by assumption) ?rs324
    case hz324 => (intro wz hSw; unfold oWrRest39; (try have hq1 := hSw.tail.cell); (try have hq2 := hSw.tail.tail.cell); (try have hq3 := hSw.cell); (try have hq4 := hSw.tail.row); (try have hq5 := hSw.tail.tail.row); (try have hq6 := hSw.row); (try have hq7 := hSw.tail.tail.tail.row); (try clear hSw); go_simp; all_goals with_reducible rfl)
    try simp only [oWrRest39, Act.put, sA, sB, sC]
    refine wpAnyH_ready (rs := [4]) (by kernel_rfl) (by simp) ?_
    refine (AllReadyH.cons (o := oWrRest40) rfl (fun K hK => ?_) AllReadyH.nil)
    unfold oWrRest40
    go_simp
    (go_at_call 47; refine (refData_any p.wt _ l2).mono ?_; rintro e w6 ⟨rfl, hb6⟩)
    refine hK.out _ _ (by first | exact hHeld.more hb6 | exact hHeld | exact ⟨_, hK9⟩ | exact below_more hHeld hb6) (fun hHeld1 => ?_)
    clear hHeld; have hHeld := hHeld1; clear hHeld1 hK K
    try simp only [oWrRest40, Act.put, sA, sB, sC]
    refine tkY 5 oWrRest41 ?vw325 rfl (by kernel_rfl) (by kernel_rfl) (by kernel_rfl) (fun _ _ _ h => h) (by rfl) ?hz325 (by assumption) ?rs325
    case hz325 => (intro wz hSw; unfold oWrRest41; (try clear hSw); go_simp; all_goals with_reducible rfl)
    try simp only [oWrRest41, Act.put, sA, sB, sC]
    refine wpAnyH_ready (rs := [9]) (by kernel_rfl) (by simp) ?_
    refine (AllReadyH.cons (o := oWrRest42) rfl (fun K hK => ?_) AllReadyH.nil)
    unfold oWrRest42
    go_simp
    (go_at_call 47; refine (refData_any p.wl _ l3).mono ?_; rintro e w6 ⟨rfl, hb6⟩)
    refine hK.out _ _ (by first | exact hHeld.more hb6 | exact hHeld | exact ⟨_, hK9⟩ | exact below_more hHeld hb6) (fun hHeld1 => ?_)
    clear hHeld; have hHeld := hHeld1; clear hHeld1 hK K
    try simp only [oWrRest42, Act.put, sA, sB, sC]
    refine tkY 10 oWrRest43 ?vw326 rfl (by kernel_rfl) (by kernel_rfl) (by kernel_rfl) (fun _ _ _ h => h) (by rfl) ?hz326 (by assumption) ?rs326
    case hz326 => (intro wz hSw; unfold oWrRest43; (try clear hSw); go_simp; all_goals with_reducible rfl)
    try simp only [oWrRest43, Act.put, sA, sB, sC]
    refine tkY 11 oWrRest44 ?vw327 rfl (by kernel_rfl) (by kernel_rfl) (by kernel_rfl) (fun _ _ _ h => h) (by rfl) ?hz327 (by assumption) ?rs327
    case hz327 => (intro wz hSw; unfold oWrRest44; (try clear hSw); go_simp; all_goals with_reducible rfl)
    try simp only [oWrRest44, Act.put, sA, sB, sC]
    refine wpAnyH_done (by kernel_rfl) ?_ _
    have a1r := hHeld.row; have a1f := hHeld.free; have a1c := hHeld.cell; have a1l := hHeld.lt; have a1z := hHeld.froz
    obtain ⟨m7, hm7⟩ : ∃ m, m6 ++ fieldL p.user = m := ⟨_, rfl⟩
    have q7 : m7.length = (m6).length + (p.user.length + 2) := by rw [← hm7, List.length_append]; try simp only [fieldL_len, wordL_len, List.length_cons, List.length_nil]
    try simp only [fieldL_len, wordL_len, List.length_cons, List.length_nil] at q7
    have had7 := fun W => add_str (P := Tryz.prog) W (m6) (fieldL p.user) (by (try simp only [fieldL_len, wordL_len, List.length_cons, List.length_nil]); omega)
    rw [hm7] at had7
    have HM7 := Lib.hid hm7
    clear hm7
    go_wp2_with fail
    refine (refData_any p.user _ l4).mono ?_
    rintro e w6 ⟨rfl, hb6⟩
    have hU1 := hHeld.more hb6
    clear hb6
    clear a1r a1f a1c a1l a1z
    have a1r := hU1.row; have a1f := hU1.free; have a1c := hU1.cell; have a1l := hU1.lt; have a1z := hU1.froz
    obtain ⟨m8, hm8⟩ : ∃ m, m7 ++ fieldL p.pass = m := ⟨_, rfl⟩
    have q8 : m8.length = (m7).length + (p.pass.length + 2) := by rw [← hm8, List.length_append]; try simp only [fieldL_len, wordL_len, List.length_cons, List.length_nil]
    try simp only [fieldL_len, wordL_len, List.length_cons, List.length_nil] at q8
    have had8 := fun W => add_str (P := Tryz.prog) W (m7) (fieldL p.pass) (by (try simp only [fieldL_len, wordL_len, List.length_cons, List.length_nil]); omega)
    rw [hm8] at had8
    have HM8 := Lib.hid hm8
    clear hm8
    go_wp2_with fail
    refine (refData_any p.pass _ l5).mono ?_
    rintro e w6 ⟨rfl, hb6⟩
    have hP1 := hU1.more hb6
    clear hb6
    clear a1r a1f a1c a1l a1z
    have a1r := hP1.row; have a1f := hP1.free; have a1c := hP1.cell; have a1l := hP1.lt; have a1z := hP1.froz
    go_wp2_with fail
    go_ret
    exact ⟨by rw [HX.out, HE.out, ← HM8.out, ← HM7.out, ← HM6.out, ← HM5.out, ← HM4.out, ← HM3.out, ← HM2.out, ← HM1.out]; simp [toB], hP1.below⟩
theorem refRestW_any (p : Pk) (A : Option Addr) (n c : Nat) (xs : List (List UInt8 × Int)) (hs : Subs w A n xs) (hf : Fit p xs) (ho : Ok p xs) :
    Calls Tryz.prog 30 #[.agg (PkC p A n c)] w fun e w' => e = .returned (.string ⟨(bodyL p xs).toArray⟩) ∧ Below w.heap.size w w' := by
  rcases ho.ty with e | e | e | e | e | e | e | e | e | e | e | e | e | e
  · exact refRest_1 p A n c xs hs hf ho e
  · exact refRest_2 p A n c xs hs hf ho e
  · exact refRest_3 p A n c xs hs hf ho e
  · exact refRest_4 p A n c xs hs hf ho e
  · exact refRest_5 p A n c xs hs hf ho e
  · exact refRest_6 p A n c xs hs hf ho e
  · exact refRest_7 p A n c xs hs hf ho e
  · exact refRest_8 p A n c xs hs hf ho e
  · exact refRest_9 p A n c xs hs hf ho e
  · exact refRest_10 p A n c xs hs hf ho e
  · exact refRest_11 p A n c xs hs hf ho e
  · exact refRest_12 p A n c xs hs hf ho e
  · exact refRest_13 p A n c xs hs hf ho e
  · exact refRest_14 p A n c xs hs hf ho e
end
end Go.Proofs.YtnaedcennichlaaGreatDoor
