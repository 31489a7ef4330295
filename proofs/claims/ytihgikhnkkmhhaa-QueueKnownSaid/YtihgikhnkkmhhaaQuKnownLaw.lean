/-
  QueueKnown: the chapter's examples; a queue of each limit about the bounds; no queue. A closed statement; no condition.
-/
import Derived.Test.YtihgikhnkkmhhaaQuAwake
set_option linter.unusedSimpArgs false
set_option linter.unusedVariables false
namespace Go.Proofs.Ytihgikhnkkmhhaa.lawQueueKnown
section
open Go.RowKit
def oQuKnownLaw1 : Oper := ({ dst := some 40, op := Go.Op.move (Go.Operand.tmp 3), type := 23, pos := "law.go:53", after := #[], guard := none } : Oper)
def oQuKnownLaw2 : Oper := ({ dst := some 42, op := Go.Op.move (Go.Operand.tmp 1), type := 22, pos := "law.go:53", after := #[], guard := none } : Oper)
def oQuKnownLaw3 : Oper := ({ dst := some 43, op := Go.Op.move (Go.Operand.tmp 2), type := 3, pos := "law.go:53", after := #[], guard := none } : Oper)
def oQuKnownLaw4 : Oper := ({ dst := some 44, op := Go.Op.indexAddr 22 (Go.Operand.tmp 42) (Go.Operand.tmp 43), type := 0, pos := "law.go:53", after := #[{ on := 2, ground := Go.Ground.data }, { on := 3, ground := Go.Ground.data }], guard := none } : Oper)
def oQuKnownLaw5 : Oper := ({ dst := some 45, op := Go.Op.load 3 (Go.Operand.tmp 44), type := 3, pos := "law.go:53", after := #[{ on := 4, ground := Go.Ground.data }], guard := none } : Oper)
def oQuKnownLaw6 : Oper := ({ dst := some 46, op := Go.Op.move (Go.Operand.tmp 5), type := 3, pos := "law.go:53", after := #[], guard := none } : Oper)
def oQuKnownLaw7 : Oper := ({ dst := some 47, op := Go.Op.binOp Go.BinOp.sub 3 (Go.Operand.tmp 45) (Go.Operand.tmp 46) 3, type := 3, pos := "law.go:53", after := #[{ on := 5, ground := Go.Ground.data }, { on := 6, ground := Go.Ground.data }], guard := none } : Oper)
def oQuKnownLaw8 : Oper := ({ dst := some 41, op := Go.Op.call { callee := Go.Callee.value (Go.Operand.func 9), args := #[Go.Operand.tmp 40], argTypes := #[23] }, type := 3, pos := "law.go:53", after := #[{ on := 0, ground := Go.Ground.data }], guard := none } : Oper)
def oQuKnownLaw9 : Oper := ({ dst := some 48, op := Go.Op.binOp Go.BinOp.neq 3 (Go.Operand.tmp 41) (Go.Operand.tmp 47) 3, type := 4, pos := "law.go:53", after := #[{ on := 1, ground := Go.Ground.data }, { on := 7, ground := Go.Ground.data }], guard := none } : Oper)
def oQuKnownLaw10 : Oper := ({ dst := some 49, op := Go.Op.move (Go.Operand.tmp 48), type := 4, pos := "law.go:53", after := #[{ on := 8, ground := Go.Ground.data }, { on := 1, ground := Go.Ground.chain }], guard := none } : Oper)
def oQuKnownLaw11 : Oper := ({ dst := some 50, op := Go.Op.move (Go.Operand.tmp 3), type := 23, pos := "law.go:53", after := #[{ on := 9, ground := Go.Ground.guard }], guard := some (9, false) } : Oper)
def oQuKnownLaw12 : Oper := ({ dst := some 52, op := Go.Op.move (Go.Operand.tmp 5), type := 3, pos := "law.go:53", after := #[{ on := 9, ground := Go.Ground.guard }], guard := some (9, false) } : Oper)
def oQuKnownLaw13 : Oper := ({ dst := some 51, op := Go.Op.call { callee := Go.Callee.value (Go.Operand.func 10), args := #[Go.Operand.tmp 50], argTypes := #[23] }, type := 3, pos := "law.go:53", after := #[{ on := 10, ground := Go.Ground.data }, { on := 9, ground := Go.Ground.chain }, { on := 9, ground := Go.Ground.guard }], guard := some (9, false) } : Oper)
def oQuKnownLaw14 : Oper := ({ dst := some 53, op := Go.Op.binOp Go.BinOp.neq 3 (Go.Operand.tmp 51) (Go.Operand.tmp 52) 3, type := 4, pos := "law.go:53", after := #[{ on := 11, ground := Go.Ground.data }, { on := 12, ground := Go.Ground.data }, { on := 9, ground := Go.Ground.guard }], guard := some (9, false) } : Oper)
def oQuKnownLaw15 : Oper := ({ dst := some 54, op := Go.Op.pick (Go.Operand.tmp 49) (Go.Operand.const (Go.Value.bool true)) (Go.Operand.tmp 53), type := 4, pos := "law.go:53", after := #[{ on := 9, ground := Go.Ground.data }, { on := 13, ground := Go.Ground.data }], guard := none } : Oper)
def oQuKnownLaw16 : Oper := ({ dst := some 55, op := Go.Op.move (Go.Operand.tmp 54), type := 4, pos := "law.go:53", after := #[{ on := 14, ground := Go.Ground.data }, { on := 11, ground := Go.Ground.chain }], guard := none } : Oper)
def oQuKnownLaw17 : Oper := ({ dst := some 56, op := Go.Op.move (Go.Operand.tmp 3), type := 23, pos := "law.go:53", after := #[{ on := 15, ground := Go.Ground.guard }], guard := some (15, false) } : Oper)
def oQuKnownLaw18 : Oper := ({ dst := some 57, op := Go.Op.move (Go.Operand.tmp 5), type := 3, pos := "law.go:53", after := #[{ on := 15, ground := Go.Ground.guard }], guard := some (15, false) } : Oper)
def oQuKnownLaw19 : Oper := ({ dst := some 58, op := Go.Op.binOp Go.BinOp.rem 3 (Go.Operand.tmp 57) (Go.Operand.const (Go.Value.int Go.IntKind.i64 251)) 3, type := 3, pos := "law.go:53", after := #[{ on := 17, ground := Go.Ground.data }, { on := 15, ground := Go.Ground.guard }], guard := some (15, false) } : Oper)
def oQuKnownLaw20 : Oper := ({ dst := some 59, op := Go.Op.convert 3 5 (Go.Operand.tmp 58), type := 5, pos := "law.go:53", after := #[{ on := 18, ground := Go.Ground.data }, { on := 15, ground := Go.Ground.guard }], guard := some (15, false) } : Oper)
def oQuKnownLaw21 : Oper := ({ dst := some 60, op := Go.Op.build 28 #[(0, Go.Operand.const (Go.Value.string { data := #[116] })), (2, Go.Operand.tmp 59)], type := 28, pos := "law.go:53", after := #[{ on := 19, ground := Go.Ground.data }, { on := 15, ground := Go.Ground.guard }], guard := some (15, false) } : Oper)
def oQuKnownLaw22 : Oper := ({ dst := some 61, op := Go.Op.call { callee := Go.Callee.value (Go.Operand.func 11), args := #[Go.Operand.tmp 56, Go.Operand.tmp 60], argTypes := #[23, 28] }, type := 4, pos := "law.go:53", after := #[{ on := 16, ground := Go.Ground.data }, { on := 20, ground := Go.Ground.data }, { on := 15, ground := Go.Ground.chain }, { on := 15, ground := Go.Ground.guard }], guard := some (15, false) } : Oper)
def oQuKnownLaw23 : Oper := ({ dst := some 62, op := Go.Op.unOp Go.UnOp.not 4 (Go.Operand.tmp 61), type := 4, pos := "law.go:53", after := #[{ on := 21, ground := Go.Ground.data }, { on := 15, ground := Go.Ground.guard }], guard := some (15, false) } : Oper)
def oQuKnownLaw24 : Oper := ({ dst := some 63, op := Go.Op.pick (Go.Operand.tmp 55) (Go.Operand.const (Go.Value.bool true)) (Go.Operand.tmp 62), type := 4, pos := "law.go:53", after := #[{ on := 15, ground := Go.Ground.data }, { on := 22, ground := Go.Ground.data }], guard := none } : Oper)
def oQuKnownLaw25 : Oper := ({ dst := some 64, op := Go.Op.move (Go.Operand.tmp 3), type := 23, pos := "law.go:57", after := #[], guard := none } : Oper)
def oQuKnownLaw26 : Oper := ({ dst := some 65, op := Go.Op.call { callee := Go.Callee.value (Go.Operand.func 12), args := #[Go.Operand.const (Go.Value.string { data := #[109, 111, 114, 101] })], argTypes := #[9] }, type := 28, pos := "law.go:57", after := #[], guard := none } : Oper)
def oQuKnownLaw27 : Oper := ({ dst := some 66, op := Go.Op.call { callee := Go.Callee.value (Go.Operand.func 11), args := #[Go.Operand.tmp 64, Go.Operand.tmp 65], argTypes := #[23, 28] }, type := 4, pos := "law.go:57", after := #[{ on := 0, ground := Go.Ground.data }, { on := 1, ground := Go.Ground.data }, { on := 1, ground := Go.Ground.chain }], guard := none } : Oper)
def oQuKnownLaw28 : Oper := ({ dst := some 67, op := Go.Op.move (Go.Operand.tmp 66), type := 4, pos := "law.go:57", after := #[{ on := 2, ground := Go.Ground.data }, { on := 2, ground := Go.Ground.chain }], guard := none } : Oper)
def oQuKnownLaw29 : Oper := ({ dst := some 68, op := Go.Op.move (Go.Operand.tmp 3), type := 23, pos := "law.go:57", after := #[{ on := 3, ground := Go.Ground.guard }], guard := some (3, false) } : Oper)
def oQuKnownLaw30 : Oper := ({ dst := some 69, op := Go.Op.call { callee := Go.Callee.value (Go.Operand.func 9), args := #[Go.Operand.tmp 68], argTypes := #[23] }, type := 3, pos := "law.go:57", after := #[{ on := 4, ground := Go.Ground.data }, { on := 3, ground := Go.Ground.chain }, { on := 3, ground := Go.Ground.guard }], guard := some (3, false) } : Oper)
def oQuKnownLaw31 : Oper := ({ dst := some 70, op := Go.Op.binOp Go.BinOp.neq 3 (Go.Operand.tmp 69) (Go.Operand.const (Go.Value.int Go.IntKind.i64 0)) 3, type := 4, pos := "law.go:57", after := #[{ on := 5, ground := Go.Ground.data }, { on := 3, ground := Go.Ground.guard }], guard := some (3, false) } : Oper)
def oQuKnownLaw32 : Oper := ({ dst := some 71, op := Go.Op.pick (Go.Operand.tmp 67) (Go.Operand.const (Go.Value.bool true)) (Go.Operand.tmp 70), type := 4, pos := "law.go:57", after := #[{ on := 3, ground := Go.Ground.data }, { on := 6, ground := Go.Ground.data }], guard := none } : Oper)
def oQuKnownLaw33 : Oper := ({ dst := some 72, op := Go.Op.move (Go.Operand.tmp 71), type := 4, pos := "law.go:57", after := #[{ on := 7, ground := Go.Ground.data }, { on := 5, ground := Go.Ground.chain }], guard := none } : Oper)
def oQuKnownLaw34 : Oper := ({ dst := some 73, op := Go.Op.move (Go.Operand.tmp 3), type := 23, pos := "law.go:57", after := #[{ on := 8, ground := Go.Ground.guard }], guard := some (8, false) } : Oper)
def oQuKnownLaw35 : Oper := ({ dst := some 76, op := Go.Op.move (Go.Operand.tmp 1), type := 22, pos := "law.go:57", after := #[{ on := 8, ground := Go.Ground.guard }], guard := some (8, false) } : Oper)
def oQuKnownLaw36 : Oper := ({ dst := some 77, op := Go.Op.move (Go.Operand.tmp 2), type := 3, pos := "law.go:57", after := #[{ on := 8, ground := Go.Ground.guard }], guard := some (8, false) } : Oper)
def oQuKnownLaw37 : Oper := ({ dst := some 78, op := Go.Op.indexAddr 22 (Go.Operand.tmp 76) (Go.Operand.tmp 77), type := 0, pos := "law.go:57", after := #[{ on := 12, ground := Go.Ground.data }, { on := 13, ground := Go.Ground.data }, { on := 8, ground := Go.Ground.guard }], guard := some (8, false) } : Oper)
def oQuKnownLaw38 : Oper := ({ dst := some 79, op := Go.Op.load 3 (Go.Operand.tmp 78), type := 3, pos := "law.go:57", after := #[{ on := 14, ground := Go.Ground.data }, { on := 8, ground := Go.Ground.guard }], guard := some (8, false) } : Oper)
def oQuKnownLaw39 : Oper := ({ dst := some 74, op := Go.Op.call { callee := Go.Callee.value (Go.Operand.func 13), args := #[Go.Operand.tmp 73], argTypes := #[23] }, type := 30, pos := "law.go:57", after := #[{ on := 9, ground := Go.Ground.data }, { on := 8, ground := Go.Ground.chain }, { on := 8, ground := Go.Ground.guard }], guard := some (8, false) } : Oper)
def oQuKnownLaw40 : Oper := ({ dst := some 75, op := Go.Op.call { callee := Go.Callee.builtin Go.Builtin.len, args := #[Go.Operand.tmp 74], argTypes := #[30] }, type := 3, pos := "law.go:57", after := #[{ on := 10, ground := Go.Ground.data }, { on := 8, ground := Go.Ground.guard }], guard := some (8, false) } : Oper)
def oQuKnownLaw41 : Oper := ({ dst := some 80, op := Go.Op.binOp Go.BinOp.neq 3 (Go.Operand.tmp 75) (Go.Operand.tmp 79) 3, type := 4, pos := "law.go:57", after := #[{ on := 11, ground := Go.Ground.data }, { on := 15, ground := Go.Ground.data }, { on := 8, ground := Go.Ground.guard }], guard := some (8, false) } : Oper)
def oQuKnownLaw42 : Oper := ({ dst := some 81, op := Go.Op.pick (Go.Operand.tmp 72) (Go.Operand.const (Go.Value.bool true)) (Go.Operand.tmp 80), type := 4, pos := "law.go:57", after := #[{ on := 8, ground := Go.Ground.data }, { on := 16, ground := Go.Ground.data }], guard := none } : Oper)
def oQuKnownLaw43 : Oper := ({ dst := some 136, op := Go.Op.move (Go.Operand.tmp 13), type := 4, pos := "law.go:74", after := #[], guard := none } : Oper)
def oQuKnownLaw44 : Oper := ({ dst := some 137, op := Go.Op.move (Go.Operand.tmp 136), type := 4, pos := "law.go:74", after := #[{ on := 0, ground := Go.Ground.data }], guard := none } : Oper)
def oQuKnownLaw45 : Oper := ({ dst := some 138, op := Go.Op.move (Go.Operand.tmp 15), type := 4, pos := "law.go:74", after := #[{ on := 1, ground := Go.Ground.guard }], guard := some (1, false) } : Oper)
def oQuKnownLaw46 : Oper := ({ dst := some 139, op := Go.Op.pick (Go.Operand.tmp 137) (Go.Operand.const (Go.Value.bool true)) (Go.Operand.tmp 138), type := 4, pos := "law.go:74", after := #[{ on := 1, ground := Go.Ground.data }, { on := 2, ground := Go.Ground.data }], guard := none } : Oper)
def oQuKnownLaw47 : Oper := ({ dst := some 140, op := Go.Op.move (Go.Operand.tmp 139), type := 4, pos := "law.go:74", after := #[{ on := 3, ground := Go.Ground.data }, { on := 1, ground := Go.Ground.chain }], guard := none } : Oper)
def oQuKnownLaw48 : Oper := ({ dst := some 141, op := Go.Op.load 28 (Go.Operand.tmp 12), type := 28, pos := "law.go:74", after := #[{ on := 4, ground := Go.Ground.guard }], guard := some (4, false) } : Oper)
def oQuKnownLaw49 : Oper := ({ dst := some 142, op := Go.Op.build 28 #[], type := 28, pos := "law.go:74", after := #[{ on := 4, ground := Go.Ground.guard }], guard := some (4, false) } : Oper)
def oQuKnownLaw50 : Oper := ({ dst := some 143, op := Go.Op.binOp Go.BinOp.neq 28 (Go.Operand.tmp 141) (Go.Operand.tmp 142) 28, type := 4, pos := "law.go:74", after := #[{ on := 5, ground := Go.Ground.data }, { on := 6, ground := Go.Ground.data }, { on := 4, ground := Go.Ground.guard }], guard := some (4, false) } : Oper)
def oQuKnownLaw51 : Oper := ({ dst := some 144, op := Go.Op.pick (Go.Operand.tmp 140) (Go.Operand.const (Go.Value.bool true)) (Go.Operand.tmp 143), type := 4, pos := "law.go:74", after := #[{ on := 4, ground := Go.Ground.data }, { on := 7, ground := Go.Ground.data }], guard := none } : Oper)
def oQuKnownLaw52 : Oper := ({ dst := some 145, op := Go.Op.move (Go.Operand.tmp 144), type := 4, pos := "law.go:74", after := #[{ on := 8, ground := Go.Ground.data }, { on := 4, ground := Go.Ground.chain }], guard := none } : Oper)
def oQuKnownLaw53 : Oper := ({ dst := some 146, op := Go.Op.load 28 (Go.Operand.tmp 14), type := 28, pos := "law.go:74", after := #[{ on := 9, ground := Go.Ground.guard }], guard := some (9, false) } : Oper)
def oQuKnownLaw54 : Oper := ({ dst := some 147, op := Go.Op.load 28 (Go.Operand.tmp 12), type := 28, pos := "law.go:74", after := #[{ on := 9, ground := Go.Ground.guard }], guard := some (9, false) } : Oper)
def oQuKnownLaw55 : Oper := ({ dst := some 148, op := Go.Op.binOp Go.BinOp.neq 28 (Go.Operand.tmp 146) (Go.Operand.tmp 147) 28, type := 4, pos := "law.go:74", after := #[{ on := 10, ground := Go.Ground.data }, { on := 11, ground := Go.Ground.data }, { on := 9, ground := Go.Ground.guard }], guard := some (9, false) } : Oper)
def oQuKnownLaw56 : Oper := ({ dst := some 149, op := Go.Op.pick (Go.Operand.tmp 145) (Go.Operand.const (Go.Value.bool true)) (Go.Operand.tmp 148), type := 4, pos := "law.go:74", after := #[{ on := 9, ground := Go.Ground.data }, { on := 12, ground := Go.Ground.data }], guard := none } : Oper)
def oQuKnownLaw57 : Oper := ({ dst := some 150, op := Go.Op.move (Go.Operand.tmp 149), type := 4, pos := "law.go:74", after := #[{ on := 13, ground := Go.Ground.data }, { on := 9, ground := Go.Ground.chain }], guard := none } : Oper)
def oQuKnownLaw58 : Oper := ({ dst := some 151, op := Go.Op.move (Go.Operand.tmp 10), type := 36, pos := "law.go:74", after := #[{ on := 14, ground := Go.Ground.guard }], guard := some (14, false) } : Oper)
def oQuKnownLaw59 : Oper := ({ dst := some 152, op := Go.Op.move (Go.Operand.tmp 11), type := 3, pos := "law.go:74", after := #[{ on := 14, ground := Go.Ground.guard }], guard := some (14, false) } : Oper)
def oQuKnownLaw60 : Oper := ({ dst := some 153, op := Go.Op.indexAddr 36 (Go.Operand.tmp 151) (Go.Operand.tmp 152), type := 0, pos := "law.go:74", after := #[{ on := 15, ground := Go.Ground.data }, { on := 16, ground := Go.Ground.data }, { on := 14, ground := Go.Ground.guard }], guard := some (14, false) } : Oper)
def oQuKnownLaw61 : Oper := ({ dst := some 154, op := Go.Op.load 23 (Go.Operand.tmp 153), type := 23, pos := "law.go:74", after := #[{ on := 17, ground := Go.Ground.data }, { on := 14, ground := Go.Ground.guard }], guard := some (14, false) } : Oper)
def oQuKnownLaw62 : Oper := ({ dst := some 155, op := Go.Op.call { callee := Go.Callee.value (Go.Operand.func 12), args := #[Go.Operand.const (Go.Value.string { data := #[97] })], argTypes := #[9] }, type := 28, pos := "law.go:74", after := #[{ on := 14, ground := Go.Ground.chain }, { on := 14, ground := Go.Ground.guard }], guard := some (14, false) } : Oper)
def oQuKnownLaw63 : Oper := ({ dst := some 156, op := Go.Op.call { callee := Go.Callee.value (Go.Operand.func 11), args := #[Go.Operand.tmp 154, Go.Operand.tmp 155], argTypes := #[23, 28] }, type := 4, pos := "law.go:74", after := #[{ on := 18, ground := Go.Ground.data }, { on := 19, ground := Go.Ground.data }, { on := 19, ground := Go.Ground.chain }, { on := 14, ground := Go.Ground.guard }], guard := some (14, false) } : Oper)
def oQuKnownLaw64 : Oper := ({ dst := some 157, op := Go.Op.pick (Go.Operand.tmp 150) (Go.Operand.const (Go.Value.bool true)) (Go.Operand.tmp 156), type := 4, pos := "law.go:74", after := #[{ on := 14, ground := Go.Ground.data }, { on := 20, ground := Go.Ground.data }], guard := none } : Oper)
def oQuKnownLaw65 : Oper := ({ dst := some 158, op := Go.Op.move (Go.Operand.tmp 157), type := 4, pos := "law.go:74", after := #[{ on := 21, ground := Go.Ground.data }, { on := 20, ground := Go.Ground.chain }], guard := none } : Oper)
def oQuKnownLaw66 : Oper := ({ dst := some 159, op := Go.Op.move (Go.Operand.tmp 10), type := 36, pos := "law.go:74", after := #[{ on := 22, ground := Go.Ground.guard }], guard := some (22, false) } : Oper)
def oQuKnownLaw67 : Oper := ({ dst := some 160, op := Go.Op.move (Go.Operand.tmp 11), type := 3, pos := "law.go:74", after := #[{ on := 22, ground := Go.Ground.guard }], guard := some (22, false) } : Oper)
def oQuKnownLaw68 : Oper := ({ dst := some 161, op := Go.Op.indexAddr 36 (Go.Operand.tmp 159) (Go.Operand.tmp 160), type := 0, pos := "law.go:74", after := #[{ on := 23, ground := Go.Ground.data }, { on := 24, ground := Go.Ground.data }, { on := 22, ground := Go.Ground.guard }], guard := some (22, false) } : Oper)
def oQuKnownLaw69 : Oper := ({ dst := some 162, op := Go.Op.load 23 (Go.Operand.tmp 161), type := 23, pos := "law.go:74", after := #[{ on := 25, ground := Go.Ground.data }, { on := 22, ground := Go.Ground.guard }], guard := some (22, false) } : Oper)
def oQuKnownLaw70 : Oper := ({ dst := some 163, op := Go.Op.call { callee := Go.Callee.value (Go.Operand.func 10), args := #[Go.Operand.tmp 162], argTypes := #[23] }, type := 3, pos := "law.go:74", after := #[{ on := 26, ground := Go.Ground.data }, { on := 22, ground := Go.Ground.chain }, { on := 22, ground := Go.Ground.guard }], guard := some (22, false) } : Oper)
def oQuKnownLaw71 : Oper := ({ dst := some 164, op := Go.Op.binOp Go.BinOp.neq 3 (Go.Operand.tmp 163) (Go.Operand.const (Go.Value.int Go.IntKind.i64 0)) 3, type := 4, pos := "law.go:74", after := #[{ on := 27, ground := Go.Ground.data }, { on := 22, ground := Go.Ground.guard }], guard := some (22, false) } : Oper)
def oQuKnownLaw72 : Oper := ({ dst := some 165, op := Go.Op.pick (Go.Operand.tmp 158) (Go.Operand.const (Go.Value.bool true)) (Go.Operand.tmp 164), type := 4, pos := "law.go:74", after := #[{ on := 22, ground := Go.Ground.data }, { on := 28, ground := Go.Ground.data }], guard := none } : Oper)
def oQuKnownLaw73 : Oper := ({ dst := some 166, op := Go.Op.move (Go.Operand.tmp 165), type := 4, pos := "law.go:74", after := #[{ on := 29, ground := Go.Ground.data }, { on := 27, ground := Go.Ground.chain }], guard := none } : Oper)
def oQuKnownLaw74 : Oper := ({ dst := some 167, op := Go.Op.move (Go.Operand.tmp 10), type := 36, pos := "law.go:74", after := #[{ on := 30, ground := Go.Ground.guard }], guard := some (30, false) } : Oper)
def oQuKnownLaw75 : Oper := ({ dst := some 168, op := Go.Op.move (Go.Operand.tmp 11), type := 3, pos := "law.go:74", after := #[{ on := 30, ground := Go.Ground.guard }], guard := some (30, false) } : Oper)
def oQuKnownLaw76 : Oper := ({ dst := some 169, op := Go.Op.indexAddr 36 (Go.Operand.tmp 167) (Go.Operand.tmp 168), type := 0, pos := "law.go:74", after := #[{ on := 31, ground := Go.Ground.data }, { on := 32, ground := Go.Ground.data }, { on := 30, ground := Go.Ground.guard }], guard := some (30, false) } : Oper)
def oQuKnownLaw77 : Oper := ({ dst := some 170, op := Go.Op.load 23 (Go.Operand.tmp 169), type := 23, pos := "law.go:74", after := #[{ on := 33, ground := Go.Ground.data }, { on := 30, ground := Go.Ground.guard }], guard := some (30, false) } : Oper)
def oQuKnownLaw78 : Oper := ({ dst := some 171, op := Go.Op.call { callee := Go.Callee.value (Go.Operand.func 9), args := #[Go.Operand.tmp 170], argTypes := #[23] }, type := 3, pos := "law.go:74", after := #[{ on := 34, ground := Go.Ground.data }, { on := 30, ground := Go.Ground.chain }, { on := 30, ground := Go.Ground.guard }], guard := some (30, false) } : Oper)
def oQuKnownLaw79 : Oper := ({ dst := some 172, op := Go.Op.binOp Go.BinOp.neq 3 (Go.Operand.tmp 171) (Go.Operand.const (Go.Value.int Go.IntKind.i64 0)) 3, type := 4, pos := "law.go:74", after := #[{ on := 35, ground := Go.Ground.data }, { on := 30, ground := Go.Ground.guard }], guard := some (30, false) } : Oper)
def oQuKnownLaw80 : Oper := ({ dst := some 173, op := Go.Op.pick (Go.Operand.tmp 166) (Go.Operand.const (Go.Value.bool true)) (Go.Operand.tmp 172), type := 4, pos := "law.go:74", after := #[{ on := 30, ground := Go.Ground.data }, { on := 36, ground := Go.Ground.data }], guard := none } : Oper)
def oQuKnownLaw81 : Oper := ({ dst := some 174, op := Go.Op.move (Go.Operand.tmp 173), type := 4, pos := "law.go:74", after := #[{ on := 37, ground := Go.Ground.data }, { on := 35, ground := Go.Ground.chain }], guard := none } : Oper)
def oQuKnownLaw82 : Oper := ({ dst := some 175, op := Go.Op.move (Go.Operand.tmp 10), type := 36, pos := "law.go:74", after := #[{ on := 38, ground := Go.Ground.guard }], guard := some (38, false) } : Oper)
def oQuKnownLaw83 : Oper := ({ dst := some 176, op := Go.Op.move (Go.Operand.tmp 11), type := 3, pos := "law.go:74", after := #[{ on := 38, ground := Go.Ground.guard }], guard := some (38, false) } : Oper)
def oQuKnownLaw84 : Oper := ({ dst := some 177, op := Go.Op.indexAddr 36 (Go.Operand.tmp 175) (Go.Operand.tmp 176), type := 0, pos := "law.go:74", after := #[{ on := 39, ground := Go.Ground.data }, { on := 40, ground := Go.Ground.data }, { on := 38, ground := Go.Ground.guard }], guard := some (38, false) } : Oper)
def oQuKnownLaw85 : Oper := ({ dst := some 178, op := Go.Op.load 23 (Go.Operand.tmp 177), type := 23, pos := "law.go:74", after := #[{ on := 41, ground := Go.Ground.data }, { on := 38, ground := Go.Ground.guard }], guard := some (38, false) } : Oper)
def oQuKnownLaw86 : Oper := ({ dst := some 179, op := Go.Op.call { callee := Go.Callee.value (Go.Operand.func 13), args := #[Go.Operand.tmp 178], argTypes := #[23] }, type := 30, pos := "law.go:74", after := #[{ on := 42, ground := Go.Ground.data }, { on := 38, ground := Go.Ground.chain }, { on := 38, ground := Go.Ground.guard }], guard := some (38, false) } : Oper)
def oQuKnownLaw87 : Oper := ({ dst := some 180, op := Go.Op.call { callee := Go.Callee.builtin Go.Builtin.len, args := #[Go.Operand.tmp 179], argTypes := #[30] }, type := 3, pos := "law.go:74", after := #[{ on := 43, ground := Go.Ground.data }, { on := 38, ground := Go.Ground.guard }], guard := some (38, false) } : Oper)
def oQuKnownLaw88 : Oper := ({ dst := some 181, op := Go.Op.binOp Go.BinOp.neq 3 (Go.Operand.tmp 180) (Go.Operand.const (Go.Value.int Go.IntKind.i64 0)) 3, type := 4, pos := "law.go:74", after := #[{ on := 44, ground := Go.Ground.data }, { on := 38, ground := Go.Ground.guard }], guard := some (38, false) } : Oper)
def oQuKnownLaw89 : Oper := ({ dst := some 182, op := Go.Op.pick (Go.Operand.tmp 174) (Go.Operand.const (Go.Value.bool true)) (Go.Operand.tmp 181), type := 4, pos := "law.go:74", after := #[{ on := 38, ground := Go.Ground.data }, { on := 45, ground := Go.Ground.data }], guard := none } : Oper)
end
open Go.RowKit Go.ChangeShapes Go.WideShapes Go.ChangeAt

def kM (j : Nat) : Ms := ([116], [], ((j % 251 : Nat) : Int), false)
def upL (k : Nat) : List Ms := (List.range k).map kM
def dnL (k M : Nat) : List Ms := (List.range' k (M - k)).map kM
theorem upL_len (k : Nat) : (upL k).length = k := by simp [upL]
theorem upL_push (k : Nat) : upL k ++ [kM k] = upL (k + 1) := by unfold upL; rw [List.range_succ, List.map_append]; rfl
theorem upL_all (M : Nat) : upL M = dnL 0 M := by unfold upL dnL; rw [List.range_eq_range', Nat.sub_zero]
theorem dnL_pop (k M : Nat) (h : k < M) : dnL k M = kM k :: dnL (k + 1) M := by
  unfold dnL
  rw [show M - k = (M - (k + 1)) + 1 by omega, List.range'_succ]
  rfl
theorem dnL_end (M : Nat) : dnL M M = [] := by unfold dnL; rw [Nat.sub_self]; rfl
def lims : List Int := [1, 2, 1023, 1024]
theorem lims_at {i : Nat} {x : Int} (h : lims[i]? = some x) : 1 ≤ x ∧ x ≤ 1024 := by
  have hm := List.mem_of_getElem? h
  unfold lims at hm
  simp at hm
  omega
/-- The row of what New has not made: nothing, and an empty one at z. -/
def BD (w : World) (bd z : Nat) : Prop := w.cell? ⟨bd, 0, none⟩ = some (.pointer none) ∧ w.cell? ⟨bd, 1, none⟩ = some (.pointer (some ⟨z, 0, none⟩)) ∧ bd ≠ z ∧ ∃ F, PQ w z F 0 [] ∧ ∀ b, F b → b = z
section
variable {w w' : World} {bd z : Nat} {p : Option Addr}
theorem BD.below (h : BD w bd z) (hb : Below w.heap.size w w') : BD w' bd z := by
  obtain ⟨h1, h2, h3, F, hP, hF⟩ := h
  exact ⟨(hb.cell (World.block_lt_of_cell? _ _ h1)).trans h1, (hb.cell (World.block_lt_of_cell? _ _ h2)).trans h2, h3, F, hP.below hb, hF⟩
theorem BD.at_ (h : BD w bd z) {i : Nat} (hi : i < 2) : ∃ p, w.cell? ⟨bd, i, none⟩ = some (.pointer p) ∧ ZX w z p := by
  obtain ⟨h1, h2, h3, F, hP, hF⟩ := h
  match i, hi with
  | 0, _ => exact ⟨none, h1, Or.inl rfl⟩
  | 1, _ => exact ⟨_, h2, Or.inr ⟨rfl, F, hP, hF⟩⟩
theorem BD.lt (h : BD w bd z) : z < w.heap.size := by
  obtain ⟨_, _, _, F, hP, _⟩ := h
  exact hP.lt z hP.root
theorem bdClear (h : BD w bd z) (hp : ZX w z p) : Calls Try.prog 16 #[.pointer p] w fun e w' => (∃ v, e = .returned v) ∧ BD w' bd z ∧ ZX w' z p ∧ Outs w w' (fun b => b = z) := by
  rcases hp with rfl | ⟨rfl, F, hP, hF⟩
  · exact (qClearN w).mono fun _ _ ⟨he, hw⟩ => ⟨he, hw ▸ h, Or.inl rfl, hw ▸ Outs.refl w _⟩
  · refine (qClear hP).mono fun _ w9 ⟨v, F', he, hP', hO, hF'⟩ => ?_
    have hO2 : Outs w w9 (fun b => b = z) := (Outs.refl w _).trans hO (fun b _ hb => hF b hb)
    have hF2 : ∀ b, F' b → b = z := fun b hb => hF b (hF' b hb)
    obtain ⟨h1, h2, h3, _⟩ := h
    exact ⟨⟨v, he⟩, ⟨hO2.cell _ _ h1 h3, hO2.cell _ _ h2 h3, h3, F', hP', hF2⟩, Or.inr ⟨rfl, F', hP', hF2⟩, hO2⟩
end
set_option maxHeartbeats 8000000 in
set_option maxRecDepth 100000 in
theorem walk (w : World) : Calls Try.prog 3 #[] w fun e w' => e = .returned (.bool true) ∧ Below w.heap.size w w' := by
  obtain ⟨w1, hw1⟩ : ∃ x, x = w.alloc (.cells #[.int .i64 1, .int .i64 2, .int .i64 1023, .int .i64 1024] 3) := ⟨_, rfl⟩
  have hb1 : Below w.heap.size w w1 := by rw [hw1]; exact below_alloc (Below.refl _ _) _
  have hI : Ints w1 (some ⟨w.heap.size, 0, none⟩) 4 lims := by
    refine ⟨rfl, fun _ => ⟨_, _, rfl, fun j x hx => ?_⟩⟩
    rw [hw1, Nat.zero_add, cell_of_row _ w.heap.size j _ _ (0, 0) (heap_alloc_new w _)]
    match j, hx with
    | 0, hx => simp [lims] at hx; subst hx; rfl
    | 1, hx => simp [lims] at hx; subst hx; rfl
    | 2, hx => simp [lims] at hx; subst hx; rfl
    | 3, hx => simp [lims] at hx; subst hx; rfl
    | j + 4, hx => simp [lims] at hx
  have HI := Lib.hid hI
  have HB1 := Lib.hid hb1
  obtain ⟨b, hb⟩ : ∃ b, b = w.heap.size := ⟨_, rfl⟩
  rw [← hb] at HI
  clear hI hb1
  go_enter Try.func3, Try.ntmps3
  go_wp2_with fail
  rw [← hw1, ← hb]
  clear hw1 hb
  go_loopw [2] (fun i wr => ∃ (i' : Nat), i = .int .i64 i' ∧ i' ≤ 4 ∧ Below w1.heap.size w1 wr) (fun i _ => 4 - (intOf i).toNat)
  case atStart => exact ⟨0, rfl, by omega, Below.refl _ _⟩
  case round =>
    obtain ⟨i, rfl, hi, hb⟩ := hrel
    by_cases hlt : i < 4
    · obtain ⟨M, hM, c1⟩ : ∃ M : Nat, (1 ≤ M ∧ M ≤ 1024) ∧ w1.cell? ⟨b, i, none⟩ = some (.int .i64 (M : Nat)) := by
        obtain ⟨b2, o2, x, e, hx, hc⟩ := HI.out.at_ hlt
        cases e
        obtain ⟨h1, h2⟩ := lims_at hx
        rw [Nat.zero_add] at hc
        exact ⟨x.toNat, ⟨by omega, by omega⟩, by rw [hc, Int.toNat_of_nonneg (by omega)]⟩
      have cr := (hb.cell (World.block_lt_of_cell? _ _ c1)).trans c1
      have hltI : (i : Int) < 4 := by omega
      go_wp2_with fail
      refine (xNew hb M hM.1 hM.2).mono ?_
      rintro e w2 ⟨t, F, rfl, hQ⟩
      have HQ := Lib.hid hQ
      clear hQ hb cr
      go_wp2_with fail
      go_loopw [4] (fun tn wr => ∃ (j : Nat) (F : Nat → Prop), tn = .int .i64 j ∧ j ≤ 2 ∧ QX w1 wr t F M []) (fun tn _ => 2 - (intOf tn).toNat)
      case atStart => exact ⟨0, F, rfl, by omega, HQ.out⟩
      case round =>
        clear HQ
        obtain ⟨j, F, rfl, hj, hQ⟩ := hrel
        have HQ := Lib.hid hQ
        clear hQ
        by_cases hj2 : j < 2
        · have hj2I : (j : Int) < 2 := by omega
          go_wp2_with fail
          go_loopw [5] (fun kn wr => ∃ (k : Nat) (F : Nat → Prop), kn = .int .i64 k ∧ k ≤ M ∧ QX w1 wr t F M (upL k)) (fun kn _ => M - (intOf kn).toNat)
          case atStart => exact ⟨0, F, rfl, by omega, HQ.out⟩
          case round =>
            clear HQ
            obtain ⟨k, F, rfl, hk, hQ⟩ := hrel
            have HQ := Lib.hid hQ
            clear hQ
            have cr := (HQ.out.b.cell (World.block_lt_of_cell? _ _ c1)).trans c1
            by_cases hkM : k < M
            · have hkMI : (k : Int) < (M : Int) := by omega
              obtain ⟨r, hr⟩ : ∃ r, k % 251 = r := ⟨_, rfl⟩
              obtain ⟨d, hd⟩ : ∃ d, M - k = d := ⟨_, rfl⟩
              have q1 : (k : Int) % 251 = (r : Int) := by omega
              have q2 : Int.tmod (k : Int) 251 = (r : Int) := by rw [Int.tmod_eq_emod_of_nonneg (by omega)]; exact q1
              have q3 : IntKind.u8.wrap (r : Int) = (r : Int) := IntWalk.u8_in _ (by omega)
              have q4 : (M : Int) - (k : Int) = (d : Int) := by omega
              have q5 : IntKind.i64.wrap (d : Int) = (d : Int) := IntWalk.i64_in _ (by omega)
              have HD : Hid (M - (upL k).length = d) := by show _ = _; rw [upL_len]; exact hd
              have HK : Hid (kM k = ([116], [], (r : Int), false)) := by show _ = _; unfold kM; rw [hr]
              clear hr hd
              go_wp2_with fail
              have HQ1 := Lib.hid (HQ.out.below (Below.refl _ _).drew)
              refine wp_region_held_drew (S := (fun w' => Below w1.heap.size w1 w')) (by kernel_rfl) (HQ.out.b.drew) (fun hHeld => ?_)
              refine tkY 0 oQuKnownLaw1 ?vv5_17_0 rfl (by kernel_rfl) (by kernel_rfl) (by kernel_rfl) (fun _ _ _ h => h) (by rfl) ?hy5_17_0 (by assumption) ?rest5_17_0
              case hy5_17_0 => (intro w hSw; unfold oQuKnownLaw1; (try dsimp only at hSw); (try go_split_ands); go_simp; all_goals with_reducible rfl)
              try simp only [oQuKnownLaw1, Act.put, sA, sB, sC]
              refine tkY 2 oQuKnownLaw2 ?vv5_17_2 rfl (by kernel_rfl) (by kernel_rfl) (by kernel_rfl) (fun _ _ _ h => h) (by rfl) ?hy5_17_2 (by assumption) ?rest5_17_2
              case hy5_17_2 => (intro w hSw; unfold oQuKnownLaw2; (try dsimp only at hSw); (try go_split_ands); go_simp; all_goals with_reducible rfl)
              try simp only [oQuKnownLaw2, Act.put, sA, sB, sC]
              refine tkY 3 oQuKnownLaw3 ?vv5_17_3 rfl (by kernel_rfl) (by kernel_rfl) (by kernel_rfl) (fun _ _ _ h => h) (by rfl) ?hy5_17_3 (by assumption) ?rest5_17_3
              case hy5_17_3 => (intro w hSw; unfold oQuKnownLaw3; (try dsimp only at hSw); (try go_split_ands); go_simp; all_goals with_reducible rfl)
              try simp only [oQuKnownLaw3, Act.put, sA, sB, sC]
              refine tkY 4 oQuKnownLaw4 ?vv5_17_4 rfl (by kernel_rfl) (by kernel_rfl) (by kernel_rfl) (fun _ _ _ h => h) (by rfl) ?hy5_17_4 (by assumption) ?rest5_17_4
              case hy5_17_4 => (intro w hSw; unfold oQuKnownLaw4; (try dsimp only at hSw); (try go_split_ands); go_simp; all_goals with_reducible rfl)
              try simp only [oQuKnownLaw4, Act.put, sA, sB, sC]
              refine tkY 5 oQuKnownLaw5 ?vv5_18_5 rfl (by kernel_rfl) (by kernel_rfl) (by kernel_rfl) (fun _ _ _ h => h) (by rfl) ?hy5_18_5 (by assumption) ?rest5_18_5
              case hy5_18_5 => (intro w hSw; unfold oQuKnownLaw5; (try dsimp only at hSw); have q9 := (hSw.cell (World.block_lt_of_cell? _ _ c1)).trans c1; clear hSw; go_simp; all_goals with_reducible rfl)
              try simp only [oQuKnownLaw5, Act.put, sA, sB, sC]
              refine tkY 6 oQuKnownLaw6 ?vv5_19_6 rfl (by kernel_rfl) (by kernel_rfl) (by kernel_rfl) (fun _ _ _ h => h) (by rfl) ?hy5_19_6 (by assumption) ?rest5_19_6
              case hy5_19_6 => (intro w hSw; unfold oQuKnownLaw6; (try dsimp only at hSw); (try go_split_ands); go_simp; all_goals with_reducible rfl)
              try simp only [oQuKnownLaw6, Act.put, sA, sB, sC]
              refine tkY 7 oQuKnownLaw7 ?vv5_19_7 rfl (by kernel_rfl) (by kernel_rfl) (by kernel_rfl) (fun _ _ _ h => h) (by rfl) ?hy5_19_7 (by assumption) ?rest5_19_7
              case hy5_19_7 => (intro w hSw; unfold oQuKnownLaw7; (try dsimp only at hSw); (try go_split_ands); go_simp; all_goals with_reducible rfl)
              try simp only [oQuKnownLaw7, Act.put, sA, sB, sC]
              refine wpAnyH_ready (rs := [1]) (by kernel_rfl) (by simp) ?_
              refine AllReadyH.cons (o := oQuKnownLaw8) rfl (fun K hK => ?_) AllReadyH.nil
              unfold oQuKnownLaw8
              go_simp
              (go_at_call 9; refine (xRoom HQ1.out d HD.out).mono ?_; rintro e w6 ⟨F6, rfl, hQ6, _⟩)
              refine hK.out _ _ ?_ (fun hHeld => ?_)
              · (exact hQ6.b)
              clear hK K
              try simp only [oQuKnownLaw8, Act.put, sA, sB, sC]
              have HQ6 := Lib.hid hQ6
              clear hQ6
              refine tkY 8 oQuKnownLaw9 ?vv5_20_8 rfl (by kernel_rfl) (by kernel_rfl) (by kernel_rfl) (fun _ _ _ h => h) (by rfl) ?hy5_20_8 (by assumption) ?rest5_20_8
              case hy5_20_8 => (intro w hSw; unfold oQuKnownLaw9; (try dsimp only at hSw); (try go_split_ands); go_simp; all_goals with_reducible rfl)
              try simp only [oQuKnownLaw9, Act.put, sA, sB, sC]
              refine tkY 9 oQuKnownLaw10 ?vv5_20_9 rfl (by kernel_rfl) (by kernel_rfl) (by kernel_rfl) (fun _ _ _ h => h) (by rfl) ?hy5_20_9 (by assumption) ?rest5_20_9
              case hy5_20_9 => (intro w hSw; unfold oQuKnownLaw10; (try dsimp only at hSw); (try go_split_ands); go_simp; all_goals with_reducible rfl)
              try simp only [oQuKnownLaw10, Act.put, sA, sB, sC]
              refine tkY 10 oQuKnownLaw11 ?vv5_20_10 rfl (by kernel_rfl) (by kernel_rfl) (by kernel_rfl) (fun _ _ _ h => h) (by rfl) ?hy5_20_10 (by assumption) ?rest5_20_10
              case hy5_20_10 => (intro w hSw; unfold oQuKnownLaw11; (try dsimp only at hSw); (try go_split_ands); go_simp; all_goals with_reducible rfl)
              try simp only [oQuKnownLaw11, Act.put, sA, sB, sC]
              refine tkY 12 oQuKnownLaw12 ?vv5_20_12 rfl (by kernel_rfl) (by kernel_rfl) (by kernel_rfl) (fun _ _ _ h => h) (by rfl) ?hy5_20_12 (by assumption) ?rest5_20_12
              case hy5_20_12 => (intro w hSw; unfold oQuKnownLaw12; (try dsimp only at hSw); (try go_split_ands); go_simp; all_goals with_reducible rfl)
              try simp only [oQuKnownLaw12, Act.put, sA, sB, sC]
              refine wpAnyH_ready (rs := [11]) (by kernel_rfl) (by simp) ?_
              refine AllReadyH.cons (o := oQuKnownLaw13) rfl (fun K hK => ?_) AllReadyH.nil
              unfold oQuKnownLaw13
              go_simp
              (go_at_call 10; refine (xLen HQ6.out k (upL_len k)).mono ?_; rintro e w7 ⟨F7, rfl, hQ7, _⟩)
              refine hK.out _ _ ?_ (fun hHeld => ?_)
              · (exact hQ7.b)
              clear hK K
              try simp only [oQuKnownLaw13, Act.put, sA, sB, sC]
              have HQ7 := Lib.hid hQ7
              clear hQ7
              refine tkY 13 oQuKnownLaw14 ?vv5_21_13 rfl (by kernel_rfl) (by kernel_rfl) (by kernel_rfl) (fun _ _ _ h => h) (by rfl) ?hy5_21_13 (by assumption) ?rest5_21_13
              case hy5_21_13 => (intro w hSw; unfold oQuKnownLaw14; (try dsimp only at hSw); (try go_split_ands); go_simp; all_goals with_reducible rfl)
              try simp only [oQuKnownLaw14, Act.put, sA, sB, sC]
              refine tkY 14 oQuKnownLaw15 ?vv5_21_14 rfl (by kernel_rfl) (by kernel_rfl) (by kernel_rfl) (fun _ _ _ h => h) (by rfl) ?hy5_21_14 (by assumption) ?rest5_21_14
              case hy5_21_14 => (intro w hSw; unfold oQuKnownLaw15; (try dsimp only at hSw); (try go_split_ands); go_simp; all_goals with_reducible rfl)
              try simp only [oQuKnownLaw15, Act.put, sA, sB, sC]
              refine tkY 15 oQuKnownLaw16 ?vv5_21_15 rfl (by kernel_rfl) (by kernel_rfl) (by kernel_rfl) (fun _ _ _ h => h) (by rfl) ?hy5_21_15 (by assumption) ?rest5_21_15
              case hy5_21_15 => (intro w hSw; unfold oQuKnownLaw16; (try dsimp only at hSw); (try go_split_ands); go_simp; all_goals with_reducible rfl)
              try simp only [oQuKnownLaw16, Act.put, sA, sB, sC]
              refine tkY 16 oQuKnownLaw17 ?vv5_21_16 rfl (by kernel_rfl) (by kernel_rfl) (by kernel_rfl) (fun _ _ _ h => h) (by rfl) ?hy5_21_16 (by assumption) ?rest5_21_16
              case hy5_21_16 => (intro w hSw; unfold oQuKnownLaw17; (try dsimp only at hSw); (try go_split_ands); go_simp; all_goals with_reducible rfl)
              try simp only [oQuKnownLaw17, Act.put, sA, sB, sC]
              refine tkY 17 oQuKnownLaw18 ?vv5_21_17 rfl (by kernel_rfl) (by kernel_rfl) (by kernel_rfl) (fun _ _ _ h => h) (by rfl) ?hy5_21_17 (by assumption) ?rest5_21_17
              case hy5_21_17 => (intro w hSw; unfold oQuKnownLaw18; (try dsimp only at hSw); (try go_split_ands); go_simp; all_goals with_reducible rfl)
              try simp only [oQuKnownLaw18, Act.put, sA, sB, sC]
              refine tkY 18 oQuKnownLaw19 ?vv5_21_18 rfl (by kernel_rfl) (by kernel_rfl) (by kernel_rfl) (fun _ _ _ h => h) (by rfl) ?hy5_21_18 (by assumption) ?rest5_21_18
              case hy5_21_18 => (intro w hSw; unfold oQuKnownLaw19; (try dsimp only at hSw); (try go_split_ands); go_simp; all_goals with_reducible rfl)
              try simp only [oQuKnownLaw19, Act.put, sA, sB, sC]
              refine tkY 19 oQuKnownLaw20 ?vv5_21_19 rfl (by kernel_rfl) (by kernel_rfl) (by kernel_rfl) (fun _ _ _ h => h) (by rfl) ?hy5_21_19 (by assumption) ?rest5_21_19
              case hy5_21_19 => (intro w hSw; unfold oQuKnownLaw20; (try dsimp only at hSw); (try go_split_ands); go_simp; all_goals with_reducible rfl)
              try simp only [oQuKnownLaw20, Act.put, sA, sB, sC]
              refine tkY 20 oQuKnownLaw21 ?vv5_21_20 rfl (by kernel_rfl) (by kernel_rfl) (by kernel_rfl) (fun _ _ _ h => h) (by rfl) ?hy5_21_20 (by assumption) ?rest5_21_20
              case hy5_21_20 => (intro w hSw; unfold oQuKnownLaw21; (try dsimp only at hSw); (try go_split_ands); go_simp; all_goals with_reducible rfl)
              try simp only [oQuKnownLaw21, Act.put, sA, sB, sC]
              refine wpAnyH_ready (rs := [21]) (by kernel_rfl) (by simp) ?_
              refine AllReadyH.cons (o := oQuKnownLaw22) rfl (fun K hK => ?_) AllReadyH.nil
              unfold oQuKnownLaw22
              go_simp
              (go_at_call 11; refine (xPush HQ7.out ([116], [], (r : Int), false) true (upL (k + 1)) (by show 1 ≤ _; omega) (Nat.zero_le _) (decide_eq_true (by rw [upL_len]; exact hkM)) (by rw [if_pos (by rw [upL_len]; exact hkM), ← HK.out]; exact upL_push k)).mono ?_; rintro e w8 ⟨F8, rfl, hQ8, _⟩)
              refine hK.out _ _ ?_ (fun hHeld => ?_)
              · (exact hQ8.b)
              clear hK K
              try simp only [oQuKnownLaw22, Act.put, sA, sB, sC]
              have HQ8 := Lib.hid hQ8
              clear hQ8
              refine tkY 22 oQuKnownLaw23 ?vv5_22_22 rfl (by kernel_rfl) (by kernel_rfl) (by kernel_rfl) (fun _ _ _ h => h) (by rfl) ?hy5_22_22 (by assumption) ?rest5_22_22
              case hy5_22_22 => (intro w hSw; unfold oQuKnownLaw23; (try dsimp only at hSw); (try go_split_ands); go_simp; all_goals with_reducible rfl)
              try simp only [oQuKnownLaw23, Act.put, sA, sB, sC]
              refine tkY 23 oQuKnownLaw24 ?vv5_22_23 rfl (by kernel_rfl) (by kernel_rfl) (by kernel_rfl) (fun _ _ _ h => h) (by rfl) ?hy5_22_23 (by assumption) ?rest5_22_23
              case hy5_22_23 => (intro w hSw; unfold oQuKnownLaw24; (try dsimp only at hSw); (try go_split_ands); go_simp; all_goals with_reducible rfl)
              try simp only [oQuKnownLaw24, Act.put, sA, sB, sC]
              refine wpAnyH_done (by kernel_rfl) ?_ _
              go_wp2_with fail
              go_roundw
              case rel => exact ⟨k + 1, F8, by go_num, by omega, HQ8.out⟩
              case measure => simp [intOf]; omega
            · have hkMI : ¬ (k : Int) < (M : Int) := by omega
              have hkeq : k = M := by omega
              rw [hkeq] at HQ
              have hul := upL_len M
              have HUL := Lib.hid hul
              clear hkeq
              go_wp2_with fail
              have HQ1 := Lib.hid (HQ.out.below (Below.refl _ _).drew)
              refine wp_region_held_drew (S := (fun w' => Below w1.heap.size w1 w')) (by kernel_rfl) (HQ.out.b.drew) (fun hHeld => ?_)
              clear HQ
              refine tkY 0 oQuKnownLaw25 ?vv6_23_0 rfl (by kernel_rfl) (by kernel_rfl) (by kernel_rfl) (fun _ _ _ h => h) (by rfl) ?hy6_23_0 (by assumption) ?rest6_23_0
              case hy6_23_0 => (intro w hSw; unfold oQuKnownLaw25; (try dsimp only at hSw); (try go_split_ands); go_simp; all_goals with_reducible rfl)
              try simp only [oQuKnownLaw25, Act.put, sA, sB, sC]
              refine wpAnyH_ready (rs := [1]) (by kernel_rfl) (by simp) ?_
              refine AllReadyH.cons (o := oQuKnownLaw26) rfl (fun K hK => ?_) AllReadyH.nil
              unfold oQuKnownLaw26
              go_simp
              (go_at_call 12; refine (message_any [109, 111, 114, 101] _).mono ?_; rintro e w5 ⟨rfl, hb6⟩)
              refine hK.out _ _ ?_ (fun hHeld => ?_)
              · (exact (HQ1.out.below hb6).b)
              clear hK K
              try simp only [oQuKnownLaw26, Act.put, sA, sB, sC]
              have HQ5 := Lib.hid (HQ1.out.below hb6)
              clear hb6 HQ1
              refine wpAnyH_ready (rs := [2]) (by kernel_rfl) (by simp) ?_
              refine AllReadyH.cons (o := oQuKnownLaw27) rfl (fun K hK => ?_) AllReadyH.nil
              unfold oQuKnownLaw27
              go_simp
              (go_at_call 11; refine (xPush HQ5.out ([109, 111, 114, 101], [], 0, false) false (upL M) (by decide) (by decide) (by rw [HUL.out]; simp) (by rw [HUL.out]; simp)).mono ?_; rintro e w6 ⟨F6, rfl, hQ6, _⟩)
              refine hK.out _ _ ?_ (fun hHeld => ?_)
              · (exact hQ6.b)
              clear hK K
              try simp only [oQuKnownLaw27, Act.put, sA, sB, sC]
              have HQ6 := Lib.hid hQ6
              clear hQ6 HQ5
              refine tkY 3 oQuKnownLaw28 ?vv6_24_3 rfl (by kernel_rfl) (by kernel_rfl) (by kernel_rfl) (fun _ _ _ h => h) (by rfl) ?hy6_24_3 (by assumption) ?rest6_24_3
              case hy6_24_3 => (intro w hSw; unfold oQuKnownLaw28; (try dsimp only at hSw); (try go_split_ands); go_simp; all_goals with_reducible rfl)
              try simp only [oQuKnownLaw28, Act.put, sA, sB, sC]
              refine tkY 4 oQuKnownLaw29 ?vv6_24_4 rfl (by kernel_rfl) (by kernel_rfl) (by kernel_rfl) (fun _ _ _ h => h) (by rfl) ?hy6_24_4 (by assumption) ?rest6_24_4
              case hy6_24_4 => (intro w hSw; unfold oQuKnownLaw29; (try dsimp only at hSw); (try go_split_ands); go_simp; all_goals with_reducible rfl)
              try simp only [oQuKnownLaw29, Act.put, sA, sB, sC]
              refine wpAnyH_ready (rs := [5]) (by kernel_rfl) (by simp) ?_
              refine AllReadyH.cons (o := oQuKnownLaw30) rfl (fun K hK => ?_) AllReadyH.nil
              unfold oQuKnownLaw30
              go_simp
              (go_at_call 9; refine (xRoom HQ6.out 0 (by rw [HUL.out]; omega)).mono ?_; rintro e w7 ⟨F7, rfl, hQ7, _⟩)
              refine hK.out _ _ ?_ (fun hHeld => ?_)
              · (exact hQ7.b)
              clear hK K
              try simp only [oQuKnownLaw30, Act.put, sA, sB, sC]
              have HQ7 := Lib.hid hQ7
              clear hQ7 HQ6
              refine tkY 6 oQuKnownLaw31 ?vv6_25_6 rfl (by kernel_rfl) (by kernel_rfl) (by kernel_rfl) (fun _ _ _ h => h) (by rfl) ?hy6_25_6 (by assumption) ?rest6_25_6
              case hy6_25_6 => (intro w hSw; unfold oQuKnownLaw31; (try dsimp only at hSw); (try go_split_ands); go_simp; all_goals with_reducible rfl)
              try simp only [oQuKnownLaw31, Act.put, sA, sB, sC]
              refine tkY 7 oQuKnownLaw32 ?vv6_25_7 rfl (by kernel_rfl) (by kernel_rfl) (by kernel_rfl) (fun _ _ _ h => h) (by rfl) ?hy6_25_7 (by assumption) ?rest6_25_7
              case hy6_25_7 => (intro w hSw; unfold oQuKnownLaw32; (try dsimp only at hSw); (try go_split_ands); go_simp; all_goals with_reducible rfl)
              try simp only [oQuKnownLaw32, Act.put, sA, sB, sC]
              refine tkY 8 oQuKnownLaw33 ?vv6_25_8 rfl (by kernel_rfl) (by kernel_rfl) (by kernel_rfl) (fun _ _ _ h => h) (by rfl) ?hy6_25_8 (by assumption) ?rest6_25_8
              case hy6_25_8 => (intro w hSw; unfold oQuKnownLaw33; (try dsimp only at hSw); (try go_split_ands); go_simp; all_goals with_reducible rfl)
              try simp only [oQuKnownLaw33, Act.put, sA, sB, sC]
              refine tkY 9 oQuKnownLaw34 ?vv6_25_9 rfl (by kernel_rfl) (by kernel_rfl) (by kernel_rfl) (fun _ _ _ h => h) (by rfl) ?hy6_25_9 (by assumption) ?rest6_25_9
              case hy6_25_9 => (intro w hSw; unfold oQuKnownLaw34; (try dsimp only at hSw); (try go_split_ands); go_simp; all_goals with_reducible rfl)
              try simp only [oQuKnownLaw34, Act.put, sA, sB, sC]
              refine tkY 12 oQuKnownLaw35 ?vv6_25_12 rfl (by kernel_rfl) (by kernel_rfl) (by kernel_rfl) (fun _ _ _ h => h) (by rfl) ?hy6_25_12 (by assumption) ?rest6_25_12
              case hy6_25_12 => (intro w hSw; unfold oQuKnownLaw35; (try dsimp only at hSw); (try go_split_ands); go_simp; all_goals with_reducible rfl)
              try simp only [oQuKnownLaw35, Act.put, sA, sB, sC]
              refine tkY 13 oQuKnownLaw36 ?vv6_25_13 rfl (by kernel_rfl) (by kernel_rfl) (by kernel_rfl) (fun _ _ _ h => h) (by rfl) ?hy6_25_13 (by assumption) ?rest6_25_13
              case hy6_25_13 => (intro w hSw; unfold oQuKnownLaw36; (try dsimp only at hSw); (try go_split_ands); go_simp; all_goals with_reducible rfl)
              try simp only [oQuKnownLaw36, Act.put, sA, sB, sC]
              refine tkY 14 oQuKnownLaw37 ?vv6_25_14 rfl (by kernel_rfl) (by kernel_rfl) (by kernel_rfl) (fun _ _ _ h => h) (by rfl) ?hy6_25_14 (by assumption) ?rest6_25_14
              case hy6_25_14 => (intro w hSw; unfold oQuKnownLaw37; (try dsimp only at hSw); (try go_split_ands); go_simp; all_goals with_reducible rfl)
              try simp only [oQuKnownLaw37, Act.put, sA, sB, sC]
              refine tkY 15 oQuKnownLaw38 ?vv6_26_15 rfl (by kernel_rfl) (by kernel_rfl) (by kernel_rfl) (fun _ _ _ h => h) (by rfl) ?hy6_26_15 (by assumption) ?rest6_26_15
              case hy6_26_15 => (intro w hSw; unfold oQuKnownLaw38; (try dsimp only at hSw); have q9 := (hSw.cell (World.block_lt_of_cell? _ _ c1)).trans c1; clear hSw; go_simp; all_goals with_reducible rfl)
              try simp only [oQuKnownLaw38, Act.put, sA, sB, sC]
              refine wpAnyH_ready (rs := [10]) (by kernel_rfl) (by simp) ?_
              refine AllReadyH.cons (o := oQuKnownLaw39) rfl (fun K hK => ?_) AllReadyH.nil
              unfold oQuKnownLaw39
              go_simp
              (go_at_call 13; refine (xAll HQ7.out).mono ?_; rintro e w8 hR; obtain ⟨A, cA, rfl, _, hQ8, _⟩ := QR.form HQ7.out hR)
              refine hK.out _ _ ?_ (fun hHeld => ?_)
              · (exact hQ8.b)
              clear hK K
              try simp only [oQuKnownLaw39, Act.put, sA, sB, sC]
              have HQ8 := Lib.hid hQ8
              clear hQ8 HQ7 hR
              refine tkY 11 oQuKnownLaw40 ?vv6_27_11 rfl (by kernel_rfl) (by kernel_rfl) (by kernel_rfl) (fun _ _ _ h => h) (by rfl) ?hy6_27_11 (by assumption) ?rest6_27_11
              case hy6_27_11 => (intro w hSw; unfold oQuKnownLaw40; (try dsimp only at hSw); (try go_split_ands); go_simp; all_goals with_reducible rfl)
              try simp only [oQuKnownLaw40, Act.put, sA, sB, sC]
              refine tkY 16 oQuKnownLaw41 ?vv6_27_16 rfl (by kernel_rfl) (by kernel_rfl) (by kernel_rfl) (fun _ _ _ h => h) (by rfl) ?hy6_27_16 (by assumption) ?rest6_27_16
              case hy6_27_16 => (intro w hSw; unfold oQuKnownLaw41; (try dsimp only at hSw); (try go_split_ands); go_simp; all_goals with_reducible rfl)
              try simp only [oQuKnownLaw41, Act.put, sA, sB, sC]
              refine tkY 17 oQuKnownLaw42 ?vv6_27_17 rfl (by kernel_rfl) (by kernel_rfl) (by kernel_rfl) (fun _ _ _ h => h) (by rfl) ?hy6_27_17 (by assumption) ?rest6_27_17
              case hy6_27_17 => (intro w hSw; unfold oQuKnownLaw42; (try dsimp only at hSw); (try go_split_ands); go_simp; all_goals with_reducible rfl)
              try simp only [oQuKnownLaw42, Act.put, sA, sB, sC]
              refine wpAnyH_done (by kernel_rfl) ?_ _
              have HQ9 : Hid (QX w1 w8 t F7 M (dnL 0 M)) := by show QX _ _ _ _ _ _; rw [← upL_all]; exact HQ8.out
              clear HQ8 hHeld hul
              go_wp2_with fail
              go_loopw [6] (fun kn wr => ∃ (k : Nat) (F : Nat → Prop), kn = .int .i64 k ∧ k ≤ M ∧ QX w1 wr t F M (dnL k M)) (fun kn _ => M - (intOf kn).toNat)
              case atStart => exact ⟨0, F7, rfl, by omega, HQ9.out⟩
              case round =>
                clear HQ9 HUL
                obtain ⟨k2, F, rfl, hk2, hQ⟩ := hrel
                have HQ := Lib.hid hQ
                clear hQ
                have cr := (HQ.out.b.cell (World.block_lt_of_cell? _ _ c1)).trans c1
                by_cases hkM2 : k2 < M
                · have hkMI2 : (k2 : Int) < (M : Int) := by omega
                  obtain ⟨r, hr⟩ : ∃ r, k2 % 251 = r := ⟨_, rfl⟩
                  have q1 : (k2 : Int) % 251 = (r : Int) := by omega
                  have q2 : Int.tmod (k2 : Int) 251 = (r : Int) := by rw [Int.tmod_eq_emod_of_nonneg (by omega)]; exact q1
                  have q3 : IntKind.u8.wrap (r : Int) = (r : Int) := IntWalk.u8_in _ (by omega)
                  have hself : eqM ([116], [], (r : Int), false) ([116], [], (r : Int), false) = true := by rw [eqM_iff]; exact beq_self_eq_true _
                  have hkk : kM k2 = ([116], [], (r : Int), false) := by unfold kM; rw [hr]
                  rw [dnL_pop k2 M hkM2, hkk] at HQ
                  clear hr hkk
                  go_wp2_with fail
                  refine (xPop HQ.out).mono ?_
                  rintro e w3 ⟨F3, rfl, hQ3, _⟩
                  replace hQ3 : QX w1 w3 t F3 M (dnL (k2 + 1) M) := hQ3
                  have HQ3 := Lib.hid hQ3
                  clear hQ3 HQ cr
                  rw [show pkV (([116], [], (r : Int), false) :: dnL (k2 + 1) M) = .tuple #[.agg #[.string ⟨#[116]⟩, .string ⟨#[]⟩, .int .u8 r, .bool false], .bool true] from rfl]
                  obtain ⟨W, hW⟩ : ∃ x, x = w3.alloc (.cells #[.string ⟨#[116]⟩, .string ⟨#[]⟩, .int .u8 r, .bool false] 28) := ⟨_, rfl⟩
                  have hbW : Below w3.heap.size w3 W := by rw [hW]; exact below_alloc (Below.refl _ _) _
                  have HQ4 := Lib.hid (HQ3.out.below hbW)
                  clear hbW HQ3
                  go_wp2_with fail
                  rw [← hW]
                  clear hW
                  go_roundw
                  case rel => exact ⟨k2 + 1, F3, by go_num, by omega, HQ4.out⟩
                  case measure => simp [intOf]; omega
                · have hkMI2 : ¬ (k2 : Int) < (M : Int) := by omega
                  have hkeq : k2 = M := by omega
                  rw [hkeq, dnL_end] at HQ
                  clear hkeq
                  go_wp2_with fail
                  go_roundw
                  case rel => exact ⟨j + 1, F, by go_num, by omega, HQ.out⟩
                  case measure => simp [intOf]; omega
        · have hj2I : ¬ (j : Int) < 2 := by omega
          go_wp2_with fail
          go_roundw
          case rel => exact ⟨i + 1, by go_num, by omega, HQ.out.b⟩
          case measure => simp [intOf]; omega
    · have hltI : ¬ (i : Int) < 4 := by omega
      obtain ⟨z, hz⟩ : ∃ z, z = wr.heap.size := ⟨_, rfl⟩
      obtain ⟨bd, hbd⟩ : ∃ bd, bd = wr.heap.size + 1 := ⟨_, rfl⟩
      obtain ⟨wz, hwz⟩ : ∃ x, x = (wr.alloc (.cells #[.int .i64 0, .slice none 0 0, .int .i64 0] 35)).alloc (.cells #[.pointer none, .pointer (some ⟨wr.heap.size, 0, none⟩)] 23) := ⟨_, rfl⟩
      have hbz : Below w.heap.size w wz := by
        rw [hwz]
        exact below_more (below_more HB1.out hb) (below_alloc (below_alloc (Below.refl _ _) _) _)
      have hzw : w.heap.size ≤ z := by have := HB1.out.size; have := hb.size; omega
      have hBD : BD wz bd z := by
        have e1 : (wr.alloc (.cells #[.int .i64 0, .slice none 0 0, .int .i64 0] 35)).heap.size = bd := by rw [hbd]; simp
        have h1 : wz.heap[bd]? = some (.cells #[.pointer none, .pointer (some ⟨z, 0, none⟩)] 23 (0, 0)) := by rw [hwz, hz, ← e1]; exact heap_alloc_new _ _
        refine ⟨cell_of_row wz bd 0 _ _ _ h1, cell_of_row wz bd 1 _ _ _ h1, by omega, fun b => b = z, zero_PQ ?_, fun b h => h⟩
        rw [hwz, hz]
        exact (Below.heap_alloc _ _ wr.heap.size (by simp)).trans (heap_alloc_new wr _)
      have HBD := Lib.hid hBD
      have HBZ := Lib.hid hbz
      clear hBD hbz hb
      go_wp2_with fail
      rw [← hwz, ← hbd]
      clear hwz hbd hz
      go_loopw [11] (fun i wr => ∃ (i' : Nat), i = .int .i64 i' ∧ i' ≤ 2 ∧ Below w.heap.size w wr ∧ BD wr bd z) (fun i _ => 2 - (intOf i).toNat)
      case atStart => exact ⟨0, rfl, by omega, HBZ.out, HBD.out⟩
      case round =>
        clear HBD HBZ
        obtain ⟨i2, rfl, hi2, hb, hBD⟩ := hrel
        have HBD := Lib.hid hBD
        have HB := Lib.hid hb
        clear hBD hb
        by_cases hl2 : i2 < 2
        · have hl2I : (i2 : Int) < 2 := by omega
          obtain ⟨p, cp, hp⟩ := HBD.out.at_ hl2
          have HP := Lib.hid hp
          clear hp
          go_wp2_with fail
          refine (qzPeek HP.out).mono ?_
          rintro e w3 ⟨rfl, hb3⟩
          rw [show pkV [] = .tuple #[.agg #[.string ⟨#[]⟩, .string ⟨#[]⟩, .int .u8 0, .bool false], .bool false] from rfl]
          obtain ⟨W3, hW3⟩ : ∃ x, x = w3.alloc (.cells #[.string ⟨#[]⟩, .string ⟨#[]⟩, .int .u8 0, .bool false] 28) := ⟨_, rfl⟩
          have hbW3 : Below w3.heap.size w3 W3 := by rw [hW3]; exact below_alloc (Below.refl _ _) _
          have hX : BxM W3 w3.heap.size nilMs := by rw [hW3]; exact BxM.new w3 nilMs
          replace hbW3 := below_more hb3 hbW3
          have cpA := (hb3.cell (World.block_lt_of_cell? _ _ cp)).trans cp
          have hneA : bd < _ := World.block_lt_of_cell? _ _ cpA
          have hxz : w3.heap.size ≠ z := fun e => by have := HBD.out.lt; have := hb3.size; omega
          obtain ⟨bx, hbx⟩ : ∃ x, x = w3.heap.size := ⟨_, rfl⟩
          rw [← hbx] at hX hxz
          have HX := Lib.hid hX
          have HBD3 := Lib.hid (HBD.out.below hbW3)
          have HP3 := Lib.hid (HP.out.below hbW3)
          have HB3 := Lib.hid (below_more HB.out hbW3)
          have cp3 := (hbW3.cell (World.block_lt_of_cell? _ _ cp)).trans cp
          have HXZ := Lib.hid hxz
          clear HBD HP HB hX hbW3 hb3 cp hxz
          go_wp2_with fail
          rw [← hW3, ← hbx]
          clear hW3 hbx cpA hneA
          refine (qzPop HP3.out).mono ?_
          rintro e w4 ⟨rfl, hb4⟩
          rw [show pkV [] = .tuple #[.agg #[.string ⟨#[]⟩, .string ⟨#[]⟩, .int .u8 0, .bool false], .bool false] from rfl]
          obtain ⟨W4, hW4⟩ : ∃ x, x = w4.alloc (.cells #[.string ⟨#[]⟩, .string ⟨#[]⟩, .int .u8 0, .bool false] 28) := ⟨_, rfl⟩
          have hbW4 : Below w4.heap.size w4 W4 := by rw [hW4]; exact below_alloc (Below.refl _ _) _
          have hY : BxM W4 w4.heap.size nilMs := by rw [hW4]; exact BxM.new w4 nilMs
          replace hbW4 := below_more hb4 hbW4
          have cpA := (hb4.cell (World.block_lt_of_cell? _ _ cp3)).trans cp3
          have hneA : bd < _ := World.block_lt_of_cell? _ _ cpA
          have hyz : w4.heap.size ≠ z := fun e => by have := HBD3.out.lt; have := hb4.size; omega
          obtain ⟨by', hby⟩ : ∃ x, x = w4.heap.size := ⟨_, rfl⟩
          rw [← hby] at hY hyz
          have HY := Lib.hid hY
          have HX4 := Lib.hid (HX.out.below hbW4)
          have HBD4 := Lib.hid (HBD3.out.below hbW4)
          have HP4 := Lib.hid (HP3.out.below hbW4)
          have HB4 := Lib.hid (below_more HB3.out hbW4)
          have cp4 := (hbW4.cell (World.block_lt_of_cell? _ _ cp3)).trans cp3
          have HYZ := Lib.hid hyz
          clear HX HBD3 HP3 HB3 hY hbW4 hb4 cp3 hyz
          go_wp2_with fail
          rw [← hW4, ← hby]
          clear hW4 hby cpA hneA
          refine (bdClear HBD4.out HP4.out).mono ?_
          rintro e w5 ⟨⟨v5, rfl⟩, hBD5, hP5, hO5⟩
          have X5 := HX4.out.outs hO5 HXZ.out
          have Y5 := HY.out.outs hO5 HYZ.out
          have x0 := X5.c0; have x1 := X5.c1; have x2 := X5.c2; have x3 := X5.c3
          have y0 := Y5.c0; have y1 := Y5.c1; have y2 := Y5.c2; have y3 := Y5.c3
          unfold nilMs at x0 x1 x2 x3 y0 y1 y2 y3
          dsimp only at x0 x1 x2 x3 y0 y1 y2 y3
          have cp5 := hO5.cell ⟨bd, i2, none⟩ _ cp4 hBD5.2.2.1
          have hself : eqM ([], [], 0, false) ([], [], 0, false) = true := rfl
          have hb5 : Below w.heap.size w w5 := HB4.out.trans (hO5.below (B := w.heap.size) (fun x _ hx => by have : x = z := hx; omega) HB4.out.size)
          have HBD5 := Lib.hid hBD5
          have HP5 := Lib.hid hP5
          have HB5 := Lib.hid hb5
          clear X5 Y5 hBD5 hP5 hO5 hb5 cp4 HX4 HY HBD4 HP4 HB4
          go_wp2_with fail
          refine wp_region_held_drew (S := (fun w' => Below w5.heap.size w5 w')) (by kernel_rfl) ((Below.refl _ _).drew) (fun hHeld => ?_)
          refine tkY 0 oQuKnownLaw43 ?vv7_28_0 rfl (by kernel_rfl) (by kernel_rfl) (by kernel_rfl) (fun _ _ _ h => h) (by rfl) ?hy7_28_0 (by assumption) ?rest7_28_0
          case hy7_28_0 => (intro w hSw; unfold oQuKnownLaw43; (try dsimp only at hSw); (try go_split_ands); go_simp; all_goals with_reducible rfl)
          try simp only [oQuKnownLaw43, Act.put, sA, sB, sC]
          refine tkY 1 oQuKnownLaw44 ?vv7_28_1 rfl (by kernel_rfl) (by kernel_rfl) (by kernel_rfl) (fun _ _ _ h => h) (by rfl) ?hy7_28_1 (by assumption) ?rest7_28_1
          case hy7_28_1 => (intro w hSw; unfold oQuKnownLaw44; (try dsimp only at hSw); (try go_split_ands); go_simp; all_goals with_reducible rfl)
          try simp only [oQuKnownLaw44, Act.put, sA, sB, sC]
          refine tkY 2 oQuKnownLaw45 ?vv7_28_2 rfl (by kernel_rfl) (by kernel_rfl) (by kernel_rfl) (fun _ _ _ h => h) (by rfl) ?hy7_28_2 (by assumption) ?rest7_28_2
          case hy7_28_2 => (intro w hSw; unfold oQuKnownLaw45; (try dsimp only at hSw); (try go_split_ands); go_simp; all_goals with_reducible rfl)
          try simp only [oQuKnownLaw45, Act.put, sA, sB, sC]
          refine tkY 3 oQuKnownLaw46 ?vv7_28_3 rfl (by kernel_rfl) (by kernel_rfl) (by kernel_rfl) (fun _ _ _ h => h) (by rfl) ?hy7_28_3 (by assumption) ?rest7_28_3
          case hy7_28_3 => (intro w hSw; unfold oQuKnownLaw46; (try dsimp only at hSw); (try go_split_ands); go_simp; all_goals with_reducible rfl)
          try simp only [oQuKnownLaw46, Act.put, sA, sB, sC]
          refine tkY 4 oQuKnownLaw47 ?vv7_28_4 rfl (by kernel_rfl) (by kernel_rfl) (by kernel_rfl) (fun _ _ _ h => h) (by rfl) ?hy7_28_4 (by assumption) ?rest7_28_4
          case hy7_28_4 => (intro w hSw; unfold oQuKnownLaw47; (try dsimp only at hSw); (try go_split_ands); go_simp; all_goals with_reducible rfl)
          try simp only [oQuKnownLaw47, Act.put, sA, sB, sC]
          refine tkY 5 oQuKnownLaw48 ?vv7_29_5 rfl (by kernel_rfl) (by kernel_rfl) (by kernel_rfl) (fun _ _ _ h => h) (by rfl) ?hy7_29_5 (by assumption) ?rest7_29_5
          case hy7_29_5 => (intro w hSw; unfold oQuKnownLaw48; (try dsimp only at hSw); have q0 := (hSw.cell (World.block_lt_of_cell? _ _ x0)).trans x0; have q1 := (hSw.cell (World.block_lt_of_cell? _ _ x1)).trans x1; have q2 := (hSw.cell (World.block_lt_of_cell? _ _ x2)).trans x2; have q3 := (hSw.cell (World.block_lt_of_cell? _ _ x3)).trans x3; clear hSw; go_simp; all_goals with_reducible rfl)
          try simp only [oQuKnownLaw48, Act.put, sA, sB, sC]
          refine tkY 6 oQuKnownLaw49 ?vv7_30_6 rfl (by kernel_rfl) (by kernel_rfl) (by kernel_rfl) (fun _ _ _ h => h) (by rfl) ?hy7_30_6 (by assumption) ?rest7_30_6
          case hy7_30_6 => (intro w hSw; unfold oQuKnownLaw49; (try dsimp only at hSw); (try go_split_ands); go_simp; all_goals with_reducible rfl)
          try simp only [oQuKnownLaw49, Act.put, sA, sB, sC]
          refine tkY 7 oQuKnownLaw50 ?vv7_30_7 rfl (by kernel_rfl) (by kernel_rfl) (by kernel_rfl) (fun _ _ _ h => h) (by rfl) ?hy7_30_7 (by assumption) ?rest7_30_7
          case hy7_30_7 => (intro w hSw; unfold oQuKnownLaw50; (try dsimp only at hSw); (try go_split_ands); go_simp; all_goals with_reducible rfl)
          try simp only [oQuKnownLaw50, Act.put, sA, sB, sC]
          refine tkY 8 oQuKnownLaw51 ?vv7_30_8 rfl (by kernel_rfl) (by kernel_rfl) (by kernel_rfl) (fun _ _ _ h => h) (by rfl) ?hy7_30_8 (by assumption) ?rest7_30_8
          case hy7_30_8 => (intro w hSw; unfold oQuKnownLaw51; (try dsimp only at hSw); (try go_split_ands); go_simp; all_goals with_reducible rfl)
          try simp only [oQuKnownLaw51, Act.put, sA, sB, sC]
          refine tkY 9 oQuKnownLaw52 ?vv7_30_9 rfl (by kernel_rfl) (by kernel_rfl) (by kernel_rfl) (fun _ _ _ h => h) (by rfl) ?hy7_30_9 (by assumption) ?rest7_30_9
          case hy7_30_9 => (intro w hSw; unfold oQuKnownLaw52; (try dsimp only at hSw); (try go_split_ands); go_simp; all_goals with_reducible rfl)
          try simp only [oQuKnownLaw52, Act.put, sA, sB, sC]
          refine tkY 10 oQuKnownLaw53 ?vv7_31_10 rfl (by kernel_rfl) (by kernel_rfl) (by kernel_rfl) (fun _ _ _ h => h) (by rfl) ?hy7_31_10 (by assumption) ?rest7_31_10
          case hy7_31_10 => (intro w hSw; unfold oQuKnownLaw53; (try dsimp only at hSw); have q0 := (hSw.cell (World.block_lt_of_cell? _ _ y0)).trans y0; have q1 := (hSw.cell (World.block_lt_of_cell? _ _ y1)).trans y1; have q2 := (hSw.cell (World.block_lt_of_cell? _ _ y2)).trans y2; have q3 := (hSw.cell (World.block_lt_of_cell? _ _ y3)).trans y3; clear hSw; go_simp; all_goals with_reducible rfl)
          try simp only [oQuKnownLaw53, Act.put, sA, sB, sC]
          refine tkY 11 oQuKnownLaw54 ?vv7_32_11 rfl (by kernel_rfl) (by kernel_rfl) (by kernel_rfl) (fun _ _ _ h => h) (by rfl) ?hy7_32_11 (by assumption) ?rest7_32_11
          case hy7_32_11 => (intro w hSw; unfold oQuKnownLaw54; (try dsimp only at hSw); have q0 := (hSw.cell (World.block_lt_of_cell? _ _ x0)).trans x0; have q1 := (hSw.cell (World.block_lt_of_cell? _ _ x1)).trans x1; have q2 := (hSw.cell (World.block_lt_of_cell? _ _ x2)).trans x2; have q3 := (hSw.cell (World.block_lt_of_cell? _ _ x3)).trans x3; clear hSw; go_simp; all_goals with_reducible rfl)
          try simp only [oQuKnownLaw54, Act.put, sA, sB, sC]
          refine tkY 12 oQuKnownLaw55 ?vv7_33_12 rfl (by kernel_rfl) (by kernel_rfl) (by kernel_rfl) (fun _ _ _ h => h) (by rfl) ?hy7_33_12 (by assumption) ?rest7_33_12
          case hy7_33_12 => (intro w hSw; unfold oQuKnownLaw55; (try dsimp only at hSw); (try go_split_ands); go_simp; all_goals with_reducible rfl)
          try simp only [oQuKnownLaw55, Act.put, sA, sB, sC]
          refine tkY 13 oQuKnownLaw56 ?vv7_33_13 rfl (by kernel_rfl) (by kernel_rfl) (by kernel_rfl) (fun _ _ _ h => h) (by rfl) ?hy7_33_13 (by assumption) ?rest7_33_13
          case hy7_33_13 => (intro w hSw; unfold oQuKnownLaw56; (try dsimp only at hSw); (try go_split_ands); go_simp; all_goals with_reducible rfl)
          try simp only [oQuKnownLaw56, Act.put, sA, sB, sC]
          refine tkY 14 oQuKnownLaw57 ?vv7_33_14 rfl (by kernel_rfl) (by kernel_rfl) (by kernel_rfl) (fun _ _ _ h => h) (by rfl) ?hy7_33_14 (by assumption) ?rest7_33_14
          case hy7_33_14 => (intro w hSw; unfold oQuKnownLaw57; (try dsimp only at hSw); (try go_split_ands); go_simp; all_goals with_reducible rfl)
          try simp only [oQuKnownLaw57, Act.put, sA, sB, sC]
          refine tkY 15 oQuKnownLaw58 ?vv7_33_15 rfl (by kernel_rfl) (by kernel_rfl) (by kernel_rfl) (fun _ _ _ h => h) (by rfl) ?hy7_33_15 (by assumption) ?rest7_33_15
          case hy7_33_15 => (intro w hSw; unfold oQuKnownLaw58; (try dsimp only at hSw); (try go_split_ands); go_simp; all_goals with_reducible rfl)
          try simp only [oQuKnownLaw58, Act.put, sA, sB, sC]
          refine tkY 16 oQuKnownLaw59 ?vv7_33_16 rfl (by kernel_rfl) (by kernel_rfl) (by kernel_rfl) (fun _ _ _ h => h) (by rfl) ?hy7_33_16 (by assumption) ?rest7_33_16
          case hy7_33_16 => (intro w hSw; unfold oQuKnownLaw59; (try dsimp only at hSw); (try go_split_ands); go_simp; all_goals with_reducible rfl)
          try simp only [oQuKnownLaw59, Act.put, sA, sB, sC]
          refine tkY 17 oQuKnownLaw60 ?vv7_33_17 rfl (by kernel_rfl) (by kernel_rfl) (by kernel_rfl) (fun _ _ _ h => h) (by rfl) ?hy7_33_17 (by assumption) ?rest7_33_17
          case hy7_33_17 => (intro w hSw; unfold oQuKnownLaw60; (try dsimp only at hSw); (try go_split_ands); go_simp; all_goals with_reducible rfl)
          try simp only [oQuKnownLaw60, Act.put, sA, sB, sC]
          refine tkY 18 oQuKnownLaw61 ?vv7_34_18 rfl (by kernel_rfl) (by kernel_rfl) (by kernel_rfl) (fun _ _ _ h => h) (by rfl) ?hy7_34_18 (by assumption) ?rest7_34_18
          case hy7_34_18 => (intro w hSw; unfold oQuKnownLaw61; (try dsimp only at hSw); have q0 := (hSw.cell (World.block_lt_of_cell? _ _ cp5)).trans cp5; clear hSw; go_simp; all_goals with_reducible rfl)
          try simp only [oQuKnownLaw61, Act.put, sA, sB, sC]
          refine wpAnyH_ready (rs := [19]) (by kernel_rfl) (by simp) ?_
          refine AllReadyH.cons (o := oQuKnownLaw62) rfl (fun K hK => ?_) AllReadyH.nil
          unfold oQuKnownLaw62
          go_simp
          (go_at_call 12; refine (message_any [97] _).mono ?_; rintro e w6 ⟨rfl, hb6⟩)
          refine hK.out _ _ ?_ (fun hHeld => ?_)
          · (exact below_more hHeld hb6)
          clear hK K
          try simp only [oQuKnownLaw62, Act.put, sA, sB, sC]
          refine wpAnyH_ready (rs := [20]) (by kernel_rfl) (by simp) ?_
          refine AllReadyH.cons (o := oQuKnownLaw63) rfl (fun K hK => ?_) AllReadyH.nil
          unfold oQuKnownLaw63
          go_simp
          (go_at_call 11; refine (qzPush (HP5.out.below hHeld) ([97], [], 0, false)).mono ?_; rintro e w7 ⟨rfl, hb6⟩)
          refine hK.out _ _ ?_ (fun hHeld => ?_)
          · (exact below_more hHeld hb6)
          clear hK K
          try simp only [oQuKnownLaw63, Act.put, sA, sB, sC]
          refine tkY 21 oQuKnownLaw64 ?vv7_35_21 rfl (by kernel_rfl) (by kernel_rfl) (by kernel_rfl) (fun _ _ _ h => h) (by rfl) ?hy7_35_21 (by assumption) ?rest7_35_21
          case hy7_35_21 => (intro w hSw; unfold oQuKnownLaw64; (try dsimp only at hSw); (try go_split_ands); go_simp; all_goals with_reducible rfl)
          try simp only [oQuKnownLaw64, Act.put, sA, sB, sC]
          refine tkY 22 oQuKnownLaw65 ?vv7_35_22 rfl (by kernel_rfl) (by kernel_rfl) (by kernel_rfl) (fun _ _ _ h => h) (by rfl) ?hy7_35_22 (by assumption) ?rest7_35_22
          case hy7_35_22 => (intro w hSw; unfold oQuKnownLaw65; (try dsimp only at hSw); (try go_split_ands); go_simp; all_goals with_reducible rfl)
          try simp only [oQuKnownLaw65, Act.put, sA, sB, sC]
          refine tkY 23 oQuKnownLaw66 ?vv7_35_23 rfl (by kernel_rfl) (by kernel_rfl) (by kernel_rfl) (fun _ _ _ h => h) (by rfl) ?hy7_35_23 (by assumption) ?rest7_35_23
          case hy7_35_23 => (intro w hSw; unfold oQuKnownLaw66; (try dsimp only at hSw); (try go_split_ands); go_simp; all_goals with_reducible rfl)
          try simp only [oQuKnownLaw66, Act.put, sA, sB, sC]
          refine tkY 24 oQuKnownLaw67 ?vv7_35_24 rfl (by kernel_rfl) (by kernel_rfl) (by kernel_rfl) (fun _ _ _ h => h) (by rfl) ?hy7_35_24 (by assumption) ?rest7_35_24
          case hy7_35_24 => (intro w hSw; unfold oQuKnownLaw67; (try dsimp only at hSw); (try go_split_ands); go_simp; all_goals with_reducible rfl)
          try simp only [oQuKnownLaw67, Act.put, sA, sB, sC]
          refine tkY 25 oQuKnownLaw68 ?vv7_35_25 rfl (by kernel_rfl) (by kernel_rfl) (by kernel_rfl) (fun _ _ _ h => h) (by rfl) ?hy7_35_25 (by assumption) ?rest7_35_25
          case hy7_35_25 => (intro w hSw; unfold oQuKnownLaw68; (try dsimp only at hSw); (try go_split_ands); go_simp; all_goals with_reducible rfl)
          try simp only [oQuKnownLaw68, Act.put, sA, sB, sC]
          refine tkY 26 oQuKnownLaw69 ?vv7_36_26 rfl (by kernel_rfl) (by kernel_rfl) (by kernel_rfl) (fun _ _ _ h => h) (by rfl) ?hy7_36_26 (by assumption) ?rest7_36_26
          case hy7_36_26 => (intro w hSw; unfold oQuKnownLaw69; (try dsimp only at hSw); have q0 := (hSw.cell (World.block_lt_of_cell? _ _ cp5)).trans cp5; clear hSw; go_simp; all_goals with_reducible rfl)
          try simp only [oQuKnownLaw69, Act.put, sA, sB, sC]
          refine wpAnyH_ready (rs := [27]) (by kernel_rfl) (by simp) ?_
          refine AllReadyH.cons (o := oQuKnownLaw70) rfl (fun K hK => ?_) AllReadyH.nil
          unfold oQuKnownLaw70
          go_simp
          (go_at_call 10; refine (qzLen (HP5.out.below hHeld)).mono ?_; rintro e w8 ⟨rfl, hb6⟩)
          refine hK.out _ _ ?_ (fun hHeld => ?_)
          · (exact below_more hHeld hb6)
          clear hK K
          try simp only [oQuKnownLaw70, Act.put, sA, sB, sC]
          refine tkY 28 oQuKnownLaw71 ?vv7_37_28 rfl (by kernel_rfl) (by kernel_rfl) (by kernel_rfl) (fun _ _ _ h => h) (by rfl) ?hy7_37_28 (by assumption) ?rest7_37_28
          case hy7_37_28 => (intro w hSw; unfold oQuKnownLaw71; (try dsimp only at hSw); (try go_split_ands); go_simp; all_goals with_reducible rfl)
          try simp only [oQuKnownLaw71, Act.put, sA, sB, sC]
          refine tkY 29 oQuKnownLaw72 ?vv7_37_29 rfl (by kernel_rfl) (by kernel_rfl) (by kernel_rfl) (fun _ _ _ h => h) (by rfl) ?hy7_37_29 (by assumption) ?rest7_37_29
          case hy7_37_29 => (intro w hSw; unfold oQuKnownLaw72; (try dsimp only at hSw); (try go_split_ands); go_simp; all_goals with_reducible rfl)
          try simp only [oQuKnownLaw72, Act.put, sA, sB, sC]
          refine tkY 30 oQuKnownLaw73 ?vv7_37_30 rfl (by kernel_rfl) (by kernel_rfl) (by kernel_rfl) (fun _ _ _ h => h) (by rfl) ?hy7_37_30 (by assumption) ?rest7_37_30
          case hy7_37_30 => (intro w hSw; unfold oQuKnownLaw73; (try dsimp only at hSw); (try go_split_ands); go_simp; all_goals with_reducible rfl)
          try simp only [oQuKnownLaw73, Act.put, sA, sB, sC]
          refine tkY 31 oQuKnownLaw74 ?vv7_37_31 rfl (by kernel_rfl) (by kernel_rfl) (by kernel_rfl) (fun _ _ _ h => h) (by rfl) ?hy7_37_31 (by assumption) ?rest7_37_31
          case hy7_37_31 => (intro w hSw; unfold oQuKnownLaw74; (try dsimp only at hSw); (try go_split_ands); go_simp; all_goals with_reducible rfl)
          try simp only [oQuKnownLaw74, Act.put, sA, sB, sC]
          refine tkY 32 oQuKnownLaw75 ?vv7_37_32 rfl (by kernel_rfl) (by kernel_rfl) (by kernel_rfl) (fun _ _ _ h => h) (by rfl) ?hy7_37_32 (by assumption) ?rest7_37_32
          case hy7_37_32 => (intro w hSw; unfold oQuKnownLaw75; (try dsimp only at hSw); (try go_split_ands); go_simp; all_goals with_reducible rfl)
          try simp only [oQuKnownLaw75, Act.put, sA, sB, sC]
          refine tkY 33 oQuKnownLaw76 ?vv7_37_33 rfl (by kernel_rfl) (by kernel_rfl) (by kernel_rfl) (fun _ _ _ h => h) (by rfl) ?hy7_37_33 (by assumption) ?rest7_37_33
          case hy7_37_33 => (intro w hSw; unfold oQuKnownLaw76; (try dsimp only at hSw); (try go_split_ands); go_simp; all_goals with_reducible rfl)
          try simp only [oQuKnownLaw76, Act.put, sA, sB, sC]
          refine tkY 34 oQuKnownLaw77 ?vv7_38_34 rfl (by kernel_rfl) (by kernel_rfl) (by kernel_rfl) (fun _ _ _ h => h) (by rfl) ?hy7_38_34 (by assumption) ?rest7_38_34
          case hy7_38_34 => (intro w hSw; unfold oQuKnownLaw77; (try dsimp only at hSw); have q0 := (hSw.cell (World.block_lt_of_cell? _ _ cp5)).trans cp5; clear hSw; go_simp; all_goals with_reducible rfl)
          try simp only [oQuKnownLaw77, Act.put, sA, sB, sC]
          refine wpAnyH_ready (rs := [35]) (by kernel_rfl) (by simp) ?_
          refine AllReadyH.cons (o := oQuKnownLaw78) rfl (fun K hK => ?_) AllReadyH.nil
          unfold oQuKnownLaw78
          go_simp
          (go_at_call 9; refine (qzRoom (HP5.out.below hHeld)).mono ?_; rintro e w9 ⟨rfl, hb6⟩)
          refine hK.out _ _ ?_ (fun hHeld => ?_)
          · (exact below_more hHeld hb6)
          clear hK K
          try simp only [oQuKnownLaw78, Act.put, sA, sB, sC]
          refine tkY 36 oQuKnownLaw79 ?vv7_39_36 rfl (by kernel_rfl) (by kernel_rfl) (by kernel_rfl) (fun _ _ _ h => h) (by rfl) ?hy7_39_36 (by assumption) ?rest7_39_36
          case hy7_39_36 => (intro w hSw; unfold oQuKnownLaw79; (try dsimp only at hSw); (try go_split_ands); go_simp; all_goals with_reducible rfl)
          try simp only [oQuKnownLaw79, Act.put, sA, sB, sC]
          refine tkY 37 oQuKnownLaw80 ?vv7_39_37 rfl (by kernel_rfl) (by kernel_rfl) (by kernel_rfl) (fun _ _ _ h => h) (by rfl) ?hy7_39_37 (by assumption) ?rest7_39_37
          case hy7_39_37 => (intro w hSw; unfold oQuKnownLaw80; (try dsimp only at hSw); (try go_split_ands); go_simp; all_goals with_reducible rfl)
          try simp only [oQuKnownLaw80, Act.put, sA, sB, sC]
          refine tkY 38 oQuKnownLaw81 ?vv7_39_38 rfl (by kernel_rfl) (by kernel_rfl) (by kernel_rfl) (fun _ _ _ h => h) (by rfl) ?hy7_39_38 (by assumption) ?rest7_39_38
          case hy7_39_38 => (intro w hSw; unfold oQuKnownLaw81; (try dsimp only at hSw); (try go_split_ands); go_simp; all_goals with_reducible rfl)
          try simp only [oQuKnownLaw81, Act.put, sA, sB, sC]
          refine tkY 39 oQuKnownLaw82 ?vv7_39_39 rfl (by kernel_rfl) (by kernel_rfl) (by kernel_rfl) (fun _ _ _ h => h) (by rfl) ?hy7_39_39 (by assumption) ?rest7_39_39
          case hy7_39_39 => (intro w hSw; unfold oQuKnownLaw82; (try dsimp only at hSw); (try go_split_ands); go_simp; all_goals with_reducible rfl)
          try simp only [oQuKnownLaw82, Act.put, sA, sB, sC]
          refine tkY 40 oQuKnownLaw83 ?vv7_39_40 rfl (by kernel_rfl) (by kernel_rfl) (by kernel_rfl) (fun _ _ _ h => h) (by rfl) ?hy7_39_40 (by assumption) ?rest7_39_40
          case hy7_39_40 => (intro w hSw; unfold oQuKnownLaw83; (try dsimp only at hSw); (try go_split_ands); go_simp; all_goals with_reducible rfl)
          try simp only [oQuKnownLaw83, Act.put, sA, sB, sC]
          refine tkY 41 oQuKnownLaw84 ?vv7_39_41 rfl (by kernel_rfl) (by kernel_rfl) (by kernel_rfl) (fun _ _ _ h => h) (by rfl) ?hy7_39_41 (by assumption) ?rest7_39_41
          case hy7_39_41 => (intro w hSw; unfold oQuKnownLaw84; (try dsimp only at hSw); (try go_split_ands); go_simp; all_goals with_reducible rfl)
          try simp only [oQuKnownLaw84, Act.put, sA, sB, sC]
          refine tkY 42 oQuKnownLaw85 ?vv7_40_42 rfl (by kernel_rfl) (by kernel_rfl) (by kernel_rfl) (fun _ _ _ h => h) (by rfl) ?hy7_40_42 (by assumption) ?rest7_40_42
          case hy7_40_42 => (intro w hSw; unfold oQuKnownLaw85; (try dsimp only at hSw); have q0 := (hSw.cell (World.block_lt_of_cell? _ _ cp5)).trans cp5; clear hSw; go_simp; all_goals with_reducible rfl)
          try simp only [oQuKnownLaw85, Act.put, sA, sB, sC]
          refine wpAnyH_ready (rs := [43]) (by kernel_rfl) (by simp) ?_
          refine AllReadyH.cons (o := oQuKnownLaw86) rfl (fun K hK => ?_) AllReadyH.nil
          unfold oQuKnownLaw86
          go_simp
          (go_at_call 13; refine (qzAll (HP5.out.below hHeld)).mono ?_; rintro e w10 ⟨v10, rfl, hr10, hb6⟩; obtain ⟨A10, c10, rfl, _⟩ := mrow_form hr10)
          refine hK.out _ _ ?_ (fun hHeld => ?_)
          · (exact below_more hHeld hb6)
          clear hK K
          try simp only [oQuKnownLaw86, Act.put, sA, sB, sC]
          refine tkY 44 oQuKnownLaw87 ?vv7_41_44 rfl (by kernel_rfl) (by kernel_rfl) (by kernel_rfl) (fun _ _ _ h => h) (by rfl) ?hy7_41_44 (by assumption) ?rest7_41_44
          case hy7_41_44 => (intro w hSw; unfold oQuKnownLaw87; (try dsimp only at hSw); (try go_split_ands); go_simp; all_goals with_reducible rfl)
          try simp only [oQuKnownLaw87, Act.put, sA, sB, sC]
          refine tkY 45 oQuKnownLaw88 ?vv7_41_45 rfl (by kernel_rfl) (by kernel_rfl) (by kernel_rfl) (fun _ _ _ h => h) (by rfl) ?hy7_41_45 (by assumption) ?rest7_41_45
          case hy7_41_45 => (intro w hSw; unfold oQuKnownLaw88; (try dsimp only at hSw); (try go_split_ands); go_simp; all_goals with_reducible rfl)
          try simp only [oQuKnownLaw88, Act.put, sA, sB, sC]
          refine tkY 46 oQuKnownLaw89 ?vv7_41_46 rfl (by kernel_rfl) (by kernel_rfl) (by kernel_rfl) (fun _ _ _ h => h) (by rfl) ?hy7_41_46 (by assumption) ?rest7_41_46
          case hy7_41_46 => (intro w hSw; unfold oQuKnownLaw89; (try dsimp only at hSw); (try go_split_ands); go_simp; all_goals with_reducible rfl)
          try simp only [oQuKnownLaw89, Act.put, sA, sB, sC]
          refine wpAnyH_done (by kernel_rfl) ?_ _
          have HBDn := Lib.hid (HBD5.out.below hHeld)
          have HBn := Lib.hid (below_more HB5.out hHeld)
          clear HBD5 HP5 HB5 hHeld x0 x1 x2 x3 y0 y1 y2 y3 cp5
          go_wp2_with fail
          go_roundw
          case rel => exact ⟨i2 + 1, by go_num, by omega, HBn.out, HBDn.out⟩
          case measure => simp [intOf]; omega
        · have hl2I : ¬ (i2 : Int) < 2 := by omega
          go_wp2_with fail
          refine (qNewN _ (-9223372036854775808) (by omega)).mono ?_
          rintro e w3 ⟨rfl, rfl⟩
          go_wp2_with fail
          refine (qNewN _ 9223372036854775807 (by omega)).mono ?_
          rintro e w4 ⟨rfl, rfl⟩
          go_wp2_with fail
          refine (awake12_any _).mono ?_
          rintro e w5 ⟨rfl, hb5⟩
          go_wp2_with fail
          go_ret
          exact ⟨rfl, below_more HB.out hb5⟩
set_option maxRecDepth 100000 in
theorem lifted (os : Os) (started : os.Started) (H : Type) (enc : TypeId × Value → H) :
    ReturnsInHanded {} Try.checked os 3 .any (Rows.queueKnownSpec.pre6 enc Try.prog Try.f3 Rows.queueKnownRow.domain false) (Rows.queueKnownSpec.post enc Try.prog Try.f3 false true false false) := by
  refine returnsInHanded_of_change (C := Try.checked) own_none started (by kernel_rfl) Try.func3
    (ChangeSpec.witness6 (enc := enc) (C := Try.checked) false ⟨#[], #[], []⟩ 8 (by kernel_rfl) (by kernel_rfl) (by kernel_rfl) (by kernel_rfl)) ?_
  intro W base args ds gs before hval0 hW hcnd _
  have hval : ∀ (j : Nat) t v, Try.f3.params[j]? = some t → args[j]? = some v → Value.okWide Try.prog W .any base t v := hval0
  have hWk := hW
  obtain ⟨p, q, hA0, hV, hbef, _, _⟩ := hWk
  have hA : DataW.TrodAll enc Try.prog W 0 (fun _ => true) true Try.f3.params.toList args.toList ds p := hA0
  obtain ⟨rfl, rfl⟩ := trodVars_none hV
  rw [Try.params3] at hA hval
  obtain ⟨hargs, rfl, hpn⟩ := trodAll_nil hA
  obtain rfl : args = #[] := by cases args; simp_all
  refine (walk W ).mono fun e W' ⟨he, hg⟩ => ?_
  subst he
  exact ⟨_, rfl, law_post laid_out (by kernel_rfl) rfl (by kernel_rfl) Try.underlying4 hW rfl hg⟩

theorem over : Rows.queueKnownRow.holds Try.pinned (OpenSpec.ofChange Rows.queueKnownSpec) :=
  OpenClaim.holds_of_wide 3 Try.f3 rfl rfl rfl rfl rfl rfl rfl ⟨rfl, rfl, rfl, rfl, rfl⟩ rfl rfl rfl rfl rfl (by kernel_rfl) Try.func3 (by kernel_rfl)
    (of_decide_eq_true (by kernel_rfl)) (by unfold Func.isWrapper; first | (rw [if_pos (by decide +kernel)]; kernel_rfl) | (rw [if_neg (by decide +kernel)]; exact ⟨rfl, rfl⟩))
    (fun os started H enc _ => lifted os started H enc)

/-- THE STATEMENT. -/
theorem proved : Rows.QueueKnownSaid :=
  over
end Go.Proofs.Ytihgikhnkkmhhaa.lawQueueKnown
