/-
  trie: the document's own answers: Add to a trie without hints; Add, all of it.
-/
import Derived.Test.YtipdmfnkkkdlbaaGreatDoorTrAdd2
set_option linter.unusedSimpArgs false
set_option linter.unusedVariables false
namespace Go.Proofs.YtipdmfnkkkdlbaaGreatDoor
section
open Go.RowKit
def oTrAdd31 : Oper := ({ dst := some 20, op := Go.Op.move (Go.Operand.tmp 8), type := 3, pos := "ref.go:34", after := #[], guard := none } : Oper)
def oTrAdd32 : Oper := ({ dst := some 21, op := Go.Op.move (Go.Operand.tmp 0), type := 27, pos := "ref.go:34", after := #[], guard := none } : Oper)
def oTrAdd33 : Oper := ({ dst := some 22, op := Go.Op.nilCheck (Go.Operand.tmp 21), type := 0, pos := "ref.go:34", after := #[{ on := 1, ground := Go.Ground.data }], guard := none } : Oper)
def oTrAdd34 : Oper := ({ dst := some 23, op := Go.Op.fieldAddr 30 (Go.Operand.tmp 22) 0, type := 0, pos := "ref.go:34", after := #[{ on := 2, ground := Go.Ground.data }], guard := none } : Oper)
def oTrAdd35 : Oper := ({ dst := some 24, op := Go.Op.load 28 (Go.Operand.tmp 23), type := 28, pos := "ref.go:34", after := #[{ on := 3, ground := Go.Ground.data }], guard := none } : Oper)
def oTrAdd36 : Oper := ({ dst := some 25, op := Go.Op.call { callee := Go.Callee.builtin Go.Builtin.len, args := #[Go.Operand.tmp 24], argTypes := #[28] }, type := 3, pos := "ref.go:34", after := #[{ on := 4, ground := Go.Ground.data }], guard := none } : Oper)
def oTrAdd37 : Oper := ({ dst := some 26, op := Go.Op.binOp Go.BinOp.lss 3 (Go.Operand.tmp 20) (Go.Operand.tmp 25) 3, type := 4, pos := "ref.go:34", after := #[{ on := 0, ground := Go.Ground.data }, { on := 5, ground := Go.Ground.data }], guard := none } : Oper)
def oTrAdd38 : Oper := ({ dst := some 27, op := Go.Op.move (Go.Operand.tmp 26), type := 4, pos := "ref.go:34", after := #[{ on := 6, ground := Go.Ground.data }], guard := none } : Oper)
def oTrAdd39 : Oper := ({ dst := some 28, op := Go.Op.move (Go.Operand.tmp 0), type := 27, pos := "ref.go:34", after := #[{ on := 7, ground := Go.Ground.guard }], guard := some (7, true) } : Oper)
def oTrAdd310 : Oper := ({ dst := some 29, op := Go.Op.nilCheck (Go.Operand.tmp 28), type := 0, pos := "ref.go:34", after := #[{ on := 8, ground := Go.Ground.data }, { on := 7, ground := Go.Ground.guard }], guard := some (7, true) } : Oper)
def oTrAdd311 : Oper := ({ dst := some 30, op := Go.Op.fieldAddr 30 (Go.Operand.tmp 29) 0, type := 0, pos := "ref.go:34", after := #[{ on := 9, ground := Go.Ground.data }, { on := 7, ground := Go.Ground.guard }], guard := some (7, true) } : Oper)
def oTrAdd312 : Oper := ({ dst := some 31, op := Go.Op.load 28 (Go.Operand.tmp 30), type := 28, pos := "ref.go:34", after := #[{ on := 10, ground := Go.Ground.data }, { on := 7, ground := Go.Ground.guard }], guard := some (7, true) } : Oper)
def oTrAdd313 : Oper := ({ dst := some 32, op := Go.Op.move (Go.Operand.tmp 8), type := 3, pos := "ref.go:34", after := #[{ on := 7, ground := Go.Ground.guard }], guard := some (7, true) } : Oper)
def oTrAdd314 : Oper := ({ dst := some 33, op := Go.Op.indexAddr 28 (Go.Operand.tmp 31) (Go.Operand.tmp 32), type := 0, pos := "ref.go:34", after := #[{ on := 11, ground := Go.Ground.data }, { on := 12, ground := Go.Ground.data }, { on := 7, ground := Go.Ground.guard }], guard := some (7, true) } : Oper)
def oTrAdd315 : Oper := ({ dst := some 34, op := Go.Op.load 40 (Go.Operand.tmp 33), type := 40, pos := "ref.go:34", after := #[{ on := 13, ground := Go.Ground.data }, { on := 7, ground := Go.Ground.guard }], guard := some (7, true) } : Oper)
def oTrAdd316 : Oper := ({ dst := some 35, op := Go.Op.load 40 (Go.Operand.tmp 7), type := 40, pos := "ref.go:34", after := #[{ on := 7, ground := Go.Ground.guard }], guard := some (7, true) } : Oper)
def oTrAdd317 : Oper := ({ dst := some 36, op := Go.Op.call { callee := Go.Callee.value (Go.Operand.func 56), args := #[Go.Operand.tmp 34, Go.Operand.tmp 35], argTypes := #[40, 40] }, type := 4, pos := "ref.go:34", after := #[{ on := 14, ground := Go.Ground.data }, { on := 15, ground := Go.Ground.data }, { on := 7, ground := Go.Ground.chain }, { on := 7, ground := Go.Ground.guard }], guard := some (7, true) } : Oper)
def oTrAdd318 : Oper := ({ dst := some 37, op := Go.Op.pick (Go.Operand.tmp 27) (Go.Operand.tmp 36) (Go.Operand.const (Go.Value.bool false)), type := 4, pos := "ref.go:34", after := #[{ on := 7, ground := Go.Ground.data }, { on := 16, ground := Go.Ground.data }], guard := none } : Oper)
def oTrAdd319 : Oper := ({ dst := some 40, op := Go.Op.move (Go.Operand.tmp 0), type := 27, pos := "ref.go:37", after := #[], guard := none } : Oper)
def oTrAdd320 : Oper := ({ dst := some 41, op := Go.Op.buildSlice 28 0 #[], type := 28, pos := "ref.go:37", after := #[], guard := none } : Oper)
def oTrAdd321 : Oper := ({ dst := some 42, op := Go.Op.move (Go.Operand.tmp 0), type := 27, pos := "ref.go:37", after := #[], guard := none } : Oper)
def oTrAdd322 : Oper := ({ dst := some 43, op := Go.Op.nilCheck (Go.Operand.tmp 42), type := 0, pos := "ref.go:37", after := #[{ on := 2, ground := Go.Ground.data }], guard := none } : Oper)
def oTrAdd323 : Oper := ({ dst := some 44, op := Go.Op.fieldAddr 30 (Go.Operand.tmp 43) 0, type := 0, pos := "ref.go:37", after := #[{ on := 3, ground := Go.Ground.data }], guard := none } : Oper)
def oTrAdd324 : Oper := ({ dst := some 45, op := Go.Op.load 28 (Go.Operand.tmp 44), type := 28, pos := "ref.go:37", after := #[{ on := 4, ground := Go.Ground.data }], guard := none } : Oper)
def oTrAdd325 : Oper := ({ dst := some 46, op := Go.Op.move (Go.Operand.tmp 8), type := 3, pos := "ref.go:37", after := #[], guard := none } : Oper)
def oTrAdd326 : Oper := ({ dst := some 47, op := Go.Op.slice 28 (Go.Operand.tmp 45) none (some (Go.Operand.tmp 46)) none, type := 28, pos := "ref.go:37", after := #[{ on := 5, ground := Go.Ground.data }, { on := 6, ground := Go.Ground.data }], guard := none } : Oper)
def oTrAdd327 : Oper := ({ dst := some 48, op := Go.Op.call { callee := Go.Callee.builtin Go.Builtin.append, args := #[Go.Operand.tmp 41, Go.Operand.tmp 47], argTypes := #[28, 28] }, type := 28, pos := "ref.go:37", after := #[{ on := 1, ground := Go.Ground.data }, { on := 7, ground := Go.Ground.data }], guard := none } : Oper)
def oTrAdd328 : Oper := ({ dst := some 49, op := Go.Op.load 40 (Go.Operand.tmp 7), type := 40, pos := "ref.go:37", after := #[], guard := none } : Oper)
def oTrAdd329 : Oper := ({ dst := some 50, op := Go.Op.buildSlice 28 1 #[(0, Go.Operand.tmp 49)], type := 28, pos := "ref.go:37", after := #[{ on := 9, ground := Go.Ground.data }], guard := none } : Oper)
def oTrAdd330 : Oper := ({ dst := some 51, op := Go.Op.call { callee := Go.Callee.builtin Go.Builtin.append, args := #[Go.Operand.tmp 48, Go.Operand.tmp 50], argTypes := #[28, 28] }, type := 28, pos := "ref.go:37", after := #[{ on := 8, ground := Go.Ground.data }, { on := 10, ground := Go.Ground.data }, { on := 8, ground := Go.Ground.chain }], guard := none } : Oper)
def oTrAdd331 : Oper := ({ dst := some 52, op := Go.Op.move (Go.Operand.tmp 0), type := 27, pos := "ref.go:37", after := #[], guard := none } : Oper)
def oTrAdd332 : Oper := ({ dst := some 53, op := Go.Op.nilCheck (Go.Operand.tmp 52), type := 0, pos := "ref.go:37", after := #[{ on := 12, ground := Go.Ground.data }], guard := none } : Oper)
def oTrAdd333 : Oper := ({ dst := some 54, op := Go.Op.fieldAddr 30 (Go.Operand.tmp 53) 0, type := 0, pos := "ref.go:37", after := #[{ on := 13, ground := Go.Ground.data }], guard := none } : Oper)
def oTrAdd334 : Oper := ({ dst := some 55, op := Go.Op.load 28 (Go.Operand.tmp 54), type := 28, pos := "ref.go:37", after := #[{ on := 14, ground := Go.Ground.data }], guard := none } : Oper)
def oTrAdd335 : Oper := ({ dst := some 56, op := Go.Op.move (Go.Operand.tmp 8), type := 3, pos := "ref.go:37", after := #[], guard := none } : Oper)
def oTrAdd336 : Oper := ({ dst := some 57, op := Go.Op.slice 28 (Go.Operand.tmp 55) (some (Go.Operand.tmp 56)) none none, type := 28, pos := "ref.go:37", after := #[{ on := 15, ground := Go.Ground.data }, { on := 16, ground := Go.Ground.data }], guard := none } : Oper)
def oTrAdd337 : Oper := ({ dst := some 58, op := Go.Op.call { callee := Go.Callee.builtin Go.Builtin.append, args := #[Go.Operand.tmp 51, Go.Operand.tmp 57], argTypes := #[28, 28] }, type := 28, pos := "ref.go:37", after := #[{ on := 11, ground := Go.Ground.data }, { on := 17, ground := Go.Ground.data }, { on := 11, ground := Go.Ground.chain }], guard := none } : Oper)
def oTrAdd338 : Oper := ({ dst := some 59, op := Go.Op.nilCheck (Go.Operand.tmp 40), type := 0, pos := "ref.go:37", after := #[{ on := 0, ground := Go.Ground.data }, { on := 0, ground := Go.Ground.phase }, { on := 1, ground := Go.Ground.phase }, { on := 2, ground := Go.Ground.phase }, { on := 3, ground := Go.Ground.phase }, { on := 4, ground := Go.Ground.phase }, { on := 5, ground := Go.Ground.phase }, { on := 6, ground := Go.Ground.phase }, { on := 7, ground := Go.Ground.phase }, { on := 8, ground := Go.Ground.phase }, { on := 9, ground := Go.Ground.phase }, { on := 10, ground := Go.Ground.phase }, { on := 11, ground := Go.Ground.phase }, { on := 12, ground := Go.Ground.phase }, { on := 13, ground := Go.Ground.phase }, { on := 14, ground := Go.Ground.phase }, { on := 15, ground := Go.Ground.phase }, { on := 16, ground := Go.Ground.phase }, { on := 17, ground := Go.Ground.phase }, { on := 18, ground := Go.Ground.phase }], guard := none } : Oper)
def oTrAdd339 : Oper := ({ dst := some 60, op := Go.Op.fieldAddr 30 (Go.Operand.tmp 59) 0, type := 0, pos := "ref.go:37", after := #[{ on := 19, ground := Go.Ground.data }, { on := 0, ground := Go.Ground.phase }, { on := 1, ground := Go.Ground.phase }, { on := 2, ground := Go.Ground.phase }, { on := 3, ground := Go.Ground.phase }, { on := 4, ground := Go.Ground.phase }, { on := 5, ground := Go.Ground.phase }, { on := 6, ground := Go.Ground.phase }, { on := 7, ground := Go.Ground.phase }, { on := 8, ground := Go.Ground.phase }, { on := 9, ground := Go.Ground.phase }, { on := 10, ground := Go.Ground.phase }, { on := 11, ground := Go.Ground.phase }, { on := 12, ground := Go.Ground.phase }, { on := 13, ground := Go.Ground.phase }, { on := 14, ground := Go.Ground.phase }, { on := 15, ground := Go.Ground.phase }, { on := 16, ground := Go.Ground.phase }, { on := 17, ground := Go.Ground.phase }, { on := 18, ground := Go.Ground.phase }], guard := none } : Oper)
def oTrAdd340 : Oper := ({ dst := none, op := Go.Op.store 28 (Go.Operand.tmp 60) (Go.Operand.tmp 58), type := 0, pos := "ref.go:37", after := #[{ on := 20, ground := Go.Ground.data }, { on := 18, ground := Go.Ground.data }, { on := 18, ground := Go.Ground.chain }, { on := 0, ground := Go.Ground.phase }, { on := 1, ground := Go.Ground.phase }, { on := 2, ground := Go.Ground.phase }, { on := 3, ground := Go.Ground.phase }, { on := 4, ground := Go.Ground.phase }, { on := 5, ground := Go.Ground.phase }, { on := 6, ground := Go.Ground.phase }, { on := 7, ground := Go.Ground.phase }, { on := 8, ground := Go.Ground.phase }, { on := 9, ground := Go.Ground.phase }, { on := 10, ground := Go.Ground.phase }, { on := 11, ground := Go.Ground.phase }, { on := 12, ground := Go.Ground.phase }, { on := 13, ground := Go.Ground.phase }, { on := 14, ground := Go.Ground.phase }, { on := 15, ground := Go.Ground.phase }, { on := 16, ground := Go.Ground.phase }, { on := 17, ground := Go.Ground.phase }, { on := 18, ground := Go.Ground.phase }], guard := none } : Oper)
end
open Go.RowKit

section
variable {w w' : World} {g n c : Nat} {A : Option Addr} {L : List Hn}
set_option maxHeartbeats 2000000 in
theorem add_none (f c0 : List UInt8) (hT : RT w g none 0 0 []) (hf : filB f = true) (hl : f.length ≤ 1000000) :
    Calls Tryz.prog 28 #[.pointer (some ⟨g, 0, none⟩), .string ⟨f.toArray⟩, .string ⟨c0.toArray⟩] w fun e w' => RP w g none 0 [(f, c0)] true e w' := by
  have hn : 0 ≤ 1000000 := by decide
  have hc : ([] : List Hn).contains (f, c0) = false := rfl
  have HM : Hid (([] : List Hn) ++ [(f, c0)] ++ [] = [(f, c0)]) := rfl
  have HT := Lib.hid hT
  have HF := Lib.hid hf
  have HC := Lib.hid hc
  have hb : Below w.heap.size w w := Below.refl _ _
  have HL := Lib.hid hT.len
  clear hT hf hc
  obtain ⟨W, hW⟩ : ∃ W, W = w.alloc (.cells #[.string ⟨f.toArray⟩, .string ⟨c0.toArray⟩] 40) := ⟨_, rfl⟩
  have hbW : Below w.heap.size w W := by rw [hW]; exact below_alloc (Below.refl _ _) _
  have k1 : Hid (W.cell? ⟨w.heap.size, 0, none⟩ = some (.string ⟨f.toArray⟩)) := by show _ = _; rw [hW, World.cell?_alloc_new]; rfl
  have k2 : Hid (W.cell? ⟨w.heap.size, 1, none⟩ = some (.string ⟨c0.toArray⟩)) := by show _ = _; rw [hW, World.cell?_alloc_new]; rfl
  go_enter Tryz.func28, Tryz.ntmps28
  go_wp2_with fail
  rw [← hW]
  clear hW hb
  refine (refFilter_eq f true _ (by omega) HF.out).mono ?_
  rintro e w1 ⟨rfl, hb1⟩
  have m1 := (hb1.cell (World.block_lt_of_cell? _ _ k1.out)).trans k1.out
  have m2 := (hb1.cell (World.block_lt_of_cell? _ _ k2.out)).trans k2.out
  have hb := hbW.trans (hb1.mono hbW.size)
  go_wp2_with fail
  refine (has_eq (f, c0) false (HT.out.below hb) hn HC.out).mono ?_
  rintro e w2 ⟨rfl, hb2⟩
  replace hb := below_more hb hb2
  have HT2 := Lib.hid (HT.out.below hb)
  have K1 : Hid (w2.cell? ⟨w.heap.size, 0, none⟩ = some (.string ⟨f.toArray⟩)) := (hb2.cell (World.block_lt_of_cell? _ _ m1)).trans m1
  have K2 : Hid (w2.cell? ⟨w.heap.size, 1, none⟩ = some (.string ⟨c0.toArray⟩)) := (hb2.cell (World.block_lt_of_cell? _ _ m2)).trans m2
  clear m1 m2 k1 k2 hb1 hb2 hbW
  go_wp2_with fail
  clear HC hn
  go_loopw [8] (fun i wr => i = .int .i64 0 ∧ Below w2.heap.size w2 wr) (fun i _ => 0)
  case atStart => exact ⟨rfl, Below.refl _ _⟩
  case round =>
    obtain ⟨rfl, hbr⟩ := hrel
    go_wp2_with fail
    refine wp_region_held_drew (S := (fun w' => Below wr.heap.size wr w')) (by kernel_rfl) ((Below.refl _ _).drew) (fun hHeld => ?_)
    refine tkY 0 oTrAdd31 ?vv11_57_0 rfl (by kernel_rfl) (by kernel_rfl) (by kernel_rfl) (fun _ _ _ h => h) (by rfl) ?hy11_57_0 (by assumption) ?rest11_57_0
    case hy11_57_0 => (intro w hSw; unfold oTrAdd31; (try dsimp only at hSw); (try go_split_ands); go_simp; all_goals with_reducible rfl)
    try simp only [oTrAdd31, Act.put, sA, sB, sC]
    refine tkY 1 oTrAdd32 ?vv11_57_1 rfl (by kernel_rfl) (by kernel_rfl) (by kernel_rfl) (fun _ _ _ h => h) (by rfl) ?hy11_57_1 (by assumption) ?rest11_57_1
    case hy11_57_1 => (intro w hSw; unfold oTrAdd32; (try dsimp only at hSw); (try go_split_ands); go_simp; all_goals with_reducible rfl)
    try simp only [oTrAdd32, Act.put, sA, sB, sC]
    refine tkY 2 oTrAdd33 ?vv11_57_2 rfl (by kernel_rfl) (by kernel_rfl) (by kernel_rfl) (fun _ _ _ h => h) (by rfl) ?hy11_57_2 (by assumption) ?rest11_57_2
    case hy11_57_2 => (intro w hSw; unfold oTrAdd33; (try dsimp only at hSw); (try go_split_ands); go_simp; all_goals with_reducible rfl)
    try simp only [oTrAdd33, Act.put, sA, sB, sC]
    refine tkY 3 oTrAdd34 ?vv11_57_3 rfl (by kernel_rfl) (by kernel_rfl) (by kernel_rfl) (fun _ _ _ h => h) (by rfl) ?hy11_57_3 (by assumption) ?rest11_57_3
    case hy11_57_3 => (intro w hSw; unfold oTrAdd34; (try dsimp only at hSw); (try go_split_ands); go_simp; all_goals with_reducible rfl)
    try simp only [oTrAdd34, Act.put, sA, sB, sC]
    refine tkY 4 oTrAdd35 ?vv11_58_4 rfl (by kernel_rfl) (by kernel_rfl) (by kernel_rfl) (fun _ _ _ h => h) (by rfl) ?hy11_58_4 (by assumption) ?rest11_58_4
    case hy11_58_4 => (intro w hSw; unfold oTrAdd35; (try dsimp only at hSw); have hq := (HT2.out.below (below_more hbr hSw)).cell; clear hSw; go_simp; all_goals with_reducible rfl)
    try simp only [oTrAdd35, Act.put, sA, sB, sC]
    refine tkY 5 oTrAdd36 ?vv11_59_5 rfl (by kernel_rfl) (by kernel_rfl) (by kernel_rfl) (fun _ _ _ h => h) (by rfl) ?hy11_59_5 (by assumption) ?rest11_59_5
    case hy11_59_5 => (intro w hSw; unfold oTrAdd36; (try dsimp only at hSw); (try go_split_ands); go_simp; all_goals with_reducible rfl)
    try simp only [oTrAdd36, Act.put, sA, sB, sC]
    refine tkY 6 oTrAdd37 ?vv11_59_6 rfl (by kernel_rfl) (by kernel_rfl) (by kernel_rfl) (fun _ _ _ h => h) (by rfl) ?hy11_59_6 (by assumption) ?rest11_59_6
    case hy11_59_6 => (intro w hSw; unfold oTrAdd37; (try dsimp only at hSw); (try go_split_ands); go_simp; all_goals with_reducible rfl)
    try simp only [oTrAdd37, Act.put, sA, sB, sC]
    refine tkY 7 oTrAdd38 ?vv11_59_7 rfl (by kernel_rfl) (by kernel_rfl) (by kernel_rfl) (fun _ _ _ h => h) (by rfl) ?hy11_59_7 (by assumption) ?rest11_59_7
    case hy11_59_7 => (intro w hSw; unfold oTrAdd38; (try dsimp only at hSw); (try go_split_ands); go_simp; all_goals with_reducible rfl)
    try simp only [oTrAdd38, Act.put, sA, sB, sC]
    refine wpAnyH_take (i := 8) (oi := oTrAdd39) (v := undef) rfl (by kernel_rfl) (by kernel_rfl) (by kernel_rfl) (fun _ _ _ h => h) (Or.inr ⟨by rfl, rfl⟩) (by assumption) ?rest11_60_8
    try simp only [oTrAdd39, Act.put, sA, sB, sC]
    refine wpAnyH_take (i := 9) (oi := oTrAdd310) (v := undef) rfl (by kernel_rfl) (by kernel_rfl) (by kernel_rfl) (fun _ _ _ h => h) (Or.inr ⟨by rfl, rfl⟩) (by assumption) ?rest11_60_9
    try simp only [oTrAdd310, Act.put, sA, sB, sC]
    refine wpAnyH_take (i := 10) (oi := oTrAdd311) (v := undef) rfl (by kernel_rfl) (by kernel_rfl) (by kernel_rfl) (fun _ _ _ h => h) (Or.inr ⟨by rfl, rfl⟩) (by assumption) ?rest11_60_10
    try simp only [oTrAdd311, Act.put, sA, sB, sC]
    refine wpAnyH_take (i := 11) (oi := oTrAdd312) (v := undef) rfl (by kernel_rfl) (by kernel_rfl) (by kernel_rfl) (fun _ _ _ h => h) (Or.inr ⟨by rfl, rfl⟩) (by assumption) ?rest11_60_11
    try simp only [oTrAdd312, Act.put, sA, sB, sC]
    refine wpAnyH_take (i := 12) (oi := oTrAdd313) (v := undef) rfl (by kernel_rfl) (by kernel_rfl) (by kernel_rfl) (fun _ _ _ h => h) (Or.inr ⟨by rfl, rfl⟩) (by assumption) ?rest11_60_12
    try simp only [oTrAdd313, Act.put, sA, sB, sC]
    refine wpAnyH_take (i := 13) (oi := oTrAdd314) (v := undef) rfl (by kernel_rfl) (by kernel_rfl) (by kernel_rfl) (fun _ _ _ h => h) (Or.inr ⟨by rfl, rfl⟩) (by assumption) ?rest11_60_13
    try simp only [oTrAdd314, Act.put, sA, sB, sC]
    refine wpAnyH_take (i := 14) (oi := oTrAdd315) (v := undef) rfl (by kernel_rfl) (by kernel_rfl) (by kernel_rfl) (fun _ _ _ h => h) (Or.inr ⟨by rfl, rfl⟩) (by assumption) ?rest11_60_14
    try simp only [oTrAdd315, Act.put, sA, sB, sC]
    refine wpAnyH_take (i := 15) (oi := oTrAdd316) (v := undef) rfl (by kernel_rfl) (by kernel_rfl) (by kernel_rfl) (fun _ _ _ h => h) (Or.inr ⟨by rfl, rfl⟩) (by assumption) ?rest11_60_15
    try simp only [oTrAdd316, Act.put, sA, sB, sC]
    refine wpAnyH_take (i := 16) (oi := oTrAdd317) (v := undef) rfl (by kernel_rfl) (by kernel_rfl) (by kernel_rfl) (fun _ _ _ h => h) (Or.inr ⟨by rfl, rfl⟩) (by assumption) ?rest11_60_16
    try simp only [oTrAdd317, Act.put, sA, sB, sC]
    refine tkY 17 oTrAdd318 ?vv11_61_17 rfl (by kernel_rfl) (by kernel_rfl) (by kernel_rfl) (fun _ _ _ h => h) (by rfl) ?hy11_61_17 (by assumption) ?rest11_61_17
    case hy11_61_17 => (intro w hSw; unfold oTrAdd318; (try dsimp only at hSw); (try go_split_ands); go_simp; all_goals with_reducible rfl)
    try simp only [oTrAdd318, Act.put, sA, sB, sC]
    refine wpAnyH_done (by kernel_rfl) ?_ _
    have hb9 := below_more hbr hHeld
    clear hHeld hbr
    obtain ⟨w7, hw7⟩ : ∃ w7, w7 = wr.drew := ⟨_, rfl⟩
    rw [← hw7] at hb9 ⊢
    clear hw7
    have hbw := below_more hb hb9
    have HTw := Lib.hid (HT.out.below hbw)
    have J1 : Hid (w7.cell? ⟨w.heap.size, 0, none⟩ = some (.string ⟨f.toArray⟩)) := (hb9.cell (World.block_lt_of_cell? _ _ K1.out)).trans K1.out
    have J2 : Hid (w7.cell? ⟨w.heap.size, 1, none⟩ = some (.string ⟨c0.toArray⟩)) := (hb9.cell (World.block_lt_of_cell? _ _ K2.out)).trans K2.out
    clear hb HT HT2 K1 K2 hb9
    go_wp2_with fail
    have hHeld : Below w7.heap.size w7 w7.drew := (Below.refl _ _).drew
    refine region_last (S := (fun w' => Below w7.heap.size w7 w')) (m := 21) (by kernel_rfl) ?_
    have hLast : LastL .any _ 21 := last_chain (ops := #[oTrAdd319, oTrAdd320, oTrAdd321, oTrAdd322, oTrAdd323, oTrAdd324, oTrAdd325, oTrAdd326, oTrAdd327, oTrAdd328, oTrAdd329, oTrAdd330, oTrAdd331, oTrAdd332, oTrAdd333, oTrAdd334, oTrAdd335, oTrAdd336, oTrAdd337, oTrAdd338, oTrAdd339, oTrAdd340]) [(20, 21), (19, 20), (0, 19), (1, 19), (2, 19), (3, 19), (4, 19), (5, 19), (6, 19), (7, 19), (8, 19), (9, 19), (10, 19), (11, 19), (12, 19), (13, 19), (14, 19), (15, 19), (16, 19), (17, 19), (18, 19)] (by kernel_rfl)
    refine tkM hLast 0 oTrAdd319 ?vv12_62_0 rfl (by kernel_rfl) (by kernel_rfl) (by kernel_rfl) (by rfl) (fun _ _ _ h => h) (by rfl) ?hy12_62_0 (by assumption) ?rest12_62_0
    case hy12_62_0 => (intro w hSw; unfold oTrAdd319; (try dsimp only at hSw); (try go_split_ands); go_simp; all_goals with_reducible rfl)
    try simp only [oTrAdd319, Act.put, sA, sB, sC]
    refine tkM hLast 2 oTrAdd321 ?vv12_62_2 rfl (by kernel_rfl) (by kernel_rfl) (by kernel_rfl) (by rfl) (fun _ _ _ h => h) (by rfl) ?hy12_62_2 (by assumption) ?rest12_62_2
    case hy12_62_2 => (intro w hSw; unfold oTrAdd321; (try dsimp only at hSw); (try go_split_ands); go_simp; all_goals with_reducible rfl)
    try simp only [oTrAdd321, Act.put, sA, sB, sC]
    refine tkM hLast 3 oTrAdd322 ?vv12_62_3 rfl (by kernel_rfl) (by kernel_rfl) (by kernel_rfl) (by rfl) (fun _ _ _ h => h) (by rfl) ?hy12_62_3 (by assumption) ?rest12_62_3
    case hy12_62_3 => (intro w hSw; unfold oTrAdd322; (try dsimp only at hSw); (try go_split_ands); go_simp; all_goals with_reducible rfl)
    try simp only [oTrAdd322, Act.put, sA, sB, sC]
    refine tkM hLast 4 oTrAdd323 ?vv12_62_4 rfl (by kernel_rfl) (by kernel_rfl) (by kernel_rfl) (by rfl) (fun _ _ _ h => h) (by rfl) ?hy12_62_4 (by assumption) ?rest12_62_4
    case hy12_62_4 => (intro w hSw; unfold oTrAdd323; (try dsimp only at hSw); (try go_split_ands); go_simp; all_goals with_reducible rfl)
    try simp only [oTrAdd323, Act.put, sA, sB, sC]
    refine tkM hLast 5 oTrAdd324 ?vv12_63_5 rfl (by kernel_rfl) (by kernel_rfl) (by kernel_rfl) (by rfl) (fun _ _ _ h => h) (by rfl) ?hy12_63_5 (by assumption) ?rest12_63_5
    case hy12_63_5 => (intro w hSw; unfold oTrAdd324; (try dsimp only at hSw); have hq := (HTw.out.below hSw).cell; clear hSw; go_simp; all_goals with_reducible rfl)
    try simp only [oTrAdd324, Act.put, sA, sB, sC]
    refine tkM hLast 6 oTrAdd325 ?vv12_64_6 rfl (by kernel_rfl) (by kernel_rfl) (by kernel_rfl) (by rfl) (fun _ _ _ h => h) (by rfl) ?hy12_64_6 (by assumption) ?rest12_64_6
    case hy12_64_6 => (intro w hSw; unfold oTrAdd325; (try dsimp only at hSw); (try go_split_ands); go_simp; all_goals with_reducible rfl)
    try simp only [oTrAdd325, Act.put, sA, sB, sC]
    refine tkM hLast 7 oTrAdd326 ?vv12_64_7 rfl (by kernel_rfl) (by kernel_rfl) (by kernel_rfl) (by rfl) (fun _ _ _ h => h) (by rfl) ?hy12_64_7 (by assumption) ?rest12_64_7
    case hy12_64_7 => (intro w hSw; unfold oTrAdd326; (try dsimp only at hSw); (try go_split_ands); go_simp; all_goals with_reducible rfl)
    try simp only [oTrAdd326, Act.put, sA, sB, sC]
    refine tkM hLast 9 oTrAdd328 ?vv12_65_9 rfl (by kernel_rfl) (by kernel_rfl) (by kernel_rfl) (by rfl) (fun _ _ _ h => h) (by rfl) ?hy12_65_9 (by assumption) ?rest12_65_9
    case hy12_65_9 => (intro w hSw; unfold oTrAdd328; (try dsimp only at hSw); have hq1 := (hSw.cell (World.block_lt_of_cell? _ _ J1.out)).trans J1.out; have hq2 := (hSw.cell (World.block_lt_of_cell? _ _ J2.out)).trans J2.out; clear hSw; go_simp; all_goals with_reducible rfl)
    try simp only [oTrAdd328, Act.put, sA, sB, sC]
    refine tkM hLast 12 oTrAdd331 ?vv12_66_12 rfl (by kernel_rfl) (by kernel_rfl) (by kernel_rfl) (by rfl) (fun _ _ _ h => h) (by rfl) ?hy12_66_12 (by assumption) ?rest12_66_12
    case hy12_66_12 => (intro w hSw; unfold oTrAdd331; (try dsimp only at hSw); (try go_split_ands); go_simp; all_goals with_reducible rfl)
    try simp only [oTrAdd331, Act.put, sA, sB, sC]
    refine tkM hLast 13 oTrAdd332 ?vv12_66_13 rfl (by kernel_rfl) (by kernel_rfl) (by kernel_rfl) (by rfl) (fun _ _ _ h => h) (by rfl) ?hy12_66_13 (by assumption) ?rest12_66_13
    case hy12_66_13 => (intro w hSw; unfold oTrAdd332; (try dsimp only at hSw); (try go_split_ands); go_simp; all_goals with_reducible rfl)
    try simp only [oTrAdd332, Act.put, sA, sB, sC]
    refine tkM hLast 14 oTrAdd333 ?vv12_66_14 rfl (by kernel_rfl) (by kernel_rfl) (by kernel_rfl) (by rfl) (fun _ _ _ h => h) (by rfl) ?hy12_66_14 (by assumption) ?rest12_66_14
    case hy12_66_14 => (intro w hSw; unfold oTrAdd333; (try dsimp only at hSw); (try go_split_ands); go_simp; all_goals with_reducible rfl)
    try simp only [oTrAdd333, Act.put, sA, sB, sC]
    refine tkM hLast 15 oTrAdd334 ?vv12_67_15 rfl (by kernel_rfl) (by kernel_rfl) (by kernel_rfl) (by rfl) (fun _ _ _ h => h) (by rfl) ?hy12_67_15 (by assumption) ?rest12_67_15
    case hy12_67_15 => (intro w hSw; unfold oTrAdd334; (try dsimp only at hSw); have hq := (HTw.out.below hSw).cell; clear hSw; go_simp; all_goals with_reducible rfl)
    try simp only [oTrAdd334, Act.put, sA, sB, sC]
    refine tkM hLast 16 oTrAdd335 ?vv12_68_16 rfl (by kernel_rfl) (by kernel_rfl) (by kernel_rfl) (by rfl) (fun _ _ _ h => h) (by rfl) ?hy12_68_16 (by assumption) ?rest12_68_16
    case hy12_68_16 => (intro w hSw; unfold oTrAdd335; (try dsimp only at hSw); (try go_split_ands); go_simp; all_goals with_reducible rfl)
    try simp only [oTrAdd335, Act.put, sA, sB, sC]
    refine tkM hLast 17 oTrAdd336 ?vv12_68_17 rfl (by kernel_rfl) (by kernel_rfl) (by kernel_rfl) (by rfl) (fun _ _ _ h => h) (by rfl) ?hy12_68_17 (by assumption) ?rest12_68_17
    case hy12_68_17 => (intro w hSw; unfold oTrAdd336; (try dsimp only at hSw); (try go_split_ands); go_simp; all_goals with_reducible rfl)
    try simp only [oTrAdd336, Act.put, sA, sB, sC]
    obtain ⟨wd, hwd⟩ : ∃ wd, wd = w7.drew := ⟨_, rfl⟩
    rw [← hwd]
    rw [← hwd] at hHeld
    have hbm := hHeld
    have hbw2 := below_more hbw hbm
    have HTm := Lib.hid (HTw.out.below hbm)
    have hgl : g < wd.heap.size := HTm.out.lt
    have HTK : Hid (Hnts wd none 0 []) := Hnts.nil none
    have HD : Hid (Hnts wd none 0 []) := Hnts.nil none
    have hA1 : Hid ((none : Option Addr) = none → 0 = 0) := fun _ => rfl
    have hA2 : Hid ((none : Option Addr) = none → 0 = 0) := fun _ => rfl
    clear hwd HTw J1 J2 hbw
    refine anyM_ready (rs := [1, 10]) (by kernel_rfl) (by simp) ?_
    refine (AllM.cons (o := oTrAdd320) rfl (fun K hK => ?_) (AllM.cons (o := oTrAdd329) rfl (fun K hK => ?_) AllM.nil))
    · skip
      unfold oTrAdd320
      go_simp
      refine anyM_go hK (by exact below_alloc hHeld _) (fun hHeld => ?_)
      clear hK K
      try simp only [oTrAdd320, Act.put, sA, sB, sC]
      have hO := OwnH.lit0 (Below.refl wd.heap.size wd) (Nat.le_refl _)
      refine anyM_ready (rs := [8, 10]) (by kernel_rfl) (by simp) ?_
      refine (AllM.cons (o := oTrAdd327) rfl (fun K hK => ?_) (AllM.cons (o := oTrAdd329) rfl (fun K hK => ?_) AllM.nil))
      · skip
        (refine step_happ rfl _ _ rfl rfl hO _ 0 0 [] rfl (HTK.out.below hO.below) hA1.out (by simp) ?_; intro v9 w9 hO9 hgr9; rw [List.nil_append] at hO9)
        refine anyM_go hK (by exact below_more2 hbm hO9.below) (fun hHeld => ?_)
        clear hK K
        try simp only [oTrAdd327, Act.put, sA, sB, sC]
        clear hO hgr9
        refine anyM_ready (rs := [10]) (by kernel_rfl) (by simp) ?_
        refine (AllM.cons (o := oTrAdd329) rfl (fun K hK => ?_) AllM.nil)
        unfold oTrAdd329
        go_simp
        refine anyM_go hK (by exact below_alloc hHeld _) (fun hHeld => ?_)
        clear hK K
        try simp only [oTrAdd329, Act.put, sA, sB, sC]
        have hN : Hnts (w9.alloc (.cells #[.string ⟨f.toArray⟩, .string ⟨c0.toArray⟩] 40)) (some ⟨w9.heap.size, 0, none⟩) 1 [(f, c0)] := hnts_new w9 (f, c0)
        have hO8 := hO9.alloc (.cells #[.string ⟨f.toArray⟩, .string ⟨c0.toArray⟩] 40)
        clear hO9
        refine anyM_ready (rs := [11]) (by kernel_rfl) (by simp) ?_
        refine (AllM.cons (o := oTrAdd330) rfl (fun K hK => ?_) AllM.nil)
        (refine step_happ rfl _ _ rfl rfl hO8 _ 1 1 [(f, c0)] rfl hN (fun e => by cases e) (by simp) ?_; intro v6 w6 hO6 hgr6)
        refine anyM_go hK (by exact below_more2 hbm hO6.below) (fun hHeld => ?_)
        clear hK K
        try simp only [oTrAdd330, Act.put, sA, sB, sC]
        clear hN hO8 hgr6
        refine anyM_ready (rs := [18]) (by kernel_rfl) (by simp) ?_
        refine (AllM.cons (o := oTrAdd337) rfl (fun K hK => ?_) AllM.nil)
        (refine step_happ rfl _ _ rfl rfl hO6 _ 0 0 [] rfl (HD.out.below hO6.below) hA2.out (by simp) ?_; intro v5 w5 hO5 hgr5)
        refine anyM_go hK (by exact below_more2 hbm hO5.below) (fun hHeld => ?_)
        clear hK K
        try simp only [oTrAdd337, Act.put, sA, sB, sC]
        rw [HM.out] at hO5
        clear hO6 hgr5
        obtain ⟨A5, n5, c5, rfl, hH5, hA5, hn5, hg5⟩ := hO5.told2
        have hT5 := HTm.out.below hO5.below
        have hc5 := hT5.cell
        have hz5 := hT5.froz
        have hR5 := hT5.set hH5 hA5 hn5 (fun b e => by have := hg5 b e; omega)
        have hU5 := (Outs.of_below (F := (· = g)) (below_more hbw2 hO5.below)).setCell g 0 rfl (.slice A5 n5 c5)
        have HR5 := Lib.hid hR5
        have HU5 := Lib.hid hU5
        have HG5 : Hid (∀ b, A5 = some ⟨b, 0, none⟩ → w.heap.size ≤ b) := fun b e => Nat.le_trans hbw2.size (hg5 b e)
        clear hT5 hR5 hU5 hH5 hA5 hg5
        refine tkM hLast 19 oTrAdd338 ?vv12_69_19 rfl (by kernel_rfl) (by kernel_rfl) (by kernel_rfl) (by rfl) (fun _ _ _ h => h) (by rfl) ?hy12_69_19 (by assumption) ?rest12_69_19
        case hy12_69_19 => (intro w hSw; unfold oTrAdd338; (try dsimp only at hSw); (try go_split_ands); go_simp; all_goals with_reducible rfl)
        try simp only [oTrAdd338, Act.put, sA, sB, sC]
        refine tkM hLast 20 oTrAdd339 ?vv12_69_20 rfl (by kernel_rfl) (by kernel_rfl) (by kernel_rfl) (by rfl) (fun _ _ _ h => h) (by rfl) ?hy12_69_20 (by assumption) ?rest12_69_20
        case hy12_69_20 => (intro w hSw; unfold oTrAdd339; (try dsimp only at hSw); (try go_split_ands); go_simp; all_goals with_reducible rfl)
        try simp only [oTrAdd339, Act.put, sA, sB, sC]
        refine anyM_ready (rs := [21]) (by kernel_rfl) (by simp) ?_
        refine (AllM.cons (o := oTrAdd340) rfl (fun K hK => ?_) AllM.nil)
        unfold oTrAdd340
        go_simp
        refine hK.out _ _ (fun hne => absurd rfl hne) ?_
        clear hK K
        try simp only [oTrAdd340, Act.put, sA, sB, sC]
        refine anyM_done (by kernel_rfl) ?_ _
        go_wp2_with fail
        go_ret
        exact ⟨_, _, _, rfl, HR5.out, HU5.out, Or.inr HG5.out⟩
      · skip
        unfold oTrAdd329
        go_simp
        refine anyM_go hK (by exact below_alloc hHeld _) (fun hHeld => ?_)
        clear hK K
        try simp only [oTrAdd329, Act.put, sA, sB, sC]
        have hN := hnts_new (wd.alloc (.cells #[] 40)) (f, c0)
        have hO9 := hO.alloc (.cells #[.string ⟨f.toArray⟩, .string ⟨c0.toArray⟩] 40)
        rw [World.size_alloc] at hN
        refine anyM_ready (rs := [8]) (by kernel_rfl) (by simp) ?_
        refine (AllM.cons (o := oTrAdd327) rfl (fun K hK => ?_) AllM.nil)
        (refine step_happ rfl _ _ rfl rfl hO9 _ 0 0 [] rfl (HTK.out.below hO9.below) hA1.out (by simp) ?_; intro v8 w8 hO8 hgr8; rw [List.nil_append] at hO8)
        refine anyM_go hK (by exact below_more2 hbm hO8.below) (fun hHeld => ?_)
        clear hK K
        try simp only [oTrAdd327, Act.put, sA, sB, sC]
        replace hN := hN.grown hgr8 (fun b o e => by cases e; exact fun e2 => by have e3 : wd.heap.size + 1 = wd.heap.size := Option.some.inj e2; omega)
        clear hO hO9 hgr8
        refine anyM_ready (rs := [11]) (by kernel_rfl) (by simp) ?_
        refine (AllM.cons (o := oTrAdd330) rfl (fun K hK => ?_) AllM.nil)
        (refine step_happ rfl _ _ rfl rfl hO8 _ 1 1 [(f, c0)] rfl hN (fun e => by cases e) (by simp) ?_; intro v6 w6 hO6 hgr6)
        refine anyM_go hK (by exact below_more2 hbm hO6.below) (fun hHeld => ?_)
        clear hK K
        try simp only [oTrAdd330, Act.put, sA, sB, sC]
        clear hN hO8 hgr6
        refine anyM_ready (rs := [18]) (by kernel_rfl) (by simp) ?_
        refine (AllM.cons (o := oTrAdd337) rfl (fun K hK => ?_) AllM.nil)
        (refine step_happ rfl _ _ rfl rfl hO6 _ 0 0 [] rfl (HD.out.below hO6.below) hA2.out (by simp) ?_; intro v5 w5 hO5 hgr5)
        refine anyM_go hK (by exact below_more2 hbm hO5.below) (fun hHeld => ?_)
        clear hK K
        try simp only [oTrAdd337, Act.put, sA, sB, sC]
        rw [HM.out] at hO5
        clear hO6 hgr5
        obtain ⟨A5, n5, c5, rfl, hH5, hA5, hn5, hg5⟩ := hO5.told2
        have hT5 := HTm.out.below hO5.below
        have hc5 := hT5.cell
        have hz5 := hT5.froz
        have hR5 := hT5.set hH5 hA5 hn5 (fun b e => by have := hg5 b e; omega)
        have hU5 := (Outs.of_below (F := (· = g)) (below_more hbw2 hO5.below)).setCell g 0 rfl (.slice A5 n5 c5)
        have HR5 := Lib.hid hR5
        have HU5 := Lib.hid hU5
        have HG5 : Hid (∀ b, A5 = some ⟨b, 0, none⟩ → w.heap.size ≤ b) := fun b e => Nat.le_trans hbw2.size (hg5 b e)
        clear hT5 hR5 hU5 hH5 hA5 hg5
        refine tkM hLast 19 oTrAdd338 ?vv12_70_19 rfl (by kernel_rfl) (by kernel_rfl) (by kernel_rfl) (by rfl) (fun _ _ _ h => h) (by rfl) ?hy12_70_19 (by assumption) ?rest12_70_19
        case hy12_70_19 => (intro w hSw; unfold oTrAdd338; (try dsimp only at hSw); (try go_split_ands); go_simp; all_goals with_reducible rfl)
        try simp only [oTrAdd338, Act.put, sA, sB, sC]
        refine tkM hLast 20 oTrAdd339 ?vv12_70_20 rfl (by kernel_rfl) (by kernel_rfl) (by kernel_rfl) (by rfl) (fun _ _ _ h => h) (by rfl) ?hy12_70_20 (by assumption) ?rest12_70_20
        case hy12_70_20 => (intro w hSw; unfold oTrAdd339; (try dsimp only at hSw); (try go_split_ands); go_simp; all_goals with_reducible rfl)
        try simp only [oTrAdd339, Act.put, sA, sB, sC]
        refine anyM_ready (rs := [21]) (by kernel_rfl) (by simp) ?_
        refine (AllM.cons (o := oTrAdd340) rfl (fun K hK => ?_) AllM.nil)
        unfold oTrAdd340
        go_simp
        refine hK.out _ _ (fun hne => absurd rfl hne) ?_
        clear hK K
        try simp only [oTrAdd340, Act.put, sA, sB, sC]
        refine anyM_done (by kernel_rfl) ?_ _
        go_wp2_with fail
        go_ret
        exact ⟨_, _, _, rfl, HR5.out, HU5.out, Or.inr HG5.out⟩
    · skip
      unfold oTrAdd329
      go_simp
      refine anyM_go hK (by exact below_alloc hHeld _) (fun hHeld => ?_)
      clear hK K
      try simp only [oTrAdd329, Act.put, sA, sB, sC]
      have hN := hnts_new wd (f, c0)
      refine anyM_ready (rs := [1]) (by kernel_rfl) (by simp) ?_
      refine (AllM.cons (o := oTrAdd320) rfl (fun K hK => ?_) AllM.nil)
      unfold oTrAdd320
      go_simp
      refine anyM_go hK (by exact below_alloc hHeld _) (fun hHeld => ?_)
      clear hK K
      try simp only [oTrAdd320, Act.put, sA, sB, sC]
      have hO := OwnH.lit0 (below_alloc (Below.refl wd.heap.size wd) (.cells #[.string ⟨f.toArray⟩, .string ⟨c0.toArray⟩] 40)) (by simp)
      rw [World.size_alloc] at hO
      replace hN := hN.below ((Below.refl _ _).alloc (Nat.le_refl _) (.cells #[] 40))
      refine anyM_ready (rs := [8]) (by kernel_rfl) (by simp) ?_
      refine (AllM.cons (o := oTrAdd327) rfl (fun K hK => ?_) AllM.nil)
      (refine step_happ rfl _ _ rfl rfl hO _ 0 0 [] rfl (HTK.out.below hO.below) hA1.out (by simp) ?_; intro v8 w8 hO8 hgr8; rw [List.nil_append] at hO8)
      refine anyM_go hK (by exact below_more2 hbm hO8.below) (fun hHeld => ?_)
      clear hK K
      try simp only [oTrAdd327, Act.put, sA, sB, sC]
      replace hN := hN.grown hgr8 (fun b o e => by cases e; exact fun e2 => by have e3 : wd.heap.size = wd.heap.size + 1 := Option.some.inj e2; omega)
      clear hO hgr8
      refine anyM_ready (rs := [11]) (by kernel_rfl) (by simp) ?_
      refine (AllM.cons (o := oTrAdd330) rfl (fun K hK => ?_) AllM.nil)
      (refine step_happ rfl _ _ rfl rfl hO8 _ 1 1 [(f, c0)] rfl hN (fun e => by cases e) (by simp) ?_; intro v6 w6 hO6 hgr6)
      refine anyM_go hK (by exact below_more2 hbm hO6.below) (fun hHeld => ?_)
      clear hK K
      try simp only [oTrAdd330, Act.put, sA, sB, sC]
      clear hN hO8 hgr6
      refine anyM_ready (rs := [18]) (by kernel_rfl) (by simp) ?_
      refine (AllM.cons (o := oTrAdd337) rfl (fun K hK => ?_) AllM.nil)
      (refine step_happ rfl _ _ rfl rfl hO6 _ 0 0 [] rfl (HD.out.below hO6.below) hA2.out (by simp) ?_; intro v5 w5 hO5 hgr5)
      refine anyM_go hK (by exact below_more2 hbm hO5.below) (fun hHeld => ?_)
      clear hK K
      try simp only [oTrAdd337, Act.put, sA, sB, sC]
      rw [HM.out] at hO5
      clear hO6 hgr5
      obtain ⟨A5, n5, c5, rfl, hH5, hA5, hn5, hg5⟩ := hO5.told2
      have hT5 := HTm.out.below hO5.below
      have hc5 := hT5.cell
      have hz5 := hT5.froz
      have hR5 := hT5.set hH5 hA5 hn5 (fun b e => by have := hg5 b e; omega)
      have hU5 := (Outs.of_below (F := (· = g)) (below_more hbw2 hO5.below)).setCell g 0 rfl (.slice A5 n5 c5)
      have HR5 := Lib.hid hR5
      have HU5 := Lib.hid hU5
      have HG5 : Hid (∀ b, A5 = some ⟨b, 0, none⟩ → w.heap.size ≤ b) := fun b e => Nat.le_trans hbw2.size (hg5 b e)
      clear hT5 hR5 hU5 hH5 hA5 hg5
      refine tkM hLast 19 oTrAdd338 ?vv12_71_19 rfl (by kernel_rfl) (by kernel_rfl) (by kernel_rfl) (by rfl) (fun _ _ _ h => h) (by rfl) ?hy12_71_19 (by assumption) ?rest12_71_19
      case hy12_71_19 => (intro w hSw; unfold oTrAdd338; (try dsimp only at hSw); (try go_split_ands); go_simp; all_goals with_reducible rfl)
      try simp only [oTrAdd338, Act.put, sA, sB, sC]
      refine tkM hLast 20 oTrAdd339 ?vv12_71_20 rfl (by kernel_rfl) (by kernel_rfl) (by kernel_rfl) (by rfl) (fun _ _ _ h => h) (by rfl) ?hy12_71_20 (by assumption) ?rest12_71_20
      case hy12_71_20 => (intro w hSw; unfold oTrAdd339; (try dsimp only at hSw); (try go_split_ands); go_simp; all_goals with_reducible rfl)
      try simp only [oTrAdd339, Act.put, sA, sB, sC]
      refine anyM_ready (rs := [21]) (by kernel_rfl) (by simp) ?_
      refine (AllM.cons (o := oTrAdd340) rfl (fun K hK => ?_) AllM.nil)
      unfold oTrAdd340
      go_simp
      refine hK.out _ _ (fun hne => absurd rfl hne) ?_
      clear hK K
      try simp only [oTrAdd340, Act.put, sA, sB, sC]
      refine anyM_done (by kernel_rfl) ?_ _
      go_wp2_with fail
      go_ret
      exact ⟨_, _, _, rfl, HR5.out, HU5.out, Or.inr HG5.out⟩
/-- Add. -/
theorem add_any (f c0 : List UInt8) (M : List Hn) (r : Bool) (hT : RT w g A n c L) (hn : n ≤ 1000000) (hl : f.length ≤ 1000000) (hM : addL L (f, c0) = M) (hr : addB L (f, c0) = r) :
    Calls Tryz.prog 28 #[.pointer (some ⟨g, 0, none⟩), .string ⟨f.toArray⟩, .string ⟨c0.toArray⟩] w fun e w' => RP w g A n M r e w' := by
  unfold addL at hM
  rw [hr] at hM
  unfold addB at hr
  cases hf : filB f with
  | false =>
    rw [hf, Bool.false_and] at hr
    subst hr
    rw [if_neg (by decide)] at hM
    subst hM
    exact add_no1 f c0 hT hf hl
  | true =>
    cases hc : L.contains (f, c0) with
    | true =>
      rw [hf, hc] at hr
      subst hr
      rw [if_neg (by decide)] at hM
      subst hM
      exact add_no2 f c0 hT hn hf hl hc
    | false =>
      rw [hf, hc] at hr
      subst hr
      rw [if_pos (by rfl)] at hM
      rcases hT.2.2.1 with ⟨rfl, rfl⟩ | ⟨b, rfl⟩
      · have h0 : n = 0 := by have := hT.cap; omega
        subst h0
        have hL : L = [] := List.eq_nil_of_length_eq_zero hT.len
        subst hL
        subst hM
        exact add_none f c0 hT hf hl
      · exact add_some b f c0 M hT hn hf hl hc hM
end
end Go.Proofs.YtipdmfnkkkdlbaaGreatDoor
