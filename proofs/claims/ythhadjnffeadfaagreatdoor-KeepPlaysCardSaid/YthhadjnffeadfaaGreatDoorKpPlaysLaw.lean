/-
  KeepPlays: whatever is set: each answer, what is kept, all of it and of each topic. The card, without a bound: for every input.
-/
import Derived.Test.YthhadjnffeadfaaGreatDoorKpBoth
import Derived.Test.YthhadjnffeadfaaGreatDoorWrFrame
import Derived.Test.YthhadjnffeadfaaGreatDoorTie
import Derived.Test.YthhadjnffeadfaaGreatDoorCards
import Derived.SevenTiedAt
import Derived.ProofKit
set_option linter.unusedSimpArgs false
set_option linter.unusedVariables false
namespace Go.Proofs.YthhadjnffeadfaaGreatDoor
section
open Go.RowKit
def oKpPlaysLaw1 : Oper := ({ dst := some 23, op := Go.Op.move (Go.Operand.tmp 0), type := 22, pos := "law.go:66", after := #[], guard := none } : Oper)
def oKpPlaysLaw2 : Oper := ({ dst := some 24, op := Go.Op.move (Go.Operand.tmp 5), type := 3, pos := "law.go:66", after := #[], guard := none } : Oper)
def oKpPlaysLaw3 : Oper := ({ dst := some 25, op := Go.Op.indexAddr 22 (Go.Operand.tmp 23) (Go.Operand.tmp 24), type := 0, pos := "law.go:66", after := #[{ on := 0, ground := Go.Ground.data }, { on := 1, ground := Go.Ground.data }], guard := none } : Oper)
def oKpPlaysLaw4 : Oper := ({ dst := some 26, op := Go.Op.load 32 (Go.Operand.tmp 25), type := 32, pos := "law.go:66", after := #[{ on := 2, ground := Go.Ground.data }], guard := none } : Oper)
def oKpPlaysLaw5 : Oper := ({ dst := some 28, op := Go.Op.move (Go.Operand.tmp 0), type := 22, pos := "law.go:66", after := #[], guard := none } : Oper)
def oKpPlaysLaw6 : Oper := ({ dst := some 29, op := Go.Op.move (Go.Operand.tmp 5), type := 3, pos := "law.go:66", after := #[], guard := none } : Oper)
def oKpPlaysLaw7 : Oper := ({ dst := some 30, op := Go.Op.indexAddr 22 (Go.Operand.tmp 28) (Go.Operand.tmp 29), type := 0, pos := "law.go:66", after := #[{ on := 5, ground := Go.Ground.data }, { on := 6, ground := Go.Ground.data }], guard := none } : Oper)
def oKpPlaysLaw8 : Oper := ({ dst := some 31, op := Go.Op.load 32 (Go.Operand.tmp 30), type := 32, pos := "law.go:66", after := #[{ on := 7, ground := Go.Ground.data }], guard := none } : Oper)
def oKpPlaysLaw9 : Oper := ({ dst := some 27, op := Go.Op.call { callee := Go.Callee.value (Go.Operand.func 8), args := #[Go.Operand.tmp 26], argTypes := #[32] }, type := 4, pos := "law.go:66", after := #[{ on := 3, ground := Go.Ground.data }], guard := none } : Oper)
def oKpPlaysLaw10 : Oper := ({ dst := some 32, op := Go.Op.call { callee := Go.Callee.value (Go.Operand.func 9), args := #[Go.Operand.tmp 31], argTypes := #[32] }, type := 4, pos := "law.go:66", after := #[{ on := 8, ground := Go.Ground.data }, { on := 4, ground := Go.Ground.chain }], guard := none } : Oper)
def oKpPlaysLaw11 : Oper := ({ dst := some 33, op := Go.Op.binOp Go.BinOp.neq 4 (Go.Operand.tmp 27) (Go.Operand.tmp 32) 4, type := 4, pos := "law.go:66", after := #[{ on := 4, ground := Go.Ground.data }, { on := 9, ground := Go.Ground.data }], guard := none } : Oper)
def oKpPlaysLaw12 : Oper := ({ dst := some 34, op := Go.Op.move (Go.Operand.tmp 33), type := 4, pos := "law.go:66", after := #[{ on := 10, ground := Go.Ground.data }, { on := 9, ground := Go.Ground.chain }], guard := none } : Oper)
def oKpPlaysLaw13 : Oper := ({ dst := some 35, op := Go.Op.move (Go.Operand.tmp 3), type := 25, pos := "law.go:66", after := #[{ on := 11, ground := Go.Ground.guard }], guard := some (11, false) } : Oper)
def oKpPlaysLaw14 : Oper := ({ dst := some 36, op := Go.Op.move (Go.Operand.tmp 0), type := 22, pos := "law.go:66", after := #[{ on := 11, ground := Go.Ground.guard }], guard := some (11, false) } : Oper)
def oKpPlaysLaw15 : Oper := ({ dst := some 37, op := Go.Op.move (Go.Operand.tmp 5), type := 3, pos := "law.go:66", after := #[{ on := 11, ground := Go.Ground.guard }], guard := some (11, false) } : Oper)
def oKpPlaysLaw16 : Oper := ({ dst := some 38, op := Go.Op.indexAddr 22 (Go.Operand.tmp 36) (Go.Operand.tmp 37), type := 0, pos := "law.go:66", after := #[{ on := 13, ground := Go.Ground.data }, { on := 14, ground := Go.Ground.data }, { on := 11, ground := Go.Ground.guard }], guard := some (11, false) } : Oper)
def oKpPlaysLaw17 : Oper := ({ dst := some 39, op := Go.Op.load 32 (Go.Operand.tmp 38), type := 32, pos := "law.go:66", after := #[{ on := 15, ground := Go.Ground.data }, { on := 11, ground := Go.Ground.guard }], guard := some (11, false) } : Oper)
def oKpPlaysLaw18 : Oper := ({ dst := some 41, op := Go.Op.move (Go.Operand.tmp 4), type := 27, pos := "law.go:66", after := #[{ on := 11, ground := Go.Ground.guard }], guard := some (11, false) } : Oper)
def oKpPlaysLaw19 : Oper := ({ dst := some 42, op := Go.Op.move (Go.Operand.tmp 0), type := 22, pos := "law.go:66", after := #[{ on := 11, ground := Go.Ground.guard }], guard := some (11, false) } : Oper)
def oKpPlaysLaw20 : Oper := ({ dst := some 43, op := Go.Op.move (Go.Operand.tmp 5), type := 3, pos := "law.go:66", after := #[{ on := 11, ground := Go.Ground.guard }], guard := some (11, false) } : Oper)
def oKpPlaysLaw21 : Oper := ({ dst := some 44, op := Go.Op.indexAddr 22 (Go.Operand.tmp 42) (Go.Operand.tmp 43), type := 0, pos := "law.go:66", after := #[{ on := 19, ground := Go.Ground.data }, { on := 20, ground := Go.Ground.data }, { on := 11, ground := Go.Ground.guard }], guard := some (11, false) } : Oper)
def oKpPlaysLaw22 : Oper := ({ dst := some 45, op := Go.Op.load 32 (Go.Operand.tmp 44), type := 32, pos := "law.go:66", after := #[{ on := 21, ground := Go.Ground.data }, { on := 11, ground := Go.Ground.guard }], guard := some (11, false) } : Oper)
def oKpPlaysLaw23 : Oper := ({ dst := some 40, op := Go.Op.call { callee := Go.Callee.value (Go.Operand.func 10), args := #[Go.Operand.tmp 35, Go.Operand.tmp 39], argTypes := #[25, 32] }, type := 4, pos := "law.go:66", after := #[{ on := 12, ground := Go.Ground.data }, { on := 16, ground := Go.Ground.data }, { on := 11, ground := Go.Ground.chain }, { on := 11, ground := Go.Ground.guard }], guard := some (11, false) } : Oper)
def oKpPlaysLaw24 : Oper := ({ dst := some 46, op := Go.Op.call { callee := Go.Callee.value (Go.Operand.func 11), args := #[Go.Operand.tmp 41, Go.Operand.tmp 45], argTypes := #[27, 32] }, type := 4, pos := "law.go:66", after := #[{ on := 18, ground := Go.Ground.data }, { on := 22, ground := Go.Ground.data }, { on := 17, ground := Go.Ground.chain }, { on := 11, ground := Go.Ground.guard }], guard := some (11, false) } : Oper)
def oKpPlaysLaw25 : Oper := ({ dst := some 47, op := Go.Op.binOp Go.BinOp.neq 4 (Go.Operand.tmp 40) (Go.Operand.tmp 46) 4, type := 4, pos := "law.go:66", after := #[{ on := 17, ground := Go.Ground.data }, { on := 23, ground := Go.Ground.data }, { on := 11, ground := Go.Ground.guard }], guard := some (11, false) } : Oper)
def oKpPlaysLaw26 : Oper := ({ dst := some 48, op := Go.Op.pick (Go.Operand.tmp 34) (Go.Operand.const (Go.Value.bool true)) (Go.Operand.tmp 47), type := 4, pos := "law.go:66", after := #[{ on := 11, ground := Go.Ground.data }, { on := 24, ground := Go.Ground.data }], guard := none } : Oper)
def oKpPlaysLaw27 : Oper := ({ dst := some 49, op := Go.Op.move (Go.Operand.tmp 48), type := 4, pos := "law.go:66", after := #[{ on := 25, ground := Go.Ground.data }, { on := 23, ground := Go.Ground.chain }], guard := none } : Oper)
def oKpPlaysLaw28 : Oper := ({ dst := some 50, op := Go.Op.move (Go.Operand.tmp 3), type := 25, pos := "law.go:66", after := #[{ on := 26, ground := Go.Ground.guard }], guard := some (26, false) } : Oper)
def oKpPlaysLaw29 : Oper := ({ dst := some 52, op := Go.Op.move (Go.Operand.tmp 4), type := 27, pos := "law.go:66", after := #[{ on := 26, ground := Go.Ground.guard }], guard := some (26, false) } : Oper)
def oKpPlaysLaw30 : Oper := ({ dst := some 53, op := Go.Op.nilCheck (Go.Operand.tmp 52), type := 0, pos := "law.go:66", after := #[{ on := 29, ground := Go.Ground.data }, { on := 26, ground := Go.Ground.guard }], guard := some (26, false) } : Oper)
def oKpPlaysLaw31 : Oper := ({ dst := some 54, op := Go.Op.fieldAddr 29 (Go.Operand.tmp 53) 0, type := 0, pos := "law.go:66", after := #[{ on := 30, ground := Go.Ground.data }, { on := 26, ground := Go.Ground.guard }], guard := some (26, false) } : Oper)
def oKpPlaysLaw32 : Oper := ({ dst := some 55, op := Go.Op.load 22 (Go.Operand.tmp 54), type := 22, pos := "law.go:66", after := #[{ on := 31, ground := Go.Ground.data }, { on := 26, ground := Go.Ground.guard }], guard := some (26, false) } : Oper)
def oKpPlaysLaw33 : Oper := ({ dst := some 56, op := Go.Op.call { callee := Go.Callee.builtin Go.Builtin.len, args := #[Go.Operand.tmp 55], argTypes := #[22] }, type := 3, pos := "law.go:66", after := #[{ on := 32, ground := Go.Ground.data }, { on := 26, ground := Go.Ground.guard }], guard := some (26, false) } : Oper)
def oKpPlaysLaw34 : Oper := ({ dst := some 51, op := Go.Op.call { callee := Go.Callee.value (Go.Operand.func 12), args := #[Go.Operand.tmp 50], argTypes := #[25] }, type := 3, pos := "law.go:66", after := #[{ on := 27, ground := Go.Ground.data }, { on := 26, ground := Go.Ground.chain }, { on := 26, ground := Go.Ground.guard }], guard := some (26, false) } : Oper)
def oKpPlaysLaw35 : Oper := ({ dst := some 57, op := Go.Op.binOp Go.BinOp.neq 3 (Go.Operand.tmp 51) (Go.Operand.tmp 56) 3, type := 4, pos := "law.go:66", after := #[{ on := 28, ground := Go.Ground.data }, { on := 33, ground := Go.Ground.data }, { on := 26, ground := Go.Ground.guard }], guard := some (26, false) } : Oper)
def oKpPlaysLaw36 : Oper := ({ dst := some 58, op := Go.Op.pick (Go.Operand.tmp 49) (Go.Operand.const (Go.Value.bool true)) (Go.Operand.tmp 57), type := 4, pos := "law.go:66", after := #[{ on := 26, ground := Go.Ground.data }, { on := 34, ground := Go.Ground.data }], guard := none } : Oper)
def oKpPlaysLaw37 : Oper := ({ dst := some 92, op := Go.Op.move (Go.Operand.tmp 3), type := 25, pos := "law.go:77", after := #[], guard := none } : Oper)
def oKpPlaysLaw38 : Oper := ({ dst := some 94, op := Go.Op.move (Go.Operand.tmp 4), type := 27, pos := "law.go:77", after := #[], guard := none } : Oper)
def oKpPlaysLaw39 : Oper := ({ dst := some 95, op := Go.Op.nilCheck (Go.Operand.tmp 94), type := 0, pos := "law.go:77", after := #[{ on := 2, ground := Go.Ground.data }], guard := none } : Oper)
def oKpPlaysLaw40 : Oper := ({ dst := some 96, op := Go.Op.fieldAddr 29 (Go.Operand.tmp 95) 0, type := 0, pos := "law.go:77", after := #[{ on := 3, ground := Go.Ground.data }], guard := none } : Oper)
def oKpPlaysLaw41 : Oper := ({ dst := some 97, op := Go.Op.load 22 (Go.Operand.tmp 96), type := 22, pos := "law.go:77", after := #[{ on := 4, ground := Go.Ground.data }], guard := none } : Oper)
def oKpPlaysLaw42 : Oper := ({ dst := some 93, op := Go.Op.call { callee := Go.Callee.value (Go.Operand.func 16), args := #[Go.Operand.tmp 92], argTypes := #[25] }, type := 22, pos := "law.go:77", after := #[{ on := 0, ground := Go.Ground.data }], guard := none } : Oper)
def oKpPlaysLaw43 : Oper := ({ dst := some 98, op := Go.Op.call { callee := Go.Callee.value (Go.Operand.func 15), args := #[Go.Operand.tmp 93, Go.Operand.tmp 97], argTypes := #[22, 22] }, type := 4, pos := "law.go:77", after := #[{ on := 1, ground := Go.Ground.data }, { on := 5, ground := Go.Ground.data }, { on := 1, ground := Go.Ground.chain }], guard := none } : Oper)
def oKpPlaysLaw44 : Oper := ({ dst := some 99, op := Go.Op.move (Go.Operand.tmp 98), type := 4, pos := "law.go:77", after := #[{ on := 6, ground := Go.Ground.data }, { on := 6, ground := Go.Ground.chain }], guard := none } : Oper)
def oKpPlaysLaw45 : Oper := ({ dst := some 100, op := Go.Op.call { callee := Go.Callee.value (Go.Operand.func 6), args := #[], argTypes := #[] }, type := 4, pos := "law.go:77", after := #[{ on := 7, ground := Go.Ground.chain }, { on := 7, ground := Go.Ground.guard }], guard := some (7, true) } : Oper)
def oKpPlaysLaw46 : Oper := ({ dst := some 101, op := Go.Op.pick (Go.Operand.tmp 99) (Go.Operand.tmp 100) (Go.Operand.const (Go.Value.bool false)), type := 4, pos := "law.go:77", after := #[{ on := 7, ground := Go.Ground.data }, { on := 8, ground := Go.Ground.data }], guard := none } : Oper)
def oKpPlaysLaw47 : Oper := ({ dst := some 2, op := Go.Op.assign (Go.Operand.tmp 101), type := 4, pos := "law.go:77", after := #[{ on := 9, ground := Go.Ground.data }, { on := 8, ground := Go.Ground.chain }, { on := 0, ground := Go.Ground.phase }, { on := 1, ground := Go.Ground.phase }, { on := 2, ground := Go.Ground.phase }, { on := 3, ground := Go.Ground.phase }, { on := 4, ground := Go.Ground.phase }, { on := 5, ground := Go.Ground.phase }, { on := 6, ground := Go.Ground.phase }, { on := 7, ground := Go.Ground.phase }, { on := 8, ground := Go.Ground.phase }, { on := 9, ground := Go.Ground.phase }], guard := none } : Oper)
end
open Go.RowKit Go.ChangeShapes Go.WideShapes Go.ChangeAt
open Go.ChangeMaps (open_string shut_string)
namespace lawKeepPlays
set_option maxRecDepth 100000 in
set_option maxHeartbeats 8000000 in
theorem walk (w : World) (hG : Glo w) (A : Option Addr) (n c : Nat) (l : List Ms) (hs : Msgs w A n l) (hn : n ≤ 9223372036854775807) (hi : Hid (∀ x ∈ l, MIn x)) :
    Calls Tryz.prog 3 #[.slice A n c] w fun e w' => e = .returned (.bool true) ∧ Below w.heap.size w w' := by
  have HG := Lib.hid hG
  have HS := Lib.hid hs
  clear hG hs
  go_enter Tryz.func3, Tryz.ntmps3
  go_wp2_with fail
  refine (great10_any A n c l _ HS.out hn hi).mono ?_
  rintro e w0 ⟨gg, rfl, hok, rfl⟩
  cases gg with
  | true =>
    go_wp2_with fail
    refine (awake10_any _ HG.out).mono ?_
    rintro e w1 ⟨rfl, hb⟩
    go_wp2_with fail
    go_ret
    exact ⟨rfl, hb⟩
  | false =>
    have HOK := Lib.hid (hok rfl)
    clear hok
    have hnl := HS.out.len
    have hn60 : n ≤ 60 := by have := HOK.out.1; omega
    have HNL := Lib.hid hnl
    clear hnl
    go_wp2_with fail
    refine (kNew _).mono ?_
    rintro e w1 ⟨t, F, rfl, hT, hb1, hF⟩
    obtain ⟨W, hW⟩ : ∃ W, W = w1.alloc (.cells #[.slice none 0 0] 29) := ⟨_, rfl⟩
    have hbW := below_more hb1 (show Below w1.heap.size w1 W by rw [hW]; exact (Below.refl _ _).alloc (Nat.le_refl _) _)
    have hD := DK.start hT hF hb1.size hW
    obtain ⟨g, hg⟩ : ∃ g, g = w1.heap.size := ⟨_, rfl⟩
    rw [← hg] at hD
    have HD := Lib.hid hD
    go_wp2_with fail
    rw [← hW, ← hg]
    clear hW hg hT hF hb1 hD
    go_loopw [5] (fun i wr => ∃ (k : Nat) (F : Nat → Prop) (A2 : Option Addr) (n2 c2 : Nat) (L : List Ms), i = .int .i64 k ∧ k ≤ n ∧ Below w.heap.size w wr ∧ DK w.heap.size wr t F g A2 n2 c2 L k) (fun i _ => n - (intOf i).toNat)
    case atStart => exact ⟨0, F, none, 0, 0, [], rfl, by omega, hbW, HD.out⟩
    case round =>
      clear HD hbW
      obtain ⟨k, F, A2, n2, c2, L, rfl, hk, hb, hD⟩ := hrel
      have hDn := hD.n_le
      have HD := Lib.hid hD
      clear hD
      by_cases hlt : k < n
      · obtain ⟨b1, o1, x, rfl, hx, hat⟩ := (HS.out.below hb).at_ hlt
        have hb1l : b1 < w.heap.size := by
          obtain ⟨b9, o9, x9, e9, _, hat9⟩ := HS.out.at_ hlt
          cases e9
          exact hat9.lt
        obtain ⟨hx1, hx2⟩ := HOK.out.2 x (List.mem_of_getElem? hx)
        have HAT := Lib.hid hat
        obtain ⟨x1, x2, x3, x4⟩ := x
        obtain ⟨q0, q1, q2, q3⟩ := hat
        dsimp only at q0 q1 q2 q3 hx1 hx2
        obtain ⟨r, hr⟩ : ∃ r, mayB (x1, x2, x3, x4) = r := ⟨_, rfl⟩
        obtain ⟨M, hM⟩ : ∃ M, setM L (x1, x2, x3, x4) = M := ⟨_, rfl⟩
        have HR := Lib.hid hr
        have HM := Lib.hid hM
        have HKM : Hid (KsOk (k + 1) M) := by show KsOk _ _; rw [← hM]; exact HD.out.ok.set hx1 hx2
        have hkI : (k : Int) < (n : Int) := by omega
        have hk0 : (0 : Int) ≤ (k : Int) := by omega
        have hrr : (r != r) = false := by cases r <;> rfl
        have hLl : L.length ≤ 1000000 := by have := HD.out.ok.2.1; omega
        clear hx hr hM q0 q1 q2 q3
        go_wp2_with fail
        refine wp_region_held_drew (S := (fun w' => MsAt w' b1 (o1 + k * 4) (x1, x2, x3, x4))) (by kernel_rfl) (HAT.out.below (Below.refl _ _).drew) (fun hHeld => ?_)
        obtain ⟨wd, hwd⟩ : ∃ wd, wd = wr.drew := ⟨_, rfl⟩
        have hbd : Below wr.heap.size wr wd := by rw [hwd]; exact (Below.refl _ _).drew
        rw [← hwd] at hHeld ⊢
        clear hwd
        refine tkY 0 oKpPlaysLaw1 ?vv6_18_0 rfl (by kernel_rfl) (by kernel_rfl) (by kernel_rfl) (fun _ _ _ h => h) (by rfl) ?hy6_18_0 (by assumption) ?rest6_18_0
        case hy6_18_0 => (intro w hSw; unfold oKpPlaysLaw1; (try dsimp only at hSw); (try go_split_ands); go_simp; all_goals with_reducible rfl)
        try simp only [oKpPlaysLaw1, Act.put, sA, sB, sC]
        refine tkY 1 oKpPlaysLaw2 ?vv6_18_1 rfl (by kernel_rfl) (by kernel_rfl) (by kernel_rfl) (fun _ _ _ h => h) (by rfl) ?hy6_18_1 (by assumption) ?rest6_18_1
        case hy6_18_1 => (intro w hSw; unfold oKpPlaysLaw2; (try dsimp only at hSw); (try go_split_ands); go_simp; all_goals with_reducible rfl)
        try simp only [oKpPlaysLaw2, Act.put, sA, sB, sC]
        refine tkY 2 oKpPlaysLaw3 ?vv6_18_2 rfl (by kernel_rfl) (by kernel_rfl) (by kernel_rfl) (fun _ _ _ h => h) (by rfl) ?hy6_18_2 (by assumption) ?rest6_18_2
        case hy6_18_2 => (intro w hSw; unfold oKpPlaysLaw3; (try dsimp only at hSw); (try go_split_ands); go_simp; all_goals with_reducible rfl)
        try simp only [oKpPlaysLaw3, Act.put, sA, sB, sC]
        refine tkY 3 oKpPlaysLaw4 ?vv6_19_3 rfl (by kernel_rfl) (by kernel_rfl) (by kernel_rfl) (fun _ _ _ h => h) (by rfl) ?hy6_19_3 (by assumption) ?rest6_19_3
        case hy6_19_3 => (intro w hSw; unfold oKpPlaysLaw4; (try dsimp only at hSw); have ⟨q0, q1, q2, q3⟩ := hSw; clear hSw; dsimp only at q0 q1 q2 q3; go_simp; all_goals with_reducible rfl)
        try simp only [oKpPlaysLaw4, Act.put, sA, sB, sC]
        refine tkY 5 oKpPlaysLaw5 ?vv6_20_5 rfl (by kernel_rfl) (by kernel_rfl) (by kernel_rfl) (fun _ _ _ h => h) (by rfl) ?hy6_20_5 (by assumption) ?rest6_20_5
        case hy6_20_5 => (intro w hSw; unfold oKpPlaysLaw5; (try dsimp only at hSw); (try go_split_ands); go_simp; all_goals with_reducible rfl)
        try simp only [oKpPlaysLaw5, Act.put, sA, sB, sC]
        refine tkY 6 oKpPlaysLaw6 ?vv6_20_6 rfl (by kernel_rfl) (by kernel_rfl) (by kernel_rfl) (fun _ _ _ h => h) (by rfl) ?hy6_20_6 (by assumption) ?rest6_20_6
        case hy6_20_6 => (intro w hSw; unfold oKpPlaysLaw6; (try dsimp only at hSw); (try go_split_ands); go_simp; all_goals with_reducible rfl)
        try simp only [oKpPlaysLaw6, Act.put, sA, sB, sC]
        refine tkY 7 oKpPlaysLaw7 ?vv6_20_7 rfl (by kernel_rfl) (by kernel_rfl) (by kernel_rfl) (fun _ _ _ h => h) (by rfl) ?hy6_20_7 (by assumption) ?rest6_20_7
        case hy6_20_7 => (intro w hSw; unfold oKpPlaysLaw7; (try dsimp only at hSw); (try go_split_ands); go_simp; all_goals with_reducible rfl)
        try simp only [oKpPlaysLaw7, Act.put, sA, sB, sC]
        refine tkY 8 oKpPlaysLaw8 ?vv6_21_8 rfl (by kernel_rfl) (by kernel_rfl) (by kernel_rfl) (fun _ _ _ h => h) (by rfl) ?hy6_21_8 (by assumption) ?rest6_21_8
        case hy6_21_8 => (intro w hSw; unfold oKpPlaysLaw8; (try dsimp only at hSw); have ⟨q0, q1, q2, q3⟩ := hSw; clear hSw; dsimp only at q0 q1 q2 q3; go_simp; all_goals with_reducible rfl)
        try simp only [oKpPlaysLaw8, Act.put, sA, sB, sC]
        refine wpAnyH_ready (rs := [4]) (by kernel_rfl) (by simp) ?_
        refine AllReadyH.cons (o := oKpPlaysLaw9) rfl (fun K hK => ?_) AllReadyH.nil
        unfold oKpPlaysLaw9
        go_simp
        (go_at_call 8; refine (kMay _ (x1, x2, x3, x4) r (by dsimp only; omega) HR.out).mono ?_; rintro e w4 ⟨rfl, hb4⟩)
        refine hK.out _ _ ?_ (fun hHeld => ?_)
        · (exact hHeld.below hb4)
        clear hK K
        try simp only [oKpPlaysLaw9, Act.put, sA, sB, sC]
        refine wpAnyH_ready (rs := [9]) (by kernel_rfl) (by simp) ?_
        refine AllReadyH.cons (o := oKpPlaysLaw10) rfl (fun K hK => ?_) AllReadyH.nil
        unfold oKpPlaysLaw10
        go_simp
        (go_at_call 9; refine (rMay _ (x1, x2, x3, x4) r (by dsimp only; omega) HR.out).mono ?_; rintro e w5 ⟨rfl, hb5⟩)
        refine hK.out _ _ ?_ (fun hHeld => ?_)
        · (exact hHeld.below hb5)
        clear hK K
        try simp only [oKpPlaysLaw10, Act.put, sA, sB, sC]
        have hb6 := below_more (below_more hbd hb4) hb5
        have HD5 := Lib.hid (HD.out.below hb6)
        have hbw5 := below_more hb hb6
        clear hbd hb4 hb5 hb6
        refine tkY 10 oKpPlaysLaw11 ?vv6_22_10 rfl (by kernel_rfl) (by kernel_rfl) (by kernel_rfl) (fun _ _ _ h => h) (by rfl) ?hy6_22_10 (by assumption) ?rest6_22_10
        case hy6_22_10 => (intro w hSw; unfold oKpPlaysLaw11; (try dsimp only at hSw); (try go_split_ands); go_simp; all_goals with_reducible rfl)
        try simp only [oKpPlaysLaw11, Act.put, sA, sB, sC]
        refine tkY 11 oKpPlaysLaw12 ?vv6_22_11 rfl (by kernel_rfl) (by kernel_rfl) (by kernel_rfl) (fun _ _ _ h => h) (by rfl) ?hy6_22_11 (by assumption) ?rest6_22_11
        case hy6_22_11 => (intro w hSw; unfold oKpPlaysLaw12; (try dsimp only at hSw); (try go_split_ands); go_simp; all_goals with_reducible rfl)
        try simp only [oKpPlaysLaw12, Act.put, sA, sB, sC]
        refine tkY 12 oKpPlaysLaw13 ?vv6_22_12 rfl (by kernel_rfl) (by kernel_rfl) (by kernel_rfl) (fun _ _ _ h => h) (by rfl) ?hy6_22_12 (by assumption) ?rest6_22_12
        case hy6_22_12 => (intro w hSw; unfold oKpPlaysLaw13; (try dsimp only at hSw); (try go_split_ands); go_simp; all_goals with_reducible rfl)
        try simp only [oKpPlaysLaw13, Act.put, sA, sB, sC]
        refine tkY 13 oKpPlaysLaw14 ?vv6_22_13 rfl (by kernel_rfl) (by kernel_rfl) (by kernel_rfl) (fun _ _ _ h => h) (by rfl) ?hy6_22_13 (by assumption) ?rest6_22_13
        case hy6_22_13 => (intro w hSw; unfold oKpPlaysLaw14; (try dsimp only at hSw); (try go_split_ands); go_simp; all_goals with_reducible rfl)
        try simp only [oKpPlaysLaw14, Act.put, sA, sB, sC]
        refine tkY 14 oKpPlaysLaw15 ?vv6_22_14 rfl (by kernel_rfl) (by kernel_rfl) (by kernel_rfl) (fun _ _ _ h => h) (by rfl) ?hy6_22_14 (by assumption) ?rest6_22_14
        case hy6_22_14 => (intro w hSw; unfold oKpPlaysLaw15; (try dsimp only at hSw); (try go_split_ands); go_simp; all_goals with_reducible rfl)
        try simp only [oKpPlaysLaw15, Act.put, sA, sB, sC]
        refine tkY 15 oKpPlaysLaw16 ?vv6_22_15 rfl (by kernel_rfl) (by kernel_rfl) (by kernel_rfl) (fun _ _ _ h => h) (by rfl) ?hy6_22_15 (by assumption) ?rest6_22_15
        case hy6_22_15 => (intro w hSw; unfold oKpPlaysLaw16; (try dsimp only at hSw); (try go_split_ands); go_simp; all_goals with_reducible rfl)
        try simp only [oKpPlaysLaw16, Act.put, sA, sB, sC]
        refine tkY 16 oKpPlaysLaw17 ?vv6_23_16 rfl (by kernel_rfl) (by kernel_rfl) (by kernel_rfl) (fun _ _ _ h => h) (by rfl) ?hy6_23_16 (by assumption) ?rest6_23_16
        case hy6_23_16 => (intro w hSw; unfold oKpPlaysLaw17; (try dsimp only at hSw); have ⟨q0, q1, q2, q3⟩ := hSw; clear hSw; dsimp only at q0 q1 q2 q3; go_simp; all_goals with_reducible rfl)
        try simp only [oKpPlaysLaw17, Act.put, sA, sB, sC]
        refine tkY 18 oKpPlaysLaw18 ?vv6_24_18 rfl (by kernel_rfl) (by kernel_rfl) (by kernel_rfl) (fun _ _ _ h => h) (by rfl) ?hy6_24_18 (by assumption) ?rest6_24_18
        case hy6_24_18 => (intro w hSw; unfold oKpPlaysLaw18; (try dsimp only at hSw); (try go_split_ands); go_simp; all_goals with_reducible rfl)
        try simp only [oKpPlaysLaw18, Act.put, sA, sB, sC]
        refine tkY 19 oKpPlaysLaw19 ?vv6_24_19 rfl (by kernel_rfl) (by kernel_rfl) (by kernel_rfl) (fun _ _ _ h => h) (by rfl) ?hy6_24_19 (by assumption) ?rest6_24_19
        case hy6_24_19 => (intro w hSw; unfold oKpPlaysLaw19; (try dsimp only at hSw); (try go_split_ands); go_simp; all_goals with_reducible rfl)
        try simp only [oKpPlaysLaw19, Act.put, sA, sB, sC]
        refine tkY 20 oKpPlaysLaw20 ?vv6_24_20 rfl (by kernel_rfl) (by kernel_rfl) (by kernel_rfl) (fun _ _ _ h => h) (by rfl) ?hy6_24_20 (by assumption) ?rest6_24_20
        case hy6_24_20 => (intro w hSw; unfold oKpPlaysLaw20; (try dsimp only at hSw); (try go_split_ands); go_simp; all_goals with_reducible rfl)
        try simp only [oKpPlaysLaw20, Act.put, sA, sB, sC]
        refine tkY 21 oKpPlaysLaw21 ?vv6_24_21 rfl (by kernel_rfl) (by kernel_rfl) (by kernel_rfl) (fun _ _ _ h => h) (by rfl) ?hy6_24_21 (by assumption) ?rest6_24_21
        case hy6_24_21 => (intro w hSw; unfold oKpPlaysLaw21; (try dsimp only at hSw); (try go_split_ands); go_simp; all_goals with_reducible rfl)
        try simp only [oKpPlaysLaw21, Act.put, sA, sB, sC]
        refine tkY 22 oKpPlaysLaw22 ?vv6_25_22 rfl (by kernel_rfl) (by kernel_rfl) (by kernel_rfl) (fun _ _ _ h => h) (by rfl) ?hy6_25_22 (by assumption) ?rest6_25_22
        case hy6_25_22 => (intro w hSw; unfold oKpPlaysLaw22; (try dsimp only at hSw); have ⟨q0, q1, q2, q3⟩ := hSw; clear hSw; dsimp only at q0 q1 q2 q3; go_simp; all_goals with_reducible rfl)
        try simp only [oKpPlaysLaw22, Act.put, sA, sB, sC]
        refine wpAnyH_ready (rs := [17]) (by kernel_rfl) (by simp) ?_
        refine AllReadyH.cons (o := oKpPlaysLaw23) rfl (fun K hK => ?_) AllReadyH.nil
        unfold oKpPlaysLaw23
        go_simp
        (go_at_call 10; refine (kSet_any HD5.out.pt HD5.out.ok.1 hLl (x1, x2, x3, x4) M r (by dsimp only; omega) (by dsimp only; omega) HM.out HR.out).mono ?_; rintro e w6 ⟨F6, rfl, hP6, hU6, hF6⟩)
        refine hK.out _ _ ?_ (fun hHeld => ?_)
        · (exact hHeld.outs hU6 (fun hf => by have := (HD5.out.dis b1 hf).1; omega))
        clear hK K
        try simp only [oKpPlaysLaw23, Act.put, sA, sB, sC]
        have hg8 := HD5.out.gB
        have hn2 : n2 ≤ 1000 := by omega
        refine wpAnyH_ready (rs := [23]) (by kernel_rfl) (by simp) ?_
        refine AllReadyH.cons (o := oKpPlaysLaw24) rfl (fun K hK => ?_) AllReadyH.nil
        unfold oKpPlaysLaw24
        go_simp
        (go_at_call 11; refine (rSet_any (HD5.out.mid hU6) hn2 (x1, x2, x3, x4) M r (by dsimp only; omega) HM.out HR.out).mono ?_; rintro e w7 hR7; obtain ⟨A7, n7, c7, rfl, hD7, hb7, hU7⟩ := HD5.out.step hP6 hU6 hF6 hR7 HKM.out)
        refine hK.out _ _ ?_ (fun hHeld => ?_)
        · (exact hHeld.outs hU7 (fun e => by omega))
        clear hK K
        try simp only [oKpPlaysLaw24, Act.put, sA, sB, sC]
        have HD7 := Lib.hid hD7
        have hbw7 := hbw5.trans hb7
        have hcell7 := hD7.rt.cell
        have hlen7 := hD7.rt.len
        have hnn : ((n7 : Int) != (n7 : Int)) = false := by simp
        have HLEN := kLen hD7.pt hD7.ok.1
        rw [hlen7] at HLEN
        have HLEN7 := Lib.hid HLEN
        clear hP6 hU6 hF6 hR7 hD7 hb7 hU7 hbw5 hlen7 HLEN
        refine wpAnyH_more (S2 := fun w' => MsAt w' b1 (o1 + k * 4) (x1, x2, x3, x4) ∧ w'.cell? ⟨g, 0, none⟩ = some (.slice A7 n7 c7)) (fun _ h => h.1) ⟨hHeld, hcell7⟩ (fun hHeld2 => ?_)
        clear hHeld
        have hHeld := hHeld2
        clear hHeld2 hcell7
        refine tkY 24 oKpPlaysLaw25 ?vv6_26_24 rfl (by kernel_rfl) (by kernel_rfl) (by kernel_rfl) (fun _ _ _ h => h) (by rfl) ?hy6_26_24 (by assumption) ?rest6_26_24
        case hy6_26_24 => (intro w hSw; unfold oKpPlaysLaw25; (try dsimp only at hSw); (try go_split_ands); go_simp; all_goals with_reducible rfl)
        try simp only [oKpPlaysLaw25, Act.put, sA, sB, sC]
        refine tkY 25 oKpPlaysLaw26 ?vv6_26_25 rfl (by kernel_rfl) (by kernel_rfl) (by kernel_rfl) (fun _ _ _ h => h) (by rfl) ?hy6_26_25 (by assumption) ?rest6_26_25
        case hy6_26_25 => (intro w hSw; unfold oKpPlaysLaw26; (try dsimp only at hSw); (try go_split_ands); go_simp; all_goals with_reducible rfl)
        try simp only [oKpPlaysLaw26, Act.put, sA, sB, sC]
        refine tkY 26 oKpPlaysLaw27 ?vv6_26_26 rfl (by kernel_rfl) (by kernel_rfl) (by kernel_rfl) (fun _ _ _ h => h) (by rfl) ?hy6_26_26 (by assumption) ?rest6_26_26
        case hy6_26_26 => (intro w hSw; unfold oKpPlaysLaw27; (try dsimp only at hSw); (try go_split_ands); go_simp; all_goals with_reducible rfl)
        try simp only [oKpPlaysLaw27, Act.put, sA, sB, sC]
        refine tkY 27 oKpPlaysLaw28 ?vv6_26_27 rfl (by kernel_rfl) (by kernel_rfl) (by kernel_rfl) (fun _ _ _ h => h) (by rfl) ?hy6_26_27 (by assumption) ?rest6_26_27
        case hy6_26_27 => (intro w hSw; unfold oKpPlaysLaw28; (try dsimp only at hSw); (try go_split_ands); go_simp; all_goals with_reducible rfl)
        try simp only [oKpPlaysLaw28, Act.put, sA, sB, sC]
        refine tkY 29 oKpPlaysLaw29 ?vv6_26_29 rfl (by kernel_rfl) (by kernel_rfl) (by kernel_rfl) (fun _ _ _ h => h) (by rfl) ?hy6_26_29 (by assumption) ?rest6_26_29
        case hy6_26_29 => (intro w hSw; unfold oKpPlaysLaw29; (try dsimp only at hSw); (try go_split_ands); go_simp; all_goals with_reducible rfl)
        try simp only [oKpPlaysLaw29, Act.put, sA, sB, sC]
        refine tkY 30 oKpPlaysLaw30 ?vv6_26_30 rfl (by kernel_rfl) (by kernel_rfl) (by kernel_rfl) (fun _ _ _ h => h) (by rfl) ?hy6_26_30 (by assumption) ?rest6_26_30
        case hy6_26_30 => (intro w hSw; unfold oKpPlaysLaw30; (try dsimp only at hSw); (try go_split_ands); go_simp; all_goals with_reducible rfl)
        try simp only [oKpPlaysLaw30, Act.put, sA, sB, sC]
        refine tkY 31 oKpPlaysLaw31 ?vv6_26_31 rfl (by kernel_rfl) (by kernel_rfl) (by kernel_rfl) (fun _ _ _ h => h) (by rfl) ?hy6_26_31 (by assumption) ?rest6_26_31
        case hy6_26_31 => (intro w hSw; unfold oKpPlaysLaw31; (try dsimp only at hSw); (try go_split_ands); go_simp; all_goals with_reducible rfl)
        try simp only [oKpPlaysLaw31, Act.put, sA, sB, sC]
        refine tkY 32 oKpPlaysLaw32 ?vv6_27_32 rfl (by kernel_rfl) (by kernel_rfl) (by kernel_rfl) (fun _ _ _ h => h) (by rfl) ?hy6_27_32 (by assumption) ?rest6_27_32
        case hy6_27_32 => (intro w hSw; unfold oKpPlaysLaw32; (try dsimp only at hSw); have q9 := hSw.2; clear hSw; go_simp; all_goals with_reducible rfl)
        try simp only [oKpPlaysLaw32, Act.put, sA, sB, sC]
        refine tkY 33 oKpPlaysLaw33 ?vv6_28_33 rfl (by kernel_rfl) (by kernel_rfl) (by kernel_rfl) (fun _ _ _ h => h) (by rfl) ?hy6_28_33 (by assumption) ?rest6_28_33
        case hy6_28_33 => (intro w hSw; unfold oKpPlaysLaw33; (try dsimp only at hSw); (try go_split_ands); go_simp; all_goals with_reducible rfl)
        try simp only [oKpPlaysLaw33, Act.put, sA, sB, sC]
        refine wpAnyH_ready (rs := [28]) (by kernel_rfl) (by simp) ?_
        refine AllReadyH.cons (o := oKpPlaysLaw34) rfl (fun K hK => ?_) AllReadyH.nil
        unfold oKpPlaysLaw34
        go_simp
        (go_at_call 12; refine HLEN7.out.mono ?_; rintro e w8 ⟨rfl, rfl⟩)
        refine hK.out _ _ ?_ (fun hHeld => ?_)
        · (exact hHeld)
        clear hK K
        try simp only [oKpPlaysLaw34, Act.put, sA, sB, sC]
        refine tkY 34 oKpPlaysLaw35 ?vv6_29_34 rfl (by kernel_rfl) (by kernel_rfl) (by kernel_rfl) (fun _ _ _ h => h) (by rfl) ?hy6_29_34 (by assumption) ?rest6_29_34
        case hy6_29_34 => (intro w hSw; unfold oKpPlaysLaw35; (try dsimp only at hSw); (try go_split_ands); go_simp; all_goals with_reducible rfl)
        try simp only [oKpPlaysLaw35, Act.put, sA, sB, sC]
        refine tkY 35 oKpPlaysLaw36 ?vv6_29_35 rfl (by kernel_rfl) (by kernel_rfl) (by kernel_rfl) (fun _ _ _ h => h) (by rfl) ?hy6_29_35 (by assumption) ?rest6_29_35
        case hy6_29_35 => (intro w hSw; unfold oKpPlaysLaw36; (try dsimp only at hSw); (try go_split_ands); go_simp; all_goals with_reducible rfl)
        try simp only [oKpPlaysLaw36, Act.put, sA, sB, sC]
        refine wpAnyH_done (by kernel_rfl) ?_ _
        clear hHeld hrr hnn
        go_wp2_with fail
        go_loopw [6] (fun i wr => ∃ j : Nat, i = .int .i64 j ∧ j ≤ k + 1 ∧ Below w7.heap.size w7 wr) (fun i _ => k + 1 - (intOf i).toNat)
        case atStart => exact ⟨0, rfl, by omega, Below.refl _ _⟩
        case round =>
          obtain ⟨j, rfl, hj, hbj⟩ := hrel
          by_cases hjk : j ≤ k
          · have hjI : (j : Int) ≤ (k : Int) := by omega
            have hj0 : (0 : Int) ≤ (j : Int) := by omega
            have hjn : (j : Int) < (n : Int) := by omega
            have hbwj := hbw7.trans (hbj.mono hbw7.size)
            obtain ⟨b2, o2, z, e2, hz, hatz⟩ := (HS.out.below hbwj).at_ (k := j) (by omega)
            cases e2
            obtain ⟨hz1, _⟩ := HOK.out.2 z (List.mem_of_getElem? hz)
            have HATZ := Lib.hid hatz
            obtain ⟨z1, z2, z3, z4⟩ := z
            obtain ⟨q0, q1, q2, q3⟩ := hatz
            dsimp only at q0 q1 q2 q3 hz1
            obtain ⟨y, hy⟩ : ∃ y, (getM M z1).getD zMs = y := ⟨_, rfl⟩
            obtain ⟨s, hs⟩ : ∃ s, (getM M z1).isSome = s := ⟨_, rfl⟩
            obtain ⟨y1, y2, y3, y4⟩ := y
            have HGY := Lib.hid hy
            have HGS := Lib.hid hs
            have HD8 := Lib.hid (HD7.out.below hbj)
            have hyy : eqM (y1, y2, y3, y4) (y1, y2, y3, y4) = true := by rw [eqM_iff]; simp
            have hss : (s != s) = false := by cases s <;> rfl
            clear hz hy hs
            go_wp2_with fail
            refine (kGet HD8.out.pt z1 (y1, y2, y3, y4) s (by omega) HGY.out HGS.out).mono ?_
            rintro e w9 ⟨rfl, hb9⟩
            obtain ⟨W9, hW9⟩ : ∃ W, W = w9.alloc (.cells #[.string ⟨y1.toArray⟩, .string ⟨y2.toArray⟩, .int .u8 y3, .bool y4] 32) := ⟨_, rfl⟩
            have hb99 : Below w9.heap.size w9 W9 := by rw [hW9]; exact below_alloc (Below.refl _ _) _
            have HY9 : Hid (BxM W9 w9.heap.size (y1, y2, y3, y4)) := by show BxM _ _ _; rw [hW9]; exact BxM.new w9 (y1, y2, y3, y4)
            have HD9 := Lib.hid ((HD8.out.below hb9).below hb99)
            obtain ⟨q0, q1, q2, q3⟩ := HATZ.out.below hb9
            have hq9l := (HATZ.out.below hb9).lt
            have hb10 := below_more (below_more hbj hb9) hb99
            have hn7 := HD9.out.n_le
            dsimp only at q0 q1 q2 q3
            clear hb9 hb99 hbwj hbj
            go_wp2_with fail
            rw [← hW9]
            clear hW9
            refine (rGet HD9.out.rt (by omega) z1 (y1, y2, y3, y4) s HGY.out HGS.out).mono ?_
            rintro e w11 ⟨rfl, hb11⟩
            have Y9 := HY9.out.below hb11
            have hy9l := Y9.lt
            have v0 := Y9.c0; have v1 := Y9.c1; have v2 := Y9.c2; have v3 := Y9.c3
            dsimp only at v0 v1 v2 v3
            have hb12 := below_alloc (below_more hb10 hb11) (.cells #[.string ⟨y1.toArray⟩, .string ⟨y2.toArray⟩, .int .u8 y3, .bool y4] 32)
            clear hb10 hb11 q0 q1 q2 q3 Y9
            go_wp2_with fail
            go_roundw
            case rel => exact ⟨j + 1, by go_num, by omega, hb12⟩
            case measure => simp [intOf]; omega
          · have hjI : ¬ (j : Int) ≤ (k : Int) := by omega
            have HD8 := Lib.hid (HD7.out.below hbj)
            have hbw8 := hbw7.trans (hbj.mono hbw7.size)
            go_wp2_with fail
            go_roundw
            case rel => exact ⟨k + 1, F6, A7, n7, c7, M, by go_num, by omega, hbw8, HD8.out⟩
            case measure => simp [intOf]; omega
      · have HKL : Hid (KsOk 100 L) := HD.out.ok.le (by omega)
        go_wp2_with fail
        refine wp_region_held_drew (S := (fun w' => Below wr.heap.size wr w')) (by kernel_rfl) ((Below.refl _ _).drew) (fun hHeld => ?_)
        refine tkY 0 oKpPlaysLaw37 ?vv7_30_0 rfl (by kernel_rfl) (by kernel_rfl) (by kernel_rfl) (fun _ _ _ h => h) (by rfl) ?hy7_30_0 (by assumption) ?rest7_30_0
        case hy7_30_0 => (intro w hSw; unfold oKpPlaysLaw37; (try dsimp only at hSw); (try go_split_ands); go_simp; all_goals with_reducible rfl)
        try simp only [oKpPlaysLaw37, Act.put, sA, sB, sC]
        refine tkY 2 oKpPlaysLaw38 ?vv7_30_2 rfl (by kernel_rfl) (by kernel_rfl) (by kernel_rfl) (fun _ _ _ h => h) (by rfl) ?hy7_30_2 (by assumption) ?rest7_30_2
        case hy7_30_2 => (intro w hSw; unfold oKpPlaysLaw38; (try dsimp only at hSw); (try go_split_ands); go_simp; all_goals with_reducible rfl)
        try simp only [oKpPlaysLaw38, Act.put, sA, sB, sC]
        refine tkY 3 oKpPlaysLaw39 ?vv7_30_3 rfl (by kernel_rfl) (by kernel_rfl) (by kernel_rfl) (fun _ _ _ h => h) (by rfl) ?hy7_30_3 (by assumption) ?rest7_30_3
        case hy7_30_3 => (intro w hSw; unfold oKpPlaysLaw39; (try dsimp only at hSw); (try go_split_ands); go_simp; all_goals with_reducible rfl)
        try simp only [oKpPlaysLaw39, Act.put, sA, sB, sC]
        refine tkY 4 oKpPlaysLaw40 ?vv7_30_4 rfl (by kernel_rfl) (by kernel_rfl) (by kernel_rfl) (fun _ _ _ h => h) (by rfl) ?hy7_30_4 (by assumption) ?rest7_30_4
        case hy7_30_4 => (intro w hSw; unfold oKpPlaysLaw40; (try dsimp only at hSw); (try go_split_ands); go_simp; all_goals with_reducible rfl)
        try simp only [oKpPlaysLaw40, Act.put, sA, sB, sC]
        refine tkY 5 oKpPlaysLaw41 ?vv7_31_5 rfl (by kernel_rfl) (by kernel_rfl) (by kernel_rfl) (fun _ _ _ h => h) (by rfl) ?hy7_31_5 (by assumption) ?rest7_31_5
        case hy7_31_5 => (intro w hSw; unfold oKpPlaysLaw41; (try dsimp only at hSw); have hq := (HD.out.rt.below hSw).cell; clear hSw; go_simp; all_goals with_reducible rfl)
        try simp only [oKpPlaysLaw41, Act.put, sA, sB, sC]
        refine wpAnyH_ready (rs := [1]) (by kernel_rfl) (by simp) ?_
        refine AllReadyH.cons (o := oKpPlaysLaw42) rfl (fun K hK => ?_) AllReadyH.nil
        unfold oKpPlaysLaw42
        go_simp
        (go_at_call 16; refine (kAll (HD.out.pt.below hHeld) HKL.out (by omega)).mono ?_; rintro e w6 ⟨v6, rfl, hO6⟩; have hb6 := hO6.below; obtain ⟨A6, c6, rfl, _, hs6, _, _⟩ := hO6.form)
        refine hK.out _ _ ?_ (fun hHeld => ?_)
        · (exact below_more hHeld hb6)
        clear hK K
        try simp only [oKpPlaysLaw42, Act.put, sA, sB, sC]
        have hLl : L.length ≤ 100 := HKL.out.2.1
        refine wpAnyH_ready (rs := [6]) (by kernel_rfl) (by simp) ?_
        refine AllReadyH.cons (o := oKpPlaysLaw43) rfl (fun K hK => ?_) AllReadyH.nil
        unfold oKpPlaysLaw43
        go_simp
        (go_at_call 15; refine (sameMsgs_eq A6 _ c6 L A2 n2 c2 L true _ hs6 (HD.out.rt.below hHeld).2.1 (by omega) (by simp)).mono ?_; rintro e w7 ⟨rfl, hb7⟩)
        refine hK.out _ _ ?_ (fun hHeld => ?_)
        · (exact below_more hHeld hb7)
        clear hK K
        try simp only [oKpPlaysLaw43, Act.put, sA, sB, sC]
        refine tkY 7 oKpPlaysLaw44 ?vv7_32_7 rfl (by kernel_rfl) (by kernel_rfl) (by kernel_rfl) (fun _ _ _ h => h) (by rfl) ?hy7_32_7 (by assumption) ?rest7_32_7
        case hy7_32_7 => (intro w hSw; unfold oKpPlaysLaw44; (try dsimp only at hSw); (try go_split_ands); go_simp; all_goals with_reducible rfl)
        try simp only [oKpPlaysLaw44, Act.put, sA, sB, sC]
        refine wpAnyH_ready (rs := [8]) (by kernel_rfl) (by simp) ?_
        refine AllReadyH.cons (o := oKpPlaysLaw45) rfl (fun K hK => ?_) AllReadyH.nil
        unfold oKpPlaysLaw45
        go_simp
        (go_at_call 6; refine (awake10_any _ (HG.out.below (below_more hb hHeld))).mono ?_; rintro e w8 ⟨rfl, hb8⟩)
        refine hK.out _ _ ?_ (fun hHeld => ?_)
        · (exact below_more hHeld hb8)
        clear hK K
        try simp only [oKpPlaysLaw45, Act.put, sA, sB, sC]
        refine tkY 9 oKpPlaysLaw46 ?vv7_33_9 rfl (by kernel_rfl) (by kernel_rfl) (by kernel_rfl) (fun _ _ _ h => h) (by rfl) ?hy7_33_9 (by assumption) ?rest7_33_9
        case hy7_33_9 => (intro w hSw; unfold oKpPlaysLaw46; (try dsimp only at hSw); (try go_split_ands); go_simp; all_goals with_reducible rfl)
        try simp only [oKpPlaysLaw46, Act.put, sA, sB, sC]
        refine tkY 10 oKpPlaysLaw47 ?vv7_33_10 rfl (by kernel_rfl) (by kernel_rfl) (by kernel_rfl) (fun _ _ _ h => h) (by rfl) ?hy7_33_10 (by assumption) ?rest7_33_10
        case hy7_33_10 => (intro w hSw; unfold oKpPlaysLaw47; (try dsimp only at hSw); (try go_split_ands); go_simp; all_goals with_reducible rfl)
        try simp only [oKpPlaysLaw47, Act.put, sA, sB, sC]
        refine wpAnyH_done (by kernel_rfl) ?_ _
        have hb9 := below_more hb hHeld
        clear hHeld
        go_wp2_with fail
        go_ret
        exact ⟨rfl, hb9⟩
set_option maxRecDepth 100000 in
theorem lifted (os : Os) (started : os.Started) (H : Type) (enc : TypeId × Value → H) :
    ReturnsInHanded {} Tryz.checked os 3 .any (fun w args => (Rows.keepPlaysSpec.pre enc Tryz.prog Tryz.f3 [] false w args ∧ laidMetH Tryz.prog laidL w) ∧ sizedMet enc Tryz.prog Tryz.f3 (OpenSpec.ofChange Rows.keepPlaysSpec) false w args)
      (Rows.keepPlaysSpec.post enc Tryz.prog Tryz.f3 false true false false) := by
  refine handed_laid (C := Tryz.checked) (X := fun w _ => laidMetH Tryz.prog laidL w) own_none started (by kernel_rfl) Tryz.func3 (laid_witness os Rows.keepPlaysSpec #[.slice none 0 0] (by kernel_rfl) (by kernel_rfl) (by kernel_rfl)) ?_
  intro W base args ds gs before hval0 hW hsh
  have hval : ∀ (j : Nat) t v, Tryz.f3.params[j]? = some t → args[j]? = some v → Value.okWide Tryz.prog W .any base t v := hval0
  have hWk := hW
  obtain ⟨p, q, hA0, hV, hbef, _, _⟩ := hWk
  have hA : DataW.TrodAll enc Tryz.prog W 0 (fun _ => true) true Tryz.f3.params.toList args.toList ds p := hA0
  obtain ⟨rfl, rfl⟩ := trodVars_none hV
  rw [Tryz.params3] at hA hval
  obtain ⟨v0, vs0, d0, ds0, p0, q0, hargs, rfl, hp0, h0, r0⟩ := trodAll_cons hA
  obtain ⟨rfl, rfl, hpn⟩ := trodAll_nil r0
  obtain rfl : args = #[v0] := by cases args; simp_all
  obtain ⟨A0, n0, c0, l0, rfl, hs0, _, hn0, hi0⟩ := open_Msgs (hval 0 22 v0 rfl rfl) h0
  refine (walk W (glo_of hsh) A0 n0 c0 l0 hs0 hn0 hi0).mono fun e W' ⟨he, hg⟩ => ?_
  subst he
  exact ⟨_, rfl, law_post laid_out (by kernel_rfl) rfl (by kernel_rfl) Tryz.underlying4 hW rfl hg⟩

theorem over : Rows.keepPlaysRow.holds Tryz.pinned (OpenSpec.ofChange Rows.keepPlaysSpec) :=
  OpenClaim.holds_of_wide 3 Tryz.f3 rfl rfl rfl rfl rfl rfl rfl ⟨rfl, rfl, rfl, rfl, rfl⟩ rfl rfl rfl rfl rfl (by kernel_rfl) Tryz.func3 (by kernel_rfl)
    (of_decide_eq_true (by kernel_rfl)) (by unfold Func.isWrapper; first | (rw [if_pos (by decide +kernel)]; kernel_rfl) | (rw [if_neg (by decide +kernel)]; exact ⟨rfl, rfl⟩))
    (fun os started H enc _ => lifted os started H enc)

/-- THE STATEMENT: the card. -/
theorem proved : Rows.KeepPlaysCardSaid :=
  Claim7.holds_tied_plain_at .later [] [.data, .pinned] true Rows.keepPlaysCard.stood.harness false over (fun _ h => by cases h) (by kernel_rfl) (fun _ h => by cases h) keepPlays_row_tie rfl ⟨rfl, rfl⟩ (by kernel_rfl) rfl
    (fun f fn hf hfn => by
      obtain rfl : f = 3 := Option.some.inj ((show Tryz.prog.funcNamed Rows.keepPlaysRow.func = some 3 by kernel_rfl).symm.trans hf) |>.symm
      obtain rfl : fn = Tryz.f3 := (Option.some.inj (Tryz.func3.symm.trans hfn)).symm
      exact ⟨by kernel_rfl, fun j t ht => by
        have hm : t ∈ Tryz.f3.params.toList := by simpa using Array.mem_of_getElem? ht
        have hall : (Tryz.f3.params.toList.all fun u => !Tryz.prog.wantsStandIn u) = true := by kernel_rfl
        exact (show Tryz.prog.wantsStandIn t = false by simpa using List.all_eq_true.1 hall t hm)⟩)
    (by kernel_rfl)
end lawKeepPlays
end Go.Proofs.YthhadjnffeadfaaGreatDoor
