/-
  QueueSlides: a queue that is kept at a length tells what was pushed so many pushes ago. For every input; no condition.
-/
import Derived.Test.YtihgikhnkkmhhaaQuAwake
set_option linter.unusedSimpArgs false
set_option linter.unusedVariables false
namespace Go.Proofs.Ytihgikhnkkmhhaa.lawQueueSlides
section
open Go.RowKit
def oQuSlidesLaw1 : Oper := ({ dst := some 40, op := Go.Op.move (Go.Operand.tmp 8), type := 3, pos := "outright.go:65", after := #[], guard := none } : Oper)
def oQuSlidesLaw2 : Oper := ({ dst := some 41, op := Go.Op.binOp Go.BinOp.gtr 3 (Go.Operand.tmp 40) (Go.Operand.const (Go.Value.int Go.IntKind.i64 0)) 3, type := 4, pos := "outright.go:65", after := #[{ on := 0, ground := Go.Ground.data }], guard := none } : Oper)
def oQuSlidesLaw3 : Oper := ({ dst := some 42, op := Go.Op.move (Go.Operand.tmp 41), type := 4, pos := "outright.go:65", after := #[{ on := 1, ground := Go.Ground.data }], guard := none } : Oper)
def oQuSlidesLaw4 : Oper := ({ dst := some 43, op := Go.Op.move (Go.Operand.tmp 11), type := 4, pos := "outright.go:65", after := #[{ on := 2, ground := Go.Ground.guard }], guard := some (2, true) } : Oper)
def oQuSlidesLaw5 : Oper := ({ dst := some 44, op := Go.Op.unOp Go.UnOp.not 4 (Go.Operand.tmp 43), type := 4, pos := "outright.go:65", after := #[{ on := 3, ground := Go.Ground.data }, { on := 2, ground := Go.Ground.guard }], guard := some (2, true) } : Oper)
def oQuSlidesLaw6 : Oper := ({ dst := some 45, op := Go.Op.move (Go.Operand.tmp 44), type := 4, pos := "outright.go:65", after := #[{ on := 4, ground := Go.Ground.data }, { on := 2, ground := Go.Ground.chain }, { on := 2, ground := Go.Ground.guard }], guard := some (2, true) } : Oper)
def oQuSlidesLaw7 : Oper := ({ dst := some 46, op := Go.Op.fieldAddr 28 (Go.Operand.tmp 10) 1, type := 0, pos := "outright.go:65", after := #[{ on := 5, ground := Go.Ground.guard }], guard := some (5, false) } : Oper)
def oQuSlidesLaw8 : Oper := ({ dst := some 47, op := Go.Op.load 9 (Go.Operand.tmp 46), type := 9, pos := "outright.go:65", after := #[{ on := 6, ground := Go.Ground.data }, { on := 5, ground := Go.Ground.guard }], guard := some (5, false) } : Oper)
def oQuSlidesLaw9 : Oper := ({ dst := some 48, op := Go.Op.move (Go.Operand.tmp 9), type := 3, pos := "outright.go:65", after := #[{ on := 5, ground := Go.Ground.guard }], guard := some (5, false) } : Oper)
def oQuSlidesLaw10 : Oper := ({ dst := some 49, op := Go.Op.move (Go.Operand.tmp 8), type := 3, pos := "outright.go:65", after := #[{ on := 5, ground := Go.Ground.guard }], guard := some (5, false) } : Oper)
def oQuSlidesLaw11 : Oper := ({ dst := some 50, op := Go.Op.binOp Go.BinOp.sub 3 (Go.Operand.tmp 48) (Go.Operand.tmp 49) 3, type := 3, pos := "outright.go:65", after := #[{ on := 8, ground := Go.Ground.data }, { on := 9, ground := Go.Ground.data }, { on := 5, ground := Go.Ground.guard }], guard := some (5, false) } : Oper)
def oQuSlidesLaw12 : Oper := ({ dst := some 51, op := Go.Op.call { callee := Go.Callee.value (Go.Operand.func 23), args := #[Go.Operand.tmp 50], argTypes := #[3] }, type := 9, pos := "outright.go:65", after := #[{ on := 10, ground := Go.Ground.data }, { on := 5, ground := Go.Ground.chain }, { on := 5, ground := Go.Ground.guard }], guard := some (5, false) } : Oper)
def oQuSlidesLaw13 : Oper := ({ dst := some 52, op := Go.Op.binOp Go.BinOp.neq 9 (Go.Operand.tmp 47) (Go.Operand.tmp 51) 9, type := 4, pos := "outright.go:65", after := #[{ on := 7, ground := Go.Ground.data }, { on := 11, ground := Go.Ground.data }, { on := 5, ground := Go.Ground.guard }], guard := some (5, false) } : Oper)
def oQuSlidesLaw14 : Oper := ({ dst := some 53, op := Go.Op.pick (Go.Operand.tmp 45) (Go.Operand.const (Go.Value.bool true)) (Go.Operand.tmp 52), type := 4, pos := "outright.go:65", after := #[{ on := 5, ground := Go.Ground.data }, { on := 12, ground := Go.Ground.data }, { on := 2, ground := Go.Ground.guard }], guard := some (2, true) } : Oper)
def oQuSlidesLaw15 : Oper := ({ dst := some 54, op := Go.Op.pick (Go.Operand.tmp 42) (Go.Operand.tmp 53) (Go.Operand.const (Go.Value.bool false)), type := 4, pos := "outright.go:65", after := #[{ on := 2, ground := Go.Ground.data }, { on := 13, ground := Go.Ground.data }], guard := none } : Oper)
def oQuSlidesLaw16 : Oper := ({ dst := some 55, op := Go.Op.move (Go.Operand.tmp 54), type := 4, pos := "outright.go:65", after := #[{ on := 14, ground := Go.Ground.data }, { on := 11, ground := Go.Ground.chain }], guard := none } : Oper)
def oQuSlidesLaw17 : Oper := ({ dst := some 56, op := Go.Op.move (Go.Operand.tmp 8), type := 3, pos := "outright.go:65", after := #[{ on := 15, ground := Go.Ground.guard }], guard := some (15, false) } : Oper)
def oQuSlidesLaw18 : Oper := ({ dst := some 57, op := Go.Op.binOp Go.BinOp.eql 3 (Go.Operand.tmp 56) (Go.Operand.const (Go.Value.int Go.IntKind.i64 0)) 3, type := 4, pos := "outright.go:65", after := #[{ on := 16, ground := Go.Ground.data }, { on := 15, ground := Go.Ground.guard }], guard := some (15, false) } : Oper)
def oQuSlidesLaw19 : Oper := ({ dst := some 58, op := Go.Op.move (Go.Operand.tmp 57), type := 4, pos := "outright.go:65", after := #[{ on := 17, ground := Go.Ground.data }, { on := 15, ground := Go.Ground.chain }, { on := 15, ground := Go.Ground.guard }], guard := some (15, false) } : Oper)
def oQuSlidesLaw20 : Oper := ({ dst := some 59, op := Go.Op.move (Go.Operand.tmp 11), type := 4, pos := "outright.go:65", after := #[{ on := 18, ground := Go.Ground.guard }], guard := some (18, true) } : Oper)
def oQuSlidesLaw21 : Oper := ({ dst := some 60, op := Go.Op.pick (Go.Operand.tmp 58) (Go.Operand.tmp 59) (Go.Operand.const (Go.Value.bool false)), type := 4, pos := "outright.go:65", after := #[{ on := 18, ground := Go.Ground.data }, { on := 19, ground := Go.Ground.data }, { on := 15, ground := Go.Ground.guard }], guard := some (15, false) } : Oper)
def oQuSlidesLaw22 : Oper := ({ dst := some 61, op := Go.Op.pick (Go.Operand.tmp 55) (Go.Operand.const (Go.Value.bool true)) (Go.Operand.tmp 60), type := 4, pos := "outright.go:65", after := #[{ on := 15, ground := Go.Ground.data }, { on := 20, ground := Go.Ground.data }], guard := none } : Oper)
end
open Go.RowKit Go.ChangeShapes Go.WideShapes Go.ChangeAt

def sM (j : Nat) : Ms := ([], numQ j, 0, false)
/-- What waits ahead of round i, kept at a length n. -/
def slL (n i : Nat) : List Ms := (List.range' (i - n) (min i n)).map sM
theorem slL_len (n i : Nat) : (slL n i).length = min i n := by simp [slL]
theorem slL_nil (i : Nat) : slL 0 i = [] := by simp [slL]
theorem slL_pop (n i : Nat) (hn : 0 < n) (hi : n ≤ i) : ∃ R, slL n i = sM (i - n) :: R ∧ R.length = n - 1 ∧ R ++ [sM i] = slL n (i + 1) := by
  obtain ⟨k, rfl⟩ : ∃ k, n = k + 1 := ⟨n - 1, by omega⟩
  refine ⟨(List.range' (i - (k + 1) + 1) k).map sM, ?_, by simp, ?_⟩
  · unfold slL
    rw [Nat.min_eq_right hi, List.range'_succ]
    simp
  · unfold slL
    rw [Nat.min_eq_right (by omega : k + 1 ≤ i + 1), show i + 1 - (k + 1) = i - (k + 1) + 1 by omega, List.range'_concat, List.map_append, show i - (k + 1) + 1 + 1 * k = i by omega]
    rfl
theorem slL_push (n i : Nat) (hi : i < n) : slL n i ++ [sM i] = slL n (i + 1) := by
  unfold slL
  rw [Nat.min_eq_left (by omega : i ≤ n), Nat.min_eq_left (by omega : i + 1 ≤ n), show i - n = 0 by omega, show i + 1 - n = 0 by omega, List.range'_concat, List.map_append]
  simp
theorem walkNo (w : World) (most : Int) (len many : Int) (h : (most < 1 ∨ 1024 < most) ∨ 2000 < many) (hm : 0 ≤ many) :
    Calls Try.prog 6 #[.int .i64 most, .int .u8 len, .int .u16 many] w fun e w' => e = .returned (.bool true) ∧ Below w.heap.size w w' := by
  by_cases h1 : most < 1 ∨ 1024 < most
  · go_enter Try.func6, Try.ntmps6
    go_wp2_with fail
    refine (qNewN _ most h1).mono ?_
    rintro e w1 ⟨rfl, rfl⟩
    go_wp2_with fail
    refine (awake12_any _).mono ?_
    rintro e w2 ⟨rfl, hb⟩
    go_wp2_with fail
    go_ret
    exact ⟨rfl, hb⟩
  · have h2 : 2000 < many := h.resolve_left h1
    obtain ⟨M, rfl⟩ : ∃ M : Nat, most = (M : Int) := ⟨most.toNat, by omega⟩
    go_enter Try.func6, Try.ntmps6
    go_wp2_with fail
    refine (xNew (w0 := w) (Below.refl _ _) M (by omega) (by omega)).mono ?_
    rintro e w1 ⟨t, F, rfl, hQ⟩
    have HB := Lib.hid hQ.b
    clear hQ
    go_wp2_with fail
    refine (awake12_any _).mono ?_
    rintro e w2 ⟨rfl, hb⟩
    go_wp2_with fail
    go_ret
    exact ⟨rfl, below_more HB.out hb⟩
set_option maxHeartbeats 4000000 in
set_option maxRecDepth 100000 in
theorem walkYes (w : World) (M N K : Nat) (h1 : 1 ≤ M) (h2 : M ≤ 1024) (h3 : N ≤ 255) (h4 : K ≤ 2000) :
    Calls Try.prog 6 #[.int .i64 (M : Nat), .int .u8 (N : Nat), .int .u16 (K : Nat)] w fun e w' => e = .returned (.bool true) ∧ Below w.heap.size w w' := by
  have i1 : ¬ (2000 : Int) < (K : Int) := by omega
  obtain ⟨n, hn⟩ : ∃ n, min (N % 41) M = n := ⟨_, rfl⟩
  have q1 : Int.tmod (N : Int) 41 = ((N % 41 : Nat) : Int) := by rw [Int.tmod_eq_emod_of_nonneg (by omega)]; omega
  have hnM : n ≤ M := by omega
  have q2 : min ((N : Int) % 41) (M : Int) = (n : Int) := by omega
  have hd : decide ((2000 : Int) < (K : Int)) = false := by simp; omega
  have hn41 : n ≤ 41 := by omega
  clear hn
  go_enter Try.func6, Try.ntmps6
  go_wp2_with fail
  refine (xNew (w0 := w) (Below.refl _ _) M h1 h2).mono ?_
  rintro e w1 ⟨t, F, rfl, hQ⟩
  go_wp2_with fail
  go_loopw [9] (fun i wr => ∃ (k : Nat) (F : Nat → Prop), i = .int .i64 k ∧ k ≤ K ∧ QX w wr t F M (slL n k)) (fun i _ => K - (intOf i).toNat)
  case atStart => exact ⟨0, F, rfl, by omega, by simpa [slL] using hQ⟩
  case round =>
    clear hQ
    obtain ⟨k, F, rfl, hk, hQ⟩ := hrel
    have HQ := Lib.hid hQ
    clear hQ
    by_cases hlt : k < K
    · have hltI : (k : Int) < (K : Int) := by omega
      obtain ⟨p, hp⟩ : ∃ p, min (k + 1) n = p := ⟨_, rfl⟩
      have q3 : min ((k : Int) + 1) (n : Int) = (p : Int) := by omega
      have HL2 : Hid ((slL n (k + 1)).length = p) := by show _ = _; rw [slL_len]; exact hp
      clear hp
      by_cases hn0 : n = 0
      · have hge : (n : Int) ≤ (k : Int) := by omega
        have hgt : ¬ (0 : Int) < (n : Int) := by omega
        have hgd : decide (0 < n) = false := by simp; omega
        have heq : ((n : Int) == 0) = true := by simp; omega
        have heq2 : (n == 0) = true := by simp; omega
        have hs : slL n k = [] := by rw [hn0]; exact slL_nil k
        have hs2 : slL n (k + 1) = [] := by rw [hn0]; exact slL_nil (k + 1)
        rw [hs] at HQ
        rw [hs2] at HL2
        have HS2 := Lib.hid hs2
        clear hn0 hs hs2
        go_wp2_with fail
        refine (xPop HQ.out).mono ?_
        rintro e w2 ⟨F2, rfl, hQ2, _⟩
        replace hQ2 := hQ2.below (below_alloc (Below.refl _ _) (.cells #[.string ⟨#[]⟩, .string ⟨#[]⟩, .int .u8 0, .bool false] 28))
        have HQ2 := Lib.hid hQ2
        clear hQ2 HQ
        rw [show pkV [] = .tuple #[.agg #[.string ⟨#[]⟩, .string ⟨#[]⟩, .int .u8 0, .bool false], .bool false] from rfl]
        go_wp2_with fail
        go_quiet (fail)
        obtain ⟨W, hW⟩ : ∃ x, x = (w2.alloc (.cells #[.string ⟨#[]⟩, .string ⟨#[]⟩, .int .u8 0, .bool false] 28)).drewN nq := ⟨_, rfl⟩
        have HQ3 : Hid (QX w W t F2 M (slL n (k + 1))) := by
          show QX _ _ _ _ _ _
          rw [HS2.out, hW]
          exact HQ2.out.below (below_drewN (Below.refl _ _) nq)
        rw [← hW]
        rw [← HS2.out] at HL2
        clear hW HQ2
        go_wp2_with fail
        refine (xLen HQ3.out p HL2.out).mono ?_
        rintro e w5 ⟨F5, rfl, hQ5, _⟩
        have HQ5 := Lib.hid hQ5
        clear hQ5
        go_wp2_with fail
        go_roundw
        case rel => exact ⟨k + 1, F5, by go_num, by omega, HQ5.out⟩
        case measure => simp [intOf]; omega
      · have hgt : (0 : Int) < (n : Int) := by omega
        have hgn : 0 < n := by omega
        have hgd : decide (0 < n) = true := by simp; omega
        have heq : ((n : Int) == 0) = false := by simp; omega
        have heq2 : (n == 0) = false := by simp; omega
        by_cases hkn : n ≤ k
        · have hge : (n : Int) ≤ (k : Int) := by omega
          obtain ⟨R, hR1, hR2, hR3⟩ := slL_pop n k (by omega) hkn
          obtain ⟨d, hd2⟩ : ∃ d, k - n = d := ⟨_, rfl⟩
          rw [hd2] at hR1
          have hw := IntWalk.i64_in (d : Int) (by omega)
          have hdI : (k : Int) - (n : Int) = (d : Int) := by omega
          have hdl : d ≤ 65535 := by omega
          rw [hR1] at HQ
          have hRM : R.length < M := by omega
          have HR3 := Lib.hid hR3
          have HRM := Lib.hid hRM
          clear hn0 hR1 hR2 hR3 hd2 hRM
          go_wp2_with fail
          refine (xPop HQ.out).mono ?_
          rintro e w2 ⟨F2, rfl, hQ2, _⟩
          replace hQ2 : QX w w2 t F2 M R := hQ2
          rw [show pkV (sM d :: R) = .tuple #[.agg #[.string ⟨#[]⟩, .string ⟨(numQ d).toArray⟩, .int .u8 0, .bool false], .bool true] from rfl]
          obtain ⟨W, hW⟩ : ∃ x, x = w2.alloc (.cells #[.string ⟨#[]⟩, .string ⟨(numQ d).toArray⟩, .int .u8 0, .bool false] 28) := ⟨_, rfl⟩
          have hb : Below w2.heap.size w2 W := by rw [hW]; exact below_alloc (Below.refl _ _) _
          have hX : BxM W w2.heap.size (sM d) := by rw [hW]; exact BxM.new w2 (sM d)
          have x1 := hX.c1
          unfold sM at x1
          dsimp only at x1
          have HQ2 := Lib.hid (hQ2.below hb)
          clear hb hX hQ2 HQ
          go_wp2_with fail
          rw [← hW]
          clear hW
          refine wp_region_held_drew (S := (fun w' => Below W.heap.size W w')) (by kernel_rfl) ((Below.refl _ _).drew) (fun hHeld => ?_)
          refine tkY 0 oQuSlidesLaw1 ?vv1_1_0 rfl (by kernel_rfl) (by kernel_rfl) (by kernel_rfl) (fun _ _ _ h => h) (by rfl) ?hy1_1_0 (by assumption) ?rest1_1_0
          case hy1_1_0 => (intro w hSw; unfold oQuSlidesLaw1; (try dsimp only at hSw); (try go_split_ands); go_simp; all_goals with_reducible rfl)
          try simp only [oQuSlidesLaw1, Act.put, sA, sB, sC]
          refine tkY 1 oQuSlidesLaw2 ?vv1_1_1 rfl (by kernel_rfl) (by kernel_rfl) (by kernel_rfl) (fun _ _ _ h => h) (by rfl) ?hy1_1_1 (by assumption) ?rest1_1_1
          case hy1_1_1 => (intro w hSw; unfold oQuSlidesLaw2; (try dsimp only at hSw); (try go_split_ands); go_simp; all_goals with_reducible rfl)
          try simp only [oQuSlidesLaw2, Act.put, sA, sB, sC]
          refine tkY 2 oQuSlidesLaw3 ?vv1_1_2 rfl (by kernel_rfl) (by kernel_rfl) (by kernel_rfl) (fun _ _ _ h => h) (by rfl) ?hy1_1_2 (by assumption) ?rest1_1_2
          case hy1_1_2 => (intro w hSw; unfold oQuSlidesLaw3; (try dsimp only at hSw); (try go_split_ands); go_simp; all_goals with_reducible rfl)
          try simp only [oQuSlidesLaw3, Act.put, sA, sB, sC]
          refine tkY 3 oQuSlidesLaw4 ?vv1_1_3 rfl (by kernel_rfl) (by kernel_rfl) (by kernel_rfl) (fun _ _ _ h => h) (by rfl) ?hy1_1_3 (by assumption) ?rest1_1_3
          case hy1_1_3 => (intro w hSw; unfold oQuSlidesLaw4; (try dsimp only at hSw); (try go_split_ands); go_simp; all_goals with_reducible rfl)
          try simp only [oQuSlidesLaw4, Act.put, sA, sB, sC]
          refine tkY 4 oQuSlidesLaw5 ?vv1_1_4 rfl (by kernel_rfl) (by kernel_rfl) (by kernel_rfl) (fun _ _ _ h => h) (by rfl) ?hy1_1_4 (by assumption) ?rest1_1_4
          case hy1_1_4 => (intro w hSw; unfold oQuSlidesLaw5; (try dsimp only at hSw); (try go_split_ands); go_simp; all_goals with_reducible rfl)
          try simp only [oQuSlidesLaw5, Act.put, sA, sB, sC]
          refine tkY 5 oQuSlidesLaw6 ?vv1_1_5 rfl (by kernel_rfl) (by kernel_rfl) (by kernel_rfl) (fun _ _ _ h => h) (by rfl) ?hy1_1_5 (by assumption) ?rest1_1_5
          case hy1_1_5 => (intro w hSw; unfold oQuSlidesLaw6; (try dsimp only at hSw); (try go_split_ands); go_simp; all_goals with_reducible rfl)
          try simp only [oQuSlidesLaw6, Act.put, sA, sB, sC]
          refine tkY 6 oQuSlidesLaw7 ?vv1_1_6 rfl (by kernel_rfl) (by kernel_rfl) (by kernel_rfl) (fun _ _ _ h => h) (by rfl) ?hy1_1_6 (by assumption) ?rest1_1_6
          case hy1_1_6 => (intro w hSw; unfold oQuSlidesLaw7; (try dsimp only at hSw); (try go_split_ands); go_simp; all_goals with_reducible rfl)
          try simp only [oQuSlidesLaw7, Act.put, sA, sB, sC]
          refine tkY 7 oQuSlidesLaw8 ?vv1_2_7 rfl (by kernel_rfl) (by kernel_rfl) (by kernel_rfl) (fun _ _ _ h => h) (by rfl) ?hy1_2_7 (by assumption) ?rest1_2_7
          case hy1_2_7 => (intro w hSw; unfold oQuSlidesLaw8; (try dsimp only at hSw); have q9 := (hSw.cell (World.block_lt_of_cell? _ _ x1)).trans x1; clear hSw; go_simp; all_goals with_reducible rfl)
          try simp only [oQuSlidesLaw8, Act.put, sA, sB, sC]
          refine tkY 8 oQuSlidesLaw9 ?vv1_3_8 rfl (by kernel_rfl) (by kernel_rfl) (by kernel_rfl) (fun _ _ _ h => h) (by rfl) ?hy1_3_8 (by assumption) ?rest1_3_8
          case hy1_3_8 => (intro w hSw; unfold oQuSlidesLaw9; (try dsimp only at hSw); (try go_split_ands); go_simp; all_goals with_reducible rfl)
          try simp only [oQuSlidesLaw9, Act.put, sA, sB, sC]
          refine tkY 9 oQuSlidesLaw10 ?vv1_3_9 rfl (by kernel_rfl) (by kernel_rfl) (by kernel_rfl) (fun _ _ _ h => h) (by rfl) ?hy1_3_9 (by assumption) ?rest1_3_9
          case hy1_3_9 => (intro w hSw; unfold oQuSlidesLaw10; (try dsimp only at hSw); (try go_split_ands); go_simp; all_goals with_reducible rfl)
          try simp only [oQuSlidesLaw10, Act.put, sA, sB, sC]
          refine tkY 10 oQuSlidesLaw11 ?vv1_3_10 rfl (by kernel_rfl) (by kernel_rfl) (by kernel_rfl) (fun _ _ _ h => h) (by rfl) ?hy1_3_10 (by assumption) ?rest1_3_10
          case hy1_3_10 => (intro w hSw; unfold oQuSlidesLaw11; (try dsimp only at hSw); (try go_split_ands); go_simp; all_goals with_reducible rfl)
          try simp only [oQuSlidesLaw11, Act.put, sA, sB, sC]
          refine wpAnyH_ready (rs := [11]) (by kernel_rfl) (by simp) ?_
          refine AllReadyH.cons (o := oQuSlidesLaw12) rfl (fun K hK => ?_) AllReadyH.nil
          unfold oQuSlidesLaw12
          go_simp
          (go_at_call 23; refine (number_eq d _ hdl).mono ?_; rintro e w7 ⟨rfl, hb6⟩)
          refine hK.out _ _ ?_ (fun hHeld => ?_)
          · (exact below_more hHeld hb6)
          clear hK K
          try simp only [oQuSlidesLaw12, Act.put, sA, sB, sC]
          refine tkY 12 oQuSlidesLaw13 ?vv1_4_12 rfl (by kernel_rfl) (by kernel_rfl) (by kernel_rfl) (fun _ _ _ h => h) (by rfl) ?hy1_4_12 (by assumption) ?rest1_4_12
          case hy1_4_12 => (intro w hSw; unfold oQuSlidesLaw13; (try dsimp only at hSw); (try go_split_ands); go_simp; all_goals with_reducible rfl)
          try simp only [oQuSlidesLaw13, Act.put, sA, sB, sC]
          refine tkY 13 oQuSlidesLaw14 ?vv1_4_13 rfl (by kernel_rfl) (by kernel_rfl) (by kernel_rfl) (fun _ _ _ h => h) (by rfl) ?hy1_4_13 (by assumption) ?rest1_4_13
          case hy1_4_13 => (intro w hSw; unfold oQuSlidesLaw14; (try dsimp only at hSw); (try go_split_ands); go_simp; all_goals with_reducible rfl)
          try simp only [oQuSlidesLaw14, Act.put, sA, sB, sC]
          refine tkY 14 oQuSlidesLaw15 ?vv1_4_14 rfl (by kernel_rfl) (by kernel_rfl) (by kernel_rfl) (fun _ _ _ h => h) (by rfl) ?hy1_4_14 (by assumption) ?rest1_4_14
          case hy1_4_14 => (intro w hSw; unfold oQuSlidesLaw15; (try dsimp only at hSw); (try go_split_ands); go_simp; all_goals with_reducible rfl)
          try simp only [oQuSlidesLaw15, Act.put, sA, sB, sC]
          refine tkY 15 oQuSlidesLaw16 ?vv1_4_15 rfl (by kernel_rfl) (by kernel_rfl) (by kernel_rfl) (fun _ _ _ h => h) (by rfl) ?hy1_4_15 (by assumption) ?rest1_4_15
          case hy1_4_15 => (intro w hSw; unfold oQuSlidesLaw16; (try dsimp only at hSw); (try go_split_ands); go_simp; all_goals with_reducible rfl)
          try simp only [oQuSlidesLaw16, Act.put, sA, sB, sC]
          refine tkY 16 oQuSlidesLaw17 ?vv1_4_16 rfl (by kernel_rfl) (by kernel_rfl) (by kernel_rfl) (fun _ _ _ h => h) (by rfl) ?hy1_4_16 (by assumption) ?rest1_4_16
          case hy1_4_16 => (intro w hSw; unfold oQuSlidesLaw17; (try dsimp only at hSw); (try go_split_ands); go_simp; all_goals with_reducible rfl)
          try simp only [oQuSlidesLaw17, Act.put, sA, sB, sC]
          refine tkY 17 oQuSlidesLaw18 ?vv1_4_17 rfl (by kernel_rfl) (by kernel_rfl) (by kernel_rfl) (fun _ _ _ h => h) (by rfl) ?hy1_4_17 (by assumption) ?rest1_4_17
          case hy1_4_17 => (intro w hSw; unfold oQuSlidesLaw18; (try dsimp only at hSw); (try go_split_ands); go_simp; all_goals with_reducible rfl)
          try simp only [oQuSlidesLaw18, Act.put, sA, sB, sC]
          refine tkY 18 oQuSlidesLaw19 ?vv1_4_18 rfl (by kernel_rfl) (by kernel_rfl) (by kernel_rfl) (fun _ _ _ h => h) (by rfl) ?hy1_4_18 (by assumption) ?rest1_4_18
          case hy1_4_18 => (intro w hSw; unfold oQuSlidesLaw19; (try dsimp only at hSw); (try go_split_ands); go_simp; all_goals with_reducible rfl)
          try simp only [oQuSlidesLaw19, Act.put, sA, sB, sC]
          refine wpAnyH_take (i := 19) (oi := oQuSlidesLaw20) (v := undef) rfl (by kernel_rfl) (by kernel_rfl) (by kernel_rfl) (fun _ _ _ h => h) (Or.inr ⟨by rfl, rfl⟩) (by assumption) ?rest1_5_19
          try simp only [oQuSlidesLaw20, Act.put, sA, sB, sC]
          refine tkY 20 oQuSlidesLaw21 ?vv1_6_20 rfl (by kernel_rfl) (by kernel_rfl) (by kernel_rfl) (fun _ _ _ h => h) (by rfl) ?hy1_6_20 (by assumption) ?rest1_6_20
          case hy1_6_20 => (intro w hSw; unfold oQuSlidesLaw21; (try dsimp only at hSw); (try go_split_ands); go_simp; all_goals with_reducible rfl)
          try simp only [oQuSlidesLaw21, Act.put, sA, sB, sC]
          refine tkY 21 oQuSlidesLaw22 ?vv1_6_21 rfl (by kernel_rfl) (by kernel_rfl) (by kernel_rfl) (fun _ _ _ h => h) (by rfl) ?hy1_6_21 (by assumption) ?rest1_6_21
          case hy1_6_21 => (intro w hSw; unfold oQuSlidesLaw22; (try dsimp only at hSw); (try go_split_ands); go_simp; all_goals with_reducible rfl)
          try simp only [oQuSlidesLaw22, Act.put, sA, sB, sC]
          refine wpAnyH_done (by kernel_rfl) ?_ _
          rename_i w7 _
          have HQ3 := Lib.hid (HQ2.out.below hHeld)
          clear hHeld HQ2 x1
          go_wp2_with fail
          refine (number_eq k _ (by omega)).mono ?_
          rintro e w8 ⟨rfl, hb⟩
          have HQ4 := Lib.hid (HQ3.out.below hb)
          clear hb HQ3
          go_wp2_with fail
          refine (xPush HQ4.out (sM k) true (slL n (k + 1)) (Nat.zero_le _) (by show 2 ≤ _; omega) (decide_eq_true HRM.out) (by rw [if_pos HRM.out]; exact HR3.out)).mono ?_
          rintro e w9 ⟨F9, rfl, hQ9, _⟩
          have HQ3 := Lib.hid hQ9
          clear hQ9 HQ4
          go_wp2_with fail
          refine (xLen HQ3.out p HL2.out).mono ?_
          rintro e w5 ⟨F5, rfl, hQ5, _⟩
          have HQ5 := Lib.hid hQ5
          clear hQ5
          go_wp2_with fail
          go_roundw
          case rel => exact ⟨k + 1, F5, by go_num, by omega, HQ5.out⟩
          case measure => simp [intOf]; omega
        · have hge : ¬ (n : Int) ≤ (k : Int) := by omega
          have hRM : (slL n k).length < M := by rw [slL_len]; omega
          have hR3 := slL_push n k (by omega)
          have HR3 := Lib.hid hR3
          have HRM := Lib.hid hRM
          clear hn0 hR3 hRM
          go_wp2_with fail
          refine (number_eq k _ (by omega)).mono ?_
          rintro e w8 ⟨rfl, hb⟩
          have HQ4 := Lib.hid (HQ.out.below hb)
          clear hb HQ
          go_wp2_with fail
          refine (xPush HQ4.out (sM k) true (slL n (k + 1)) (Nat.zero_le _) (by show 2 ≤ _; omega) (decide_eq_true HRM.out) (by rw [if_pos HRM.out]; exact HR3.out)).mono ?_
          rintro e w9 ⟨F9, rfl, hQ9, _⟩
          have HQ3 := Lib.hid hQ9
          clear hQ9 HQ4
          go_wp2_with fail
          refine (xLen HQ3.out p HL2.out).mono ?_
          rintro e w5 ⟨F5, rfl, hQ5, _⟩
          have HQ5 := Lib.hid hQ5
          clear hQ5
          go_wp2_with fail
          go_roundw
          case rel => exact ⟨k + 1, F5, by go_num, by omega, HQ5.out⟩
          case measure => simp [intOf]; omega
    · go_wp2_with fail
      refine (awake12_any _).mono ?_
      rintro e w2 ⟨rfl, hb⟩
      go_wp2_with fail
      go_ret
      exact ⟨rfl, below_more HQ.out.b hb⟩
theorem walk (w : World) (most : Int) (wm : (Lit.int .i64 most).wf = true) (len : Int) (wl : (Lit.int .u8 len).wf = true) (many : Int) (wk : (Lit.int .u16 many).wf = true) :
    Calls Try.prog 6 #[.int .i64 most, .int .u8 len, .int .u16 many] w fun e w' => e = .returned (.bool true) ∧ Below w.heap.size w w' := by
  have b1 := u8_bd len wl
  have b2 := u16_bd many wk
  by_cases h : (most < 1 ∨ 1024 < most) ∨ 2000 < many
  · exact walkNo w most len many h b2.1
  · obtain ⟨M, rfl⟩ : ∃ M : Nat, most = (M : Int) := ⟨most.toNat, by omega⟩
    obtain ⟨N, rfl⟩ : ∃ N : Nat, len = (N : Int) := ⟨len.toNat, by omega⟩
    obtain ⟨K, rfl⟩ : ∃ K : Nat, many = (K : Int) := ⟨many.toNat, by omega⟩
    exact walkYes w M N K (by omega) (by omega) (by omega) (by omega)
set_option maxRecDepth 100000 in
theorem lifted (os : Os) (started : os.Started) (H : Type) (enc : TypeId × Value → H) :
    ReturnsInHanded {} Try.checked os 6 .any (Rows.queueSlidesSpec.pre6 enc Try.prog Try.f6 Rows.queueSlidesRow.domain false) (Rows.queueSlidesSpec.post enc Try.prog Try.f6 false true false false) := by
  refine returnsInHanded_of_change (C := Try.checked) own_none started (by kernel_rfl) Try.func6
    (ChangeSpec.witness6 (enc := enc) (C := Try.checked) false ⟨#[], #[.int .i64 0, .int .u8 0, .int .u16 0], []⟩ 8 (by kernel_rfl) (by kernel_rfl) (by kernel_rfl) (by kernel_rfl)) ?_
  intro W base args ds gs before hval0 hW hcnd _
  have hval : ∀ (j : Nat) t v, Try.f6.params[j]? = some t → args[j]? = some v → Value.okWide Try.prog W .any base t v := hval0
  have hWk := hW
  obtain ⟨p, q, hA0, hV, hbef, _, _⟩ := hWk
  have hA : DataW.TrodAll enc Try.prog W 0 (fun _ => true) true Try.f6.params.toList args.toList ds p := hA0
  obtain ⟨rfl, rfl⟩ := trodVars_none hV
  rw [Try.params6] at hA hval
  obtain ⟨v0, vs0, d0, ds0, p0, q0, hargs, rfl, hp0, h0, r0⟩ := trodAll_cons hA
  obtain ⟨v1, vs1, d1, ds1, p1, q1, rfl, rfl, hp1, h1, r1⟩ := trodAll_cons r0
  obtain ⟨v2, vs2, d2, ds2, p2, q2, rfl, rfl, hp2, h2, r2⟩ := trodAll_cons r1
  obtain ⟨rfl, rfl, hpn⟩ := trodAll_nil r2
  obtain rfl : args = #[v0, v1, v2] := by cases args; simp_all
  obtain ⟨a0, rfl, rfl, hx0, w0⟩ := open_int Try.underlying3 (hval 0 3 v0 rfl rfl) h0
  obtain ⟨a1, rfl, rfl, hx1, w1⟩ := open_int Try.underlying5 (hval 1 5 v1 rfl rfl) h1
  obtain ⟨a2, rfl, rfl, hx2, w2⟩ := open_int Try.underlying49 (hval 2 49 v2 rfl rfl) h2
  refine (walk W a0 w0 a1 w1 a2 w2).mono fun e W' ⟨he, hg⟩ => ?_
  subst he
  exact ⟨_, rfl, law_post laid_out (by kernel_rfl) rfl (by kernel_rfl) Try.underlying4 hW rfl hg⟩

theorem over : Rows.queueSlidesRow.holds Try.pinned (OpenSpec.ofChange Rows.queueSlidesSpec) :=
  OpenClaim.holds_of_wide 6 Try.f6 rfl rfl rfl rfl rfl rfl rfl ⟨rfl, rfl, rfl, rfl, rfl⟩ rfl rfl rfl rfl rfl (by kernel_rfl) Try.func6 (by kernel_rfl)
    (of_decide_eq_true (by kernel_rfl)) (by unfold Func.isWrapper; first | (rw [if_pos (by decide +kernel)]; kernel_rfl) | (rw [if_neg (by decide +kernel)]; exact ⟨rfl, rfl⟩))
    (fun os started H enc _ => lifted os started H enc)

/-- THE STATEMENT. -/
theorem proved : Rows.QueueSlidesSaid :=
  over
end Go.Proofs.Ytihgikhnkkmhhaa.lawQueueSlides
