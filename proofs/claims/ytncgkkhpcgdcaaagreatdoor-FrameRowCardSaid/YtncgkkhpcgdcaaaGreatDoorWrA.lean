/-
  write: the small functions.
-/
import Derived.Test.YtncgkkhpcgdcaaaGreatDoorWrKit
import Derived.BigQuiet
import Derived.Deep.QuietTactic
set_option linter.unusedSimpArgs false
set_option linter.unusedVariables false
namespace Go.Proofs.YtncgkkhpcgdcaaaGreatDoor
open Go.RowKit

theorem sizeOf_any (v : Int) (w : World) (h0 : 0 ≤ v) (h1 : v ≤ 268435455) :
    Calls Tryz.prog 38 #[.int .i64 v] w fun e w' => e = .returned (.int .i64 (1 + sizeF v + v)) ∧ w = w' := by
  have hs := sizeF_bd v
  go_enter Tryz.func38, Tryz.ntmps38
  go_wp2_with fail
  refine (numSize_yes v _ h0 h1).mono ?_
  rintro e w' ⟨rfl, rfl⟩
  go_wp2_with fail
  go_ret
  exact ⟨ret_int (by omega), rfl⟩
theorem flag_any (on : Bool) (v : Int) (w : World) :
    Calls Tryz.prog 71 #[.bool on, .int .u8 v] w fun e w' => e = .returned (.int .u8 (yesI on v)) ∧ w = w' := by
  cases on
  all_goals
    go_enter Tryz.func71, Tryz.ntmps71
    go_wp2_with fail
    go_ret
    exact ⟨rfl, rfl⟩
theorem yes_bd (b : Bool) (n : Int) (h : 0 ≤ n) : 0 ≤ yesI b n ∧ yesI b n ≤ n := by unfold yesI; split <;> omega
theorem flagsOf_any (p : Pk) (A : Option Addr) (n c : Nat) (w : World) (hq : p.ty = 3 → 0 ≤ p.qos ∧ p.qos ≤ 2) :
    Calls Tryz.prog 68 #[.agg (PkC p A n c)] w fun e w' => e = .returned (.int .u8 (flagsN p)) ∧ Below w.heap.size w w' := by
  have hK := (Kp.nil w).new (PkC p A n c) 36
  by_cases h3 : p.ty = 3
  · have t3 : (p.ty == 3) = true := by simpa using h3
    obtain ⟨q0, q1⟩ := hq h3
    have b1 := yes_bd p.dup 8 (by omega)
    have b2 := yes_bd p.ret 1 (by omega)
    have w1 : IntKind.u8.wrap (p.qos * 2) = p.qos * 2 := IntWalk.u8_in _ (by omega)
    have w2 : IntKind.u8.wrap (yesI p.dup 8 + p.qos * 2) = yesI p.dup 8 + p.qos * 2 := IntWalk.u8_in _ (by omega)
    have w3 : IntKind.u8.wrap (yesI p.dup 8 + p.qos * 2 + yesI p.ret 1) = yesI p.dup 8 + p.qos * 2 + yesI p.ret 1 := IntWalk.u8_in _ (by omega)
    have HF : Hid (flagsN p = yesI p.dup 8 + p.qos * 2 + yesI p.ret 1) := by show _ = _; unfold flagsN; rw [if_pos h3]
    clear h3 hq
    go_enter Tryz.func68, Tryz.ntmps68
    go_wp2_with fail
    go_quiet ((go_at_call 71; first | exact quiet_left (flag_any _ _ _) | exact quiet_more (flag_any _ _ _)))
    go_wp2_with fail
    go_ret
    exact ⟨by rw [HF.out]; rfl, below_drewN hK.below _⟩
  · have t3 : (p.ty == 3) = false := by simpa using h3
    by_cases h6 : p.ty = 6
    · have t6 : (p.ty == 6) = true := by simpa using h6
      have HF : Hid (flagsN p = 2) := by show _ = _; unfold flagsN; rw [if_neg h3, if_pos (Or.inl h6)]
      clear h3 hq h6
      go_enter Tryz.func68, Tryz.ntmps68
      go_wp2_with fail
      go_ret
      exact ⟨by rw [HF.out]; rfl, hK.below⟩
    · have t6 : (p.ty == 6) = false := by simpa using h6
      by_cases h8 : p.ty = 8
      · have t8 : (p.ty == 8) = true := by simpa using h8
        have HF : Hid (flagsN p = 2) := by show _ = _; unfold flagsN; rw [if_neg h3, if_pos (Or.inr (Or.inl h8))]
        clear h3 hq h6 h8
        go_enter Tryz.func68, Tryz.ntmps68
        go_wp2_with fail
        go_ret
        exact ⟨by rw [HF.out]; rfl, hK.below⟩
      · have t8 : (p.ty == 8) = false := by simpa using h8
        by_cases h10 : p.ty = 10
        · have t10 : (p.ty == 10) = true := by simpa using h10
          have HF : Hid (flagsN p = 2) := by show _ = _; unfold flagsN; rw [if_neg h3, if_pos (Or.inr (Or.inr h10))]
          clear h3 hq h6 h8 h10
          go_enter Tryz.func68, Tryz.ntmps68
          go_wp2_with fail
          go_ret
          exact ⟨by rw [HF.out]; rfl, hK.below⟩
        · have t10 : (p.ty == 10) = false := by simpa using h10
          have HF : Hid (flagsN p = 0) := by show _ = _; unfold flagsN; rw [if_neg h3, if_neg (by simp [h6, h8, h10])]
          clear h3 hq h6 h8 h10
          go_enter Tryz.func68, Tryz.ntmps68
          go_wp2_with fail
          go_ret
          exact ⟨by rw [HF.out]; rfl, hK.below⟩
theorem flagsOf_eq (p : Pk) (A : Option Addr) (n c : Nat) (v : Int) (w : World) (hq : p.ty = 3 → 0 ≤ p.qos ∧ p.qos ≤ 2) (h : flagsN p = v) :
    Calls Tryz.prog 68 #[.agg (PkC p A n c)] w fun e w' => e = .returned (.int .u8 v) ∧ Below w.heap.size w w' := h ▸ flagsOf_any p A n c w hq
set_option maxHeartbeats 2000000 in
theorem cflags_any (p : Pk) (A : Option Addr) (n c : Nat) (w : World) (q0 : 0 ≤ p.wq) (q1 : p.wq ≤ 2) :
    Calls Tryz.prog 97 #[.agg (PkC p A n c)] w fun e w' => e = .returned (.int .u8 (cflN p)) ∧ Below w.heap.size w w' := by
  have hK := (Kp.nil w).new (PkC p A n c) 36
  have b1 := yes_bd p.hasUser 128 (by omega)
  have b2 := yes_bd p.hasPass 64 (by omega)
  have b3 := yes_bd p.wr 32 (by omega)
  have b4 := yes_bd p.hasWill 4 (by omega)
  have b5 := yes_bd p.clean 2 (by omega)
  have w0 : IntKind.u8.wrap (p.wq * 8) = p.wq * 8 := IntWalk.u8_in _ (by omega)
  have w1 : IntKind.u8.wrap (yesI p.hasUser 128 + yesI p.hasPass 64) = yesI p.hasUser 128 + yesI p.hasPass 64 := IntWalk.u8_in _ (by omega)
  have w2 : IntKind.u8.wrap (yesI p.hasUser 128 + yesI p.hasPass 64 + yesI p.wr 32) = yesI p.hasUser 128 + yesI p.hasPass 64 + yesI p.wr 32 := IntWalk.u8_in _ (by omega)
  have w3 : IntKind.u8.wrap (yesI p.hasUser 128 + yesI p.hasPass 64 + yesI p.wr 32 + p.wq * 8) = yesI p.hasUser 128 + yesI p.hasPass 64 + yesI p.wr 32 + p.wq * 8 := IntWalk.u8_in _ (by omega)
  have w4 : IntKind.u8.wrap (yesI p.hasUser 128 + yesI p.hasPass 64 + yesI p.wr 32 + p.wq * 8 + yesI p.hasWill 4) = yesI p.hasUser 128 + yesI p.hasPass 64 + yesI p.wr 32 + p.wq * 8 + yesI p.hasWill 4 := IntWalk.u8_in _ (by omega)
  have w5 : IntKind.u8.wrap (yesI p.hasUser 128 + yesI p.hasPass 64 + yesI p.wr 32 + p.wq * 8 + yesI p.hasWill 4 + yesI p.clean 2) = yesI p.hasUser 128 + yesI p.hasPass 64 + yesI p.wr 32 + p.wq * 8 + yesI p.hasWill 4 + yesI p.clean 2 := IntWalk.u8_in _ (by omega)
  clear b1 b2 b3 b4 b5
  go_enter Tryz.func97, Tryz.ntmps97
  go_wp2_with fail
  go_quiet ((go_at_call 71; first | exact quiet_left (flag_any _ _ _) | exact quiet_more (flag_any _ _ _)))
  go_wp2_with fail
  go_ret
  exact ⟨rfl, below_drewN hK.below _⟩
theorem cflags_eq (p : Pk) (A : Option Addr) (n c : Nat) (v : Int) (w : World) (q0 : 0 ≤ p.wq) (q1 : p.wq ≤ 2) (h : cflN p = v) :
    Calls Tryz.prog 97 #[.agg (PkC p A n c)] w fun e w' => e = .returned (.int .u8 v) ∧ Below w.heap.size w w' := h ▸ cflags_any p A n c w q0 q1

section
variable {w0 : World} {b : Nat} {l : List UInt8} {L : List (Nat × Array Value × TypeId)} {w : World}
theorem putWord_any (h : Kb w0 b l L w) (n : Int) (h0 : 0 ≤ n) (h1 : n ≤ 65535) (hl : l.length ≤ 35184372088832) :
    Calls Tryz.prog 73 #[.pointer (some ⟨b, 0, none⟩), .int .u16 n] w fun e w' => e = .returned (.tuple #[]) ∧ Kb w0 b (l ++ wordL n) L w' := by
  go_enter Tryz.func73, Tryz.ntmps73
  go_wp2_with fail
  refine (numWords_eq _ 1 _ [n] (wordL n) 0 _ (ints_new1 _ _ _) (by omega) (words_one n h0 h1)).mono ?_
  rintro e w1 ⟨rfl, hb1⟩
  have hK := h.more (below_more ((Below.refl _ _).alloc (Nat.le_refl _) _) hb1)
  clear hb1 h
  go_wp2_with fail
  refine (wStr hK (wordL n) (by simp [wordL_len]) (by omega)).mono ?_
  rintro e w2 ⟨rfl, hK2⟩
  go_wp2_with fail
  go_end0
  exact ⟨rfl, hK2⟩
theorem putData_any (h : Kb w0 b l L w) (s : List UInt8) (hs : s.length ≤ 65535) (hl : l.length ≤ 35184372088832) :
    Calls Tryz.prog 98 #[.pointer (some ⟨b, 0, none⟩), .string ⟨s.toArray⟩] w fun e w' => e = .returned (.tuple #[]) ∧ Kb w0 b (l ++ fieldL s) L w' := by
  go_enter Tryz.func98, Tryz.ntmps98
  go_wp2_with fail
  refine (putData_yes s _ hs).mono ?_
  rintro e w1 ⟨rfl, hb1⟩
  have hK := h.more hb1
  clear hb1 h
  go_wp2_with fail
  refine (wStr hK (fieldL s) (by rw [fieldL_len]; omega) (by omega)).mono ?_
  rintro e w2 ⟨rfl, hK2⟩
  go_wp2_with fail
  go_end0
  exact ⟨rfl, hK2⟩
theorem putOne (a : List UInt8) (h : valB a = true) : putR [a] = (fieldL a, 0) := by
  rw [put_yes [a] (by simp [h])]; simp
theorem putText_any (h : Kb w0 b l L w) (s : List UInt8) (hv : valB s = true) (hl : l.length ≤ 35184372088832) :
    Calls Tryz.prog 96 #[.pointer (some ⟨b, 0, none⟩), .string ⟨s.toArray⟩] w fun e w' => e = .returned (.tuple #[]) ∧ Kb w0 b (l ++ fieldL s) L w' := by
  have hs := val_len hv
  have HV := Lib.hid (putOne s hv)
  clear hv
  go_enter Tryz.func96, Tryz.ntmps96
  go_wp2_with fail
  refine (textPut_any (some ⟨w.heap.size, 0, none⟩) 1 1 [s] _ (strs_new1 w s _) (by omega) (by intro x hx; simp at hx; subst hx; omega)).mono ?_
  rw [HV.out]
  rintro e w1 ⟨rfl, hb1⟩
  have hK := h.more (below_more ((Below.refl _ _).alloc (Nat.le_refl _) _) hb1)
  clear hb1 h
  go_wp2_with fail
  refine (wStr hK (fieldL s) (by rw [fieldL_len]; omega) (by omega)).mono ?_
  rintro e w2 ⟨rfl, hK2⟩
  go_wp2_with fail
  go_end0
  exact ⟨rfl, hK2⟩
end
end Go.Proofs.YtncgkkhpcgdcaaaGreatDoor
