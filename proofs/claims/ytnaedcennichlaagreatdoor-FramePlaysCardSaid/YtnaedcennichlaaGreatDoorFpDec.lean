/-
  The document's own First and Decode.
-/
import Derived.Test.YtnaedcennichlaaGreatDoorFpFit
import Derived.Test.YtnaedcennichlaaGreatDoorWrEnc
set_option linter.unusedSimpArgs false
set_option linter.unusedVariables false
namespace Go.Proofs.YtnaedcennichlaaGreatDoor
open Go.RowKit
set_option maxRecDepth 100000
theorem fir_eq {c F : Int} (T fl : Int) (h : c / 16 = T) (h0 : 0 ≤ c) (hT : T ≠ 3) (h1 : 1 ≤ T) (h2 : T ≤ 14) (hfl : fl = if T = 6 ∨ T = 8 ∨ T = 10 then 2 else 0) (hF : F = T * 16 + fl) : firB c = (c == F) := by
  unfold firB
  rw [h, if_neg hT]
  have hm : c = T * 16 + c % 16 := by omega
  by_cases h6 : T = 6 ∨ T = 8 ∨ T = 10
  · rw [if_pos h6] at hfl ⊢
    by_cases hc : c % 16 = 2
    · rw [hc, show c = F by omega]; simp
    · rw [beq_eq_false_iff_ne.2 hc, beq_eq_false_iff_ne.2 (show c ≠ F by omega)]
  · rw [if_neg h6] at hfl ⊢
    rw [decide_eq_true h1, decide_eq_true h2]
    by_cases hc : c % 16 = 0
    · rw [hc, show c = F by omega]; simp
    · rw [beq_eq_false_iff_ne.2 hc, beq_eq_false_iff_ne.2 (show c ≠ F by omega)]; rfl
set_option maxHeartbeats 8000000 in
theorem refFirst5_any (c : Int) (w : World) (h0 : 0 ≤ c) (h1 : c ≤ 255) :
    Calls Tryz.prog 20 #[.int .u8 c] w fun e w' => e = .returned (.bool (firB c)) ∧ Below w.heap.size w w' := by
  have e1 : c.tdiv 16 = c / 16 := by rw [Int.tdiv_eq_ediv_of_nonneg h0]
  have hw1 : IntKind.u8.wrap (c / 16) = c / 16 := IntWalk.u8_in _ (by omega)
  have hwc : IntKind.i64.wrap c = c := IntWalk.i64_in _ (by omega)
  obtain ⟨b, hb⟩ : ∃ b, b = firB c := ⟨_, rfl⟩
  rw [← hb]
  have hbel : Below w.heap.size w w := Below.refl _ _
  by_cases h3 : c / 16 = 3
  · obtain ⟨d2, hd2⟩ : ∃ d, d = c / 2 := ⟨_, rfl⟩
    obtain ⟨q, hq⟩ : ∃ d, d = d2 % 4 := ⟨_, rfl⟩
    have f3 : c.tdiv 2 = d2 := by rw [Int.tdiv_eq_ediv_of_nonneg h0, hd2]
    have f4 : d2.tmod 4 = q := by rw [Int.tmod_eq_emod_of_nonneg (by omega), hq]
    have g3 : IntKind.u8.wrap d2 = d2 := IntWalk.u8_in _ (by omega)
    have g4 : IntKind.u8.wrap q = q := IntWalk.u8_in _ (by omega)
    have hbq : (q != 3) = b := by
      rw [hb]
      unfold firB
      rw [if_pos h3]
      by_cases h : q = 3
      · rw [h, decide_eq_false (by omega)]; rfl
      · rw [decide_eq_true (by omega)]
        simpa using h
    rw [h3] at e1 hw1
    clear hb h3 hq hd2
    go_enter Tryz.func20, Tryz.ntmps20
    go_wp2_with fail
    go_ret
    exact ⟨rfl, hbel⟩
  by_cases hT : c / 16 = 1
  · have hfl : flagsN (zPk.s_ty 1) = (if ((1 : Int) = 6 ∨ (1 : Int) = 8 ∨ (1 : Int) = 10) then 2 else 0) := by decide
    obtain ⟨F, hF⟩ : ∃ F, F = (zPk.s_ty 1).ty * 16 + flagsN (zPk.s_ty 1) := ⟨_, rfl⟩
    have hbq : (c == F) = b := by rw [hb]; exact (fir_eq 1 _ hT h0 (by decide) (by decide) (by decide) hfl hF).symm
    have HF := Lib.hid hF
    rw [hT] at e1 hw1
    clear hb hT hF hfl h3
    go_enter Tryz.func20, Tryz.ntmps20
    go_wp2_with fail
    refine (refFirst_1 (zPk.s_ty 1) none 0 0 rfl).mono ?_
    rintro e w1 ⟨rfl, hb1⟩
    rw [← HF.out]
    go_wp2_with fail
    go_ret
    exact ⟨rfl, hb1⟩
  by_cases hT : c / 16 = 2
  · have hfl : flagsN (zPk.s_ty 2) = (if ((2 : Int) = 6 ∨ (2 : Int) = 8 ∨ (2 : Int) = 10) then 2 else 0) := by decide
    obtain ⟨F, hF⟩ : ∃ F, F = (zPk.s_ty 2).ty * 16 + flagsN (zPk.s_ty 2) := ⟨_, rfl⟩
    have hbq : (c == F) = b := by rw [hb]; exact (fir_eq 2 _ hT h0 (by decide) (by decide) (by decide) hfl hF).symm
    have HF := Lib.hid hF
    rw [hT] at e1 hw1
    clear hb hT hF hfl h3
    go_enter Tryz.func20, Tryz.ntmps20
    go_wp2_with fail
    refine (refFirst_2 (zPk.s_ty 2) none 0 0 rfl).mono ?_
    rintro e w1 ⟨rfl, hb1⟩
    rw [← HF.out]
    go_wp2_with fail
    go_ret
    exact ⟨rfl, hb1⟩
  by_cases hT : c / 16 = 4
  · have hfl : flagsN (zPk.s_ty 4) = (if ((4 : Int) = 6 ∨ (4 : Int) = 8 ∨ (4 : Int) = 10) then 2 else 0) := by decide
    obtain ⟨F, hF⟩ : ∃ F, F = (zPk.s_ty 4).ty * 16 + flagsN (zPk.s_ty 4) := ⟨_, rfl⟩
    have hbq : (c == F) = b := by rw [hb]; exact (fir_eq 4 _ hT h0 (by decide) (by decide) (by decide) hfl hF).symm
    have HF := Lib.hid hF
    rw [hT] at e1 hw1
    clear hb hT hF hfl h3
    go_enter Tryz.func20, Tryz.ntmps20
    go_wp2_with fail
    refine (refFirst_4 (zPk.s_ty 4) none 0 0 rfl).mono ?_
    rintro e w1 ⟨rfl, hb1⟩
    rw [← HF.out]
    go_wp2_with fail
    go_ret
    exact ⟨rfl, hb1⟩
  by_cases hT : c / 16 = 5
  · have hfl : flagsN (zPk.s_ty 5) = (if ((5 : Int) = 6 ∨ (5 : Int) = 8 ∨ (5 : Int) = 10) then 2 else 0) := by decide
    obtain ⟨F, hF⟩ : ∃ F, F = (zPk.s_ty 5).ty * 16 + flagsN (zPk.s_ty 5) := ⟨_, rfl⟩
    have hbq : (c == F) = b := by rw [hb]; exact (fir_eq 5 _ hT h0 (by decide) (by decide) (by decide) hfl hF).symm
    have HF := Lib.hid hF
    rw [hT] at e1 hw1
    clear hb hT hF hfl h3
    go_enter Tryz.func20, Tryz.ntmps20
    go_wp2_with fail
    refine (refFirst_5 (zPk.s_ty 5) none 0 0 rfl).mono ?_
    rintro e w1 ⟨rfl, hb1⟩
    rw [← HF.out]
    go_wp2_with fail
    go_ret
    exact ⟨rfl, hb1⟩
  by_cases hT : c / 16 = 6
  · have hfl : flagsN (zPk.s_ty 6) = (if ((6 : Int) = 6 ∨ (6 : Int) = 8 ∨ (6 : Int) = 10) then 2 else 0) := by decide
    obtain ⟨F, hF⟩ : ∃ F, F = (zPk.s_ty 6).ty * 16 + flagsN (zPk.s_ty 6) := ⟨_, rfl⟩
    have hbq : (c == F) = b := by rw [hb]; exact (fir_eq 6 _ hT h0 (by decide) (by decide) (by decide) hfl hF).symm
    have HF := Lib.hid hF
    rw [hT] at e1 hw1
    clear hb hT hF hfl h3
    go_enter Tryz.func20, Tryz.ntmps20
    go_wp2_with fail
    refine (refFirst_6 (zPk.s_ty 6) none 0 0 rfl).mono ?_
    rintro e w1 ⟨rfl, hb1⟩
    rw [← HF.out]
    go_wp2_with fail
    go_ret
    exact ⟨rfl, hb1⟩
  by_cases hT : c / 16 = 7
  · have hfl : flagsN (zPk.s_ty 7) = (if ((7 : Int) = 6 ∨ (7 : Int) = 8 ∨ (7 : Int) = 10) then 2 else 0) := by decide
    obtain ⟨F, hF⟩ : ∃ F, F = (zPk.s_ty 7).ty * 16 + flagsN (zPk.s_ty 7) := ⟨_, rfl⟩
    have hbq : (c == F) = b := by rw [hb]; exact (fir_eq 7 _ hT h0 (by decide) (by decide) (by decide) hfl hF).symm
    have HF := Lib.hid hF
    rw [hT] at e1 hw1
    clear hb hT hF hfl h3
    go_enter Tryz.func20, Tryz.ntmps20
    go_wp2_with fail
    refine (refFirst_7 (zPk.s_ty 7) none 0 0 rfl).mono ?_
    rintro e w1 ⟨rfl, hb1⟩
    rw [← HF.out]
    go_wp2_with fail
    go_ret
    exact ⟨rfl, hb1⟩
  by_cases hT : c / 16 = 8
  · have hfl : flagsN (zPk.s_ty 8) = (if ((8 : Int) = 6 ∨ (8 : Int) = 8 ∨ (8 : Int) = 10) then 2 else 0) := by decide
    obtain ⟨F, hF⟩ : ∃ F, F = (zPk.s_ty 8).ty * 16 + flagsN (zPk.s_ty 8) := ⟨_, rfl⟩
    have hbq : (c == F) = b := by rw [hb]; exact (fir_eq 8 _ hT h0 (by decide) (by decide) (by decide) hfl hF).symm
    have HF := Lib.hid hF
    rw [hT] at e1 hw1
    clear hb hT hF hfl h3
    go_enter Tryz.func20, Tryz.ntmps20
    go_wp2_with fail
    refine (refFirst_8 (zPk.s_ty 8) none 0 0 rfl).mono ?_
    rintro e w1 ⟨rfl, hb1⟩
    rw [← HF.out]
    go_wp2_with fail
    go_ret
    exact ⟨rfl, hb1⟩
  by_cases hT : c / 16 = 9
  · have hfl : flagsN (zPk.s_ty 9) = (if ((9 : Int) = 6 ∨ (9 : Int) = 8 ∨ (9 : Int) = 10) then 2 else 0) := by decide
    obtain ⟨F, hF⟩ : ∃ F, F = (zPk.s_ty 9).ty * 16 + flagsN (zPk.s_ty 9) := ⟨_, rfl⟩
    have hbq : (c == F) = b := by rw [hb]; exact (fir_eq 9 _ hT h0 (by decide) (by decide) (by decide) hfl hF).symm
    have HF := Lib.hid hF
    rw [hT] at e1 hw1
    clear hb hT hF hfl h3
    go_enter Tryz.func20, Tryz.ntmps20
    go_wp2_with fail
    refine (refFirst_9 (zPk.s_ty 9) none 0 0 rfl).mono ?_
    rintro e w1 ⟨rfl, hb1⟩
    rw [← HF.out]
    go_wp2_with fail
    go_ret
    exact ⟨rfl, hb1⟩
  by_cases hT : c / 16 = 10
  · have hfl : flagsN (zPk.s_ty 10) = (if ((10 : Int) = 6 ∨ (10 : Int) = 8 ∨ (10 : Int) = 10) then 2 else 0) := by decide
    obtain ⟨F, hF⟩ : ∃ F, F = (zPk.s_ty 10).ty * 16 + flagsN (zPk.s_ty 10) := ⟨_, rfl⟩
    have hbq : (c == F) = b := by rw [hb]; exact (fir_eq 10 _ hT h0 (by decide) (by decide) (by decide) hfl hF).symm
    have HF := Lib.hid hF
    rw [hT] at e1 hw1
    clear hb hT hF hfl h3
    go_enter Tryz.func20, Tryz.ntmps20
    go_wp2_with fail
    refine (refFirst_10 (zPk.s_ty 10) none 0 0 rfl).mono ?_
    rintro e w1 ⟨rfl, hb1⟩
    rw [← HF.out]
    go_wp2_with fail
    go_ret
    exact ⟨rfl, hb1⟩
  by_cases hT : c / 16 = 11
  · have hfl : flagsN (zPk.s_ty 11) = (if ((11 : Int) = 6 ∨ (11 : Int) = 8 ∨ (11 : Int) = 10) then 2 else 0) := by decide
    obtain ⟨F, hF⟩ : ∃ F, F = (zPk.s_ty 11).ty * 16 + flagsN (zPk.s_ty 11) := ⟨_, rfl⟩
    have hbq : (c == F) = b := by rw [hb]; exact (fir_eq 11 _ hT h0 (by decide) (by decide) (by decide) hfl hF).symm
    have HF := Lib.hid hF
    rw [hT] at e1 hw1
    clear hb hT hF hfl h3
    go_enter Tryz.func20, Tryz.ntmps20
    go_wp2_with fail
    refine (refFirst_11 (zPk.s_ty 11) none 0 0 rfl).mono ?_
    rintro e w1 ⟨rfl, hb1⟩
    rw [← HF.out]
    go_wp2_with fail
    go_ret
    exact ⟨rfl, hb1⟩
  by_cases hT : c / 16 = 12
  · have hfl : flagsN (zPk.s_ty 12) = (if ((12 : Int) = 6 ∨ (12 : Int) = 8 ∨ (12 : Int) = 10) then 2 else 0) := by decide
    obtain ⟨F, hF⟩ : ∃ F, F = (zPk.s_ty 12).ty * 16 + flagsN (zPk.s_ty 12) := ⟨_, rfl⟩
    have hbq : (c == F) = b := by rw [hb]; exact (fir_eq 12 _ hT h0 (by decide) (by decide) (by decide) hfl hF).symm
    have HF := Lib.hid hF
    rw [hT] at e1 hw1
    clear hb hT hF hfl h3
    go_enter Tryz.func20, Tryz.ntmps20
    go_wp2_with fail
    refine (refFirst_12 (zPk.s_ty 12) none 0 0 rfl).mono ?_
    rintro e w1 ⟨rfl, hb1⟩
    rw [← HF.out]
    go_wp2_with fail
    go_ret
    exact ⟨rfl, hb1⟩
  by_cases hT : c / 16 = 13
  · have hfl : flagsN (zPk.s_ty 13) = (if ((13 : Int) = 6 ∨ (13 : Int) = 8 ∨ (13 : Int) = 10) then 2 else 0) := by decide
    obtain ⟨F, hF⟩ : ∃ F, F = (zPk.s_ty 13).ty * 16 + flagsN (zPk.s_ty 13) := ⟨_, rfl⟩
    have hbq : (c == F) = b := by rw [hb]; exact (fir_eq 13 _ hT h0 (by decide) (by decide) (by decide) hfl hF).symm
    have HF := Lib.hid hF
    rw [hT] at e1 hw1
    clear hb hT hF hfl h3
    go_enter Tryz.func20, Tryz.ntmps20
    go_wp2_with fail
    refine (refFirst_13 (zPk.s_ty 13) none 0 0 rfl).mono ?_
    rintro e w1 ⟨rfl, hb1⟩
    rw [← HF.out]
    go_wp2_with fail
    go_ret
    exact ⟨rfl, hb1⟩
  by_cases hT : c / 16 = 14
  · have hfl : flagsN (zPk.s_ty 14) = (if ((14 : Int) = 6 ∨ (14 : Int) = 8 ∨ (14 : Int) = 10) then 2 else 0) := by decide
    obtain ⟨F, hF⟩ : ∃ F, F = (zPk.s_ty 14).ty * 16 + flagsN (zPk.s_ty 14) := ⟨_, rfl⟩
    have hbq : (c == F) = b := by rw [hb]; exact (fir_eq 14 _ hT h0 (by decide) (by decide) (by decide) hfl hF).symm
    have HF := Lib.hid hF
    rw [hT] at e1 hw1
    clear hb hT hF hfl h3
    go_enter Tryz.func20, Tryz.ntmps20
    go_wp2_with fail
    refine (refFirst_14 (zPk.s_ty 14) none 0 0 rfl).mono ?_
    rintro e w1 ⟨rfl, hb1⟩
    rw [← HF.out]
    go_wp2_with fail
    go_ret
    exact ⟨rfl, hb1⟩
  · have h9 : c / 16 = 0 ∨ c / 16 = 15 := by omega
    have hbf : b = false := by
      rw [hb]
      unfold firB
      rcases h9 with h9 | h9 <;> (rw [h9]; rfl)
    subst hbf
    clear hb
    rcases h9 with h9 | h9
    · rw [h9] at e1 hw1
      go_enter Tryz.func20, Tryz.ntmps20
      go_wp2_with fail
      go_ret
      exact ⟨rfl, hbel⟩
    · rw [h9] at e1 hw1
      go_enter Tryz.func20, Tryz.ntmps20
      go_wp2_with fail
      go_ret
      exact ⟨rfl, hbel⟩
end Go.Proofs.YtnaedcennichlaaGreatDoor
