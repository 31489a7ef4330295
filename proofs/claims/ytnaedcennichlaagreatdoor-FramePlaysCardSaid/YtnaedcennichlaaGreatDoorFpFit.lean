/-
  The document's own guess: its numbers and its texts have bounds.
-/
import Derived.Test.YtnaedcennichlaaGreatDoorFpMath
set_option linter.unusedSimpArgs false
set_option linter.unusedVariables false
namespace Go.Proofs.YtnaedcennichlaaGreatDoor
open Go.RowKit
set_option maxRecDepth 100000
theorem gd_sum (l : List UInt8) : (gdV l).length + (gdL l).length ≤ l.length := by
  rcases l with _ | ⟨a, _ | ⟨b, r⟩⟩
  · simp [gdV, gdL, getD]
  · simp [gdV, gdL, getD]
  · simp only [gdV, gdL, getD]
    split
    · simp
    · rename_i h
      dsimp only
      rw [List.length_take, List.length_drop, List.length_cons, List.length_cons]
      omega
theorem gcon_tot (l : List UInt8) : Fit (gCon l) [] ∨ 90000 < l.length := by
  by_cases hl : l.length ≤ 90000
  · left
    have a1 := gdL_le l
    have a2 : (gdL l).tail.tail.length ≤ l.length := by rw [List.length_tail, List.length_tail]; omega
    have a3 := gwL_le (gdL l).tail.tail
    have a4 := gd_sum (gwL (gdL l).tail.tail)
    have hX : gcL l = gdL (gwL (gdL l).tail.tail) := rfl
    have hP : gcP l = gcB (byV (gdL l).tail) ((((zPk.s_ty 1).s_level (byV (gdL l))).s_keep (woV (gdL l).tail.tail)).s_client (gdV (gwL (gdL l).tail.tail))) := rfl
    have l1 := by_bd (gdL l)
    have l2 := wo_bd (gdL l).tail.tail
    obtain ⟨fl, hfl⟩ : ∃ x, x = byV (gdL l).tail := ⟨_, rfl⟩
    obtain ⟨lv, hlv⟩ : ∃ x, x = byV (gdL l) := ⟨_, rfl⟩
    obtain ⟨ke, hke⟩ : ∃ x, x = woV (gdL l).tail.tail := ⟨_, rfl⟩
    obtain ⟨cl, hcl⟩ : ∃ x, x = gdV (gwL (gdL l).tail.tail) := ⟨_, rfl⟩
    obtain ⟨X, hXX⟩ : ∃ x, x = gcL l := ⟨_, rfl⟩
    rw [← hlv] at l1
    rw [← hke] at l2
    rw [← hX, ← hXX, ← hcl] at a4
    rw [← hfl, ← hlv, ← hke, ← hcl] at hP
    have b1 := gd_sum X
    have b2 := gd_sum (gdL X)
    have b3 := gd_sum (gdL (gdL X))
    have b4 := gd_sum (gdL (gdL (gdL X)))
    have hcap : cl.length + X.length ≤ 90000 := by omega
    have w1 : 0 ≤ fl / 8 % 4 ∧ fl / 8 % 4 ≤ 255 := by omega
    unfold gCon
    rw [hP, ← hXX, ← hfl]
    clear hP hXX hfl hlv hke hcl hX a1 a2 a3 a4
    generalize (fl / 64 % 2 == 1) = k1
    generalize (fl / 128 == 1) = k2
    generalize hk : (fl / 4 % 2 == 1) = k3
    cases k1 <;> cases k2 <;> cases k3 <;> exact ⟨nb8 1 rfl, nb8 0 rfl, nb16 0 rfl, l1, l2, w1, nb8 0 rfl, by simp [totB, sumB, gcS, gcU, gcW, gcB, zPk, Pk.s_ty, Pk.s_level, Pk.s_keep, Pk.s_client, Pk.s_clean, Pk.s_hasWill, Pk.s_wq, Pk.s_wr, Pk.s_hasPass, Pk.s_hasUser, Pk.s_wt, Pk.s_wl, Pk.s_user, Pk.s_pass] <;> omega, by simp, by simp⟩
  · right; omega
theorem guS_bd (t : Int) : ∀ (n : Nat) (l : List UInt8), l.length ≤ n → sumB (guS t l) ≤ l.length ∧ (guS t l).length ≤ l.length + 1 ∧ ∀ x ∈ guS t l, 0 ≤ x.2 ∧ x.2 ≤ 255
  | 0, l, h => by
    have : l = [] := List.eq_nil_of_length_eq_zero (by omega)
    rw [this, guS_nil]
    simp [sumB]
  | n + 1, l, h => by
    by_cases hl : l = []
    · rw [hl, guS_nil]; simp [sumB]
    · rw [guS_go t l hl]
      have h1 := gd_sum l
      have h2 : (guL t l).length ≤ (gdL l).length := by
        unfold guL
        split
        · rw [List.length_tail]; omega
        · exact Nat.le_refl _
      have hx : (guX t l).1 = gdV l := rfl
      have hx2 : 0 ≤ (guX t l).2 ∧ (guX t l).2 ≤ 255 := by
        unfold guX
        split
        · exact by_bd _
        · exact ⟨Int.le_refl (0 : Int), show (0 : Int) ≤ 255 by decide⟩
      by_cases hlt : (guL t l).length < l.length
      · rw [if_pos hlt]
        obtain ⟨i1, i2, i3⟩ := guS_bd t n (guL t l) (by omega)
        refine ⟨?_, ?_, ?_⟩
        · show (guX t l).1.length + sumB (guS t (guL t l)) ≤ _
          rw [hx]; omega
        · rw [List.length_cons]; omega
        · intro x hm
          rcases List.mem_cons.1 hm with rfl | hm
          · exact hx2
          · exact i3 x hm
      · rw [if_neg hlt]
        refine ⟨?_, ?_, ?_⟩
        · show (guX t l).1.length + 0 ≤ _
          rw [hx]; omega
        · simp
        · intro x hm
          rcases List.mem_cons.1 hm with rfl | hm
          · exact hx2
          · cases hm
theorem gP_fit (c : Int) (l : List UInt8) (h0 : 0 ≤ c) (h1 : c ≤ 255) (hl : l.length ≤ 40000) : Fit (gP c l).1 (gP c l).2 := by
  have g1 := gd_sum l
  have g2 := gwL_le l
  have g3 := gwL_le (gdL l)
  have v1 := wo_bd l
  have v2 := wo_bd (gdL l)
  have v3 := by_bd l.tail
  have t1 : 0 ≤ c / 16 ∧ c / 16 ≤ 255 := by omega
  have q1 : 0 ≤ c / 2 % 4 ∧ c / 2 % 4 ≤ 255 := by omega
  unfold gP
  split
  · rcases gcon_tot l with h | h
    · exact h
    · omega
  split
  · exact ⟨nb8 2 rfl, nb8 0 rfl, nb16 0 rfl, nb8 0 rfl, nb16 0 rfl, nb8 0 rfl, v3, by simp [totB, sumB, zPk, Pk.s_ty, Pk.s_present, Pk.s_code], by simp, by simp⟩
  split
  · dsimp only
    split
    · exact ⟨nb8 3 rfl, q1, v2, nb8 0 rfl, nb16 0 rfl, nb8 0 rfl, nb8 0 rfl, by simp [totB, sumB, zPk, gPub, Pk.s_ty, Pk.s_dup, Pk.s_qos, Pk.s_ret, Pk.s_topic, Pk.s_id, Pk.s_load]; omega, by simp, by simp⟩
    · exact ⟨nb8 3 rfl, q1, nb16 0 rfl, nb8 0 rfl, nb16 0 rfl, nb8 0 rfl, nb8 0 rfl, by simp [totB, sumB, zPk, gPub, Pk.s_ty, Pk.s_dup, Pk.s_qos, Pk.s_ret, Pk.s_topic, Pk.s_id, Pk.s_load]; omega, by simp, by simp⟩
  split
  · obtain ⟨i1, i2, i3⟩ := guS_bd (c / 16) _ (gwL l) (Nat.le_refl _)
    exact ⟨t1, nb8 0 rfl, v1, nb8 0 rfl, nb16 0 rfl, nb8 0 rfl, nb8 0 rfl, by simp [totB, zPk, Pk.s_ty, Pk.s_id]; omega, by dsimp only; omega, i3⟩
  split
  · exact ⟨nb8 9 rfl, nb8 0 rfl, v1, nb8 0 rfl, nb16 0 rfl, nb8 0 rfl, nb8 0 rfl, by simp [totB, sumB, zPk, Pk.s_ty, Pk.s_id, Pk.s_codes]; omega, by simp, by simp⟩
  split
  · exact ⟨t1, nb8 0 rfl, nb16 0 rfl, nb8 0 rfl, nb16 0 rfl, nb8 0 rfl, nb8 0 rfl, by simp [totB, sumB, zPk, Pk.s_ty], by simp, by simp⟩
  · exact ⟨t1, nb8 0 rfl, v1, nb8 0 rfl, nb16 0 rfl, nb8 0 rfl, nb8 0 rfl, by simp [totB, sumB, zPk, Pk.s_ty, Pk.s_id], by simp, by simp⟩
/-- What the guess is worth: if it is right, and has this first byte and this rest, then the parser takes it so; and else the parser takes nothing. -/
theorem gP_yes {c : Int} {l : List UInt8} (hc : firB c = true) (h : (parR c l).2.2 = true) :
    Ok (parR c l).1 (parR c l).2.1 ∧ gP c l = ((parR c l).1, (parR c l).2.1) ∧ (parR c l).1.ty * 16 + flagsN (parR c l).1 = c ∧ bodyL (parR c l).1 (parR c l).2.1 = l := by
  unfold parR at h ⊢
  split at h
  · cases h
  · rename_i hg
    rw [if_neg hg]
    simp only [Bool.or_eq_true, not_or, Bool.not_eq_true, Bool.not_eq_false', List.isEmpty_iff, decide_eq_true_eq] at hg
    obtain ⟨⟨k1, k2⟩, k3⟩ := hg
    have hgot := end_got hc k1 k2
    have hok := ok_of k3
    have hbody := hgot.body
    rw [bodyY_ok hok] at hbody
    have hcc : (endP c l).p.ty * 16 + flagsN (endP c l).p = c := by rw [hgot.flags, hgot.ty]; omega
    refine ⟨hok, ?_, hcc, hbody⟩
    have := gP_back hok hgot.nums
    rw [hcc, hbody] at this
    exact this
theorem gP_no {c : Int} {l : List UInt8} (h0 : 0 ≤ c) (h1 : c ≤ 255) (hl : l.length ≤ 40000) (h : (parR c l).2.2 = false) (hr : 0 ≤ restN (gP c l).1 (gP c l).2) (hf : (gP c l).1.ty * 16 + flagsN (gP c l).1 = c) : bodyL (gP c l).1 (gP c l).2 ≠ l := by
  intro hb
  have hok := ok_of hr
  have np := (gP_fit c l h0 h1 hl).num'
  obtain ⟨_, _, k1, k2, _⟩ := head_bd hok np
  rw [hf] at k1 k2
  have := par_back hok np c k1 k2
  rw [hb] at this
  rw [this] at h
  cases h
end Go.Proofs.YtnaedcennichlaaGreatDoor
