/-
  Plain facts about lengths' bytes: they are read again; cut they are too short; unlike lengths have unlike bytes.
-/
import Derived.Test.YtncgkkhpcgdcaaaDoorNumRef
set_option linter.unusedSimpArgs false
set_option linter.unusedVariables false
namespace Go.Proofs.YtncgkkhpcgdcaaaDoor

theorem toB_nat (x : Int) (h0 : 0 ≤ x) (h1 : x < 256) : (toB x).toNat = x.toNat := by
  have := toB_toNat x h0 h1
  omega
theorem rdL_back (f : Nat) : ∀ (n s u i : Int) (l : List UInt8), 0 ≤ n → n < 128 ^ (f + 1) → rdL (f + 1) (lenL f n ++ l) s u i = (s + n * u, i + (lenL f n).length, 0) := by
  induction f with
  | zero =>
    intro n s u i l h0 h1
    have h1 : n < 128 := by simpa using h1
    have e := toB_nat n h0 (by omega)
    simp only [lenL, List.cons_append, List.nil_append, rdL, e]
    rw [if_pos (by omega), show ((n.toNat : Nat) : Int) % 128 = n from by omega]
    rfl
  | succ f ih =>
    intro n s u i l h0 h1
    by_cases h : n < 128
    · have e := toB_nat n h0 (by omega)
      rw [lenL_small _ _ h]
      simp only [List.cons_append, List.nil_append, rdL, e]
      rw [if_pos (by omega), show ((n.toNat : Nat) : Int) % 128 = n from by omega]
      rfl
    · have e := toB_nat (128 + n % 128) (by omega) (by omega)
      rw [lenL_step _ _ (by omega)]
      simp only [List.cons_append, rdL, e]
      rw [if_neg (by omega), ih _ _ _ _ _ (by omega) (by rw [Int.pow_succ] at h1; omega)]
      rw [show (((128 + n % 128).toNat : Nat) : Int) % 128 = n % 128 from by omega]
      have h2 := Int.emod_add_mul_ediv n 128
      simp only [List.length_cons, Prod.mk.injEq]
      refine ⟨?_, by omega, trivial⟩
      generalize n / 128 = q at *
      generalize n % 128 = r at *
      subst h2
      grind
theorem rdL_cut (f : Nat) : ∀ (n s u i : Int) (j : Nat), 0 ≤ n → n < 128 ^ (f + 1) → j < (lenL f n).length → rdL (f + 1) ((lenL f n).take j) s u i = (0, 0, 2) := by
  induction f with
  | zero =>
    intro n s u i j h0 h1 hj
    simp only [lenL, List.length_singleton] at hj
    obtain rfl : j = 0 := by omega
    rfl
  | succ f ih =>
    intro n s u i j h0 h1 hj
    by_cases h : n < 128
    · rw [lenL_small _ _ h] at hj ⊢
      simp only [List.length_singleton] at hj
      obtain rfl : j = 0 := by omega
      rfl
    · have e := toB_nat (128 + n % 128) (by omega) (by omega)
      rw [lenL_step _ _ (by omega)] at hj ⊢
      cases j with
      | zero => rfl
      | succ j =>
        simp only [List.length_cons] at hj
        simp only [List.take_succ_cons, rdL, e]
        rw [if_neg (by omega)]
        exact ih _ _ _ _ _ (by omega) (by rw [Int.pow_succ] at h1; omega) (by omega)
theorem rdR_back (n : Int) (l : List UInt8) (h0 : 0 ≤ n) (h1 : n ≤ 268435455) : rdR (lenL 3 n ++ l) = (n, sizeF n, 0) := by
  have := rdL_back 3 n 0 1 0 l h0 (by omega)
  unfold rdR
  rw [this]
  have hz := lenL_size n h0 h1
  rw [hz]
  simp
theorem rdR_cut (n : Int) (j : Nat) (h0 : 0 ≤ n) (h1 : n ≤ 268435455) (hj : j < (lenL 3 n).length) : rdR ((lenL 3 n).take j) = (0, 0, 2) :=
  rdL_cut 3 n 0 1 0 j h0 (by omega) hj
theorem lenL_inj (a b : Int) (a0 : 0 ≤ a) (a1 : a ≤ 268435455) (b0 : 0 ≤ b) (b1 : b ≤ 268435455) (h : lenL 3 a = lenL 3 b) : a = b := by
  have h1 := rdR_back a [] a0 a1
  have h2 := rdR_back b [] b0 b1
  rw [h, h2] at h1
  exact (Prod.mk.inj h1).1.symm
theorem sizeF_mono (a b : Int) (h : a ≤ b) : sizeF a ≤ sizeF b := by
  unfold sizeF; omega

/-- A length in just so many bytes and one more. -/
def encF : Nat → Int → List UInt8
  | 0, n => [toB n]
  | j + 1, n => toB (128 + n % 128) :: encF j (n / 128)
theorem encF_len (j : Nat) (n : Int) : (encF j n).length = j + 1 := by
  induction j generalizing n with
  | zero => rfl
  | succ j ih => simp [encF, ih]
theorem pw_nat (j : Nat) : pw (j : Int) = 128 ^ j := by unfold pw; simp
theorem encF_last (j : Nat) (n : Int) (h0 : 0 ≤ n) : (encF j n)[j]? = some (toB (n / pw j)) := by
  induction j generalizing n with
  | zero =>
    have : pw ((0 : Nat) : Int) = 1 := by decide
    rw [this]; simp [encF]
  | succ j ih =>
    simp only [encF, List.getElem?_cons_succ]
    rw [ih _ (by omega), pw_succ]
    congr 2
    rw [Int.mul_comm (pw j) 128, Int.ediv_ediv_of_nonneg (by omega)]
theorem encF_step (j : Nat) (n : Int) (h0 : 0 ≤ n) (h : n < 128 ^ (j + 1)) : encF (j + 1) n = (encF j n).take j ++ [toB (n / pw j + 128), toB 0] := by
  induction j generalizing n with
  | zero =>
    have h : n < 128 := by simpa using h
    simp only [encF, List.take_zero, List.nil_append, pw_nat]
    rw [show 128 + n % 128 = n / 128 ^ 0 + 128 from by simp; omega, show n / 128 = 0 from by omega]
  | succ j ih =>
    rw [encF, ih (n / 128) (by omega) (by rw [Int.pow_succ] at h; omega)]
    conv => rhs; rw [encF]
    rw [List.take_succ_cons, List.cons_append, pw_succ, Int.mul_comm (pw j) 128, Int.ediv_ediv_of_nonneg (by omega)]
theorem lenL_enc (n : Int) (h0 : 0 ≤ n) (h1 : n ≤ 268435455) : ∃ z : Nat, sizeF n = (z : Int) + 1 ∧ z ≤ 3 ∧ n < 128 ^ (z + 1) ∧ lenL 3 n = encF z n ∧ ∀ j : Nat, n < 128 ^ (j + 1) → z ≤ j := by
  unfold sizeF
  by_cases a : n < 128
  · exact ⟨0, by rw [if_pos a]; rfl, by omega, by simpa using a, by rw [lenL_small _ _ a]; rfl, fun j _ => by omega⟩
  · rw [if_neg a, lenL_step _ _ (by omega)]
    by_cases b : n < 16384
    · refine ⟨1, by rw [if_pos b]; rfl, by omega, by simpa using b, by rw [lenL_small _ _ (by omega)]; rfl, fun j hj => ?_⟩
      match j, hj with
      | 0, hj => simp at hj; omega
      | j + 1, _ => omega
    · rw [if_neg b, lenL_step _ _ (by omega)]
      by_cases c : n < 2097152
      · refine ⟨2, by rw [if_pos c]; rfl, by omega, by simpa using c, by rw [lenL_small _ _ (by omega)]; rfl, fun j hj => ?_⟩
        match j, hj with
        | 0, hj => simp at hj; omega
        | 1, hj => simp at hj; omega
        | j + 2, _ => omega
      · refine ⟨3, by rw [if_neg c]; rfl, by omega, by simp; omega, by rw [lenL_step _ _ (by omega)]; rfl, fun j hj => ?_⟩
        match j, hj with
        | 0, hj => simp at hj; omega
        | 1, hj => simp at hj; omega
        | 2, hj => simp at hj; omega
        | j + 3, _ => omega
theorem rdL_enc (j : Nat) : ∀ (f : Nat) (n s u i : Int) (l : List UInt8), j ≤ f → 0 ≤ n → n < 128 ^ (j + 1) → rdL (f + 1) (encF j n ++ l) s u i = (s + n * u, i + j + 1, 0) := by
  induction j with
  | zero =>
    intro f n s u i l _ h0 h1
    have h1 : n < 128 := by simpa using h1
    have e := toB_nat n h0 (by omega)
    simp only [encF, List.cons_append, List.nil_append, rdL, e]
    rw [if_pos (by omega), show ((n.toNat : Nat) : Int) % 128 = n from by omega]
    simp
  | succ j ih =>
    intro f n s u i l hf h0 h1
    obtain ⟨f, rfl⟩ : ∃ f', f = f' + 1 := ⟨f - 1, by omega⟩
    have e := toB_nat (128 + n % 128) (by omega) (by omega)
    simp only [encF, List.cons_append, rdL, e]
    rw [if_neg (by omega)]
    rw [show (((128 + n % 128).toNat : Nat) : Int) % 128 = n % 128 from by omega]
    have h3 := ih f (n / 128) (s + n % 128 * u) (u * 128) (i + 1) l (by omega) (by omega) (by rw [Int.pow_succ] at h1; omega)
    rw [h3]
    have h2 := Int.emod_add_mul_ediv n 128
    simp only [Prod.mk.injEq]
    refine ⟨?_, by omega, trivial⟩
    generalize n / 128 = q at *
    generalize n % 128 = r at *
    subst h2
    grind
theorem rdR_enc (j : Nat) (n : Int) (hj : j ≤ 3) (h0 : 0 ≤ n) (h1 : n < 128 ^ (j + 1)) : rdR (encF j n) = (n, (j : Int) + 1, 0) := by
  have := rdL_enc j 3 n 0 1 0 [] hj h0 h1
  simp only [List.append_nil] at this
  unfold rdR
  rw [this]
  simp
theorem rdR_enc4 (n : Int) : rdR (encF 4 n) = (0, 0, 4) := by
  unfold rdR
  have e : ∀ m : Int, (toB (128 + m % 128)).toNat = (128 + m % 128).toNat := fun m => toB_nat _ (by omega) (by omega)
  simp only [encF, rdL, e]
  rw [if_neg (by omega), if_neg (by omega), if_neg (by omega), if_neg (by omega)]
theorem rdL_ok (f : Nat) : ∀ (l : List UInt8) (s u i n c : Int), rdL (f + 1) l s u i = (n, c, 0) → ∃ (j : Nat) (m : Int), j ≤ f ∧ c = i + j + 1 ∧ j < l.length ∧ 0 ≤ m ∧ m < 128 ^ (j + 1) ∧ n = s + m * u ∧ l.take (j + 1) = encF j m := by
  induction f with
  | zero =>
    intro l s u i n c h
    match l, h with
    | [], h => simp [rdL] at h
    | b :: l, h =>
      simp only [rdL] at h
      by_cases hb : b.toNat < 128
      · rw [if_pos hb] at h
        simp only [Prod.mk.injEq] at h
        obtain ⟨rfl, rfl, _⟩ := h
        refine ⟨0, (b.toNat : Int) % 128, by omega, by simp, by simp, by omega, by simp; omega, rfl, ?_⟩
        simp only [encF, List.take_succ_cons, List.take_zero]
        rw [show (b.toNat : Int) % 128 = (b.toNat : Int) from by omega, toB_of]
      · rw [if_neg hb] at h
        simp at h
  | succ f ih =>
    intro l s u i n c h
    match l, h with
    | [], h => simp [rdL] at h
    | b :: l, h =>
      rw [rdL] at h
      by_cases hb : b.toNat < 128
      · rw [if_pos hb] at h
        simp only [Prod.mk.injEq] at h
        obtain ⟨rfl, rfl, _⟩ := h
        refine ⟨0, (b.toNat : Int) % 128, by omega, by simp, by simp, by omega, by simp; omega, rfl, ?_⟩
        simp only [encF, List.take_succ_cons, List.take_zero]
        rw [show (b.toNat : Int) % 128 = (b.toNat : Int) from by omega, toB_of]
      · rw [if_neg hb] at h
        obtain ⟨j, m, hj, hc, hl, h0, h1, hn, ht⟩ := ih _ _ _ _ _ _ h
        have hbl := b.toNat_lt
        refine ⟨j + 1, (b.toNat : Int) % 128 + 128 * m, by omega, by omega, by simp; omega, by omega, by rw [Int.pow_succ]; omega, by rw [hn]; grind, ?_⟩
        rw [List.take_succ_cons, encF, ht]
        rw [show ((b.toNat : Int) % 128 + 128 * m) / 128 = m from by omega, show 128 + ((b.toNat : Int) % 128 + 128 * m) % 128 = (b.toNat : Int) from by omega, toB_of]
theorem rdR_ok (l : List UInt8) (n c : Int) (h : rdR l = (n, c, 0)) : ∃ j : Nat, j ≤ 3 ∧ c = (j : Int) + 1 ∧ j < l.length ∧ 0 ≤ n ∧ n < 128 ^ (j + 1) ∧ l.take (j + 1) = encF j n := by
  obtain ⟨j, m, hj, hc, hl, h0, h1, hn, ht⟩ := rdL_ok 3 l 0 1 0 n c h
  obtain rfl : n = m := by omega
  exact ⟨j, hj, by omega, hl, h0, h1, ht⟩
theorem rdL_bad (f : Nat) : ∀ (l : List UInt8) (s u i : Int), (rdL f l s u i).2.2 = 0 ∨ rdL f l s u i = (0, 0, 2) ∨ rdL f l s u i = (0, 0, 4) := by
  induction f with
  | zero => intro l s u i; right; right; rfl
  | succ f ih =>
    intro l s u i
    match l with
    | [] => right; left; rfl
    | b :: l =>
      rw [rdL]
      split
      · left; rfl
      · exact ih _ _ _ _
theorem rdR_bad (l : List UInt8) : (∃ n c, rdR l = (n, c, 0)) ∨ rdR l = (0, 0, 2) ∨ rdR l = (0, 0, 4) := by
  rcases rdL_bad 4 l 0 1 0 with h | h | h
  · left; exact ⟨(rdR l).1, (rdR l).2.1, by
      have : rdR l = ((rdR l).1, (rdR l).2.1, (rdR l).2.2) := rfl
      rw [this]; show (_, _, (rdL 4 l 0 1 0).2.2) = _; rw [h]⟩
  · right; left; exact h
  · right; right; exact h
end Go.Proofs.YtncgkkhpcgdcaaaDoor
