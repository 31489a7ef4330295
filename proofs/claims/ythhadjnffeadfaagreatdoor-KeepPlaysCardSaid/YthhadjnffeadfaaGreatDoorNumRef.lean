/-
  The document's own answers of layer 1: what each function returns, in the words of NumWalks.
-/
import Derived.Test.YthhadjnffeadfaaGreatDoorNumWalks
set_option linter.unusedSimpArgs false
set_option linter.unusedVariables false
namespace Go.Proofs.YthhadjnffeadfaaGreatDoor
open Go.RowKit

/-- 128 to the power x. -/
def pw (x : Int) : Int := 128 ^ x.toNat
theorem pw_succ (k : Nat) : pw (k + 1 : Nat) = pw k * 128 := by unfold pw; simp [Int.pow_succ]
theorem pw_bd (k : Nat) (h : k ≤ 4) : 1 ≤ pw k ∧ pw k ≤ 268435456 := by
  rcases (show k = 0 ∨ k = 1 ∨ k = 2 ∨ k = 3 ∨ k = 4 from by omega) with rfl | rfl | rfl | rfl | rfl <;> decide
theorem pw_lt (k : Nat) (h : k < 4) : pw k ≤ 2097152 := by
  rcases (show k = 0 ∨ k = 1 ∨ k = 2 ∨ k = 3 from by omega) with rfl | rfl | rfl | rfl <;> decide

theorem sizeF_le (n : Int) (k : Nat) (hk1 : 1 < k) (hk : k ≤ 4) (h : sizeF n ≤ k) (h0 : 0 ≤ n) (h1 : n ≤ 268435455) : (n < pw (k - 1 : Int) → sizeF n ≤ ((k - 1 : Nat) : Int)) ∧ (pw (k - 1 : Int) ≤ n → sizeF n = k) := by
  rcases (show k = 2 ∨ k = 3 ∨ k = 4 from by omega) with rfl | rfl | rfl
  · have : pw ((2 : Nat) - 1 : Int) = 128 := by decide
    rw [this]; unfold sizeF at *; omega
  · have : pw ((3 : Nat) - 1 : Int) = 16384 := by decide
    rw [this]; unfold sizeF at *; omega
  · have : pw ((4 : Nat) - 1 : Int) = 2097152 := by decide
    rw [this]; unfold sizeF at *; omega

/-- The byte of a length at a place. -/
def digF (n : Int) (k : Nat) : Int := if (k : Int) < sizeF n - 1 then n / pw k % 128 + 128 else n / pw k % 128
theorem lenL_size (n : Int) (h0 : 0 ≤ n) (h1 : n ≤ 268435455) : ((lenL 3 n).length : Int) = sizeF n := by
  unfold sizeF
  by_cases a : n < 128
  · rw [if_pos a, lenL_small _ _ a]; rfl
  · rw [if_neg a, lenL_step _ _ (by omega)]
    by_cases b : n < 16384
    · rw [if_pos b, lenL_small _ _ (by omega)]; rfl
    · rw [if_neg b, lenL_step _ _ (by omega)]
      by_cases c : n < 2097152
      · rw [if_pos c, lenL_small _ _ (by omega)]; rfl
      · rw [if_neg c, lenL_step _ _ (by omega)]; rfl
theorem lenL_at (n : Int) (h0 : 0 ≤ n) (h1 : n ≤ 268435455) (k : Nat) (hk : (k : Int) < sizeF n) : (lenL 3 n)[k]? = some (toB (digF n k)) := by
  have p0 : pw (0 : Nat) = 1 := by decide
  have p1 : pw (1 : Nat) = 128 := by decide
  have p2 : pw (2 : Nat) = 16384 := by decide
  have p3 : pw (3 : Nat) = 2097152 := by decide
  unfold digF
  unfold sizeF at *
  by_cases a : n < 128
  · rw [if_pos a] at hk ⊢
    rw [lenL_small _ _ a]
    obtain rfl : k = 0 := by omega
    rw [p0, if_neg (by omega)]
    simp; congr 1; omega
  · rw [if_neg a] at hk ⊢
    rw [lenL_step _ _ (by omega)]
    by_cases b : n < 16384
    · rw [if_pos b] at hk ⊢
      rw [lenL_small _ _ (by omega)]
      rcases (show k = 0 ∨ k = 1 from by omega) with rfl | rfl
      · rw [p0, if_pos (by omega)]; simp; congr 1; omega
      · rw [p1, if_neg (by omega)]; simp; congr 1; omega
    · rw [if_neg b] at hk ⊢
      rw [lenL_step _ _ (by omega)]
      by_cases c : n < 2097152
      · rw [if_pos c] at hk ⊢
        rw [lenL_small _ _ (by omega)]
        rcases (show k = 0 ∨ k = 1 ∨ k = 2 from by omega) with rfl | rfl | rfl
        · rw [p0, if_pos (by omega)]; simp; congr 1; omega
        · rw [p1, if_pos (by omega)]; simp; congr 1; omega
        · rw [p2, if_neg (by omega)]; simp; congr 1; omega
      · rw [if_neg c] at hk ⊢
        rw [lenL_step _ _ (by omega)]
        rcases (show k = 0 ∨ k = 1 ∨ k = 2 ∨ k = 3 from by omega) with rfl | rfl | rfl | rfl
        · rw [p0, if_pos (by omega)]; simp; congr 1; omega
        · rw [p1, if_pos (by omega)]; simp; congr 1; omega
        · rw [p2, if_pos (by omega)]; simp; congr 1; omega
        · rw [p3, if_neg (by omega)]; simp [lenL]; congr 1; omega

/-- The sum of the first digits. -/
def digits : List UInt8 → Nat → Int
  | _, 0 => 0
  | l, k + 1 => digits l k + ((l.getD k 0).toNat : Int) % 128 * pw k
theorem digits_succ (l : List UInt8) (k : Nat) (c : UInt8) (h : l[k]? = some c) : digits l (k + 1) = digits l k + (c.toNat : Int) % 128 * pw k := by
  rw [digits, List.getD, h]; rfl
theorem pw_pos (k : Nat) : 1 ≤ pw k := by
  induction k with
  | zero => decide
  | succ k ih => rw [pw_succ]; omega
theorem digits_bd (l : List UInt8) (k : Nat) : 0 ≤ digits l k ∧ digits l k < pw k := by
  induction k with
  | zero => exact ⟨by simp [digits], by show (0 : Int) < pw (0 : Nat); decide⟩
  | succ k ih =>
    have hp := pw_pos k
    have h0 : 0 ≤ ((l.getD k 0).toNat : Int) % 128 * pw k := Int.mul_nonneg (by omega) (by omega)
    have h1 : ((l.getD k 0).toNat : Int) % 128 * pw k ≤ 127 * pw k := Int.mul_le_mul_of_nonneg_right (by omega) (by omega)
    rw [digits, pw_succ]
    omega
theorem rdR_to (l : List UInt8) (j : Nat) (hj : j ≤ 4) (hl : j ≤ l.length) (h : ∀ i c, i < j → l[i]? = some c → 128 ≤ c.toNat) : rdR l = rdL (4 - j) (l.drop j) (digits l j) (pw j) j := by
  induction j with
  | zero => rfl
  | succ j ih =>
    rw [ih (by omega) (by omega) (fun i c hi hc => h i c (by omega) hc)]
    have hlt : j < l.length := by omega
    have hc := h j l[j] (by omega) (List.getElem?_eq_getElem hlt)
    rw [drop_at l j hlt, show 4 - j = (4 - (j + 1)) + 1 from by omega, rdL, if_neg (by omega), pw_succ, digits_succ l j l[j] (List.getElem?_eq_getElem hlt)]
    rfl
theorem rdR_form (l : List UInt8) (k : Nat) (hk : 4 ≤ k) (hl : k ≤ l.length) (h : ∀ i c, i < k → l[i]? = some c → 128 ≤ c.toNat) : rdR l = (0, 0, 4) := by
  rw [rdR_to l 4 (by omega) (by omega) (fun i c hi hc => h i c (by omega) hc)]; rfl
theorem rdR_short (l : List UInt8) (k : Nat) (hk : k < 4) (hl : k = l.length) (h : ∀ i c, i < k → l[i]? = some c → 128 ≤ c.toNat) : rdR l = (0, 0, 2) := by
  rw [rdR_to l k (by omega) (by omega) h, List.drop_eq_nil_of_le (by omega), show 4 - k = (3 - k) + 1 from by omega]; rfl
theorem rdR_end (l : List UInt8) (k : Nat) (c : UInt8) (hk : k < 4) (hc : l[k]? = some c) (h8 : c.toNat < 128) (h : ∀ i c, i < k → l[i]? = some c → 128 ≤ c.toNat) : rdR l = (digits l (k + 1), (k : Int) + 1, 0) := by
  obtain ⟨hlt, e⟩ := List.getElem?_eq_some_iff.1 hc
  rw [rdR_to l k (by omega) (by omega) h, drop_at l k hlt, show 4 - k = (3 - k) + 1 from by omega, rdL, e, if_pos h8, digits_succ l k c hc]

/-- What ReadWord answers. -/
def rwR : List UInt8 → Int × Int × Int
  | a :: b :: _ => (a.toNat * 256 + b.toNat, 2, 0)
  | _ => (0, 0, 2)
end Go.Proofs.YthhadjnffeadfaaGreatDoor
