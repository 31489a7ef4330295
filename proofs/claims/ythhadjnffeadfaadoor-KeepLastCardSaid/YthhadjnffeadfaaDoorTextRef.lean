/-
  text: what each function of the document's own answer answers.
-/
import Derived.Test.YthhadjnffeadfaaDoorTextWalks
set_option linter.unusedSimpArgs false
set_option linter.unusedVariables false
namespace Go.Proofs.YthhadjnffeadfaaDoor
open Go.RowKit

theorem sizeB_cases (c : UInt8) : (c.toNat < 128 ∧ sizeB c = 1) ∨ (128 ≤ c.toNat ∧ c.toNat < 192 ∧ sizeB c = 0) ∨ (192 ≤ c.toNat ∧ c.toNat < 224 ∧ sizeB c = 2) ∨ (224 ≤ c.toNat ∧ c.toNat < 240 ∧ sizeB c = 3) ∨ (240 ≤ c.toNat ∧ c.toNat < 248 ∧ sizeB c = 4) ∨ (248 ≤ c.toNat ∧ sizeB c = 0) := by
  unfold sizeB
  repeat' split
  all_goals omega
/-- What comes of a character's bits. -/
def chR (n : Nat) (o : Option Int) : Int × Nat := match o with
  | none => (0, 0)
  | some c => if badB n c then (0, 0) else (c, n)
theorem chP_go (L l : List UInt8) (a : UInt8) (n : Nat) (hL : L = a :: l) (h : sizeB a = n) (h0 : n ≠ 0) (h1 : n ≤ L.length) : chP L = chR n (chGo (n - 1) (L.drop 1) (a.toNat - offB n)) := by
  subst hL
  rw [List.length_cons] at h1
  simp only [chP, h]
  rw [if_neg (by omega)]
  rfl
theorem chP_off (L l : List UInt8) (a : UInt8) (hL : L = a :: l) (h : sizeB a = 0 ∨ L.length < sizeB a) : chP L = (0, 0) := by
  subst hL
  rw [List.length_cons] at h
  simp only [chP]
  rw [if_pos (by omega)]
theorem chGo_step (n k : Nat) (L : List UInt8) (c : Int) (h : k < n) (h1 : k < L.length) : chGo (n - k) (L.drop k) c = if contB L[k] then chGo (n - (k + 1)) (L.drop (k + 1)) (64 * c + (L[k].toNat : Int) - 128) else none := by
  rw [drop_at L k h1, show n - k = (n - (k + 1)) + 1 from by omega, chGo]
theorem offB_bd (a : UInt8) (n : Nat) (h : sizeB a = n) (h0 : n ≠ 0) : 0 ≤ (a.toNat : Int) - offB n ∧ (a.toNat : Int) - offB n ≤ 127 := by
  have ha := a.toNat_lt
  subst h
  unfold sizeB at h0 ⊢
  repeat' split
  all_goals simp_all [offB]
  all_goals omega
theorem head_at (L : List UInt8) (a : UInt8) (l : List UInt8) (hL : L = a :: l) (h : 0 < (ByteArray.mk L.toArray).size) : (ByteArray.mk L.toArray)[0]'h = a := by
  subst hL; rfl

end Go.Proofs.YthhadjnffeadfaaDoor
