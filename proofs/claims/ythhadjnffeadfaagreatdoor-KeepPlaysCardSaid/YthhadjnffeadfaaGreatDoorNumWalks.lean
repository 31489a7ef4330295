/-
  num: what each function of the package answers.
-/
import Derived.Test.YthhadjnffeadfaaGreatDoorKit
import Derived.BigQuiet
import Derived.Deep.QuietTactic
set_option linter.unusedSimpArgs false
set_option linter.unusedVariables false
namespace Go.Proofs.YthhadjnffeadfaaGreatDoor
open Go.RowKit

/-- How many digits. -/
def sizeF (n : Int) : Int := if n < 128 then 1 else if n < 16384 then 2 else if n < 2097152 then 3 else 4

theorem sizeF_small (n : Int) (h : n < 128) : sizeF n = 1 := by unfold sizeF; rw [if_pos h]
theorem sizeF_step (n : Int) (h : 128 ≤ n) (h2 : n ≤ 268435455) : sizeF n = sizeF (n / 128) + 1 := by
  unfold sizeF; split <;> split <;> (try split) <;> (try split) <;> (try split) <;> omega
theorem sizeF_bd (n : Int) : 1 ≤ sizeF n ∧ sizeF n ≤ 4 := by
  unfold sizeF; split <;> (try split) <;> (try split) <;> omega

/-- A length's bytes: so many digits at most. -/
def lenL : Nat → Int → List UInt8
  | 0, n => [toB n]
  | f + 1, n => if n < 128 then [toB n] else toB (128 + n % 128) :: lenL f (n / 128)
theorem lenL_small (f : Nat) (n : Int) (h : n < 128) : lenL f n = [toB n] := by
  cases f with
  | zero => rfl
  | succ f => rw [lenL, if_pos h]
theorem lenL_step (f : Nat) (n : Int) (h : 128 ≤ n) : lenL (f + 1) n = toB (128 + n % 128) :: lenL f (n / 128) := by
  rw [lenL, if_neg (by omega)]
theorem lenL_len (f : Nat) (n : Int) : (lenL f n).length ≤ f + 1 := by
  induction f generalizing n with
  | zero => simp [lenL]
  | succ f ih => unfold lenL; split <;> simp; exact ih _

theorem info8 : (Tryz.prog.info? 5).map (fun i => (i.zero, i.size, i.bytes)) = some (some (.int .u8 0), 1, 1) := by kernel_rfl

theorem make04 : ∀ w : World, (Instr.makeSlice 65 (.int .i64 0) (.int .i64 4)).run Tryz.prog w = .ok (.slice (some ⟨w.heap.size, 0, none⟩) 0 4) (w.alloc (.cells #[.int .u8 0, .int .u8 0, .int .u8 0, .int .u8 0] 5)) := fun _ => by kernel_rfl

/-- The length with which bytes begin: so many bytes may still come; the sum, the unit and the place so far. -/
def rdL : Nat → List UInt8 → Int → Int → Int → Int × Int × Int
  | 0, _, _, _, _ => (0, 0, 4)
  | _ + 1, [], _, _, _ => (0, 0, 2)
  | f + 1, c :: l, sum, unit, i => if c.toNat < 128 then (sum + (c.toNat : Int) % 128 * unit, i + 1, 0) else rdL f l (sum + (c.toNat : Int) % 128 * unit) (unit * 128) (i + 1)

/-- What ReadLen answers. -/
def rdR (l : List UInt8) : Int × Int × Int := rdL 4 l 0 1 0

def wordB (x : Int) : Bool := decide (0 ≤ x) && decide (x ≤ 65535)
def wordsL (xs : List Int) : List UInt8 := xs.flatMap fun x => [toB (x / 256), toB (x % 256)]

theorem wordB_yes (x : Int) (h : wordB x = true) : 0 ≤ x ∧ x ≤ 65535 := by simpa [wordB] using h
theorem wordB_no (x : Int) (h : wordB x = false) : x < 0 ∨ 65535 < x := by
  simp [wordB] at h; omega
theorem all_no (xs : List Int) (k : Nat) (x : Int) (hx : xs[k]? = some x) (h : wordB x = false) : xs.all wordB = false := by
  rw [List.all_eq_false]
  exact ⟨x, List.mem_of_getElem? hx, by simp [h]⟩
theorem all_snoc (xs : List Int) (k : Nat) (x : Int) (hx : xs[k]? = some x) (h : wordB x = true) (hk : (xs.take k).all wordB = true) : (xs.take (k + 1)).all wordB = true := by
  rw [List.take_add_one, hx, List.all_append, hk]; simp [h]
theorem words_snoc (xs : List Int) (k : Nat) (x : Int) (hx : xs[k]? = some x) : wordsL (xs.take (k + 1)) = wordsL (xs.take k) ++ [toB (x / 256), toB (x % 256)] := by
  unfold wordsL
  rw [List.take_add_one, hx, List.flatMap_append]; simp
theorem words_len (xs : List Int) : (wordsL xs).length = 2 * xs.length := by
  induction xs with
  | nil => rfl
  | cons x xs ih => simp [wordsL] at ih ⊢; omega

/-- What Words answers. -/
def wordsR (xs : List Int) : List UInt8 × Int := if xs.all wordB then (wordsL xs, 0) else ([], 1)
theorem wordsR_yes (xs : List Int) (h : xs.all wordB = true) : wordsR xs = (wordsL xs, 0) := by unfold wordsR; rw [if_pos h]
theorem wordsR_no (xs : List Int) (h : xs.all wordB = false) : wordsR xs = ([], 1) := by unfold wordsR; rw [if_neg (by simp [h])]

end Go.Proofs.YthhadjnffeadfaaGreatDoor
