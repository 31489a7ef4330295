/-
  num: what each function of the package answers.
-/
import Derived.Test.YtncgkkhpcgdcaaaDoorKit
import Derived.BigQuiet
import Derived.Deep.QuietTactic
set_option linter.unusedSimpArgs false
set_option linter.unusedVariables false
namespace Go.Proofs.YtncgkkhpcgdcaaaDoor
open Go.RowKit

/-- How many digits. -/
def sizeF (n : Int) : Int := if n < 128 then 1 else if n < 16384 then 2 else if n < 2097152 then 3 else 4

theorem sizeF_small (n : Int) (h : n < 128) : sizeF n = 1 := by unfold sizeF; rw [if_pos h]
theorem sizeF_step (n : Int) (h : 128 ≤ n) (h2 : n ≤ 268435455) : sizeF n = sizeF (n / 128) + 1 := by
  unfold sizeF; split <;> split <;> (try split) <;> (try split) <;> (try split) <;> omega
theorem sizeF_bd (n : Int) : 1 ≤ sizeF n ∧ sizeF n ≤ 4 := by
  unfold sizeF; split <;> (try split) <;> (try split) <;> omega

theorem isLength_no (n : Int) (w : World) (h : n < 0 ∨ 268435455 < n) :
    Calls Tryd.prog 39 #[.int .i64 n] w fun e w' => e = .returned (.bool false) ∧ w = w' := by
  by_cases h0 : n < 0
  · have hd : decide (0 ≤ n) = false := by simp; omega
    go_enter Tryd.func39, Tryd.ntmps39
    go_wp2
    go_ret
    exact ⟨rfl, rfl⟩
  · have h1 : 0 ≤ n := by omega
    have hd : decide (n ≤ 268435455) = false := by simp; omega
    go_enter Tryd.func39, Tryd.ntmps39
    go_wp2
    go_ret
    exact ⟨rfl, rfl⟩
theorem isLength_yes (n : Int) (w : World) (h0 : 0 ≤ n) (h1 : n ≤ 268435455) :
    Calls Tryd.prog 39 #[.int .i64 n] w fun e w' => e = .returned (.bool true) ∧ w = w' := by
  have hd : decide (0 ≤ n) = true := by simp; omega
  have hd : decide (n ≤ 268435455) = true := by simp; omega
  go_enter Tryd.func39, Tryd.ntmps39
  go_wp2
  go_ret
  exact ⟨rfl, rfl⟩

theorem numSize_no (n : Int) (w : World) (h : n < 0 ∨ 268435455 < n) :
    Calls Tryd.prog 26 #[.int .i64 n] w fun e w' => e = .returned (.int .i64 0) ∧ w = w' := by
  go_enter Tryd.func26, Tryd.ntmps26
  go_wp2_with (go_at_call 39; refine (isLength_no n _ h).mono ?_; rintro e w' ⟨rfl, rfl⟩)
  go_ret
  exact ⟨rfl, rfl⟩

set_option maxHeartbeats 400000 in
theorem numSize_yes (n : Int) (w : World) (h0 : 0 ≤ n) (h1 : n ≤ 268435455) :
    Calls Tryd.prog 26 #[.int .i64 n] w fun e w' => e = .returned (.int .i64 (sizeF n)) ∧ w = w' := by
  go_enter Tryd.func26, Tryd.ntmps26
  go_wp2_with (go_at_call 39; refine (isLength_yes n _ h0 h1).mono ?_; rintro e w' ⟨rfl, rfl⟩)
  go_loop [0, 3] (fun m k => ∃ a b : Int, 0 ≤ a ∧ a ≤ 268435455 ∧ 0 ≤ b ∧ b ≤ 4 ∧ m = .int .i64 a ∧ k = .int .i64 b ∧ Hid (sizeF n + 1 = sizeF a + b)) (fun m _ => (intOf m).toNat)
  case atStart => exact ⟨n, 1, h0, h1, by omega, by omega, rfl, rfl, rfl⟩
  case round =>
    obtain ⟨a, b, ha, ha1, hb, hb4, rfl, rfl, hs⟩ := hrel
    have hst := Lib.hid (sizeF_step a · ha1)
    have hsm := Lib.hid (sizeF_small a)
    have hbd := Lib.hid (sizeF_bd n)
    have hbd2 := Lib.hid (sizeF_bd (a / 128))
    go_wp2
    · have hge : 128 ≤ a := by assumption
      have h1 := hs.out
      have h2 := hst.out hge
      have h3 := hbd.out
      have h4 := hbd2.out
      go_round
      case rel => exact ⟨a / 128, b + 1, by omega, by omega, by omega, by omega, rfl, rfl, by show _ = _; omega⟩
      case measure => simp [intOf]; omega
    · have hge : a < 128 := by assumption
      have h1 := hs.out
      have h2 := hsm.out (by omega)
      go_ret
      exact ⟨ret_int (by omega), rfl⟩

/-- A length's bytes: so many digits at most. -/
def lenL : Nat → Int → List UInt8
  | 0, n => [toB n]
  | f + 1, n => if n < 128 then [toB n] else toB (128 + n % 128) :: lenL f (n / 128)
theorem lenL_small (f : Nat) (n : Int) (h : n < 128) : lenL f n = [toB n] := by
  cases f with
  | zero => rfl
  | succ f => rw [lenL, if_pos h]
theorem lenL_step (f : Nat) (n : Int) (h : 128 ≤ n) : lenL (f + 1) n = toB (128 + n % 128) :: lenL f (n / 128) := by
  rw [lenL, if_neg (by omega)]
theorem lenL_len (f : Nat) (n : Int) : (lenL f n).length ≤ f + 1 := by
  induction f generalizing n with
  | zero => simp [lenL]
  | succ f ih => unfold lenL; split <;> simp; exact ih _

theorem info8 : (Tryd.prog.info? 5).map (fun i => (i.zero, i.size, i.bytes)) = some (some (.int .u8 0), 1, 1) := by kernel_rfl

theorem make04 : ∀ w : World, (Instr.makeSlice 41 (.int .i64 0) (.int .i64 4)).run Tryd.prog w = .ok (.slice (some ⟨w.heap.size, 0, none⟩) 0 4) (w.alloc (.cells #[.int .u8 0, .int .u8 0, .int .u8 0, .int .u8 0] 5)) := fun _ => by kernel_rfl

/-- The length with which bytes begin: so many bytes may still come; the sum, the unit and the place so far. -/
def rdL : Nat → List UInt8 → Int → Int → Int → Int × Int × Int
  | 0, _, _, _, _ => (0, 0, 4)
  | _ + 1, [], _, _, _ => (0, 0, 2)
  | f + 1, c :: l, sum, unit, i => if c.toNat < 128 then (sum + (c.toNat : Int) % 128 * unit, i + 1, 0) else rdL f l (sum + (c.toNat : Int) % 128 * unit) (unit * 128) (i + 1)

/-- What ReadLen answers. -/
def rdR (l : List UInt8) : Int × Int × Int := rdL 4 l 0 1 0

set_option maxRecDepth 100000 in
set_option maxHeartbeats 400000 in
theorem numReadLen_any (l : List UInt8) (w : World) (hl : l.length ≤ 9223372036854775807) :
    Calls Tryd.prog 28 #[.string ⟨l.toArray⟩] w fun e w' => e = .returned (.tuple #[.int .i64 (rdR l).1, .int .i64 (rdR l).2.1, .int .i64 (rdR l).2.2]) ∧ w = w' := by
  go_enter Tryd.func28, Tryd.ntmps28
  go_wp2
  go_loop [5, 6, 7] (fun s u i => ∃ (a b : Int) (k : Nat), k ≤ 4 ∧ k ≤ l.length ∧ 0 ≤ a ∧ a ≤ 268435455 ∧ 1 ≤ b ∧ b ≤ 268435456 ∧ s = .int .i64 a ∧ u = .int .i64 b ∧ i = .int .i64 k ∧ Hid (a < b ∧ b = 128 ^ k) ∧ Hid (rdR l = rdL (4 - k) (l.drop k) a b k)) (fun _ _ i => 5 - (intOf i).toNat)
  case atStart => exact ⟨0, 1, 0, by omega, by omega, by omega, by omega, by omega, by omega, rfl, rfl, rfl, ⟨by omega, rfl⟩, rfl⟩
  case round =>
    obtain ⟨a, b, k, hk4, hkl, ha0, ha1, hb0, hb1, rfl, rfl, rfl, hab, hr⟩ := hrel
    by_cases h1 : k < l.length
    · have hg := byte_at l k h1 h1
      have hdr := Lib.hid (drop_at l k h1)
      generalize l[k] = c at *
      have hc := c.toNat_lt
      by_cases h2 : k < 4
      · have hp0 : 0 ≤ (c.toNat : Int) % 128 * b := Int.mul_nonneg (by omega) (by omega)
        have hp1 : (c.toNat : Int) % 128 * b ≤ 127 * b := Int.mul_le_mul_of_nonneg_right (by omega) (by omega)
        have hab1 : a < b := hab.out.1
        have hb3 : b ≤ 2097152 := by
          rw [hab.out.2]
          rcases (show k = 0 ∨ k = 1 ∨ k = 2 ∨ k = 3 from by omega) with rfl | rfl | rfl | rfl <;> decide
        have hst : Hid (rdL (4 - k) (l.drop k) a b k = if c.toNat < 128 then (a + (c.toNat : Int) % 128 * b, (k : Int) + 1, 0) else rdL (4 - (k + 1)) (l.drop (k + 1)) (a + (c.toNat : Int) % 128 * b) (b * 128) (k + 1)) := by
          show _ = _
          rw [hdr.out, show 4 - k = (4 - (k + 1)) + 1 from by omega, rdL]
        clear hdr
        go_wp2
        · go_ret3
          have := hst.out
          rw [if_pos (by omega)] at this
          rw [hr.out, this]
          exact ⟨rfl, rfl⟩
        · go_round
          case rel => exact ⟨a + (c.toNat : Int) % 128 * b, b * 128, k + 1, by omega, by omega, by omega, by omega, by omega, by omega, rfl, rfl, by go_num, ⟨by omega, by rw [hab.out.2, Int.pow_succ]⟩, by
            have := hst.out
            rw [if_neg (by omega)] at this
            have h3 := hr.out
            rw [this] at h3
            exact h3⟩
          case measure => simp [intOf]; omega
      · obtain rfl : k = 4 := by omega
        go_wp2
        go_ret3
        have h3 := hr.out
        rw [h3]
        exact ⟨rfl, rfl⟩
    · have h3 := Lib.hid hr.out
      have hdr : Hid (l.drop k = []) := List.drop_eq_nil_of_le (by omega)
      by_cases h2 : k < 4
      · go_wp2
        go_ret3
        have h4 := h3.out
        rw [hdr.out, show 4 - k = (3 - k) + 1 from by omega, rdL] at h4
        rw [h4]
        exact ⟨rfl, rfl⟩
      · obtain rfl : k = 4 := by omega
        go_wp2
        go_ret3
        rw [h3.out]
        exact ⟨rfl, rfl⟩

theorem numReadWord_no (l : List UInt8) (w : World) (h : l.length < 2) :
    Calls Tryd.prog 69 #[.string ⟨l.toArray⟩] w fun e w' => e = .returned (.tuple #[.int .i64 0, .int .i64 0, .int .i64 2]) ∧ Below w.heap.size w w' := by
  go_enter Tryd.func69, Tryd.ntmps69
  go_wp2
  go_ret3
  exact ⟨rfl, Below.refl _ _⟩
theorem numReadWord_yes (L : List UInt8) (a b : UInt8) (l : List UInt8) (w : World) (hL : L = a :: b :: l) (hl : L.length ≤ 9223372036854775807) :
    Calls Tryd.prog 69 #[.string ⟨L.toArray⟩] w fun e w' => e = .returned (.tuple #[.int .i64 (a.toNat * 256 + b.toNat), .int .i64 2, .int .i64 0]) ∧ Below w.heap.size w w' := by
  have h2 : 2 ≤ L.length := by rw [hL]; simp
  have g0 := byte_at L 0 (by omega) (by show _ < L.toArray.size; simp; omega)
  have g1 := byte_at L 1 (by omega) (by show _ < L.toArray.size; simp; omega)
  rw [show L[0]'(by omega) = a from by simp [hL]] at g0
  rw [show L[1]'(by omega) = b from by simp [hL]] at g1
  clear hL
  have ha := a.toNat_lt
  have hb := b.toNat_lt
  go_enter Tryd.func69, Tryd.ntmps69
  go_wp2
  go_quiet (fail)
  go_wp2
  go_ret3
  exact ⟨rfl, below_drewN (Below.refl _ _) _⟩

def wordB (x : Int) : Bool := decide (0 ≤ x) && decide (x ≤ 65535)
def wordsL (xs : List Int) : List UInt8 := xs.flatMap fun x => [toB (x / 256), toB (x % 256)]

theorem wordB_yes (x : Int) (h : wordB x = true) : 0 ≤ x ∧ x ≤ 65535 := by simpa [wordB] using h
theorem wordB_no (x : Int) (h : wordB x = false) : x < 0 ∨ 65535 < x := by
  simp [wordB] at h; omega
theorem all_no (xs : List Int) (k : Nat) (x : Int) (hx : xs[k]? = some x) (h : wordB x = false) : xs.all wordB = false := by
  rw [List.all_eq_false]
  exact ⟨x, List.mem_of_getElem? hx, by simp [h]⟩
theorem all_snoc (xs : List Int) (k : Nat) (x : Int) (hx : xs[k]? = some x) (h : wordB x = true) (hk : (xs.take k).all wordB = true) : (xs.take (k + 1)).all wordB = true := by
  rw [List.take_add_one, hx, List.all_append, hk]; simp [h]
theorem words_snoc (xs : List Int) (k : Nat) (x : Int) (hx : xs[k]? = some x) : wordsL (xs.take (k + 1)) = wordsL (xs.take k) ++ [toB (x / 256), toB (x % 256)] := by
  unfold wordsL
  rw [List.take_add_one, hx, List.flatMap_append]; simp
theorem words_len (xs : List Int) : (wordsL xs).length = 2 * xs.length := by
  induction xs with
  | nil => rfl
  | cons x xs ih => simp [wordsL] at ih ⊢; omega

/-- What Words answers. -/
def wordsR (xs : List Int) : List UInt8 × Int := if xs.all wordB then (wordsL xs, 0) else ([], 1)
theorem wordsR_yes (xs : List Int) (h : xs.all wordB = true) : wordsR xs = (wordsL xs, 0) := by unfold wordsR; rw [if_pos h]
theorem wordsR_no (xs : List Int) (h : xs.all wordB = false) : wordsR xs = ([], 1) := by unfold wordsR; rw [if_neg (by simp [h])]

end Go.Proofs.YtncgkkhpcgdcaaaDoor
