/-
  NumWalks, NumRef, NumFacts in one. (By tools/cmerge.py.)
-/
import Derived.Test.YtnaedcennichlaaGreatDoorKit
import Derived.BigQuiet
import Derived.Deep.QuietTactic
set_option linter.unusedSimpArgs false
set_option linter.unusedVariables false
/-
  num: what each function of the package answers.
-/
namespace Go.Proofs.YtnaedcennichlaaGreatDoor
open Go.RowKit

/-- How many digits. -/
def sizeF (n : Int) : Int := if n < 128 then 1 else if n < 16384 then 2 else if n < 2097152 then 3 else 4

/-- A length's bytes: so many digits at most. -/
def lenL : Nat → Int → List UInt8
  | 0, n => [toB n]
  | f + 1, n => if n < 128 then [toB n] else toB (128 + n % 128) :: lenL f (n / 128)
theorem lenL_small (f : Nat) (n : Int) (h : n < 128) : lenL f n = [toB n] := by
  cases f with
  | zero => rfl
  | succ f => rw [lenL, if_pos h]
theorem lenL_step (f : Nat) (n : Int) (h : 128 ≤ n) : lenL (f + 1) n = toB (128 + n % 128) :: lenL f (n / 128) := by
  rw [lenL, if_neg (by omega)]
/-- The length with which bytes begin: so many bytes may still come; the sum, the unit and the place so far. -/
def rdL : Nat → List UInt8 → Int → Int → Int → Int × Int × Int
  | 0, _, _, _, _ => (0, 0, 4)
  | _ + 1, [], _, _, _ => (0, 0, 2)
  | f + 1, c :: l, sum, unit, i => if c.toNat < 128 then (sum + (c.toNat : Int) % 128 * unit, i + 1, 0) else rdL f l (sum + (c.toNat : Int) % 128 * unit) (unit * 128) (i + 1)

/-- What ReadLen answers. -/
def rdR (l : List UInt8) : Int × Int × Int := rdL 4 l 0 1 0

set_option maxRecDepth 100000 in
set_option maxHeartbeats 400000 in
theorem numReadLen_any (l : List UInt8) (w : World) (hl : l.length ≤ 9223372036854775807) :
    Calls Tryz.prog 32 #[.string ⟨l.toArray⟩] w fun e w' => e = .returned (.tuple #[.int .i64 (rdR l).1, .int .i64 (rdR l).2.1, .int .i64 (rdR l).2.2]) ∧ w = w' := by
  go_enter Tryz.func32, Tryz.ntmps32
  go_wp2
  go_loop [5, 6, 7] (fun s u i => ∃ (a b : Int) (k : Nat), k ≤ 4 ∧ k ≤ l.length ∧ 0 ≤ a ∧ a ≤ 268435455 ∧ 1 ≤ b ∧ b ≤ 268435456 ∧ s = .int .i64 a ∧ u = .int .i64 b ∧ i = .int .i64 k ∧ Hid (a < b ∧ b = 128 ^ k) ∧ Hid (rdR l = rdL (4 - k) (l.drop k) a b k)) (fun _ _ i => 5 - (intOf i).toNat)
  case atStart => exact ⟨0, 1, 0, by omega, by omega, by omega, by omega, by omega, by omega, rfl, rfl, rfl, ⟨by omega, rfl⟩, rfl⟩
  case round =>
    obtain ⟨a, b, k, hk4, hkl, ha0, ha1, hb0, hb1, rfl, rfl, rfl, hab, hr⟩ := hrel
    by_cases h1 : k < l.length
    · have hg := byte_at l k h1 h1
      have hdr := Lib.hid (drop_at l k h1)
      generalize l[k] = c at *
      have hc := c.toNat_lt
      by_cases h2 : k < 4
      · have hp0 : 0 ≤ (c.toNat : Int) % 128 * b := Int.mul_nonneg (by omega) (by omega)
        have hp1 : (c.toNat : Int) % 128 * b ≤ 127 * b := Int.mul_le_mul_of_nonneg_right (by omega) (by omega)
        have hab1 : a < b := hab.out.1
        have hb3 : b ≤ 2097152 := by
          rw [hab.out.2]
          rcases (show k = 0 ∨ k = 1 ∨ k = 2 ∨ k = 3 from by omega) with rfl | rfl | rfl | rfl <;> decide
        have hst : Hid (rdL (4 - k) (l.drop k) a b k = if c.toNat < 128 then (a + (c.toNat : Int) % 128 * b, (k : Int) + 1, 0) else rdL (4 - (k + 1)) (l.drop (k + 1)) (a + (c.toNat : Int) % 128 * b) (b * 128) (k + 1)) := by
          show _ = _
          rw [hdr.out, show 4 - k = (4 - (k + 1)) + 1 from by omega, rdL]
        clear hdr
        go_wp2
        · go_ret3
          have := hst.out
          rw [if_pos (by omega)] at this
          rw [hr.out, this]
          exact ⟨rfl, rfl⟩
        · go_round
          case rel => exact ⟨a + (c.toNat : Int) % 128 * b, b * 128, k + 1, by omega, by omega, by omega, by omega, by omega, by omega, rfl, rfl, by go_num, ⟨by omega, by rw [hab.out.2, Int.pow_succ]⟩, by
            have := hst.out
            rw [if_neg (by omega)] at this
            have h3 := hr.out
            rw [this] at h3
            exact h3⟩
          case measure => simp [intOf]; omega
      · obtain rfl : k = 4 := by omega
        go_wp2
        go_ret3
        have h3 := hr.out
        rw [h3]
        exact ⟨rfl, rfl⟩
    · have h3 := Lib.hid hr.out
      have hdr : Hid (l.drop k = []) := List.drop_eq_nil_of_le (by omega)
      by_cases h2 : k < 4
      · go_wp2
        go_ret3
        have h4 := h3.out
        rw [hdr.out, show 4 - k = (3 - k) + 1 from by omega, rdL] at h4
        rw [h4]
        exact ⟨rfl, rfl⟩
      · obtain rfl : k = 4 := by omega
        go_wp2
        go_ret3
        rw [h3.out]
        exact ⟨rfl, rfl⟩

theorem numReadWord_no (l : List UInt8) (w : World) (h : l.length < 2) :
    Calls Tryz.prog 77 #[.string ⟨l.toArray⟩] w fun e w' => e = .returned (.tuple #[.int .i64 0, .int .i64 0, .int .i64 2]) ∧ Below w.heap.size w w' := by
  go_enter Tryz.func77, Tryz.ntmps77
  go_wp2
  go_ret3
  exact ⟨rfl, Below.refl _ _⟩
theorem numReadWord_yes (L : List UInt8) (a b : UInt8) (l : List UInt8) (w : World) (hL : L = a :: b :: l) (hl : L.length ≤ 9223372036854775807) :
    Calls Tryz.prog 77 #[.string ⟨L.toArray⟩] w fun e w' => e = .returned (.tuple #[.int .i64 (a.toNat * 256 + b.toNat), .int .i64 2, .int .i64 0]) ∧ Below w.heap.size w w' := by
  have h2 : 2 ≤ L.length := by rw [hL]; simp
  have g0 := byte_at L 0 (by omega) (by show _ < L.toArray.size; simp; omega)
  have g1 := byte_at L 1 (by omega) (by show _ < L.toArray.size; simp; omega)
  rw [show L[0]'(by omega) = a from by simp [hL]] at g0
  rw [show L[1]'(by omega) = b from by simp [hL]] at g1
  clear hL
  have ha := a.toNat_lt
  have hb := b.toNat_lt
  go_enter Tryz.func77, Tryz.ntmps77
  go_wp2
  go_quiet (fail)
  go_wp2
  go_ret3
  exact ⟨rfl, below_drewN (Below.refl _ _) _⟩

def wordB (x : Int) : Bool := decide (0 ≤ x) && decide (x ≤ 65535)
def wordsL (xs : List Int) : List UInt8 := xs.flatMap fun x => [toB (x / 256), toB (x % 256)]

theorem wordB_yes (x : Int) (h : wordB x = true) : 0 ≤ x ∧ x ≤ 65535 := by simpa [wordB] using h
theorem wordB_no (x : Int) (h : wordB x = false) : x < 0 ∨ 65535 < x := by
  simp [wordB] at h; omega
theorem all_no (xs : List Int) (k : Nat) (x : Int) (hx : xs[k]? = some x) (h : wordB x = false) : xs.all wordB = false := by
  rw [List.all_eq_false]
  exact ⟨x, List.mem_of_getElem? hx, by simp [h]⟩
theorem all_snoc (xs : List Int) (k : Nat) (x : Int) (hx : xs[k]? = some x) (h : wordB x = true) (hk : (xs.take k).all wordB = true) : (xs.take (k + 1)).all wordB = true := by
  rw [List.take_add_one, hx, List.all_append, hk]; simp [h]
theorem words_snoc (xs : List Int) (k : Nat) (x : Int) (hx : xs[k]? = some x) : wordsL (xs.take (k + 1)) = wordsL (xs.take k) ++ [toB (x / 256), toB (x % 256)] := by
  unfold wordsL
  rw [List.take_add_one, hx, List.flatMap_append]; simp
theorem words_len (xs : List Int) : (wordsL xs).length = 2 * xs.length := by
  induction xs with
  | nil => rfl
  | cons x xs ih => simp [wordsL] at ih ⊢; omega

/-- What Words answers. -/
def wordsR (xs : List Int) : List UInt8 × Int := if xs.all wordB then (wordsL xs, 0) else ([], 1)
theorem wordsR_yes (xs : List Int) (h : xs.all wordB = true) : wordsR xs = (wordsL xs, 0) := by unfold wordsR; rw [if_pos h]
theorem wordsR_no (xs : List Int) (h : xs.all wordB = false) : wordsR xs = ([], 1) := by unfold wordsR; rw [if_neg (by simp [h])]

end Go.Proofs.YtnaedcennichlaaGreatDoor

/-
  The document's own answers of layer 1: what each function returns, in the words of NumWalks.
-/
namespace Go.Proofs.YtnaedcennichlaaGreatDoor
open Go.RowKit

/-- 128 to the power x. -/
def pw (x : Int) : Int := 128 ^ x.toNat
theorem pw_succ (k : Nat) : pw (k + 1 : Nat) = pw k * 128 := by unfold pw; simp [Int.pow_succ]
theorem pw_bd (k : Nat) (h : k ≤ 4) : 1 ≤ pw k ∧ pw k ≤ 268435456 := by
  rcases (show k = 0 ∨ k = 1 ∨ k = 2 ∨ k = 3 ∨ k = 4 from by omega) with rfl | rfl | rfl | rfl | rfl <;> decide
theorem pw_lt (k : Nat) (h : k < 4) : pw k ≤ 2097152 := by
  rcases (show k = 0 ∨ k = 1 ∨ k = 2 ∨ k = 3 from by omega) with rfl | rfl | rfl | rfl <;> decide

set_option maxHeartbeats 400000 in
theorem refPower_any (x : Int) (w : World) (h0 : 0 ≤ x) (h : x ≤ 4) :
    Calls Tryz.prog 26 #[.int .i64 x] w fun e w' => e = .returned (.int .i64 (pw x)) ∧ w = w' := by
  obtain ⟨n, rfl⟩ := Int.eq_ofNat_of_zero_le h0
  go_enter Tryz.func26, Tryz.ntmps26
  go_wp2
  go_loop [3, 4] (fun p i => ∃ (k : Nat) (q : Int), k ≤ n ∧ 1 ≤ q ∧ q ≤ 268435456 ∧ i = .int .i64 k ∧ p = .int .i64 q ∧ Hid (q = pw k)) (fun _ i => n - (intOf i).toNat)
  case atStart => exact ⟨0, 1, by omega, by omega, by omega, rfl, rfl, rfl⟩
  case round =>
    obtain ⟨k, q, hk, hq0, hq1, rfl, rfl, hp⟩ := hrel
    by_cases hlt : k < n
    · have hs := Lib.hid (pw_succ k)
      have hb : q ≤ 2097152 := by rw [hp.out]; exact pw_lt k (by omega)
      go_wp2
      go_round
      case rel => exact ⟨k + 1, q * 128, by omega, by omega, by omega, by go_num, rfl, by show _ = _; rw [hs.out, hp.out]⟩
      case measure => simp [intOf]; omega
    · obtain rfl : k = n := by omega
      go_wp2
      go_ret
      exact ⟨ret_int hp.out, rfl⟩

/-- The sum of the first digits. -/
def digits : List UInt8 → Nat → Int
  | _, 0 => 0
  | l, k + 1 => digits l k + ((l.getD k 0).toNat : Int) % 128 * pw k
theorem digits_succ (l : List UInt8) (k : Nat) (c : UInt8) (h : l[k]? = some c) : digits l (k + 1) = digits l k + (c.toNat : Int) % 128 * pw k := by
  rw [digits, List.getD, h]; rfl
theorem pw_pos (k : Nat) : 1 ≤ pw k := by
  induction k with
  | zero => decide
  | succ k ih => rw [pw_succ]; omega
theorem digits_bd (l : List UInt8) (k : Nat) : 0 ≤ digits l k ∧ digits l k < pw k := by
  induction k with
  | zero => exact ⟨by simp [digits], by show (0 : Int) < pw (0 : Nat); decide⟩
  | succ k ih =>
    have hp := pw_pos k
    have h0 : 0 ≤ ((l.getD k 0).toNat : Int) % 128 * pw k := Int.mul_nonneg (by omega) (by omega)
    have h1 : ((l.getD k 0).toNat : Int) % 128 * pw k ≤ 127 * pw k := Int.mul_le_mul_of_nonneg_right (by omega) (by omega)
    rw [digits, pw_succ]
    omega
theorem rdR_to (l : List UInt8) (j : Nat) (hj : j ≤ 4) (hl : j ≤ l.length) (h : ∀ i c, i < j → l[i]? = some c → 128 ≤ c.toNat) : rdR l = rdL (4 - j) (l.drop j) (digits l j) (pw j) j := by
  induction j with
  | zero => rfl
  | succ j ih =>
    rw [ih (by omega) (by omega) (fun i c hi hc => h i c (by omega) hc)]
    have hlt : j < l.length := by omega
    have hc := h j l[j] (by omega) (List.getElem?_eq_getElem hlt)
    rw [drop_at l j hlt, show 4 - j = (4 - (j + 1)) + 1 from by omega, rdL, if_neg (by omega), pw_succ, digits_succ l j l[j] (List.getElem?_eq_getElem hlt)]
    rfl
theorem rdR_form (l : List UInt8) (k : Nat) (hk : 4 ≤ k) (hl : k ≤ l.length) (h : ∀ i c, i < k → l[i]? = some c → 128 ≤ c.toNat) : rdR l = (0, 0, 4) := by
  rw [rdR_to l 4 (by omega) (by omega) (fun i c hi hc => h i c (by omega) hc)]; rfl
theorem rdR_short (l : List UInt8) (k : Nat) (hk : k < 4) (hl : k = l.length) (h : ∀ i c, i < k → l[i]? = some c → 128 ≤ c.toNat) : rdR l = (0, 0, 2) := by
  rw [rdR_to l k (by omega) (by omega) h, List.drop_eq_nil_of_le (by omega), show 4 - k = (3 - k) + 1 from by omega]; rfl
theorem rdR_end (l : List UInt8) (k : Nat) (c : UInt8) (hk : k < 4) (hc : l[k]? = some c) (h8 : c.toNat < 128) (h : ∀ i c, i < k → l[i]? = some c → 128 ≤ c.toNat) : rdR l = (digits l (k + 1), (k : Int) + 1, 0) := by
  obtain ⟨hlt, e⟩ := List.getElem?_eq_some_iff.1 hc
  rw [rdR_to l k (by omega) (by omega) h, drop_at l k hlt, show 4 - k = (3 - k) + 1 from by omega, rdL, e, if_pos h8, digits_succ l k c hc]

set_option maxRecDepth 100000 in
set_option maxHeartbeats 800000 in
theorem refReadLen_any (l : List UInt8) (w : World) (hl : l.length ≤ 9223372036854775807) :
    Calls Tryz.prog 19 #[.string ⟨l.toArray⟩] w fun e w' => e = .returned (.tuple #[.int .i64 (rdR l).1, .int .i64 (rdR l).2.1, .int .i64 (rdR l).2.2]) ∧ Below w.heap.size w w' := by
  go_enter Tryz.func19, Tryz.ntmps19
  go_wp2_with fail
  go_loop [5] (fun i => ∃ k : Nat, k ≤ l.length ∧ i = .int .i64 k ∧ Hid (∀ j c, j < k → l[j]? = some c → 128 ≤ c.toNat)) (fun i => l.length - (intOf i).toNat)
  case atStart => exact ⟨0, by omega, rfl, fun j c h => by omega⟩
  case round =>
    obtain ⟨k, hk, rfl, hall⟩ := hrel
    by_cases hlt : k < l.length
    · have hg := byte_at l k hlt hlt
      obtain ⟨c, hc⟩ : ∃ c, l[k] = c := ⟨_, rfl⟩
      rw [hc] at hg
      have hc' : Hid (l[k]? = some c) := by show _ = _; rw [List.getElem?_eq_getElem hlt, hc]
      clear hc
      have hcb := c.toNat_lt
      by_cases h8 : 128 ≤ c.toNat
      · go_wp2_with fail
        go_round
        case rel => exact ⟨k + 1, by omega, by go_num, fun j d hj hd => by
          by_cases e : j = k
          · subst e; have := hc'.out; rw [this] at hd; cases hd; exact h8
          · exact hall.out j d (by omega) hd⟩
        case measure => simp [intOf]; omega
      · by_cases h4 : 4 ≤ k
        · have hr := Lib.hid (rdR_form l k h4 hk hall.out)
          go_wp2_with fail
          go_ret3
          rw [hr.out]
          exact ⟨rfl, Below.refl _ _⟩
        · have hr := Lib.hid (rdR_end l k c (by omega) hc'.out (by omega) hall.out)
          have hne : decide (k = l.length) = false := by simp; omega
          have hne' : ((k : Int) == (l.length : Int)) = false := by simp; omega
          go_wp2_with fail
          go_loopw [6, 7] (fun n i wr => ∃ (m : Nat) (a : Int), m ≤ k + 1 ∧ i = .int .i64 m ∧ n = .int .i64 a ∧ 0 ≤ a ∧ a ≤ 268435455 ∧ Hid (a = digits l m) ∧ Below w.heap.size w wr) (fun _ i _ => 5 - (intOf i).toNat)
          case atStart => exact ⟨0, 0, by omega, rfl, rfl, by omega, by omega, rfl, Below.refl _ _⟩
          case round =>
            obtain ⟨m, a, hm, rfl, rfl, ha0, ha1, hd, hb⟩ := hrel
            by_cases hmk : m ≤ k
            · have hg2 := byte_at l m (by omega) (by show _ < l.toArray.size; simp; omega)
              have hdg := Lib.hid (digits_succ l m l[m] (List.getElem?_eq_getElem (by omega)))
              generalize l[m] = d at *
              have hdb := d.toNat_lt
              have hp := pw_bd m (by omega)
              have hp2 := pw_lt m (by omega)
              have hp0 : 0 ≤ (d.toNat : Int) % 128 * pw m := Int.mul_nonneg (by omega) (by omega)
              have hp1 : (d.toNat : Int) % 128 * pw m ≤ 127 * pw m := Int.mul_le_mul_of_nonneg_right (by omega) (by omega)
              have hax : a < pw m := by rw [hd.out]; exact (digits_bd l m).2
              have hmI : (m : Int) < (l.length : Int) := by omega
              have hmJ : (0 : Int) ≤ (m : Int) := by omega
              go_wp2_with fail
              go_quiet ((go_at_call 26; exact quiet_left (refPower_any _ _ (by omega) (by omega))))
              go_wp2_with fail
              go_roundw
              case rel => exact ⟨m + 1, a + (d.toNat : Int) % 128 * pw m, by omega, by go_num, by first | rfl | go_num, by omega, by omega, by show _ = _; rw [hdg.out, hd.out], below_drewN hb _⟩
              case measure => simp [intOf]; omega
            · obtain rfl : m = k + 1 := by omega
              go_wp2_with fail
              go_ret3
              rw [hr.out, ← hd.out]
              exact ⟨rfl, hb⟩
    · obtain rfl : k = l.length := by omega
      by_cases h4 : 4 ≤ l.length
      · have hr := Lib.hid (rdR_form l _ h4 hk hall.out)
        go_wp2_with fail
        go_ret3
        rw [hr.out]
        exact ⟨rfl, Below.refl _ _⟩
      · have hr := Lib.hid (rdR_short l _ (by omega) rfl hall.out)
        go_wp2_with fail
        go_ret3
        rw [hr.out]
        exact ⟨rfl, Below.refl _ _⟩

theorem refReadWord_no (l : List UInt8) (w : World) (h : l.length < 2) :
    Calls Tryz.prog 56 #[.string ⟨l.toArray⟩] w fun e w' => e = .returned (.tuple #[.int .i64 0, .int .i64 0, .int .i64 2]) ∧ Below w.heap.size w w' := by
  go_enter Tryz.func56, Tryz.ntmps56
  go_wp2
  go_ret3
  exact ⟨rfl, Below.refl _ _⟩
theorem refReadWord_yes (L : List UInt8) (a b : UInt8) (l : List UInt8) (w : World) (hL : L = a :: b :: l) (hl : L.length ≤ 9223372036854775807) :
    Calls Tryz.prog 56 #[.string ⟨L.toArray⟩] w fun e w' => e = .returned (.tuple #[.int .i64 (a.toNat * 256 + b.toNat), .int .i64 2, .int .i64 0]) ∧ Below w.heap.size w w' := by
  have h2 : 2 ≤ L.length := by rw [hL]; simp
  have g0 := byte_at L 0 (by omega) (by show _ < L.toArray.size; simp; omega)
  have g1 := byte_at L 1 (by omega) (by show _ < L.toArray.size; simp; omega)
  rw [show L[0]'(by omega) = a from by simp [hL]] at g0
  rw [show L[1]'(by omega) = b from by simp [hL]] at g1
  clear hL
  have ha := a.toNat_lt
  have hb := b.toNat_lt
  go_enter Tryz.func56, Tryz.ntmps56
  go_wp2
  go_quiet (fail)
  go_wp2
  go_ret3
  refine ⟨?_, below_drewN (Below.refl _ _) _⟩
  rw [show (a.toNat : Int) * 256 + b.toNat = 256 * a.toNat + b.toNat from by omega]
  rfl

set_option maxHeartbeats 800000 in
theorem refWords_any (A : Option Addr) (n c : Nat) (xs : List Int) (w : World) (hx : Ints w A n xs) (hn : n ≤ 1000000) :
    Calls Tryz.prog 60 #[.slice A n c] w fun e w' => e = .returned (.tuple #[.string ⟨(wordsR xs).1.toArray⟩, .int .i64 (wordsR xs).2]) ∧ Below w.heap.size w w' := by
  go_enter Tryz.func60, Tryz.ntmps60
  go_wp2_with fail
  go_loopw [4, 5] (fun s i wr => ∃ k : Nat, k ≤ n ∧ i = .int .i64 k ∧ s = .string ⟨(wordsL (xs.take k)).toArray⟩ ∧ Below w.heap.size w wr ∧ Hid ((xs.take k).all wordB = true)) (fun _ i _ => n - (intOf i).toNat)
  case atStart => exact ⟨0, by omega, rfl, rfl, Below.refl _ _, by simp [Hid]⟩
  case round =>
    obtain ⟨k, hk, rfl, rfl, hb, hall⟩ := hrel
    have hlen := hx.len
    by_cases hlt : k < n
    · obtain ⟨b, off, x, rfl, hxk, hcell⟩ := (hx.below hb).at_ hlt
      have hxk' := Lib.hid hxk
      clear hxk
      by_cases hwd : wordB x = true
      · have hwx := wordB_yes x hwd
        have hwd' := Lib.hid hwd
        clear hwd
        have hwl := words_len (xs.take k)
        have htl : (xs.take k).length ≤ k := List.length_take_le _ _
        have hd0 : decide (x < 0) = false := by simp; omega
        have hd1 : decide (65535 < x) = false := by simp; omega
        have hcv := fun W => conv_new2d (P := Tryz.prog) (S := 9) Tryz.underlying23 Tryz.underlying5 Tryz.underlying9 W (x / 256) (x % 256) (by omega) (by omega) (by omega) (by omega)
        have had := fun W => add_str (P := Tryz.prog) W (wordsL (xs.take k)) [toB (x / 256), toB (x % 256)] (by simp only [List.length_cons, List.length_nil]; omega)
        go_wp2_with fail
        go_region
        go_wp2_with fail
        go_roundw
        case rel => exact ⟨k + 1, by omega, by go_num, by rw [words_snoc xs k x hxk'.out], by repeat (first | exact hb | (refine Below.alloc ?_ (by have := hb.size; simp; omega) _) | refine Below.drew ?_), all_snoc xs k x hxk'.out hwd'.out hall.out⟩
        case measure => simp [intOf]; omega
      · have hwd1 : wordB x = false := by simpa using hwd
        have hwx := wordB_no x hwd1
        have hno := Lib.hid (all_no xs k x hxk'.out hwd1)
        clear hwd1 hwd
        by_cases h0 : x < 0
        · have hd0 : decide (x < 0) = true := by simp; omega
          go_wp2_with fail
          go_ret2
          rw [wordsR_no xs hno.out]
          exact ⟨rfl, hb⟩
        · have hd0 : decide (x < 0) = false := by simp; omega
          have hd1 : decide (65535 < x) = true := by simp; omega
          go_wp2_with fail
          go_ret2
          rw [wordsR_no xs hno.out]
          exact ⟨rfl, hb⟩
    · obtain rfl : k = n := by omega
      go_wp2_with fail
      go_ret2
      have h1 := hall.out
      rw [List.take_of_length_le (by omega)] at h1
      rw [wordsR_yes xs h1, List.take_of_length_le (by omega)]
      exact ⟨rfl, hb⟩
/-- What ReadWord answers. -/
def rwR : List UInt8 → Int × Int × Int
  | a :: b :: _ => (a.toNat * 256 + b.toNat, 2, 0)
  | _ => (0, 0, 2)
theorem numReadWord_any (l : List UInt8) (w : World) (hl : l.length ≤ 9223372036854775807) :
    Calls Tryz.prog 77 #[.string ⟨l.toArray⟩] w fun e w' => e = .returned (.tuple #[.int .i64 (rwR l).1, .int .i64 (rwR l).2.1, .int .i64 (rwR l).2.2]) ∧ Below w.heap.size w w' := by
  match l, hl with
  | [], _ => exact numReadWord_no [] w (by decide)
  | [a], _ => exact numReadWord_no [a] w (by simp)
  | a :: b :: l, hl => exact numReadWord_yes _ a b l w rfl hl
theorem refReadWord_any (l : List UInt8) (w : World) (hl : l.length ≤ 9223372036854775807) :
    Calls Tryz.prog 56 #[.string ⟨l.toArray⟩] w fun e w' => e = .returned (.tuple #[.int .i64 (rwR l).1, .int .i64 (rwR l).2.1, .int .i64 (rwR l).2.2]) ∧ Below w.heap.size w w' := by
  match l, hl with
  | [], _ => exact refReadWord_no [] w (by decide)
  | [a], _ => exact refReadWord_no [a] w (by simp)
  | a :: b :: l, hl => exact refReadWord_yes _ a b l w rfl hl
end Go.Proofs.YtnaedcennichlaaGreatDoor

/-
  Plain facts about lengths' bytes: they are read again; cut they are too short; unlike lengths have unlike bytes.
-/
namespace Go.Proofs.YtnaedcennichlaaGreatDoor

theorem toB_nat (x : Int) (h0 : 0 ≤ x) (h1 : x < 256) : (toB x).toNat = x.toNat := by
  have := toB_toNat x h0 h1
  omega
theorem rdL_back (f : Nat) : ∀ (n s u i : Int) (l : List UInt8), 0 ≤ n → n < 128 ^ (f + 1) → rdL (f + 1) (lenL f n ++ l) s u i = (s + n * u, i + (lenL f n).length, 0) := by
  induction f with
  | zero =>
    intro n s u i l h0 h1
    have h1 : n < 128 := by simpa using h1
    have e := toB_nat n h0 (by omega)
    simp only [lenL, List.cons_append, List.nil_append, rdL, e]
    rw [if_pos (by omega), show ((n.toNat : Nat) : Int) % 128 = n from by omega]
    rfl
  | succ f ih =>
    intro n s u i l h0 h1
    by_cases h : n < 128
    · have e := toB_nat n h0 (by omega)
      rw [lenL_small _ _ h]
      simp only [List.cons_append, List.nil_append, rdL, e]
      rw [if_pos (by omega), show ((n.toNat : Nat) : Int) % 128 = n from by omega]
      rfl
    · have e := toB_nat (128 + n % 128) (by omega) (by omega)
      rw [lenL_step _ _ (by omega)]
      simp only [List.cons_append, rdL, e]
      rw [if_neg (by omega), ih _ _ _ _ _ (by omega) (by rw [Int.pow_succ] at h1; omega)]
      rw [show (((128 + n % 128).toNat : Nat) : Int) % 128 = n % 128 from by omega]
      have h2 := Int.emod_add_mul_ediv n 128
      simp only [List.length_cons, Prod.mk.injEq]
      refine ⟨?_, by omega, trivial⟩
      generalize n / 128 = q at *
      generalize n % 128 = r at *
      subst h2
      grind
theorem rdL_cut (f : Nat) : ∀ (n s u i : Int) (j : Nat), 0 ≤ n → n < 128 ^ (f + 1) → j < (lenL f n).length → rdL (f + 1) ((lenL f n).take j) s u i = (0, 0, 2) := by
  induction f with
  | zero =>
    intro n s u i j h0 h1 hj
    simp only [lenL, List.length_singleton] at hj
    obtain rfl : j = 0 := by omega
    rfl
  | succ f ih =>
    intro n s u i j h0 h1 hj
    by_cases h : n < 128
    · rw [lenL_small _ _ h] at hj ⊢
      simp only [List.length_singleton] at hj
      obtain rfl : j = 0 := by omega
      rfl
    · have e := toB_nat (128 + n % 128) (by omega) (by omega)
      rw [lenL_step _ _ (by omega)] at hj ⊢
      cases j with
      | zero => rfl
      | succ j =>
        simp only [List.length_cons] at hj
        simp only [List.take_succ_cons, rdL, e]
        rw [if_neg (by omega)]
        exact ih _ _ _ _ _ (by omega) (by rw [Int.pow_succ] at h1; omega) (by omega)
/-- A length in just so many bytes and one more. -/
def encF : Nat → Int → List UInt8
  | 0, n => [toB n]
  | j + 1, n => toB (128 + n % 128) :: encF j (n / 128)
theorem encF_len (j : Nat) (n : Int) : (encF j n).length = j + 1 := by
  induction j generalizing n with
  | zero => rfl
  | succ j ih => simp [encF, ih]
theorem lenL_enc (n : Int) (h0 : 0 ≤ n) (h1 : n ≤ 268435455) : ∃ z : Nat, sizeF n = (z : Int) + 1 ∧ z ≤ 3 ∧ n < 128 ^ (z + 1) ∧ lenL 3 n = encF z n ∧ ∀ j : Nat, n < 128 ^ (j + 1) → z ≤ j := by
  unfold sizeF
  by_cases a : n < 128
  · exact ⟨0, by rw [if_pos a]; rfl, by omega, by simpa using a, by rw [lenL_small _ _ a]; rfl, fun j _ => by omega⟩
  · rw [if_neg a, lenL_step _ _ (by omega)]
    by_cases b : n < 16384
    · refine ⟨1, by rw [if_pos b]; rfl, by omega, by simpa using b, by rw [lenL_small _ _ (by omega)]; rfl, fun j hj => ?_⟩
      match j, hj with
      | 0, hj => simp at hj; omega
      | j + 1, _ => omega
    · rw [if_neg b, lenL_step _ _ (by omega)]
      by_cases c : n < 2097152
      · refine ⟨2, by rw [if_pos c]; rfl, by omega, by simpa using c, by rw [lenL_small _ _ (by omega)]; rfl, fun j hj => ?_⟩
        match j, hj with
        | 0, hj => simp at hj; omega
        | 1, hj => simp at hj; omega
        | j + 2, _ => omega
      · refine ⟨3, by rw [if_neg c]; rfl, by omega, by simp; omega, by rw [lenL_step _ _ (by omega)]; rfl, fun j hj => ?_⟩
        match j, hj with
        | 0, hj => simp at hj; omega
        | 1, hj => simp at hj; omega
        | 2, hj => simp at hj; omega
        | j + 3, _ => omega
theorem rdL_enc (j : Nat) : ∀ (f : Nat) (n s u i : Int) (l : List UInt8), j ≤ f → 0 ≤ n → n < 128 ^ (j + 1) → rdL (f + 1) (encF j n ++ l) s u i = (s + n * u, i + j + 1, 0) := by
  induction j with
  | zero =>
    intro f n s u i l _ h0 h1
    have h1 : n < 128 := by simpa using h1
    have e := toB_nat n h0 (by omega)
    simp only [encF, List.cons_append, List.nil_append, rdL, e]
    rw [if_pos (by omega), show ((n.toNat : Nat) : Int) % 128 = n from by omega]
    simp
  | succ j ih =>
    intro f n s u i l hf h0 h1
    obtain ⟨f, rfl⟩ : ∃ f', f = f' + 1 := ⟨f - 1, by omega⟩
    have e := toB_nat (128 + n % 128) (by omega) (by omega)
    simp only [encF, List.cons_append, rdL, e]
    rw [if_neg (by omega)]
    rw [show (((128 + n % 128).toNat : Nat) : Int) % 128 = n % 128 from by omega]
    have h3 := ih f (n / 128) (s + n % 128 * u) (u * 128) (i + 1) l (by omega) (by omega) (by rw [Int.pow_succ] at h1; omega)
    rw [h3]
    have h2 := Int.emod_add_mul_ediv n 128
    simp only [Prod.mk.injEq]
    refine ⟨?_, by omega, trivial⟩
    generalize n / 128 = q at *
    generalize n % 128 = r at *
    subst h2
    grind
theorem rdL_ok (f : Nat) : ∀ (l : List UInt8) (s u i n c : Int), rdL (f + 1) l s u i = (n, c, 0) → ∃ (j : Nat) (m : Int), j ≤ f ∧ c = i + j + 1 ∧ j < l.length ∧ 0 ≤ m ∧ m < 128 ^ (j + 1) ∧ n = s + m * u ∧ l.take (j + 1) = encF j m := by
  induction f with
  | zero =>
    intro l s u i n c h
    match l, h with
    | [], h => simp [rdL] at h
    | b :: l, h =>
      simp only [rdL] at h
      by_cases hb : b.toNat < 128
      · rw [if_pos hb] at h
        simp only [Prod.mk.injEq] at h
        obtain ⟨rfl, rfl, _⟩ := h
        refine ⟨0, (b.toNat : Int) % 128, by omega, by simp, by simp, by omega, by simp; omega, rfl, ?_⟩
        simp only [encF, List.take_succ_cons, List.take_zero]
        rw [show (b.toNat : Int) % 128 = (b.toNat : Int) from by omega, toB_of]
      · rw [if_neg hb] at h
        simp at h
  | succ f ih =>
    intro l s u i n c h
    match l, h with
    | [], h => simp [rdL] at h
    | b :: l, h =>
      rw [rdL] at h
      by_cases hb : b.toNat < 128
      · rw [if_pos hb] at h
        simp only [Prod.mk.injEq] at h
        obtain ⟨rfl, rfl, _⟩ := h
        refine ⟨0, (b.toNat : Int) % 128, by omega, by simp, by simp, by omega, by simp; omega, rfl, ?_⟩
        simp only [encF, List.take_succ_cons, List.take_zero]
        rw [show (b.toNat : Int) % 128 = (b.toNat : Int) from by omega, toB_of]
      · rw [if_neg hb] at h
        obtain ⟨j, m, hj, hc, hl, h0, h1, hn, ht⟩ := ih _ _ _ _ _ _ h
        have hbl := b.toNat_lt
        refine ⟨j + 1, (b.toNat : Int) % 128 + 128 * m, by omega, by omega, by simp; omega, by omega, by rw [Int.pow_succ]; omega, by rw [hn]; grind, ?_⟩
        rw [List.take_succ_cons, encF, ht]
        rw [show ((b.toNat : Int) % 128 + 128 * m) / 128 = m from by omega, show 128 + ((b.toNat : Int) % 128 + 128 * m) % 128 = (b.toNat : Int) from by omega, toB_of]
theorem rdR_ok (l : List UInt8) (n c : Int) (h : rdR l = (n, c, 0)) : ∃ j : Nat, j ≤ 3 ∧ c = (j : Int) + 1 ∧ j < l.length ∧ 0 ≤ n ∧ n < 128 ^ (j + 1) ∧ l.take (j + 1) = encF j n := by
  obtain ⟨j, m, hj, hc, hl, h0, h1, hn, ht⟩ := rdL_ok 3 l 0 1 0 n c h
  obtain rfl : n = m := by omega
  exact ⟨j, hj, by omega, hl, h0, h1, ht⟩
theorem rdL_bad (f : Nat) : ∀ (l : List UInt8) (s u i : Int), (rdL f l s u i).2.2 = 0 ∨ rdL f l s u i = (0, 0, 2) ∨ rdL f l s u i = (0, 0, 4) := by
  induction f with
  | zero => intro l s u i; right; right; rfl
  | succ f ih =>
    intro l s u i
    match l with
    | [] => right; left; rfl
    | b :: l =>
      rw [rdL]
      split
      · left; rfl
      · exact ih _ _ _ _
theorem rdR_bad (l : List UInt8) : (∃ n c, rdR l = (n, c, 0)) ∨ rdR l = (0, 0, 2) ∨ rdR l = (0, 0, 4) := by
  rcases rdL_bad 4 l 0 1 0 with h | h | h
  · left; exact ⟨(rdR l).1, (rdR l).2.1, by
      have : rdR l = ((rdR l).1, (rdR l).2.1, (rdR l).2.2) := rfl
      rw [this]; show (_, _, (rdL 4 l 0 1 0).2.2) = _; rw [h]⟩
  · right; left; exact h
  · right; right; exact h
end Go.Proofs.YtnaedcennichlaaGreatDoor
