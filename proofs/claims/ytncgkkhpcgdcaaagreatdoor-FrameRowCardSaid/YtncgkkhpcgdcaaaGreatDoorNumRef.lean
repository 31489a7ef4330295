/-
  The document's own answers of layer 1: what each function returns, in the words of NumWalks.
-/
import Derived.Test.YtncgkkhpcgdcaaaGreatDoorNumWalks
set_option linter.unusedSimpArgs false
set_option linter.unusedVariables false
namespace Go.Proofs.YtncgkkhpcgdcaaaGreatDoor
open Go.RowKit

/-- 128 to the power x. -/
def pw (x : Int) : Int := 128 ^ x.toNat
theorem pw_succ (k : Nat) : pw (k + 1 : Nat) = pw k * 128 := by unfold pw; simp [Int.pow_succ]
theorem pw_bd (k : Nat) (h : k ≤ 4) : 1 ≤ pw k ∧ pw k ≤ 268435456 := by
  rcases (show k = 0 ∨ k = 1 ∨ k = 2 ∨ k = 3 ∨ k = 4 from by omega) with rfl | rfl | rfl | rfl | rfl <;> decide
theorem pw_lt (k : Nat) (h : k < 4) : pw k ≤ 2097152 := by
  rcases (show k = 0 ∨ k = 1 ∨ k = 2 ∨ k = 3 from by omega) with rfl | rfl | rfl | rfl <;> decide

set_option maxHeartbeats 400000 in
theorem refPower_any (x : Int) (w : World) (h0 : 0 ≤ x) (h : x ≤ 4) :
    Calls Tryz.prog 31 #[.int .i64 x] w fun e w' => e = .returned (.int .i64 (pw x)) ∧ w = w' := by
  obtain ⟨n, rfl⟩ := Int.eq_ofNat_of_zero_le h0
  go_enter Tryz.func31, Tryz.ntmps31
  go_wp2
  go_loop [3, 4] (fun p i => ∃ (k : Nat) (q : Int), k ≤ n ∧ 1 ≤ q ∧ q ≤ 268435456 ∧ i = .int .i64 k ∧ p = .int .i64 q ∧ Hid (q = pw k)) (fun _ i => n - (intOf i).toNat)
  case atStart => exact ⟨0, 1, by omega, by omega, by omega, rfl, rfl, rfl⟩
  case round =>
    obtain ⟨k, q, hk, hq0, hq1, rfl, rfl, hp⟩ := hrel
    by_cases hlt : k < n
    · have hs := Lib.hid (pw_succ k)
      have hb : q ≤ 2097152 := by rw [hp.out]; exact pw_lt k (by omega)
      go_wp2
      go_round
      case rel => exact ⟨k + 1, q * 128, by omega, by omega, by omega, by go_num, rfl, by show _ = _; rw [hs.out, hp.out]⟩
      case measure => simp [intOf]; omega
    · obtain rfl : k = n := by omega
      go_wp2
      go_ret
      exact ⟨ret_int hp.out, rfl⟩

theorem sizeF_le (n : Int) (k : Nat) (hk1 : 1 < k) (hk : k ≤ 4) (h : sizeF n ≤ k) (h0 : 0 ≤ n) (h1 : n ≤ 268435455) : (n < pw (k - 1 : Int) → sizeF n ≤ ((k - 1 : Nat) : Int)) ∧ (pw (k - 1 : Int) ≤ n → sizeF n = k) := by
  rcases (show k = 2 ∨ k = 3 ∨ k = 4 from by omega) with rfl | rfl | rfl
  · have : pw ((2 : Nat) - 1 : Int) = 128 := by decide
    rw [this]; unfold sizeF at *; omega
  · have : pw ((3 : Nat) - 1 : Int) = 16384 := by decide
    rw [this]; unfold sizeF at *; omega
  · have : pw ((4 : Nat) - 1 : Int) = 2097152 := by decide
    rw [this]; unfold sizeF at *; omega

/-- The byte of a length at a place. -/
def digF (n : Int) (k : Nat) : Int := if (k : Int) < sizeF n - 1 then n / pw k % 128 + 128 else n / pw k % 128
theorem lenL_size (n : Int) (h0 : 0 ≤ n) (h1 : n ≤ 268435455) : ((lenL 3 n).length : Int) = sizeF n := by
  unfold sizeF
  by_cases a : n < 128
  · rw [if_pos a, lenL_small _ _ a]; rfl
  · rw [if_neg a, lenL_step _ _ (by omega)]
    by_cases b : n < 16384
    · rw [if_pos b, lenL_small _ _ (by omega)]; rfl
    · rw [if_neg b, lenL_step _ _ (by omega)]
      by_cases c : n < 2097152
      · rw [if_pos c, lenL_small _ _ (by omega)]; rfl
      · rw [if_neg c, lenL_step _ _ (by omega)]; rfl
theorem lenL_at (n : Int) (h0 : 0 ≤ n) (h1 : n ≤ 268435455) (k : Nat) (hk : (k : Int) < sizeF n) : (lenL 3 n)[k]? = some (toB (digF n k)) := by
  have p0 : pw (0 : Nat) = 1 := by decide
  have p1 : pw (1 : Nat) = 128 := by decide
  have p2 : pw (2 : Nat) = 16384 := by decide
  have p3 : pw (3 : Nat) = 2097152 := by decide
  unfold digF
  unfold sizeF at *
  by_cases a : n < 128
  · rw [if_pos a] at hk ⊢
    rw [lenL_small _ _ a]
    obtain rfl : k = 0 := by omega
    rw [p0, if_neg (by omega)]
    simp; congr 1; omega
  · rw [if_neg a] at hk ⊢
    rw [lenL_step _ _ (by omega)]
    by_cases b : n < 16384
    · rw [if_pos b] at hk ⊢
      rw [lenL_small _ _ (by omega)]
      rcases (show k = 0 ∨ k = 1 from by omega) with rfl | rfl
      · rw [p0, if_pos (by omega)]; simp; congr 1; omega
      · rw [p1, if_neg (by omega)]; simp; congr 1; omega
    · rw [if_neg b] at hk ⊢
      rw [lenL_step _ _ (by omega)]
      by_cases c : n < 2097152
      · rw [if_pos c] at hk ⊢
        rw [lenL_small _ _ (by omega)]
        rcases (show k = 0 ∨ k = 1 ∨ k = 2 from by omega) with rfl | rfl | rfl
        · rw [p0, if_pos (by omega)]; simp; congr 1; omega
        · rw [p1, if_pos (by omega)]; simp; congr 1; omega
        · rw [p2, if_neg (by omega)]; simp; congr 1; omega
      · rw [if_neg c] at hk ⊢
        rw [lenL_step _ _ (by omega)]
        rcases (show k = 0 ∨ k = 1 ∨ k = 2 ∨ k = 3 from by omega) with rfl | rfl | rfl | rfl
        · rw [p0, if_pos (by omega)]; simp; congr 1; omega
        · rw [p1, if_pos (by omega)]; simp; congr 1; omega
        · rw [p2, if_pos (by omega)]; simp; congr 1; omega
        · rw [p3, if_neg (by omega)]; simp [lenL]; congr 1; omega

/-- The sum of the first digits. -/
def digits : List UInt8 → Nat → Int
  | _, 0 => 0
  | l, k + 1 => digits l k + ((l.getD k 0).toNat : Int) % 128 * pw k
theorem digits_succ (l : List UInt8) (k : Nat) (c : UInt8) (h : l[k]? = some c) : digits l (k + 1) = digits l k + (c.toNat : Int) % 128 * pw k := by
  rw [digits, List.getD, h]; rfl
theorem pw_pos (k : Nat) : 1 ≤ pw k := by
  induction k with
  | zero => decide
  | succ k ih => rw [pw_succ]; omega
theorem digits_bd (l : List UInt8) (k : Nat) : 0 ≤ digits l k ∧ digits l k < pw k := by
  induction k with
  | zero => exact ⟨by simp [digits], by show (0 : Int) < pw (0 : Nat); decide⟩
  | succ k ih =>
    have hp := pw_pos k
    have h0 : 0 ≤ ((l.getD k 0).toNat : Int) % 128 * pw k := Int.mul_nonneg (by omega) (by omega)
    have h1 : ((l.getD k 0).toNat : Int) % 128 * pw k ≤ 127 * pw k := Int.mul_le_mul_of_nonneg_right (by omega) (by omega)
    rw [digits, pw_succ]
    omega
theorem rdR_to (l : List UInt8) (j : Nat) (hj : j ≤ 4) (hl : j ≤ l.length) (h : ∀ i c, i < j → l[i]? = some c → 128 ≤ c.toNat) : rdR l = rdL (4 - j) (l.drop j) (digits l j) (pw j) j := by
  induction j with
  | zero => rfl
  | succ j ih =>
    rw [ih (by omega) (by omega) (fun i c hi hc => h i c (by omega) hc)]
    have hlt : j < l.length := by omega
    have hc := h j l[j] (by omega) (List.getElem?_eq_getElem hlt)
    rw [drop_at l j hlt, show 4 - j = (4 - (j + 1)) + 1 from by omega, rdL, if_neg (by omega), pw_succ, digits_succ l j l[j] (List.getElem?_eq_getElem hlt)]
    rfl
theorem rdR_form (l : List UInt8) (k : Nat) (hk : 4 ≤ k) (hl : k ≤ l.length) (h : ∀ i c, i < k → l[i]? = some c → 128 ≤ c.toNat) : rdR l = (0, 0, 4) := by
  rw [rdR_to l 4 (by omega) (by omega) (fun i c hi hc => h i c (by omega) hc)]; rfl
theorem rdR_short (l : List UInt8) (k : Nat) (hk : k < 4) (hl : k = l.length) (h : ∀ i c, i < k → l[i]? = some c → 128 ≤ c.toNat) : rdR l = (0, 0, 2) := by
  rw [rdR_to l k (by omega) (by omega) h, List.drop_eq_nil_of_le (by omega), show 4 - k = (3 - k) + 1 from by omega]; rfl
theorem rdR_end (l : List UInt8) (k : Nat) (c : UInt8) (hk : k < 4) (hc : l[k]? = some c) (h8 : c.toNat < 128) (h : ∀ i c, i < k → l[i]? = some c → 128 ≤ c.toNat) : rdR l = (digits l (k + 1), (k : Int) + 1, 0) := by
  obtain ⟨hlt, e⟩ := List.getElem?_eq_some_iff.1 hc
  rw [rdR_to l k (by omega) (by omega) h, drop_at l k hlt, show 4 - k = (3 - k) + 1 from by omega, rdL, e, if_pos h8, digits_succ l k c hc]

set_option maxRecDepth 100000 in
set_option maxHeartbeats 800000 in
theorem refReadLen_any (l : List UInt8) (w : World) (hl : l.length ≤ 9223372036854775807) :
    Calls Tryz.prog 23 #[.string ⟨l.toArray⟩] w fun e w' => e = .returned (.tuple #[.int .i64 (rdR l).1, .int .i64 (rdR l).2.1, .int .i64 (rdR l).2.2]) ∧ Below w.heap.size w w' := by
  go_enter Tryz.func23, Tryz.ntmps23
  go_wp2_with fail
  go_loop [5] (fun i => ∃ k : Nat, k ≤ l.length ∧ i = .int .i64 k ∧ Hid (∀ j c, j < k → l[j]? = some c → 128 ≤ c.toNat)) (fun i => l.length - (intOf i).toNat)
  case atStart => exact ⟨0, by omega, rfl, fun j c h => by omega⟩
  case round =>
    obtain ⟨k, hk, rfl, hall⟩ := hrel
    by_cases hlt : k < l.length
    · have hg := byte_at l k hlt hlt
      obtain ⟨c, hc⟩ : ∃ c, l[k] = c := ⟨_, rfl⟩
      rw [hc] at hg
      have hc' : Hid (l[k]? = some c) := by show _ = _; rw [List.getElem?_eq_getElem hlt, hc]
      clear hc
      have hcb := c.toNat_lt
      by_cases h8 : 128 ≤ c.toNat
      · go_wp2_with fail
        go_round
        case rel => exact ⟨k + 1, by omega, by go_num, fun j d hj hd => by
          by_cases e : j = k
          · subst e; have := hc'.out; rw [this] at hd; cases hd; exact h8
          · exact hall.out j d (by omega) hd⟩
        case measure => simp [intOf]; omega
      · by_cases h4 : 4 ≤ k
        · have hr := Lib.hid (rdR_form l k h4 hk hall.out)
          go_wp2_with fail
          go_ret3
          rw [hr.out]
          exact ⟨rfl, Below.refl _ _⟩
        · have hr := Lib.hid (rdR_end l k c (by omega) hc'.out (by omega) hall.out)
          have hne : decide (k = l.length) = false := by simp; omega
          have hne' : ((k : Int) == (l.length : Int)) = false := by simp; omega
          go_wp2_with fail
          go_loopw [6, 7] (fun n i wr => ∃ (m : Nat) (a : Int), m ≤ k + 1 ∧ i = .int .i64 m ∧ n = .int .i64 a ∧ 0 ≤ a ∧ a ≤ 268435455 ∧ Hid (a = digits l m) ∧ Below w.heap.size w wr) (fun _ i _ => 5 - (intOf i).toNat)
          case atStart => exact ⟨0, 0, by omega, rfl, rfl, by omega, by omega, rfl, Below.refl _ _⟩
          case round =>
            obtain ⟨m, a, hm, rfl, rfl, ha0, ha1, hd, hb⟩ := hrel
            by_cases hmk : m ≤ k
            · have hg2 := byte_at l m (by omega) (by show _ < l.toArray.size; simp; omega)
              have hdg := Lib.hid (digits_succ l m l[m] (List.getElem?_eq_getElem (by omega)))
              generalize l[m] = d at *
              have hdb := d.toNat_lt
              have hp := pw_bd m (by omega)
              have hp2 := pw_lt m (by omega)
              have hp0 : 0 ≤ (d.toNat : Int) % 128 * pw m := Int.mul_nonneg (by omega) (by omega)
              have hp1 : (d.toNat : Int) % 128 * pw m ≤ 127 * pw m := Int.mul_le_mul_of_nonneg_right (by omega) (by omega)
              have hax : a < pw m := by rw [hd.out]; exact (digits_bd l m).2
              have hmI : (m : Int) < (l.length : Int) := by omega
              have hmJ : (0 : Int) ≤ (m : Int) := by omega
              go_wp2_with fail
              go_quiet ((go_at_call 31; exact quiet_left (refPower_any _ _ (by omega) (by omega))))
              go_wp2_with fail
              go_roundw
              case rel => exact ⟨m + 1, a + (d.toNat : Int) % 128 * pw m, by omega, by go_num, by first | rfl | go_num, by omega, by omega, by show _ = _; rw [hdg.out, hd.out], below_drewN hb _⟩
              case measure => simp [intOf]; omega
            · obtain rfl : m = k + 1 := by omega
              go_wp2_with fail
              go_ret3
              rw [hr.out, ← hd.out]
              exact ⟨rfl, hb⟩
    · obtain rfl : k = l.length := by omega
      by_cases h4 : 4 ≤ l.length
      · have hr := Lib.hid (rdR_form l _ h4 hk hall.out)
        go_wp2_with fail
        go_ret3
        rw [hr.out]
        exact ⟨rfl, Below.refl _ _⟩
      · have hr := Lib.hid (rdR_short l _ (by omega) rfl hall.out)
        go_wp2_with fail
        go_ret3
        rw [hr.out]
        exact ⟨rfl, Below.refl _ _⟩

theorem refReadWord_no (l : List UInt8) (w : World) (h : l.length < 2) :
    Calls Tryz.prog 81 #[.string ⟨l.toArray⟩] w fun e w' => e = .returned (.tuple #[.int .i64 0, .int .i64 0, .int .i64 2]) ∧ Below w.heap.size w w' := by
  go_enter Tryz.func81, Tryz.ntmps81
  go_wp2
  go_ret3
  exact ⟨rfl, Below.refl _ _⟩
theorem refReadWord_yes (L : List UInt8) (a b : UInt8) (l : List UInt8) (w : World) (hL : L = a :: b :: l) (hl : L.length ≤ 9223372036854775807) :
    Calls Tryz.prog 81 #[.string ⟨L.toArray⟩] w fun e w' => e = .returned (.tuple #[.int .i64 (a.toNat * 256 + b.toNat), .int .i64 2, .int .i64 0]) ∧ Below w.heap.size w w' := by
  have h2 : 2 ≤ L.length := by rw [hL]; simp
  have g0 := byte_at L 0 (by omega) (by show _ < L.toArray.size; simp; omega)
  have g1 := byte_at L 1 (by omega) (by show _ < L.toArray.size; simp; omega)
  rw [show L[0]'(by omega) = a from by simp [hL]] at g0
  rw [show L[1]'(by omega) = b from by simp [hL]] at g1
  clear hL
  have ha := a.toNat_lt
  have hb := b.toNat_lt
  go_enter Tryz.func81, Tryz.ntmps81
  go_wp2
  go_quiet (fail)
  go_wp2
  go_ret3
  refine ⟨?_, below_drewN (Below.refl _ _) _⟩
  rw [show (a.toNat : Int) * 256 + b.toNat = 256 * a.toNat + b.toNat from by omega]
  rfl

set_option maxHeartbeats 800000 in
theorem refWords_any (A : Option Addr) (n c : Nat) (xs : List Int) (w : World) (hx : Ints w A n xs) (hn : n ≤ 1000000) :
    Calls Tryz.prog 85 #[.slice A n c] w fun e w' => e = .returned (.tuple #[.string ⟨(wordsR xs).1.toArray⟩, .int .i64 (wordsR xs).2]) ∧ Below w.heap.size w w' := by
  go_enter Tryz.func85, Tryz.ntmps85
  go_wp2_with fail
  go_loopw [4, 5] (fun s i wr => ∃ k : Nat, k ≤ n ∧ i = .int .i64 k ∧ s = .string ⟨(wordsL (xs.take k)).toArray⟩ ∧ Below w.heap.size w wr ∧ Hid ((xs.take k).all wordB = true)) (fun _ i _ => n - (intOf i).toNat)
  case atStart => exact ⟨0, by omega, rfl, rfl, Below.refl _ _, by simp [Hid]⟩
  case round =>
    obtain ⟨k, hk, rfl, rfl, hb, hall⟩ := hrel
    have hlen := hx.len
    by_cases hlt : k < n
    · obtain ⟨b, off, x, rfl, hxk, hcell⟩ := (hx.below hb).at_ hlt
      have hxk' := Lib.hid hxk
      clear hxk
      by_cases hwd : wordB x = true
      · have hwx := wordB_yes x hwd
        have hwd' := Lib.hid hwd
        clear hwd
        have hwl := words_len (xs.take k)
        have htl : (xs.take k).length ≤ k := List.length_take_le _ _
        have hd0 : decide (x < 0) = false := by simp; omega
        have hd1 : decide (65535 < x) = false := by simp; omega
        have hcv := fun W => conv_new2d (P := Tryz.prog) (S := 9) Tryz.underlying23 Tryz.underlying5 Tryz.underlying9 W (x / 256) (x % 256) (by omega) (by omega) (by omega) (by omega)
        have had := fun W => add_str (P := Tryz.prog) W (wordsL (xs.take k)) [toB (x / 256), toB (x % 256)] (by simp only [List.length_cons, List.length_nil]; omega)
        go_wp2_with fail
        go_region
        go_wp2_with fail
        go_roundw
        case rel => exact ⟨k + 1, by omega, by go_num, by rw [words_snoc xs k x hxk'.out], by repeat (first | exact hb | (refine Below.alloc ?_ (by have := hb.size; simp; omega) _) | refine Below.drew ?_), all_snoc xs k x hxk'.out hwd'.out hall.out⟩
        case measure => simp [intOf]; omega
      · have hwd1 : wordB x = false := by simpa using hwd
        have hwx := wordB_no x hwd1
        have hno := Lib.hid (all_no xs k x hxk'.out hwd1)
        clear hwd1 hwd
        by_cases h0 : x < 0
        · have hd0 : decide (x < 0) = true := by simp; omega
          go_wp2_with fail
          go_ret2
          rw [wordsR_no xs hno.out]
          exact ⟨rfl, hb⟩
        · have hd0 : decide (x < 0) = false := by simp; omega
          have hd1 : decide (65535 < x) = true := by simp; omega
          go_wp2_with fail
          go_ret2
          rw [wordsR_no xs hno.out]
          exact ⟨rfl, hb⟩
    · obtain rfl : k = n := by omega
      go_wp2_with fail
      go_ret2
      have h1 := hall.out
      rw [List.take_of_length_le (by omega)] at h1
      rw [wordsR_yes xs h1, List.take_of_length_le (by omega)]
      exact ⟨rfl, hb⟩
theorem numWords_eq (A : Option Addr) (n c : Nat) (xs : List Int) (bs : List UInt8) (er : Int) (w : World) (hx : Ints w A n xs) (hn : n ≤ 1000000) (h : wordsR xs = (bs, er)) :
    Calls Tryz.prog 99 #[.slice A n c] w fun e w' => e = .returned (.tuple #[.string ⟨bs.toArray⟩, .int .i64 er]) ∧ Below w.heap.size w w' := by
  have := numWords_any A n c xs w hx hn
  rw [h] at this
  exact this

/-- What ReadWord answers. -/
def rwR : List UInt8 → Int × Int × Int
  | a :: b :: _ => (a.toNat * 256 + b.toNat, 2, 0)
  | _ => (0, 0, 2)
theorem numReadWord_any (l : List UInt8) (w : World) (hl : l.length ≤ 9223372036854775807) :
    Calls Tryz.prog 124 #[.string ⟨l.toArray⟩] w fun e w' => e = .returned (.tuple #[.int .i64 (rwR l).1, .int .i64 (rwR l).2.1, .int .i64 (rwR l).2.2]) ∧ Below w.heap.size w w' := by
  match l, hl with
  | [], _ => exact numReadWord_no [] w (by decide)
  | [a], _ => exact numReadWord_no [a] w (by simp)
  | a :: b :: l, hl => exact numReadWord_yes _ a b l w rfl hl
theorem refReadWord_any (l : List UInt8) (w : World) (hl : l.length ≤ 9223372036854775807) :
    Calls Tryz.prog 81 #[.string ⟨l.toArray⟩] w fun e w' => e = .returned (.tuple #[.int .i64 (rwR l).1, .int .i64 (rwR l).2.1, .int .i64 (rwR l).2.2]) ∧ Below w.heap.size w w' := by
  match l, hl with
  | [], _ => exact refReadWord_no [] w (by decide)
  | [a], _ => exact refReadWord_no [a] w (by simp)
  | a :: b :: l, hl => exact refReadWord_yes _ a b l w rfl hl
end Go.Proofs.YtncgkkhpcgdcaaaGreatDoor
