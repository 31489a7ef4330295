/-
  shard: the hash as a number, the workers as numbers: plain functions, and what follows of them.
-/
import Derived.Test.YtiiojdlmbfkkhaaDoorTpMath
import Derived.Test.YtiiojdlmbfkkhaaDoorKit
import Derived.Laws.Bits64
import Derived.Laws.BitsAllLaws
set_option linter.unusedSimpArgs false
set_option linter.unusedVariables false
namespace Go.Proofs.YtiiojdlmbfkkhaaDoor
open Go.RowKit

/-- One byte more. -/
def stp (h : Nat) (b : UInt8) : Nat := ((h ^^^ b.toNat) * 1099511628211) % 18446744073709551616
def fnv (h : Nat) (l : List UInt8) : Nat := l.foldl stp h
def hsh (l : List UInt8) : Nat := fnv 14695981039346656037 l
theorem stp_lt (h : Nat) (b : UInt8) : stp h b < 18446744073709551616 := Nat.mod_lt _ (by decide)
theorem fnv_nil (h : Nat) : fnv h [] = h := rfl
theorem fnv_cons (h : Nat) (b : UInt8) (l : List UInt8) : fnv h (b :: l) = fnv (stp h b) l := rfl
theorem fnv_app (h : Nat) (a b : List UInt8) : fnv h (a ++ b) = fnv (fnv h a) b := List.foldl_append
theorem fnv_lt (h : Nat) (hh : h < 18446744073709551616) (l : List UInt8) : fnv h l < 18446744073709551616 := by
  induction l generalizing h with
  | nil => exact hh
  | cons b r ih => rw [fnv_cons]; exact ih _ (stp_lt h b)
theorem hsh_lt (l : List UInt8) : hsh l < 18446744073709551616 := fnv_lt _ (by decide) l
theorem hsh_nil : hsh [] = 14695981039346656037 := rfl
theorem hsh_none (xs : List (List UInt8)) : Hid (hsh (xs.take 0).flatten = 14695981039346656037) := by
  show _ = _
  rw [List.take_zero, List.flatten_nil]; exact hsh_nil
theorem fnv_take (h : Nat) (l : List UInt8) (k : Nat) (x : UInt8) (hx : l[k]? = some x) : fnv h (l.take (k + 1)) = stp (fnv h (l.take k)) x := by
  rw [List.take_add_one, hx, fnv_app, Option.toList_some, fnv_cons, fnv_nil]
theorem hsh_take (l : List UInt8) (k : Nat) (x : UInt8) (hx : l[k]? = some x) : hsh (l.take (k + 1)) = stp (hsh (l.take k)) x := fnv_take _ l k x hx
theorem flat_take (xs : List (List UInt8)) (k : Nat) (x : List UInt8) (hx : xs[k]? = some x) : (xs.take (k + 1)).flatten = (xs.take k).flatten ++ x := by
  rw [List.take_add_one, hx]; simp
theorem hsh_flat (xs : List (List UInt8)) (k : Nat) (x : List UInt8) (hx : xs[k]? = some x) : hsh (xs.take (k + 1)).flatten = fnv (hsh (xs.take k).flatten) x := by
  rw [flat_take xs k x hx]; exact fnv_app _ _ _

/-! Another byte, another hash. -/
theorem xor_lt (h : Nat) (b : UInt8) (hh : h < 18446744073709551616) : h ^^^ b.toNat < 18446744073709551616 :=
  Nat.xor_lt_two_pow (n := 64) hh (by have := b.toNat_lt; omega)
theorem mul_back (x : Nat) (hx : x < 18446744073709551616) : (x * 1099511628211) % 18446744073709551616 * 14886173955864302971 % 18446744073709551616 = x := by
  rw [Nat.mod_mul_mod, Nat.mul_assoc, show 1099511628211 * 14886173955864302971 = 18446744073709551616 * 887285111055 + 1 from by decide, Nat.mul_add, ← Nat.mul_assoc, Nat.mul_comm x 18446744073709551616, Nat.mul_assoc, Nat.mul_one, Nat.mul_add_mod, Nat.mod_eq_of_lt hx]
theorem stp_inj {h k : Nat} {b c : UInt8} (hh : h < 18446744073709551616) (hk : k < 18446744073709551616) (e : stp h b = stp k c) : h ^^^ b.toNat = k ^^^ c.toNat := by
  have e1 := mul_back _ (xor_lt h b hh)
  have e2 := mul_back _ (xor_lt k c hk)
  unfold stp at e
  rw [e] at e1
  rw [← e1, e2]
theorem fnv_inj (l : List UInt8) : ∀ {h k : Nat}, h < 18446744073709551616 → k < 18446744073709551616 → fnv h l = fnv k l → h = k := by
  induction l with
  | nil => intro h k _ _ e; exact e
  | cons b r ih =>
    intro h k hh hk e
    rw [fnv_cons, fnv_cons] at e
    have := stp_inj hh hk (ih (stp_lt h b) (stp_lt k b) e)
    have h2 := congrArg (· ^^^ b.toNat) this
    simpa [Nat.xor_assoc] using h2
theorem hsh_byte (A B : List UInt8) (c d : UInt8) (e : hsh (A ++ c :: B) = hsh (A ++ d :: B)) : c = d := by
  unfold hsh at e
  rw [fnv_app, fnv_app, fnv_cons, fnv_cons] at e
  have h1 := fnv_inj B (stp_lt _ c) (stp_lt _ d) e
  have h2 := stp_inj (fnv_lt _ (by decide) A) (fnv_lt _ (by decide) A) h1
  have h3 := congrArg (fnv 14695981039346656037 A ^^^ ·) h2
  simp only [← Nat.xor_assoc, Nat.xor_self, Nat.zero_xor] at h3
  exact UInt8.toNat_inj.1 h3
theorem hsh_turn (l : List UInt8) (k : Nat) (c d : UInt8) (hc : l[k]? = some c) : (hsh (l.set k (c ^^^ d)) == hsh l) = (d == 0) := by
  have hk := (List.getElem?_eq_some_iff.1 hc).1
  have hcv := (List.getElem?_eq_some_iff.1 hc).2
  have h1 : l = l.take k ++ c :: l.drop (k + 1) := by
    rw [← hcv, ← List.drop_eq_getElem_cons hk, List.take_append_drop]
  have h2 : l.set k (c ^^^ d) = l.take k ++ (c ^^^ d) :: l.drop (k + 1) := by rw [List.set_eq_take_append_cons_drop, if_pos hk]
  rw [Bool.eq_iff_iff, beq_iff_eq, beq_iff_eq]
  constructor
  · intro e
    rw [h2] at e
    rw [show hsh l = hsh (l.take k ++ c :: l.drop (k + 1)) from congrArg hsh h1] at e
    have h3 := hsh_byte _ _ _ _ e
    have h4 := congrArg (c ^^^ ·) h3
    simp only [← UInt8.xor_assoc, UInt8.xor_self, UInt8.zero_xor] at h4
    exact h4
  · rintro rfl
    rw [h2, UInt8.xor_zero, ← h1]

/-! The document's own way, bit by bit. -/
theorem xor_bit (x y k : Nat) : (x ^^^ y) / 2 ^ k % 2 = if (x / 2 ^ k % 2 == y / 2 ^ k % 2) then 0 else 1 := by
  have h1 := Nat.testBit_xor x y k
  have e : ∀ z : Nat, z.testBit k = decide (z / 2 ^ k % 2 = 1) := fun z => Nat.testBit_eq_decide_div_mod_eq
  rw [e, e, e] at h1
  have hz := Nat.mod_two_eq_zero_or_one ((x ^^^ y) / 2 ^ k)
  have hx := Nat.mod_two_eq_zero_or_one (x / 2 ^ k)
  have hy := Nat.mod_two_eq_zero_or_one (y / 2 ^ k)
  rcases hx with hx | hx <;> rcases hy with hy | hy <;> rcases hz with hz | hz <;> simp [hx, hy, hz] at h1 ⊢
/-- What is put on, up to bit k. -/
def xrb (x y k : Nat) : Nat := (x ^^^ y) % 2 ^ k
theorem xrb_zero (x y : Nat) : xrb x y 0 = 0 := by unfold xrb; simp [Nat.mod_one]
theorem xrb_eq (x y k : Nat) (h : (x / 2 ^ k % 2 == y / 2 ^ k % 2) = true) : xrb x y (k + 1) = xrb x y k := by
  unfold xrb
  rw [Nat.mod_pow_succ, xor_bit, if_pos h]; simp
theorem xrb_ne (x y k : Nat) (h : (x / 2 ^ k % 2 == y / 2 ^ k % 2) = false) : xrb x y (k + 1) = xrb x y k + 2 ^ k := by
  unfold xrb
  rw [Nat.mod_pow_succ, xor_bit, if_neg (by rw [h]; decide)]; simp
theorem xrb_lt (x y k : Nat) : xrb x y k < 2 ^ k := Nat.mod_lt _ (Nat.two_pow_pos k)
theorem xrb_end (h : Nat) (b : UInt8) : h - h % 256 + xrb (h % 256) b.toNat 8 = h ^^^ b.toNat := by
  have hb : b.toNat < 256 := b.toNat_lt
  have h1 : (h ^^^ b.toNat) % 2 ^ 8 = h % 2 ^ 8 ^^^ b.toNat % 2 ^ 8 := Nat.xor_mod_two_pow
  have h2 : (h ^^^ b.toNat) / 2 ^ 8 = h / 2 ^ 8 ^^^ b.toNat / 2 ^ 8 := Nat.xor_div_two_pow
  have h3 : (h % 256 ^^^ b.toNat) < 256 := Nat.xor_lt_two_pow (n := 8) (Nat.mod_lt _ (by decide)) hb
  have h4 : b.toNat / 2 ^ 8 = 0 := Nat.div_eq_of_lt hb
  have h5 : b.toNat % 2 ^ 8 = b.toNat := Nat.mod_eq_of_lt hb
  rw [h4, Nat.xor_zero] at h2
  rw [h5] at h1
  unfold xrb
  rw [show (2 : Nat) ^ 8 = 256 from rfl] at *
  rw [Nat.mod_eq_of_lt h3]
  omega

/-! Workers. -/
def manyB (n : Int) : Bool := decide (1 ≤ n) && decide (n ≤ 64)
theorem many_yes {n : Int} (h : manyB n = true) : 1 ≤ n ∧ n ≤ 64 := by
  simpa [manyB] using h
theorem many_no {n : Int} (h : manyB n = false) : n < 1 ∨ 64 < n := by
  simp only [manyB, Bool.and_eq_false_iff, decide_eq_false_iff_not] at h
  omega
def pickI (l : List UInt8) (n : Int) : Int := (hsh l : Int) % n
theorem pickI_bd (l : List UInt8) (n : Int) (h : 1 ≤ n) : 0 ≤ pickI l n ∧ pickI l n < n := ⟨Int.emod_nonneg _ (by omega), Int.emod_lt_of_pos _ (by omega)⟩
def homI (l : List UInt8) (n : Int) : Int := if manyB n then pickI l n else -1
def gatI (c n : Int) : Int := if manyB n && decide (1 ≤ c) then (c - 1) % n else -1
def hubI (l : List UInt8) (n : Int) : Int := if manyB n && namB l then pickI (headL l) n else -1
def upI (n : Nat) : List Int := (List.range n).map fun (k : Nat) => (k : Int)
def hubsI (l : List UInt8) (n : Int) : List Int := if manyB n && filB l then (if wilB l then upI n.toNat else [pickI (headL l) n]) else []
theorem upI_len (n : Nat) : (upI n).length = n := by simp [upI]
theorem upI_get (n k : Nat) (h : k < n) : (upI n)[k]? = some (k : Int) := by simp [upI, h]
theorem upI_snoc (n : Nat) : upI (n + 1) = upI n ++ [(n : Int)] := by simp [upI, List.range_succ]
theorem hubs_len (l : List UInt8) (n : Int) : (hubsI l n).length ≤ 64 := by
  unfold hubsI
  by_cases h : (manyB n && filB l) = true
  · rw [if_pos h]
    rw [Bool.and_eq_true] at h
    have := many_yes h.1
    split
    · rw [upI_len]; omega
    · simp
  · rw [if_neg h]; simp
end Go.Proofs.YtiiojdlmbfkkhaaDoor
