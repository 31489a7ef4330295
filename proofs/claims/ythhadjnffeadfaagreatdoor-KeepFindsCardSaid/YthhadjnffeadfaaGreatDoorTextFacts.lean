/-
  text: the document's characters as plain functions on lists of bytes; what a range over a string tells; a text's pieces.
-/
import Derived.Laws.RangeAny
set_option linter.unusedSimpArgs false
set_option linter.unusedVariables false
namespace Go.Proofs.YthhadjnffeadfaaGreatDoor
open Go
def contB (b : UInt8) : Bool := decide (128 ≤ b.toNat) && decide (b.toNat ≤ 191)
def sizeB (b : UInt8) : Nat := if b.toNat < 128 then 1 else if b.toNat < 192 then 0 else if b.toNat < 224 then 2 else if b.toNat < 240 then 3 else if b.toNat < 248 then 4 else 0
def offB : Nat → Int | 2 => 192 | 3 => 224 | 4 => 240 | _ => 0
def leastB : Nat → Int | 1 => 1 | 2 => 128 | 3 => 2048 | 4 => 65536 | _ => 0
def chGo : Nat → List UInt8 → Int → Option Int
  | 0, _, c => some c
  | _ + 1, [], _ => none
  | r + 1, b :: l, c => if contB b then chGo r l (64 * c + (b.toNat : Int) - 128) else none
def badB (n : Nat) (c : Int) : Bool := decide (c < leastB n) || decide (c > 1114111) || (decide (c ≥ 55296) && decide (c ≤ 57343))
def chP : List UInt8 → Int × Nat
  | [] => (0, 0)
  | a :: l => let n := sizeB a
    if n = 0 ∨ n > l.length + 1 then (0, 0) else match chGo (n - 1) l (a.toNat - offB n) with
    | none => (0, 0)
    | some c => if badB n c then (0, 0) else (c, n)
/-- decode on lists -/
def decL (l : List UInt8) : Nat × Nat :=
  let at' (k : Nat) : Nat := (l.getD k 0).toNat
  let cont (k : Nat) : Bool := decide (k < l.length) && at' k / 64 == 2
  let b0 := at' 0
  if b0 < 0x80 then (b0, 1)
  else if b0 / 32 == 6 && cont 1 then
    let c := (b0 % 32) * 64 + at' 1 % 64
    if c ≥ 0x80 then (c, 2) else (65533, 1)
  else if b0 / 16 == 14 && cont 1 && cont 2 then
    let c := (b0 % 16) * 4096 + (at' 1 % 64) * 64 + at' 2 % 64
    if c ≥ 0x800 && Utf8.valid c then (c, 3) else (65533, 1)
  else if b0 / 8 == 30 && cont 1 && cont 2 && cont 3 then
    let c := (b0 % 8) * 262144 + (at' 1 % 64) * 4096 + (at' 2 % 64) * 64 + at' 3 % 64
    if c ≥ 0x10000 && Utf8.valid c then (c, 4) else (65533, 1)
  else (65533, 1)
theorem get_list (l : List UInt8) (k : Nat) : (ByteArray.mk l.toArray).get! k = l.getD k 0 := by
  show (l.toArray)[k]! = _
  simp [List.getD]
  rfl
theorem dec_list (l : List UInt8) (pos : Nat) : Utf8.decode ⟨l.toArray⟩ pos = decL (l.drop pos) := by
  have h : ∀ k, (ByteArray.mk l.toArray).get! (pos + k) = (l.drop pos).getD k 0 := by
    intro k; rw [get_list]; simp [List.getD]
  have hs : ∀ k, decide (pos + k < (ByteArray.mk l.toArray).size) = decide (k < (l.drop pos).length) := by
    intro k
    have : (ByteArray.mk l.toArray).size = l.length := by show l.toArray.size = _; simp
    rw [this, List.length_drop, Bool.eq_iff_iff]; simp; omega
  simp only [Utf8.decode, decL, h, hs]
  rfl
def replL : List UInt8 := [239, 191, 189]
/-- is the rune that a range tells a character that stands there? -/
def okRune (r : Nat) (l : List UInt8) : Bool := if r = 65533 then decide (replL <+: l) else decide (r ≠ 0)

theorem cont_iff (b : UInt8) : contB b = true ↔ 128 ≤ b.toNat ∧ b.toNat ≤ 191 := by simp [contB]
theorem u8_eq (a : UInt8) (n : Nat) (h : n < 256) : a = UInt8.ofNat n ↔ a.toNat = n := by
  constructor
  · rintro rfl; show n % 256 = n; omega
  · intro h; rw [← h]; simp
theorem pre3 (a b c : UInt8) (l : List UInt8) : replL <+: a :: b :: c :: l ↔ a.toNat = 239 ∧ b.toNat = 191 ∧ c.toNat = 189 := by
  have e1 := u8_eq a 239 (by omega)
  have e2 := u8_eq b 191 (by omega)
  have e3 := u8_eq c 189 (by omega)
  simp [replL]
  constructor
  · rintro ⟨h1, h2, h3⟩; subst h1 h2 h3; decide
  · rintro ⟨h1, h2, h3⟩; exact ⟨(e1.2 h1).symm, (e2.2 h2).symm, (e3.2 h3).symm⟩
theorem pre_ne (a : UInt8) (l : List UInt8) (h : a.toNat ≠ 239) : ¬ replL <+: a :: l := by
  simp [replL]; intro h1; subst h1; exact absurd rfl h
theorem pre_s0 : ¬ replL <+: [] := by simp [replL]
theorem pre_s1 (a : UInt8) : ¬ replL <+: [a] := by simp [replL]
theorem pre_s2 (a b : UInt8) : ¬ replL <+: [a, b] := by simp [replL]
theorem decL0 (a : UInt8) (l : List UInt8) (h : a.toNat < 128) : decL (a :: l) = (a.toNat, 1) := by simp [decL, h]
theorem dec1 (a : UInt8) (l : List UInt8) (h : 128 ≤ a.toNat) (h2 : a.toNat < 192 ∨ 248 ≤ a.toNat) : decL (a :: l) = (65533, 1) := by
  have ha := a.toNat_lt
  have e1 : ¬ a.toNat / 32 = 6 := by omega
  have e2 : ¬ a.toNat / 16 = 14 := by omega
  have e3 : ¬ a.toNat / 8 = 30 := by omega
  have e0 : ¬ a.toNat < 128 := by omega
  simp [decL, e0, e1, e2, e3]
theorem dec2 (a : UInt8) (l : List UInt8) (h : 192 ≤ a.toNat) (h2 : a.toNat < 224) : decL (a :: l) = match l with
    | b :: _ => if contB b = true ∧ 128 ≤ (a.toNat - 192) * 64 + (b.toNat - 128) then ((a.toNat - 192) * 64 + (b.toNat - 128), 2) else (65533, 1)
    | [] => (65533, 1) := by
  have e1 : a.toNat / 32 = 6 := by omega
  have e2 : ¬ a.toNat / 16 = 14 := by omega
  have e3 : ¬ a.toNat / 8 = 30 := by omega
  have e0 : ¬ a.toNat < 128 := by omega
  have e4 : a.toNat % 32 = a.toNat - 192 := by omega
  rcases l with _ | ⟨b, l⟩
  · simp [decL, e0, e1, e2, e3]
  · have hb := b.toNat_lt
    by_cases hc : contB b = true
    · have h1 := (cont_iff b).1 hc
      have e5 : b.toNat / 64 = 2 := by omega
      have e6 : b.toNat % 64 = b.toNat - 128 := by omega
      simp [decL, e0, e1, e2, e3, e4, e5, e6, hc]
    · have h1 : ¬ (128 ≤ b.toNat ∧ b.toNat ≤ 191) := fun h => hc ((cont_iff b).2 h)
      have e5 : ¬ b.toNat / 64 = 2 := by omega
      simp [decL, e0, e1, e2, e3, e5, hc]
theorem vl (n : Nat) : Utf8.valid (n : Int) = decide (n < 55296 ∨ 57344 ≤ n ∧ n ≤ 1114111) := by
  unfold Utf8.valid
  rw [Bool.eq_iff_iff]; simp; omega
theorem dec3 (a : UInt8) (l : List UInt8) (h : 224 ≤ a.toNat) (h2 : a.toNat < 240) : decL (a :: l) = match l with
    | b :: c :: _ => let v := (a.toNat - 224) * 4096 + (b.toNat - 128) * 64 + (c.toNat - 128)
      if contB b = true ∧ contB c = true ∧ 2048 ≤ v ∧ (v < 55296 ∨ 57344 ≤ v ∧ v ≤ 1114111) then (v, 3) else (65533, 1)
    | _ => (65533, 1) := by
  have e1 : ¬ a.toNat / 32 = 6 := by omega
  have e2 : a.toNat / 16 = 14 := by omega
  have e3 : ¬ a.toNat / 8 = 30 := by omega
  have e0 : ¬ a.toNat < 128 := by omega
  have e4 : a.toNat % 16 = a.toNat - 224 := by omega
  rcases l with _ | ⟨b, _ | ⟨c, l⟩⟩
  · simp [decL, e0, e1, e2, e3]
  · simp [decL, e0, e1, e2, e3]
  · have hb := b.toNat_lt
    have hc := c.toNat_lt
    by_cases hc : contB b = true ∧ contB c = true
    · have h1 := (cont_iff b).1 hc.1
      have h2 := (cont_iff c).1 hc.2
      have e5 : b.toNat / 64 = 2 := by omega
      have e6 : b.toNat % 64 = b.toNat - 128 := by omega
      have e7 : c.toNat / 64 = 2 := by omega
      have e8 : c.toNat % 64 = c.toNat - 128 := by omega
      simp [decL, e0, e1, e2, e3, e4, e5, e6, e7, e8, hc.1, hc.2, vl, -Int.natCast_add, -Int.natCast_mul]
    · have h1 : ¬ ((128 ≤ b.toNat ∧ b.toNat ≤ 191) ∧ (128 ≤ c.toNat ∧ c.toNat ≤ 191)) := fun h => hc ⟨(cont_iff b).2 h.1, (cont_iff c).2 h.2⟩
      have e5 : ¬ (b.toNat / 64 = 2 ∧ c.toNat / 64 = 2) := by omega
      simp [decL, e0, e1, e2, e3]
      rw [if_neg e5, if_neg (fun h => hc ⟨h.1, h.2.1⟩)]
theorem dec4 (a : UInt8) (l : List UInt8) (h : 240 ≤ a.toNat) (h2 : a.toNat < 248) : decL (a :: l) = match l with
    | b :: c :: d :: _ => let v := (a.toNat - 240) * 262144 + (b.toNat - 128) * 4096 + (c.toNat - 128) * 64 + (d.toNat - 128)
      if contB b = true ∧ contB c = true ∧ contB d = true ∧ 65536 ≤ v ∧ (v < 55296 ∨ 57344 ≤ v ∧ v ≤ 1114111) then (v, 4) else (65533, 1)
    | _ => (65533, 1) := by
  have e1 : ¬ a.toNat / 32 = 6 := by omega
  have e2 : ¬ a.toNat / 16 = 14 := by omega
  have e3 : a.toNat / 8 = 30 := by omega
  have e0 : ¬ a.toNat < 128 := by omega
  have e4 : a.toNat % 8 = a.toNat - 240 := by omega
  rcases l with _ | ⟨b, _ | ⟨c, _ | ⟨d, l⟩⟩⟩
  · simp [decL, e0, e1, e2, e3]
  · simp [decL, e0, e1, e2, e3]
  · simp [decL, e0, e1, e2, e3]
  · have hb := b.toNat_lt
    have hc := c.toNat_lt
    have hd := d.toNat_lt
    by_cases hc : contB b = true ∧ contB c = true ∧ contB d = true
    · have h1 := (cont_iff b).1 hc.1
      have h2 := (cont_iff c).1 hc.2.1
      have h3 := (cont_iff d).1 hc.2.2
      have e5 : b.toNat / 64 = 2 := by omega
      have e6 : b.toNat % 64 = b.toNat - 128 := by omega
      have e7 : c.toNat / 64 = 2 := by omega
      have e8 : c.toNat % 64 = c.toNat - 128 := by omega
      have e9 : d.toNat / 64 = 2 := by omega
      have e10 : d.toNat % 64 = d.toNat - 128 := by omega
      simp [decL, e0, e1, e2, e3, e4, e5, e6, e7, e8, e9, e10, hc.1, hc.2.1, hc.2.2, vl, -Int.natCast_add, -Int.natCast_mul]
    · have h1 : ¬ ((128 ≤ b.toNat ∧ b.toNat ≤ 191) ∧ (128 ≤ c.toNat ∧ c.toNat ≤ 191) ∧ (128 ≤ d.toNat ∧ d.toNat ≤ 191)) := fun h => hc ⟨(cont_iff b).2 h.1, (cont_iff c).2 h.2.1, (cont_iff d).2 h.2.2⟩
      have e5 : ¬ ((b.toNat / 64 = 2 ∧ c.toNat / 64 = 2) ∧ d.toNat / 64 = 2) := by omega
      simp [decL, e0, e1, e2, e3]
      rw [if_neg e5, if_neg (fun h => hc ⟨h.1, h.2.1, h.2.2.1⟩)]
theorem chP0 (a : UInt8) (l : List UInt8) (h : a.toNat < 128) : chP (a :: l) = if a.toNat = 0 then (0, 0) else ((a.toNat : Int), 1) := by
  have e : sizeB a = 1 := by unfold sizeB; rw [if_pos h]
  simp only [chP, e, chGo, Nat.sub_self]
  rw [if_neg (by omega)]
  by_cases h0 : a.toNat = 0
  · rw [if_pos (by simp [badB, leastB, offB]; omega), if_pos h0]
  · rw [if_neg (by simp [badB, leastB, offB]; omega), if_neg h0]; simp [offB]
theorem chP1 (a : UInt8) (l : List UInt8) (h : 128 ≤ a.toNat) (h2 : a.toNat < 192 ∨ 248 ≤ a.toNat) : chP (a :: l) = (0, 0) := by
  have e : sizeB a = 0 := by
    have ha := a.toNat_lt
    unfold sizeB; rw [if_neg (by omega)]
    split
    · rfl
    · rw [if_neg (by omega), if_neg (by omega), if_neg (by omega)]
  simp [chP, e]
theorem size2 (a : UInt8) (h : 192 ≤ a.toNat) (h2 : a.toNat < 224) : sizeB a = 2 := by
  unfold sizeB; rw [if_neg (by omega), if_neg (by omega), if_pos (by omega)]
theorem size3 (a : UInt8) (h : 224 ≤ a.toNat) (h2 : a.toNat < 240) : sizeB a = 3 := by
  unfold sizeB; rw [if_neg (by omega), if_neg (by omega), if_neg (by omega), if_pos (by omega)]
theorem size4 (a : UInt8) (h : 240 ≤ a.toNat) (h2 : a.toNat < 248) : sizeB a = 4 := by
  unfold sizeB; rw [if_neg (by omega), if_neg (by omega), if_neg (by omega), if_neg (by omega), if_pos (by omega)]
theorem chP2 (a : UInt8) (l : List UInt8) (h : 192 ≤ a.toNat) (h2 : a.toNat < 224) : chP (a :: l) = match l with
    | b :: _ => if contB b = true ∧ 128 ≤ (a.toNat - 192) * 64 + (b.toNat - 128) then ((((a.toNat - 192) * 64 + (b.toNat - 128) : Nat) : Int), 2) else (0, 0)
    | [] => (0, 0) := by
  have e := size2 a h h2
  rcases l with _ | ⟨b, l⟩
  · simp [chP, e]
  · simp only [chP, e, chGo]
    rw [if_neg (by simp)]
    by_cases hc : contB b = true
    · have h1 := (cont_iff b).1 hc
      simp only [hc, if_true, true_and]
      by_cases h3 : 128 ≤ (a.toNat - 192) * 64 + (b.toNat - 128)
      · rw [if_neg (by simp [badB, leastB, offB]; omega), if_pos h3]
        simp only [offB, Prod.mk.injEq, and_true]; omega
      · rw [if_pos (by simp [badB, leastB, offB]; omega), if_neg h3]
    · simp [hc]
theorem chP3 (a : UInt8) (l : List UInt8) (h : 224 ≤ a.toNat) (h2 : a.toNat < 240) : chP (a :: l) = match l with
    | b :: c :: _ => let v := (a.toNat - 224) * 4096 + (b.toNat - 128) * 64 + (c.toNat - 128)
      if contB b = true ∧ contB c = true ∧ 2048 ≤ v ∧ (v < 55296 ∨ 57344 ≤ v ∧ v ≤ 1114111) then ((v : Int), 3) else (0, 0)
    | _ => (0, 0) := by
  have e := size3 a h h2
  rcases l with _ | ⟨b, _ | ⟨c, l⟩⟩
  · simp [chP, e]
  · simp [chP, e]
  · simp only [chP, e, chGo]
    rw [if_neg (by simp)]
    by_cases hb : contB b = true
    · have h1 := (cont_iff b).1 hb
      by_cases hc : contB c = true
      · have h3 := (cont_iff c).1 hc
        simp only [hb, hc, if_true, true_and]
        by_cases h4 : 2048 ≤ (a.toNat - 224) * 4096 + (b.toNat - 128) * 64 + (c.toNat - 128) ∧ ((a.toNat - 224) * 4096 + (b.toNat - 128) * 64 + (c.toNat - 128) < 55296 ∨ 57344 ≤ (a.toNat - 224) * 4096 + (b.toNat - 128) * 64 + (c.toNat - 128) ∧ (a.toNat - 224) * 4096 + (b.toNat - 128) * 64 + (c.toNat - 128) ≤ 1114111)
        · rw [if_neg (by simp [badB, leastB, offB]; omega), if_pos h4]
          simp only [offB, Prod.mk.injEq, and_true]; omega
        · rw [if_pos (by simp [badB, leastB, offB]; omega), if_neg h4]
      · simp [hb, hc]
    · simp [hb]
theorem chP4 (a : UInt8) (l : List UInt8) (h : 240 ≤ a.toNat) (h2 : a.toNat < 248) : chP (a :: l) = match l with
    | b :: c :: d :: _ => let v := (a.toNat - 240) * 262144 + (b.toNat - 128) * 4096 + (c.toNat - 128) * 64 + (d.toNat - 128)
      if contB b = true ∧ contB c = true ∧ contB d = true ∧ 65536 ≤ v ∧ (v < 55296 ∨ 57344 ≤ v ∧ v ≤ 1114111) then ((v : Int), 4) else (0, 0)
    | _ => (0, 0) := by
  have e := size4 a h h2
  rcases l with _ | ⟨b, _ | ⟨c, _ | ⟨d, l⟩⟩⟩
  · simp [chP, e]
  · simp [chP, e]
  · simp [chP, e]
  · simp only [chP, e, chGo]
    rw [if_neg (by simp)]
    by_cases hb : contB b = true
    · have h1 := (cont_iff b).1 hb
      by_cases hc : contB c = true
      · have h3 := (cont_iff c).1 hc
        by_cases hd : contB d = true
        · have h5 := (cont_iff d).1 hd
          simp only [hb, hc, hd, if_true, true_and]
          generalize hv : (a.toNat - 240) * 262144 + (b.toNat - 128) * 4096 + (c.toNat - 128) * 64 + (d.toNat - 128) = v
          have ev : 64 * (64 * (64 * ((a.toNat : Int) - offB 4) + (b.toNat : Int) - 128) + (c.toNat : Int) - 128) + (d.toNat : Int) - 128 = v := by simp only [offB]; omega
          by_cases h4 : 65536 ≤ v ∧ (v < 55296 ∨ 57344 ≤ v ∧ v ≤ 1114111)
          · rw [if_neg (by rw [ev]; simp [badB, leastB]; omega), if_pos h4, ev]
          · rw [if_pos (by rw [ev]; simp [badB, leastB]; omega), if_neg h4]
        · simp [hb, hc, hd]
      · simp [hb, hc]
    · simp [hb]

theorem ok_plain (r : Nat) (l : List UInt8) (h : r ≠ 65533) (h0 : r ≠ 0) : okRune r l = true := by
  unfold okRune; rw [if_neg h]; simpa using h0
theorem ok_none (l : List UInt8) (h : ¬ replL <+: l) : okRune 65533 l = false := by
  unfold okRune; rw [if_pos rfl]; simpa using h
theorem ok_repl (l : List UInt8) (h : replL <+: l) : okRune 65533 l = true := by
  unfold okRune; rw [if_pos rfl]; simpa using h

/-- What a range tells of a place, and the character that stands there. -/
theorem dec_ch (L : List UInt8) (hL : L ≠ []) : ((chP L).2 = 0 → okRune (decL L).1 L = false) ∧ ((chP L).2 ≠ 0 → okRune (decL L).1 L = true ∧ (decL L).2 = (chP L).2) := by
  obtain ⟨a, l, rfl⟩ : ∃ a l, L = a :: l := by cases L with | nil => exact absurd rfl hL | cons a l => exact ⟨a, l, rfl⟩
  have ha := a.toNat_lt
  by_cases h1 : a.toNat < 128
  · rw [decL0 a l h1, chP0 a l h1]
    by_cases h0 : a.toNat = 0
    · rw [if_pos h0, h0]; exact ⟨fun _ => rfl, fun h => absurd rfl h⟩
    · rw [if_neg h0]; exact ⟨fun h => (by simp at h), fun _ => ⟨ok_plain _ _ (by show a.toNat ≠ _; omega) h0, rfl⟩⟩
  by_cases h2 : a.toNat < 192 ∨ 248 ≤ a.toNat
  · rw [dec1 a l (by omega) h2, chP1 a l (by omega) h2]
    exact ⟨fun _ => ok_none _ (pre_ne _ _ (by omega)), fun h => absurd rfl h⟩
  by_cases h3 : a.toNat < 224
  · rw [dec2 a l (by omega) h3, chP2 a l (by omega) h3]
    rcases l with _ | ⟨b, l⟩
    · exact ⟨fun _ => ok_none _ (pre_ne _ _ (by omega)), fun h => absurd rfl h⟩
    · have hb := b.toNat_lt
      dsimp only
      split
      · exact ⟨fun h => (by simp at h), fun _ => ⟨ok_plain _ _ (by dsimp only; omega) (by dsimp only; omega), rfl⟩⟩
      · exact ⟨fun _ => ok_none _ (pre_ne _ _ (by omega)), fun h => absurd rfl h⟩
  by_cases h4 : a.toNat < 240
  · rw [dec3 a l (by omega) h4, chP3 a l (by omega) h4]
    rcases l with _ | ⟨b, _ | ⟨c, l⟩⟩
    · exact ⟨fun _ => ok_none _ (pre_s1 _), fun h => absurd rfl h⟩
    · exact ⟨fun _ => ok_none _ (pre_s2 _ _), fun h => absurd rfl h⟩
    · have hb := b.toNat_lt
      have hc := c.toNat_lt
      dsimp only
      split
      · rename_i h5
        refine ⟨fun h => (by simp at h), fun _ => ⟨?_, rfl⟩⟩
        dsimp only
        have hb1 := (cont_iff b).1 h5.1
        have hc1 := (cont_iff c).1 h5.2.1
        by_cases h6 : (a.toNat - 224) * 4096 + (b.toNat - 128) * 64 + (c.toNat - 128) = 65533
        · rw [h6]; exact ok_repl _ ((pre3 a b c l).2 (by omega))
        · exact ok_plain _ _ h6 (by omega)
      · rename_i h5
        refine ⟨fun _ => ok_none _ (fun h => h5 ?_), fun h => absurd rfl h⟩
        have h6 := (pre3 a b c l).1 h
        exact ⟨(cont_iff b).2 (by omega), (cont_iff c).2 (by omega), by omega, by omega⟩
  · rw [dec4 a l (by omega) (by omega), chP4 a l (by omega) (by omega)]
    rcases l with _ | ⟨b, _ | ⟨c, _ | ⟨d, l⟩⟩⟩
    · exact ⟨fun _ => ok_none _ (pre_ne _ _ (by omega)), fun h => absurd rfl h⟩
    · exact ⟨fun _ => ok_none _ (pre_ne _ _ (by omega)), fun h => absurd rfl h⟩
    · exact ⟨fun _ => ok_none _ (pre_ne _ _ (by omega)), fun h => absurd rfl h⟩
    · dsimp only
      split
      · exact ⟨fun h => (by simp at h), fun _ => ⟨ok_plain _ _ (by dsimp only; omega) (by dsimp only; omega), rfl⟩⟩
      · exact ⟨fun _ => ok_none _ (pre_ne _ _ (by omega)), fun h => absurd rfl h⟩

/-- How many bytes the first character has; 0: none stands there. -/
def chN (l : List UInt8) : Nat := (chP l).2
theorem chGo_some : ∀ (r : Nat) (l : List UInt8) (c d : Int), chGo r l c = some d → r ≤ l.length ∧ (∀ b ∈ l.take r, contB b = true) ∧ ∀ l', chGo r (l.take r ++ l') c = some d
  | 0, l, c, d, h => ⟨by omega, by simp, fun l' => by simpa [chGo] using h⟩
  | r + 1, [], c, d, h => by simp [chGo] at h
  | r + 1, b :: l, c, d, h => by
    rw [chGo] at h
    by_cases hb : contB b = true
    · rw [if_pos hb] at h
      obtain ⟨h1, h2, h3⟩ := chGo_some r l _ _ h
      refine ⟨by simp; omega, ?_, fun l' => ?_⟩
      · intro x hx
        rw [List.take_succ_cons, List.mem_cons] at hx
        rcases hx with rfl | hx
        · exact hb
        · exact h2 x hx
      · rw [List.take_succ_cons, List.cons_append, chGo, if_pos hb]; exact h3 l'
    · rw [if_neg hb] at h; cases h
theorem chN_some (a : UInt8) (l : List UInt8) (h : chN (a :: l) ≠ 0) : chN (a :: l) = sizeB a ∧ sizeB a ≤ l.length + 1 ∧ (∀ b ∈ l.take (sizeB a - 1), contB b = true) ∧ ∀ l', chN (a :: (l.take (sizeB a - 1) ++ l')) = sizeB a := by
  unfold chN at h ⊢
  by_cases h1 : sizeB a = 0 ∨ sizeB a > l.length + 1
  · simp [chP, h1] at h
  · cases h2 : chGo (sizeB a - 1) l (a.toNat - offB (sizeB a)) with
    | none => simp [chP, h1, h2] at h
    | some c =>
      by_cases h3 : badB (sizeB a) c = true
      · simp [chP, h1, h2, h3] at h
      · obtain ⟨g1, g2, g3⟩ := chGo_some _ _ _ _ h2
        refine ⟨by simp [chP, h1, h2, h3], by omega, g2, fun l' => ?_⟩
        have h4 : ¬ (sizeB a = 0 ∨ sizeB a > (l.take (sizeB a - 1) ++ l').length + 1) := by
          rw [List.length_append, List.length_take]; omega
        simp only [chP, h4, g3 l', h3, if_false]
        simp
theorem chN_nil : chN [] = 0 := rfl
theorem chN_le (l : List UInt8) : chN l ≤ l.length := by
  cases l with
  | nil => exact Nat.le_refl _
  | cons a l =>
    by_cases h : chN (a :: l) = 0
    · omega
    · have := chN_some a l h; simp; omega
theorem chN_4 (l : List UInt8) : chN l ≤ 4 := by
  cases l with
  | nil => decide
  | cons a l =>
    by_cases h : chN (a :: l) = 0
    · omega
    · have := chN_some a l h
      have : sizeB a ≤ 4 := by unfold sizeB; split <;> (try split) <;> (try split) <;> (try split) <;> (try split) <;> omega
      omega
/-- The first bytes alone tell. -/
theorem chN_app (p : List UInt8) (n : Nat) (h : chN p = n) (h0 : n ≠ 0) : ∀ q, chN (p.take n ++ q) = n := by
  intro q
  cases p with
  | nil => rw [chN_nil] at h; omega
  | cons a l =>
    obtain ⟨h1, h2, h3, h4⟩ := chN_some a l (by omega)
    have e : n = (sizeB a - 1) + 1 := by omega
    rw [e, List.take_succ_cons, List.cons_append, h4]; omega
theorem chN_longer (p q : List UInt8) (h0 : chN p ≠ 0) : chN (p ++ q) = chN p := by
  have := chN_app p (chN p) rfl h0 (p.drop (chN p) ++ q)
  rwa [← List.append_assoc, List.take_append_drop] at this
theorem chN_shorter (p q : List UInt8) (h0 : chN (p ++ q) ≠ 0) (h : chN (p ++ q) ≤ p.length) : chN p = chN (p ++ q) := by
  have := chN_app (p ++ q) (chN (p ++ q)) rfl h0 (p.drop (chN (p ++ q)))
  rwa [List.take_append_of_le_length h, List.take_append_drop] at this
theorem chN_cont (b : UInt8) (l : List UInt8) (h : contB b = true) : chN (b :: l) = 0 := by
  have := (cont_iff b).1 h
  unfold chN; rw [chP1 b l (by omega) (by omega)]
theorem chN_inner (l : List UInt8) (i : Nat) (h1 : 1 ≤ i) (h2 : i < chN l) : ∃ b, l[i]? = some b ∧ contB b = true := by
  cases l with
  | nil => rw [chN_nil] at h2; omega
  | cons a l =>
    obtain ⟨g1, g2, g3, g4⟩ := chN_some a l (by omega)
    have hlt : i - 1 < l.length := by omega
    refine ⟨l[i - 1], ?_, g3 _ ?_⟩
    · rw [List.getElem?_cons, if_neg (by omega), List.getElem?_eq_getElem hlt]
    · rw [List.mem_take_iff_getElem]
      exact ⟨i - 1, by omega, rfl⟩
/-- A byte that stands in no text. -/
def neverB (b : UInt8) : Bool := decide (b.toNat = 0) || decide (b.toNat = 192) || decide (b.toNat = 193) || decide (245 ≤ b.toNat)
theorem chN_lead (a : UInt8) (l : List UInt8) (h : chN (a :: l) ≠ 0) : neverB a = false ∧ contB a = false := by
  have ha := a.toNat_lt
  have hc : contB a = false := by
    cases e : contB a with
    | false => rfl
    | true => exact absurd (chN_cont a l e) h
  refine ⟨?_, hc⟩
  unfold neverB
  by_cases h1 : a.toNat < 128
  · unfold chN at h; rw [chP0 a l h1] at h
    by_cases h0 : a.toNat = 0
    · rw [if_pos h0] at h; exact absurd rfl h
    · simp; omega
  by_cases h2 : a.toNat < 192 ∨ 248 ≤ a.toNat
  · unfold chN at h; rw [chP1 a l (by omega) h2] at h; exact absurd rfl h
  by_cases h3 : a.toNat < 224
  · unfold chN at h; rw [chP2 a l (by omega) h3] at h
    rcases l with _ | ⟨b, l⟩
    · exact absurd rfl h
    · dsimp only at h
      split at h
      · rename_i h5
        have := (cont_iff b).1 h5.1
        simp; omega
      · exact absurd rfl h
  by_cases h4 : a.toNat < 240
  · simp; omega
  · unfold chN at h; rw [chP4 a l (by omega) (by omega)] at h
    rcases l with _ | ⟨b, _ | ⟨c, _ | ⟨d, l⟩⟩⟩
    · exact absurd rfl h
    · exact absurd rfl h
    · exact absurd rfl h
    · dsimp only at h
      split at h
      · rename_i h5
        simp; omega
      · exact absurd rfl h
theorem chN_small (a : UInt8) (l : List UInt8) (h : a.toNat < 128) (h0 : a.toNat ≠ 0) : chN (a :: l) = 1 := by
  unfold chN; rw [chP0 a l h, if_neg h0]

/-- The characters of a text. -/
def cntF : Nat → List UInt8 → Option Nat
  | _, [] => some 0
  | 0, _ :: _ => none
  | f + 1, a :: l => if chN (a :: l) = 0 then none else (cntF f ((a :: l).drop (chN (a :: l)))).map (· + 1)
def cntT (l : List UInt8) : Option Nat := cntF l.length l
theorem cntF_fuel (f : Nat) : ∀ (l : List UInt8), l.length ≤ f → cntF f l = cntT l := by
  suffices ∀ k f l, l.length ≤ k → l.length ≤ f → cntF f l = cntF l.length l from fun l h => this l.length f l (Nat.le_refl _) h
  intro k
  induction k with
  | zero =>
    intro f l h _
    obtain rfl : l = [] := List.eq_nil_of_length_eq_zero (by omega)
    cases f <;> rfl
  | succ k ih =>
    intro f l hk hf
    cases l with
    | nil => cases f <;> rfl
    | cons a l =>
      obtain ⟨f, rfl⟩ : ∃ g, f = g + 1 := ⟨f - 1, by simp at hf; omega⟩
      rw [List.length_cons, cntF, cntF]
      by_cases h0 : chN (a :: l) = 0
      · rw [if_pos h0, if_pos h0]
      · rw [if_neg h0, if_neg h0]
        have hd : ((a :: l).drop (chN (a :: l))).length ≤ l.length := by rw [List.length_drop]; simp; omega
        rw [ih f _ (by simp at hk; omega) (by simp at hf; omega), ih l.length _ (by simp at hk; omega) hd]
theorem cntT_nil : cntT [] = some 0 := rfl
theorem cntT_none (l : List UInt8) (h : l ≠ []) (h0 : chN l = 0) : cntT l = none := by
  cases l with
  | nil => exact absurd rfl h
  | cons a l => unfold cntT; rw [List.length_cons, cntF, if_pos h0]
theorem cntT_step (l : List UInt8) (h0 : chN l ≠ 0) : cntT l = (cntT (l.drop (chN l))).map (· + 1) := by
  cases l with
  | nil => exact absurd chN_nil h0
  | cons a l =>
    have hd : ((a :: l).drop (chN (a :: l))).length ≤ l.length := by rw [List.length_drop]; simp; omega
    rw [← cntF_fuel l.length _ hd]
    unfold cntT; rw [List.length_cons, cntF, if_neg h0]
theorem cntT_app : ∀ (k : Nat) (p q : List UInt8) (n : Nat), p.length ≤ k → cntT p = some n → cntT (p ++ q) = (cntT q).map (· + n) := by
  intro k
  induction k with
  | zero =>
    intro p q n h hp
    obtain rfl : p = [] := List.eq_nil_of_length_eq_zero (by omega)
    rw [cntT_nil] at hp
    cases hp
    cases e : cntT q <;> simp_all
  | succ k ih =>
    intro p q n h hp
    by_cases hn : p = []
    · subst hn
      rw [cntT_nil] at hp
      cases hp
      cases e : cntT q <;> simp_all
    · have h0 : chN p ≠ 0 := fun h0 => by rw [cntT_none p hn h0] at hp; cases hp
      rw [cntT_step p h0] at hp
      have hle := chN_le p
      cases hd : cntT (p.drop (chN p)) with
      | none => rw [hd] at hp; cases hp
      | some m =>
        rw [hd] at hp
        simp at hp
        have hi := ih (p.drop (chN p)) q m (by rw [List.length_drop]; omega) hd
        have hl := chN_longer p q h0
        rw [cntT_step (p ++ q) (by omega), hl, List.drop_append_of_le_length hle, hi]
        cases cntT q with
        | none => rfl
        | some j => simp; omega
theorem cntT_cut : ∀ (k : Nat) (p q : List UInt8) (m : Nat), p.length ≤ k → cntT (p ++ q) = some m → cntT p = none → ∃ b r, q = b :: r ∧ contB b = true := by
  intro k
  induction k with
  | zero =>
    intro p q m h _ hp
    obtain rfl : p = [] := List.eq_nil_of_length_eq_zero (by omega)
    rw [cntT_nil] at hp; cases hp
  | succ k ih =>
    intro p q m h ha hp
    by_cases hn : p = []
    · subst hn; rw [cntT_nil] at hp; cases hp
    · have hne : p ++ q ≠ [] := by simp [hn]
      have h0 : chN (p ++ q) ≠ 0 := fun h0 => by rw [cntT_none _ hne h0] at ha; cases ha
      have hle := chN_le (p ++ q)
      by_cases hc : chN (p ++ q) ≤ p.length
      · have hs := chN_shorter p q h0 hc
        rw [cntT_step _ h0, List.drop_append_of_le_length hc] at ha
        rw [cntT_step p (by omega), hs] at hp
        cases hd : cntT (p.drop (chN (p ++ q)) ++ q) with
        | none => rw [hd] at ha; cases ha
        | some j =>
          cases hd2 : cntT (p.drop (chN (p ++ q))) with
          | none => exact ih _ q j (by rw [List.length_drop]; omega) hd hd2
          | some i => rw [hd2] at hp; cases hp
      · have hpl : 1 ≤ p.length := by cases p with
          | nil => exact absurd rfl hn
          | cons a l => simp
        obtain ⟨b, hb, hcb⟩ := chN_inner (p ++ q) p.length hpl (by omega)
        rw [List.getElem?_append_right (Nat.le_refl _), Nat.sub_self] at hb
        cases q with
        | nil => cases hb
        | cons b' r => simp at hb; subst hb; exact ⟨b', r, rfl, hcb⟩
theorem cntT_cont (b : UInt8) (r : List UInt8) (h : contB b = true) : cntT (b :: r) = none := cntT_none _ (by simp) (chN_cont b r h)
theorem cntT_never : ∀ (k : Nat) (l : List UInt8) (n : Nat), l.length ≤ k → cntT l = some n → ∀ b ∈ l, neverB b = false := by
  intro k
  induction k with
  | zero =>
    intro l n h _
    obtain rfl : l = [] := List.eq_nil_of_length_eq_zero (by omega)
    simp
  | succ k ih =>
    intro l n h hl b hb
    cases l with
    | nil => cases hb
    | cons a l =>
      have h0 : chN (a :: l) ≠ 0 := fun h0 => by rw [cntT_none _ (by simp) h0] at hl; cases hl
      rw [cntT_step _ h0] at hl
      cases hd : cntT ((a :: l).drop (chN (a :: l))) with
      | none => rw [hd] at hl; cases hl
      | some j =>
        have hi := ih _ j (by rw [List.length_drop]; omega) hd
        obtain ⟨g1, g2, g3, g4⟩ := chN_some a l h0
        rw [← List.take_append_drop (chN (a :: l)) (a :: l), List.mem_append] at hb
        rcases hb with hb | hb
        · rw [g1, show sizeB a = (sizeB a - 1) + 1 from by omega, List.take_succ_cons, List.mem_cons] at hb
          rcases hb with rfl | hb
          · exact (chN_lead b l h0).1
          · have := (cont_iff b).1 (g3 b hb)
            simp [neverB]; omega
        · exact hi b hb
theorem cntT_le : ∀ (k : Nat) (l : List UInt8) (n : Nat), l.length ≤ k → cntT l = some n → n ≤ l.length := by
  intro k
  induction k with
  | zero =>
    intro l n h hl
    obtain rfl : l = [] := List.eq_nil_of_length_eq_zero (by omega)
    cases hl; exact Nat.le_refl _
  | succ k ih =>
    intro l n h hl
    by_cases hn : l = []
    · subst hn; cases hl; exact Nat.le_refl _
    · have h0 : chN l ≠ 0 := fun h0 => by rw [cntT_none _ hn h0] at hl; cases hl
      have hle := chN_le l
      rw [cntT_step _ h0] at hl
      cases hd : cntT (l.drop (chN l)) with
      | none => rw [hd] at hl; cases hl
      | some j =>
        rw [hd] at hl
        simp at hl
        have := ih _ j (by rw [List.length_drop]; omega) hd
        rw [List.length_drop] at this
        omega
/-- What Count answers. -/
def cntI (l : List UInt8) : Int := match cntT l with | some n => n | none => -1
def cntR (l : List UInt8) : Int := if 65535 < l.length then -1 else cntI l

theorem piecesT (x y : List UInt8) (n : Nat) (h : cntT (x ++ y) = some n) : (∃ i j, cntT x = some i ∧ cntT y = some j ∧ i + j = n) ∨ (cntT x = none ∧ cntT y = none) := by
  cases hx : cntT x with
  | some i =>
    left
    rw [cntT_app x.length x y i (Nat.le_refl _) hx] at h
    cases hy : cntT y with
    | none => rw [hy] at h; cases h
    | some j => rw [hy] at h; simp at h; exact ⟨i, j, rfl, rfl, by omega⟩
  | none =>
    right
    obtain ⟨b, r, rfl, hb⟩ := cntT_cut x.length x y n (Nat.le_refl _) h hx
    exact ⟨rfl, cntT_cont b r hb⟩
theorem sumT (x y : List UInt8) (i j : Nat) (hx : cntT x = some i) (hy : cntT y = some j) : cntT (x ++ y) = some (i + j) := by
  rw [cntT_app x.length x y i (Nat.le_refl _) hx, hy]; simp; omega
theorem neverT (p q : List UInt8) (c : UInt8) (h : neverB c = true) : cntT (p ++ c :: q) = none := by
  cases e : cntT (p ++ c :: q) with
  | none => rfl
  | some n =>
    have := cntT_never _ _ n (Nat.le_refl _) e c (by simp)
    rw [h] at this; cases this
theorem letterT (c : UInt8) (q : List UInt8) (h : c.toNat < 128) (h0 : c.toNat ≠ 0) : cntT (c :: q) = (cntT q).map (· + 1) := by
  have h1 := chN_small c q h h0
  rw [cntT_step _ (by omega), h1]; rfl
theorem betweenT (p q : List UInt8) (c : UInt8) (h : c.toNat < 128) (h0 : c.toNat ≠ 0) (i j : Nat) (hp : cntT p = some i) (hq : cntT q = some j) : cntT (p ++ c :: q) = some (i + j + 1) := by
  rw [sumT p (c :: q) i (j + 1) hp (by rw [letterT c q h h0, hq]; rfl)]; rfl
theorem besideT (p q : List UInt8) (c : UInt8) (h : c.toNat < 128) (h0 : c.toNat ≠ 0) (hn : cntT p = none ∨ cntT q = none) : cntT (p ++ c :: q) = none := by
  cases e : cntT (p ++ c :: q) with
  | none => rfl
  | some n =>
    rcases piecesT _ _ n e with ⟨i, j, hp, hq, _⟩ | ⟨hp, hq⟩
    · rw [letterT c q h h0] at hq
      rcases hn with hn | hn
      · rw [hn] at hp; cases hp
      · rw [hn] at hq; cases hq
    · obtain ⟨b, r, hb, hc⟩ := cntT_cut p.length p (c :: q) n (Nat.le_refl _) e hp
      injection hb with h1 h2
      subst h1
      have := (cont_iff c).1 hc
      omega
theorem cntI_some (l : List UInt8) (n : Nat) (h : cntT l = some n) : cntI l = n := by unfold cntI; rw [h]
theorem cntI_none (l : List UInt8) (h : cntT l = none) : cntI l = -1 := by unfold cntI; rw [h]
theorem cntI_bd (l : List UInt8) : -1 ≤ cntI l ∧ cntI l ≤ l.length := by
  cases h : cntT l with
  | none => rw [cntI_none l h]; omega
  | some n => rw [cntI_some l n h]; have := cntT_le _ l n (Nat.le_refl _) h; omega
theorem cntR_small (l : List UInt8) (h : l.length ≤ 65535) : cntR l = cntI l := by unfold cntR; rw [if_neg (by omega)]
theorem cntR_great (l : List UInt8) (h : 65535 < l.length) : cntR l = -1 := by unfold cntR; rw [if_pos h]
theorem cntR_bd (l : List UInt8) : -1 ≤ cntR l ∧ cntR l ≤ l.length := by
  unfold cntR; split
  · omega
  · exact cntI_bd l
/-- What Valid answers. -/
def valB (l : List UInt8) : Bool := decide (0 ≤ cntR l)
theorem valB_yes (l : List UInt8) (h : valB l = true) : 0 ≤ cntR l := by simpa [valB] using h
theorem valB_no (l : List UInt8) (h : valB l = false) : cntR l = -1 := by
  have := cntR_bd l
  simp [valB] at h; omega
theorem valB_some (l : List UInt8) (h : valB l = true) : ∃ n, cntT l = some n ∧ cntR l = n ∧ l.length ≤ 65535 := by
  have h1 := valB_yes l h
  unfold cntR at h1 ⊢
  split at h1
  · omega
  · rename_i hl
    rw [if_neg hl]
    cases hc : cntT l with
    | none => rw [cntI_none l hc] at h1; omega
    | some n => exact ⟨n, rfl, cntI_some l n hc, by omega⟩
theorem valB_none (l : List UInt8) (h : valB l = false) (hl : l.length ≤ 65535) : cntT l = none := by
  have h1 := valB_no l h
  rw [cntR_small l hl] at h1
  cases hc : cntT l with
  | none => rfl
  | some n => rw [cntI_some l n hc] at h1; omega
/-- The characters of what is left, and those ahead. -/
def cntK (l : List UInt8) (k : Nat) : Int := match cntT l with | some j => j + k | none => -1
theorem cntK_0 (l : List UInt8) : cntI l = cntK l 0 := by unfold cntI cntK; cases cntT l <;> simp
theorem cntK_end (k : Nat) : cntK [] k = k := by unfold cntK; rw [cntT_nil]; simp
theorem cntK_none (l : List UInt8) (k : Nat) (h : l ≠ []) (h0 : chN l = 0) : cntK l k = -1 := by unfold cntK; rw [cntT_none l h h0]
theorem cntK_step (l : List UInt8) (k : Nat) (h0 : chN l ≠ 0) : cntK l k = cntK (l.drop (chN l)) (k + 1) := by
  unfold cntK; rw [cntT_step l h0]
  cases cntT (l.drop (chN l)) with
  | none => rfl
  | some j => simp; omega
theorem take_all (l : List UInt8) (k : Nat) : (l.take l.length).drop k = l.drop k := by rw [List.take_length]
/-- A row of letters. -/
theorem cntT_rep (c : UInt8) (h : c.toNat < 128) (h0 : c.toNat ≠ 0) : ∀ n, cntT (List.replicate n c) = some n
  | 0 => rfl
  | n + 1 => by rw [List.replicate_succ, letterT c _ h h0, cntT_rep c h h0 n]; rfl
end Go.Proofs.YthhadjnffeadfaaGreatDoor
