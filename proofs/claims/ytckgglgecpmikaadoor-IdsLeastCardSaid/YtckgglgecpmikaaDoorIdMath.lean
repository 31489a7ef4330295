/-
  ids: words of bits, the ids that are taken in them, the least free one, the ids in order: plain functions.
-/
import Derived.Test.YtckgglgecpmikaaDoorOrd
import Derived.Lib.TrailingZeros
set_option linter.unusedSimpArgs false
set_option linter.unusedVariables false
namespace Go.Proofs.YtckgglgecpmikaaDoor
open Go.RowKit

variable {ws L : List Nat}
def ltN (a b : Nat) : Bool := decide (a < b)
theorem ltN_ord : Ord3 ltN := ⟨fun a => by simp [ltN], fun a b c h k => by simp [ltN] at *; omega, fun a b h k => by simp [ltN] at *; omega⟩
def bitW (ws : List Nat) (j : Nat) : Bool := (ws.getD (j / 64) 0).testBit (j % 64)
theorem bitW_at {ws : List Nat} {k x : Nat} (hx : ws[k]? = some x) (j : Nat) (hj : j / 64 = k) : bitW ws j = x.testBit (j % 64) := by
  unfold bitW; rw [hj, List.getD_eq_getElem?_getD, hx]; rfl
theorem bitW_past {ws : List Nat} {j : Nat} (hj : ws.length ≤ j / 64) : bitW ws j = false := by
  unfold bitW; rw [List.getD_eq_getElem?_getD, List.getElem?_eq_none hj]; simp
theorem bitW_set (ws : List Nat) (k x j : Nat) (hk : k < ws.length) : bitW (ws.set k x) j = if j / 64 = k then x.testBit (j % 64) else bitW ws j := by
  unfold bitW
  rw [List.getD_eq_getElem?_getD, List.getD_eq_getElem?_getD, List.getElem?_set]
  by_cases h : k = j / 64
  · subst h; simp [hk]
  · rw [if_neg h, if_neg (fun e => h e.symm)]
theorem bitW_snoc (ws : List Nat) (j : Nat) : bitW (ws ++ [0]) j = bitW ws j := by
  unfold bitW
  rw [List.getD_eq_getElem?_getD, List.getD_eq_getElem?_getD]
  rcases Nat.lt_trichotomy (j / 64) ws.length with h | h | h
  · rw [List.getElem?_append_left h]
  · rw [h]; simp
  · rw [List.getElem?_eq_none (by simp; omega), List.getElem?_eq_none (by omega)]
/-- The words ws hold the ids L. -/
structure WL (ws L : List Nat) : Prop where
  srt : Srt ltN L
  mem : ∀ i, i ∈ L ↔ 1 ≤ i ∧ bitW ws (i - 1) = true
  le : ∀ i ∈ L, i ≤ 65535
  len : ws.length ≤ 1024
  wd : ∀ x ∈ ws, x < 18446744073709551616
theorem WL.nil : WL [] [] := ⟨List.Pairwise.nil, fun i => (by simp [bitW]), fun i h => (by cases h), (by simp), fun x h => (by cases h)⟩
theorem nodup_len (L : List Nat) (h : Srt ltN L) (m : Nat) (hm : ∀ i ∈ L, 1 ≤ i ∧ i ≤ m) : L.length ≤ m := by
  have h2 : L ⊆ List.range' 1 m := fun i hi => by have := hm i hi; rw [List.mem_range'_1]; omega
  have h3 := (srt_nodup ltN_ord L h).length_le_of_subset h2
  rwa [List.length_range'] at h3
theorem len_nodup (L : List Nat) (m : Nat) (hm : ∀ i, 1 ≤ i → i ≤ m → i ∈ L) : m ≤ L.length := by
  have h2 : List.range' 1 m ⊆ L := fun i hi => by rw [List.mem_range'_1] at hi; exact hm i (by omega) (by omega)
  have h3 := (List.nodup_range' (s := 1) (n := m)).length_le_of_subset h2
  rwa [List.length_range'] at h3
theorem WL.length (h : WL ws L) : L.length ≤ 65535 := nodup_len L h.srt 65535 fun i hi => ⟨((h.mem i).1 hi).1, h.le i hi⟩
/-- The least free id. -/
structure Lst (L : List Nat) (id : Nat) : Prop where
  pos : 1 ≤ id
  no : id ∉ L
  low : ∀ i, 1 ≤ i → i < id → i ∈ L
theorem Lst.len {L : List Nat} {id : Nat} (h : Lst L id) : id ≤ L.length + 1 := by
  have := len_nodup L (id - 1) (fun i h1 h2 => h.low i h1 (by have := h.pos; omega))
  have := h.pos
  omega
theorem Lst.uniq {L : List Nat} {a b : Nat} (h : Lst L a) (k : Lst L b) : a = b := by
  rcases Nat.lt_trichotomy a b with e | e | e
  · exact absurd (k.low a h.pos e) h.no
  · exact e
  · exact absurd (h.low b k.pos e) k.no
theorem lst_ex (L : List Nat) (hs : Srt ltN L) (hm : ∀ i ∈ L, 1 ≤ i) : ∃ id, Lst L id := by
  have key : ∀ n : Nat, (∃ id, Lst L id) ∨ ∀ i, 1 ≤ i → i ≤ n → i ∈ L := by
    intro n
    induction n with
    | zero => exact Or.inr fun i h1 h2 => by omega
    | succ n ih =>
      rcases ih with ih | ih
      · exact Or.inl ih
      · by_cases hn : n + 1 ∈ L
        · exact Or.inr fun i h1 h2 => by
            by_cases e : i = n + 1
            · subst e; exact hn
            · exact ih i h1 (by omega)
        · exact Or.inl ⟨n + 1, by omega, hn, fun i h1 h2 => ih i h1 (by omega)⟩
  rcases key (L.length + 1) with h | h
  · exact h
  · have := len_nodup L _ h; omega
/-! One bit. -/
theorem and_bit (x b : Nat) : (x &&& 2 ^ b == 0) = !x.testBit b := by
  have h : ∀ j, (x &&& 2 ^ b).testBit j = (x.testBit j && decide (b = j)) := fun j => by rw [Nat.testBit_and, Nat.testBit_two_pow]
  cases hb : x.testBit b with
  | true =>
    have h2 : x &&& 2 ^ b ≠ 0 := fun e => by
      have h3 := h b
      rw [e, hb] at h3
      simp at h3
    simpa using h2
  | false =>
    have h2 : x &&& 2 ^ b = 0 := Nat.eq_of_testBit_eq fun j => by
      rw [h, Nat.zero_testBit]
      by_cases e : b = j
      · subst e; rw [hb]; rfl
      · rw [decide_eq_false e, Bool.and_false]
    rw [h2]; rfl
theorem or_bit (x b j : Nat) : (x ||| 2 ^ b).testBit j = (x.testBit j || decide (b = j)) := by
  rw [Nat.testBit_or, Nat.testBit_two_pow]
theorem ctz_facts (x : Nat) (h0 : x ≠ 0) (h : x < 18446744073709551616) : Lib.ctz 64 x < 64 ∧ x.testBit (Lib.ctz 64 x) = true ∧ (∀ j, j < Lib.ctz 64 x → x.testBit j = false) ∧ ∀ j, (x &&& (x - 1)).testBit j = (x.testBit j && decide (j ≠ Lib.ctz 64 x)) := by
  obtain ⟨m, hm, hk⟩ := Lib.ctzFrom_spec 64 x (by omega) h
  have hc : Lib.ctz 64 x = Lib.ctzFrom 64 x := by unfold Lib.ctz; rw [if_neg h0]
  rw [hc]
  obtain ⟨c, hcc⟩ : ∃ c, Lib.ctzFrom 64 x = c := ⟨_, rfl⟩
  rw [hcc] at hm hk ⊢
  have hp := Nat.two_pow_pos c
  have hx : ∀ j, x.testBit j = (decide (c ≤ j) && (2 * m + 1).testBit (j - c)) := by
    intro j
    rw [hm, Nat.mul_comm, Nat.testBit_mul_two_pow]
  have hx1 : x - 1 = 2 ^ c * (2 * m) + (2 ^ c - 1) := by
    rw [hm, Nat.mul_add, Nat.mul_one]; omega
  have hy : ∀ j, (x - 1).testBit j = if j < c then true else (2 * m).testBit (j - c) := by
    intro j
    rw [hx1, Nat.testBit_two_pow_mul_add _ (by omega)]
    split
    · next hj => rw [Nat.testBit_two_pow_sub_one]; simp [hj]
    · rfl
  refine ⟨hk, ?_, fun j hj => ?_, fun j => ?_⟩
  · rw [hx]; simp [Nat.testBit_zero]
  · rw [hx, decide_eq_false (by omega)]; rfl
  · rw [Nat.testBit_and, hy, hx]
    by_cases hj : j < c
    · rw [decide_eq_false (by omega : ¬ c ≤ j)]; rfl
    · rw [if_neg hj, decide_eq_true (by omega : c ≤ j)]
      by_cases he : j = c
      · subst he; simp [Nat.testBit_zero]
      · obtain ⟨d, rfl⟩ : ∃ d, j = c + (d + 1) := ⟨j - c - 1, by omega⟩
        have e3 : c + (d + 1) - c = d + 1 := by omega
        rw [e3, Nat.testBit_succ, Nat.testBit_succ]
        have d1 : (2 * m + 1) / 2 = m := by omega
        have d2 : 2 * m / 2 = m := by omega
        rw [d1, d2]
        simp
theorem not_bit (x j : Nat) (hx : x < 18446744073709551616) : (18446744073709551615 - x).testBit j = (decide (j < 64) && !x.testBit j) := by
  have := Nat.testBit_two_pow_sub_succ (n := 64) hx j
  rw [← this]
  congr 1
  omega
theorem high_bit (x j : Nat) (hx : x < 18446744073709551616) (hj : ¬ j < 64) : x.testBit j = false :=
  Nat.testBit_lt_two_pow (Nat.lt_of_lt_of_le hx (show 2 ^ 64 ≤ 2 ^ j from Nat.pow_le_pow_right (by decide) (by omega)))
theorem xor_full (x : Nat) (hx : x < 18446744073709551616) : 18446744073709551615 ^^^ x = 18446744073709551615 - x := Nat.eq_of_testBit_eq fun j => by
  rw [not_bit x j hx, Nat.testBit_xor, show (18446744073709551615 : Nat) = 2 ^ 64 - 1 by decide, Nat.testBit_two_pow_sub_one]
  by_cases hj : j < 64
  · simp [hj]
  · rw [high_bit x j hx hj]; simp [hj]
theorem cut_bit (x b j : Nat) (hx : x < 18446744073709551616) (hb : b < 64) : (x &&& (18446744073709551615 - 2 ^ b)).testBit j = (x.testBit j && !decide (j = b)) := by
  have h2 : 2 ^ b < 18446744073709551616 := Nat.pow_lt_pow_right (m := b) (n := 64) (by decide) hb
  rw [Nat.testBit_and, not_bit _ j h2, Nat.testBit_two_pow]
  by_cases hj : j < 64
  · have e : decide (b = j) = decide (j = b) := by rw [decide_eq_decide]; exact eq_comm
    rw [e]; simp [hj]
  · rw [high_bit x j hx hj]; rfl
/-! A word's ids, all words' ids, in order. -/
def posL (k x : Nat) : List Nat := ((List.range 64).filter fun j => x.testBit j).map fun j => 64 * k + j + 1
def allW : Nat → List Nat → List Nat
  | _, [] => []
  | k, x :: r => posL k x ++ allW (k + 1) r
theorem pos_mem (k x i : Nat) : i ∈ posL k x ↔ ∃ j, j < 64 ∧ x.testBit j = true ∧ i = 64 * k + j + 1 := by
  unfold posL
  rw [List.mem_map]
  constructor
  · rintro ⟨j, hj, rfl⟩
    rw [List.mem_filter, List.mem_range] at hj
    exact ⟨j, hj.1, hj.2, rfl⟩
  · rintro ⟨j, h1, h2, rfl⟩
    exact ⟨j, by rw [List.mem_filter, List.mem_range]; exact ⟨h1, h2⟩, rfl⟩
theorem range_srt (n : Nat) : Srt ltN (List.range n) := by
  unfold Srt
  refine List.Pairwise.imp (fun {a b} h => ?_) (List.pairwise_lt_range (n := n))
  simpa [ltN] using h
theorem pos_srt (k x : Nat) : Srt ltN (posL k x) := by
  unfold posL Srt
  rw [List.pairwise_map]
  refine List.Pairwise.imp (fun {a b} h => ?_) (srt_filter (fun j => x.testBit j) _ (range_srt 64))
  simp [ltN] at *; omega
theorem pos_zero (k : Nat) : posL k 0 = [] := by
  unfold posL
  rw [List.map_eq_nil_iff, List.filter_eq_nil_iff]
  intro j _
  simp
theorem pos_len (k x : Nat) : (posL k x).length ≤ 64 := by
  unfold posL
  rw [List.length_map]
  have := List.length_filter_le (fun j => x.testBit j) (List.range 64)
  rwa [List.length_range] at this
theorem pos_step (k x : Nat) (h0 : x ≠ 0) (h : x < 18446744073709551616) : posL k x = (64 * k + Lib.ctz 64 x + 1) :: posL k (x &&& (x - 1)) := by
  obtain ⟨h1, h2, h3, h4⟩ := ctz_facts x h0 h
  refine srt_ext ltN_ord _ _ (pos_srt _ _) ?_ (fun i => ?_)
  · rw [srt_cons]
    refine ⟨fun b hb => ?_, pos_srt _ _⟩
    obtain ⟨j, hj, hb1, rfl⟩ := (pos_mem _ _ _).1 hb
    rw [h4, Bool.and_eq_true] at hb1
    have hne : j ≠ Lib.ctz 64 x := by simpa using hb1.2
    have : ¬ j < Lib.ctz 64 x := fun hl => by rw [h3 j hl] at hb1; cases hb1.1
    simp [ltN]; omega
  · rw [List.mem_cons, pos_mem, pos_mem]
    constructor
    · rintro ⟨j, hj, hb, rfl⟩
      by_cases he : j = Lib.ctz 64 x
      · left; rw [he]
      · right; exact ⟨j, hj, by rw [h4, hb]; simp [he], rfl⟩
    · rintro (rfl | ⟨j, hj, hb, rfl⟩)
      · exact ⟨_, h1, h2, rfl⟩
      · rw [h4, Bool.and_eq_true] at hb
        exact ⟨j, hj, hb.1, rfl⟩
theorem all_mem : ∀ (ws : List Nat) (k i : Nat), i ∈ allW k ws ↔ 64 * k + 1 ≤ i ∧ bitW ws (i - 1 - 64 * k) = true
  | [], k, i => by simp [allW, bitW]
  | x :: r, k, i => by
    unfold allW
    rw [List.mem_append, pos_mem, all_mem r (k + 1) i]
    have hb : ∀ j, bitW (x :: r) j = if j / 64 = 0 then x.testBit (j % 64) else bitW r (j - 64) := by
      intro j
      unfold bitW
      split
      · next h => rw [h]; rfl
      · next h =>
        obtain ⟨d, hd⟩ : ∃ d, j / 64 = d + 1 := ⟨j / 64 - 1, by omega⟩
        rw [hd, show (j - 64) / 64 = d by omega, show (j - 64) % 64 = j % 64 by omega]; rfl
    rw [hb]
    constructor
    · rintro (⟨j, hj, hb1, rfl⟩ | ⟨h1, h2⟩)
      · refine ⟨by omega, ?_⟩
        rw [show 64 * k + j + 1 - 1 - 64 * k = j by omega, if_pos (by omega), Nat.mod_eq_of_lt hj]
        exact hb1
      · refine ⟨by omega, ?_⟩
        rw [if_neg (by omega), show i - 1 - 64 * k - 64 = i - 1 - 64 * (k + 1) by omega]
        exact h2
    · rintro ⟨h1, h2⟩
      split at h2
      · next h =>
        left
        exact ⟨i - 1 - 64 * k, by omega, by rw [Nat.mod_eq_of_lt (by omega)] at h2; exact h2, by omega⟩
      · next h =>
        right
        exact ⟨by omega, by rw [show i - 1 - 64 * (k + 1) = i - 1 - 64 * k - 64 by omega]; exact h2⟩
theorem all_srt : ∀ (ws : List Nat) (k : Nat), Srt ltN (allW k ws)
  | [], k => List.Pairwise.nil
  | x :: r, k => by
    unfold allW Srt
    rw [List.pairwise_append]
    refine ⟨pos_srt k x, all_srt r (k + 1), fun a ha b hb => ?_⟩
    obtain ⟨j, hj, _, rfl⟩ := (pos_mem _ _ _).1 ha
    have := ((all_mem r (k + 1) b).1 hb).1
    simp [ltN]; omega
theorem WL.all (h : WL ws L) : allW 0 ws = L := srt_ext ltN_ord _ _ (all_srt _ _) h.srt fun i => by
  rw [all_mem, h.mem]
  simp
/-! What the calls do. -/
section
variable {ws L : List Nat} {id k b x : Nat}
theorem WL.word (h : WL ws L) (hx : ws[k]? = some x) : x < 18446744073709551616 := h.wd x (List.mem_of_getElem? hx)
/-- Has. -/
theorem WL.has (h : WL ws L) (hx : ws[(id - 1) / 64]? = some x) (hi : 1 ≤ id) : x.testBit ((id - 1) % 64) = decide (id ∈ L) := by
  rw [← bitW_at hx (id - 1) rfl, Bool.eq_iff_iff, decide_eq_true_eq, h.mem]
  simp [hi]
theorem WL.past (h : WL ws L) (hx : ws.length ≤ (id - 1) / 64) (hi : 1 ≤ id) : id ∉ L := fun hm => by
  have := ((h.mem id).1 hm).2
  rw [bitW_past hx] at this; cases this
/-- The last bit of all is never set. -/
theorem WL.zero (h : WL ws L) (hx : ws[1023]? = some x) : x.testBit 63 = false := by
  cases hb : x.testBit 63 with
  | false => rfl
  | true =>
    have := h.le 65536 ((h.mem 65536).2 ⟨by omega, by rw [bitW_at hx 65535 rfl]; exact hb⟩)
    omega
theorem WL.snoc (h : WL ws L) (hl : ws.length < 1024) : WL (ws ++ [0]) L :=
  ⟨h.srt, fun i => by rw [bitW_snoc]; exact h.mem i, h.le, by simp; omega, fun x hx => by
    rw [List.mem_append, List.mem_singleton] at hx
    rcases hx with hx | rfl
    · exact h.wd x hx
    · omega⟩
theorem or_lt (hx : x < 18446744073709551616) (hb : b < 64) : x ||| 2 ^ b < 18446744073709551616 :=
  Nat.or_lt_two_pow (n := 64) hx (Nat.pow_lt_pow_right (by decide) hb)
/-- Take. -/
theorem WL.put (h : WL ws L) (h1 : 1 ≤ id) (h2 : id ≤ 65535) (hn : id ∉ L) (hx : ws[(id - 1) / 64]? = some x) :
    WL (ws.set ((id - 1) / 64) (x ||| 2 ^ ((id - 1) % 64))) (insO ltN id L) := by
  have hk := (List.getElem?_eq_some_iff.1 hx).1
  refine ⟨ins_srt ltN_ord id L h.srt hn, fun i => ?_, fun i hi => ?_, by rw [List.length_set]; exact h.len, fun y hy => ?_⟩
  · rw [ins_mem, h.mem, bitW_set _ _ _ _ hk]
    by_cases hi : 1 ≤ i
    · split
      · next he =>
        rw [or_bit, bitW_at hx (i - 1) he]
        constructor
        · rintro (rfl | ⟨_, h4⟩)
          · exact ⟨hi, by simp⟩
          · exact ⟨hi, by rw [h4]; rfl⟩
        · rintro ⟨_, h4⟩
          rw [Bool.or_eq_true, decide_eq_true_eq] at h4
          rcases h4 with h4 | h4
          · exact Or.inr ⟨hi, h4⟩
          · left; omega
      · next he =>
        constructor
        · rintro (rfl | h4)
          · exact absurd rfl he
          · exact h4
        · exact Or.inr
    · constructor
      · rintro (rfl | h4)
        · exact absurd h1 hi
        · exact absurd h4.1 hi
      · rintro ⟨h4, _⟩
        exact absurd h4 hi
  · rcases (ins_mem id i L).1 hi with rfl | hi
    · exact h2
    · exact h.le i hi
  · rcases List.mem_or_eq_of_mem_set hy with hy | rfl
    · exact h.wd y hy
    · exact or_lt (h.word hx) (by omega)
/-- Free. -/
def delN (id : Nat) (L : List Nat) : List Nat := L.filter (· != id)
theorem del_mem (id i : Nat) (L : List Nat) : i ∈ delN id L ↔ i ∈ L ∧ i ≠ id := by unfold delN; rw [List.mem_filter]; simp
theorem WL.cut (h : WL ws L) (h1 : 1 ≤ id) (hx : ws[(id - 1) / 64]? = some x) {y : Nat} (hy : ∀ j, y.testBit j = (x.testBit j && !decide (j = (id - 1) % 64))) (hyl : y < 18446744073709551616) :
    WL (ws.set ((id - 1) / 64) y) (delN id L) := by
  have hk := (List.getElem?_eq_some_iff.1 hx).1
  refine ⟨srt_filter _ L h.srt, fun i => ?_, fun i hi => h.le i ((del_mem id i L).1 hi).1, by rw [List.length_set]; exact h.len, fun z hz => ?_⟩
  · rw [del_mem, h.mem, bitW_set _ _ _ _ hk]
    by_cases hi : 1 ≤ i
    · split
      · next he =>
        rw [hy, bitW_at hx (i - 1) he]
        constructor
        · rintro ⟨⟨_, h4⟩, h5⟩
          refine ⟨hi, ?_⟩
          rw [h4, decide_eq_false (by omega)]; rfl
        · rintro ⟨_, h4⟩
          rw [Bool.and_eq_true] at h4
          refine ⟨⟨hi, h4.1⟩, fun e => ?_⟩
          subst e
          simp at h4
      · next he =>
        constructor
        · rintro ⟨h4, _⟩; exact h4
        · intro h4; exact ⟨h4, fun e => he (by rw [e])⟩
    · constructor
      · rintro ⟨⟨h4, _⟩, _⟩; exact absurd h4 hi
      · rintro ⟨h4, _⟩; exact absurd h4 hi
  · rcases List.mem_or_eq_of_mem_set hz with hz | rfl
    · exact h.wd z hz
    · exact hyl
/-- The least free one: the words ahead of k are full. -/
theorem WL.least (h : WL ws L) (hf : ∀ j, j < k → ws[j]? = some 18446744073709551615) (hx : ws[k]? = some x) (hne : 18446744073709551615 - x ≠ 0) :
    Lst L (64 * k + Lib.ctz 64 (18446744073709551615 - x) + 1) := by
  have hxl := h.word hx
  obtain ⟨h1, h2, h3, _⟩ := ctz_facts _ hne (by omega)
  obtain ⟨c, hc⟩ : ∃ c, Lib.ctz 64 (18446744073709551615 - x) = c := ⟨_, rfl⟩
  rw [hc] at h1 h2 h3 ⊢
  refine ⟨by omega, fun hm => ?_, fun i hi1 hi2 => (h.mem i).2 ⟨hi1, ?_⟩⟩
  · have := ((h.mem _).1 hm).2
    rw [bitW_at hx _ (by omega), show (64 * k + c + 1 - 1) % 64 = c by omega] at this
    rw [not_bit x c hxl, this] at h2
    simp at h2
  · by_cases hk : (i - 1) / 64 < k
    · rw [bitW_at (hf _ hk) (i - 1) rfl]
      have := Nat.testBit_two_pow_sub_one 64 ((i - 1) % 64)
      rw [show (18446744073709551615 : Nat) = 2 ^ 64 - 1 by decide, this]
      simp; omega
    · rw [bitW_at hx (i - 1) (by omega)]
      have := h3 ((i - 1) % 64) (by omega)
      rw [not_bit x _ hxl] at this
      have hlt : (i - 1) % 64 < 64 := by omega
      simpa [hlt] using this
theorem WL.least_end (h : WL ws L) (hf : ∀ j, j < ws.length → ws[j]? = some 18446744073709551615) : Lst L (64 * ws.length + 1) := by
  refine ⟨by omega, h.past (by omega) (by omega), fun i hi1 hi2 => (h.mem i).2 ⟨hi1, ?_⟩⟩
  rw [bitW_at (hf ((i - 1) / 64) (by omega)) (i - 1) rfl]
  have := Nat.testBit_two_pow_sub_one 64 ((i - 1) % 64)
  rw [show (18446744073709551615 : Nat) = 2 ^ 64 - 1 by decide, this]
  simp; omega
theorem WL.has_bit (h : WL ws L) {p m : Nat} (hid : id ≤ 65535) (hp : (id + 65535) % 65536 = p) (hk : p / 64 = k) (hb : p % 64 = b) (hm : 2 ^ b = m) (hx : ws[k]? = some x) : (((x &&& m : Nat) : Int) != 0) = decide (id ∈ L) := by
  have e : (((x &&& m : Nat) : Int) != 0) = x.testBit b := by
    have h2 := and_bit x b
    rw [hm] at h2
    cases hb2 : x.testBit b with
    | true => rw [hb2] at h2; simp at h2; simp; omega
    | false => rw [hb2] at h2; simp at h2; simp; omega
  rw [e]
  by_cases h0 : id = 0
  · subst h0
    obtain rfl : k = 1023 := by omega
    obtain rfl : b = 63 := by omega
    rw [h.zero hx, decide_eq_false]
    intro hm0
    have := ((h.mem 0).1 hm0).1
    omega
  · obtain rfl : p = id - 1 := by omega
    subst hk hb
    exact h.has hx (by omega)
theorem WL.has_past (h : WL ws L) {p : Nat} (hid : id ≤ 65535) (hp : (id + 65535) % 65536 = p) (hk : p / 64 = k) (hl : ws.length ≤ k) : decide (id ∈ L) = false := by
  apply decide_eq_false
  intro hm
  have h1 := ((h.mem id).1 hm).1
  obtain rfl : p = id - 1 := by omega
  subst hk
  exact h.past hl h1 hm
theorem WL.least_le (h : WL ws L) (hl : Lst L id) : (id - 1) / 64 ≤ ws.length := by
  apply Nat.le_of_not_lt
  intro hlt
  have h1 := hl.low (64 * ws.length + 1) (by omega) (by omega)
  exact h.past (by omega) (by omega) h1
theorem ins_len' (id : Nat) (L : List Nat) : (insO ltN id L).length = L.length + 1 := ins_len id L
theorem ins_del (hs : Srt ltN L) (hm : id ∈ L) : insO ltN id (delN id L) = L := by
  refine srt_ext ltN_ord _ _ (ins_srt ltN_ord _ _ (srt_filter _ L hs) (fun h => ((del_mem id id L).1 h).2 rfl)) hs (fun i => ?_)
  rw [ins_mem, del_mem]
  constructor
  · rintro (rfl | h)
    · exact hm
    · exact h.1
  · intro h
    by_cases e : i = id
    · exact Or.inl e
    · exact Or.inr ⟨h, e⟩
theorem del_len (hs : Srt ltN L) (hm : id ∈ L) : (delN id L).length + 1 = L.length := by
  rw [← ins_len' id, ins_del hs hm]
theorem del_no (hm : id ∉ L) : delN id L = L := List.filter_eq_self.2 fun i hi => by
  have : i ≠ id := fun e => hm (e ▸ hi)
  simp [this]
end
/-! The ids from 1 to n. -/
def fullL (n : Nat) : List Nat := List.range' 1 n
theorem full_mem (n i : Nat) : i ∈ fullL n ↔ 1 ≤ i ∧ i ≤ n := by unfold fullL; rw [List.mem_range'_1]; omega
theorem full_len (n : Nat) : (fullL n).length = n := List.length_range'
theorem full_srt (n : Nat) : Srt ltN (fullL n) := by
  unfold fullL Srt
  refine List.Pairwise.imp (fun {a b} h => ?_) (List.pairwise_lt_range' (s := 1) (n := n))
  simpa [ltN] using h
theorem full_lst (n : Nat) : Lst (fullL n) (n + 1) := ⟨by omega, fun h => by have := ((full_mem n _).1 h).2; omega, fun i h1 h2 => (full_mem n i).2 ⟨h1, by omega⟩⟩
theorem full_ins (n : Nat) : insO ltN (n + 1) (fullL n) = fullL (n + 1) :=
  srt_ext ltN_ord _ _ (ins_srt ltN_ord _ _ (full_srt n) (full_lst n).no) (full_srt (n + 1)) fun i => by
    rw [ins_mem, full_mem, full_mem]; omega
theorem full_zero : fullL 0 = [] := rfl
end Go.Proofs.YtckgglgecpmikaaDoor
