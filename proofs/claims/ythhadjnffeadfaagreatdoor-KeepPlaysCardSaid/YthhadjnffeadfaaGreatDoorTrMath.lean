/-
  trie: hints as plain pairs: their order, what is put in and taken out, who is told, how many nodes: plain functions.
-/
import Derived.Test.YthhadjnffeadfaaGreatDoorTpMath
import Derived.Test.YthhadjnffeadfaaGreatDoorKit
set_option linter.unusedSimpArgs false
set_option linter.unusedVariables false
namespace Go.Proofs.YthhadjnffeadfaaGreatDoor
open Go.RowKit

/-! Rows in order, of whatever kind. -/
structure Ord3 {α : Type} (lt : α → α → Bool) : Prop where
  irr : ∀ a, lt a a = false
  tra : ∀ a b c, lt a b = true → lt b c = true → lt a c = true
  tot : ∀ a b, a ≠ b → lt a b = false → lt b a = true
section
variable {α : Type} {lt : α → α → Bool}
/-- Put where it belongs. -/
def insO (lt : α → α → Bool) (x : α) (l : List α) : List α := l.takeWhile (lt · x) ++ x :: l.dropWhile (lt · x)
def Srt (lt : α → α → Bool) (l : List α) : Prop := l.Pairwise fun a b => lt a b = true
theorem ins_mem (x y : α) (l : List α) : y ∈ insO lt x l ↔ y = x ∨ y ∈ l := by
  unfold insO
  have h : y ∈ l ↔ y ∈ l.takeWhile (lt · x) ∨ y ∈ l.dropWhile (lt · x) := by
    rw [← List.mem_append, List.takeWhile_append_dropWhile]
  rw [List.mem_append, List.mem_cons, h]
  exact ⟨fun | .inl h => .inr (.inl h) | .inr (.inl h) => .inl h | .inr (.inr h) => .inr (.inr h), fun | .inl h => .inr (.inl h) | .inr (.inl h) => .inl h | .inr (.inr h) => .inr (.inr h)⟩
theorem ins_len (x : α) (l : List α) : (insO lt x l).length = l.length + 1 := by
  unfold insO
  rw [List.length_append, List.length_cons, ← Nat.add_assoc, ← List.length_append, List.takeWhile_append_dropWhile]
theorem ins_nil (x : α) : insO lt x [] = [x] := rfl
theorem ins_cons_lt (x a : α) (l : List α) (h : lt a x = true) : insO lt x (a :: l) = a :: insO lt x l := by
  unfold insO
  rw [List.takeWhile_cons, List.dropWhile_cons, h]; rfl
theorem ins_cons_ge (x a : α) (l : List α) (h : lt a x = false) : insO lt x (a :: l) = x :: a :: l := by
  unfold insO
  rw [List.takeWhile_cons, List.dropWhile_cons, h]; rfl
theorem srt_cons (a : α) (l : List α) : Srt lt (a :: l) ↔ (∀ b ∈ l, lt a b = true) ∧ Srt lt l := List.pairwise_cons
theorem ins_srt (H : Ord3 lt) (x : α) : ∀ (l : List α), Srt lt l → x ∉ l → Srt lt (insO lt x l)
  | [], _, _ => by rw [ins_nil]; exact List.pairwise_singleton _ _
  | a :: l, hs, hx => by
    obtain ⟨h1, h2⟩ := (srt_cons a l).1 hs
    have hne : a ≠ x := fun e => hx (by simp [e])
    cases hl : lt a x with
    | true =>
      rw [ins_cons_lt x a l hl, srt_cons]
      refine ⟨fun b hb => ?_, ins_srt H x l h2 (fun h => hx (by simp [h]))⟩
      rcases (ins_mem x b l).1 hb with rfl | hb
      · exact hl
      · exact h1 b hb
    | false =>
      have hxa := H.tot a x hne hl
      rw [ins_cons_ge x a l hl, srt_cons]
      refine ⟨fun b hb => ?_, hs⟩
      rcases List.mem_cons.1 hb with rfl | hb
      · exact hxa
      · exact H.tra x a b hxa (h1 b hb)
theorem srt_ext (H : Ord3 lt) : ∀ (l m : List α), Srt lt l → Srt lt m → (∀ x, x ∈ l ↔ x ∈ m) → l = m
  | [], [], _, _, _ => rfl
  | [], b :: m, _, _, h => absurd ((h b).2 (by simp)) (by simp)
  | a :: l, [], _, _, h => absurd ((h a).1 (by simp)) (by simp)
  | a :: l, b :: m, h1, h2, h => by
    obtain ⟨p1, p2⟩ := (srt_cons a l).1 h1
    obtain ⟨q1, q2⟩ := (srt_cons b m).1 h2
    have hab : a = b := by
      rcases List.mem_cons.1 ((h a).1 (by simp)) with e | e
      · exact e
      · rcases List.mem_cons.1 ((h b).2 (by simp)) with f | f
        · exact f.symm
        · have := H.tra a b a (p1 b f) (q1 a e)
          rw [H.irr] at this; cases this
    subst hab
    rw [srt_ext H l m p2 q2 (fun x => ⟨fun hx => ?_, fun hx => ?_⟩)]
    · rcases List.mem_cons.1 ((h x).1 (by simp [hx])) with e | e
      · subst e; have := p1 x hx; rw [H.irr] at this; cases this
      · exact e
    · rcases List.mem_cons.1 ((h x).2 (by simp [hx])) with e | e
      · subst e; have := q1 x hx; rw [H.irr] at this; cases this
      · exact e
theorem srt_filter (p : α → Bool) (l : List α) (h : Srt lt l) : Srt lt (l.filter p) := List.Pairwise.filter p h
theorem srt_nodup (H : Ord3 lt) (l : List α) (h : Srt lt l) : l.Nodup := by
  refine List.Pairwise.imp (fun {a b} hab e => ?_) h
  subst e; rw [H.irr] at hab; cases hab
/-- How far a loop has come that goes on while p holds. -/
theorem tw_step (p : α → Bool) : ∀ (l : List α) (k : Nat) (x : α), l[k]? = some x → k ≤ (l.takeWhile p).length → p x = true → k + 1 ≤ (l.takeWhile p).length
  | [], k, x, h, _, _ => by simp at h
  | a :: l, 0, x, h, _, hp => by
    simp at h; subst h
    rw [List.takeWhile_cons, hp, if_pos rfl]; simp
  | a :: l, k + 1, x, h, hk, hp => by
    rw [List.takeWhile_cons] at hk ⊢
    split at hk
    · next ha =>
      rw [if_pos ha]
      have := tw_step p l k x (by simpa using h) (by simpa using hk) hp
      simpa using this
    · simp at hk
theorem tw_stop (p : α → Bool) : ∀ (l : List α) (k : Nat), k ≤ (l.takeWhile p).length → (∀ x, l[k]? = some x → p x = false) → l.takeWhile p = l.take k ∧ l.dropWhile p = l.drop k
  | [], k, h, _ => by simp
  | a :: l, 0, _, h => by
    have := h a (by simp)
    rw [List.takeWhile_cons, List.dropWhile_cons, this]; simp
  | a :: l, k + 1, hk, h => by
    rw [List.takeWhile_cons] at hk
    split at hk
    · next ha =>
      have := tw_stop p l k (by simpa using hk) (fun x hx => h x (by simpa using hx))
      rw [List.takeWhile_cons, List.dropWhile_cons, if_pos ha, if_pos ha, this.1, this.2]; simp
    · simp at hk
end

/-! Texts in order; hints in order. -/
def ltB (a b : List UInt8) : Bool := Op.bytesLess a b
theorem lt_cons (a b : UInt8) (x y : List UInt8) : ltB (a :: x) (b :: y) = (decide (a < b) || (a == b && ltB x y)) := rfl
theorem lt_ord : Ord3 ltB := by
  have irr : ∀ a, ltB a a = false := by
    intro a
    induction a with
    | nil => rfl
    | cons c r ih => rw [lt_cons, ih]; simp [UInt8.lt_irrefl]
  refine ⟨irr, ?_, ?_⟩
  · intro a
    induction a with
    | nil =>
      intro b c h1 h2
      cases c with
      | nil => cases b <;> cases h2
      | cons => rfl
    | cons x r ih =>
      intro b c h1 h2
      cases b with
      | nil => cases h1
      | cons y s =>
        cases c with
        | nil => cases h2
        | cons z t =>
          rw [lt_cons] at h1 h2 ⊢
          simp only [Bool.or_eq_true, decide_eq_true_eq, Bool.and_eq_true, beq_iff_eq] at h1 h2 ⊢
          rcases h1 with h1 | ⟨rfl, h1⟩
          · rcases h2 with h2 | ⟨rfl, h2⟩
            · exact Or.inl (UInt8.lt_trans h1 h2)
            · exact Or.inl h1
          · rcases h2 with h2 | ⟨rfl, h2⟩
            · exact Or.inl h2
            · exact Or.inr ⟨rfl, ih s t h1 h2⟩
  · intro a
    induction a with
    | nil =>
      intro b h1 h2
      cases b with
      | nil => exact absurd rfl h1
      | cons => cases h2
    | cons x r ih =>
      intro b h1 h2
      cases b with
      | nil => rfl
      | cons y s =>
        rw [lt_cons] at h2 ⊢
        simp only [Bool.or_eq_false_iff, decide_eq_false_iff_not, Bool.and_eq_false_iff, beq_eq_false_iff_ne] at h2
        simp only [Bool.or_eq_true, decide_eq_true_eq, Bool.and_eq_true, beq_iff_eq]
        by_cases hxy : x = y
        · subst hxy
          right
          refine ⟨rfl, ih s (fun e => h1 (by rw [e])) ?_⟩
          rcases h2.2 with h3 | h3
          · exact absurd rfl h3
          · exact h3
        · left
          rcases UInt8.lt_or_lt_of_ne hxy with h3 | h3
          · exact absurd h3 h2.1
          · exact h3
abbrev Hn := List UInt8 × List UInt8
def ahB (x y : Hn) : Bool := ltB x.1 y.1 || (x.1 == y.1 && ltB x.2 y.2)
theorem ah_ord : Ord3 ahB := by
  refine ⟨?_, ?_, ?_⟩
  · intro a; unfold ahB; rw [lt_ord.irr, lt_ord.irr]; simp
  · intro a b c h1 h2
    unfold ahB at *
    simp only [Bool.or_eq_true, Bool.and_eq_true, beq_iff_eq] at *
    rcases h1 with h1 | ⟨e1, h1⟩
    · rcases h2 with h2 | ⟨e2, h2⟩
      · exact Or.inl (lt_ord.tra _ _ _ h1 h2)
      · exact Or.inl (by rw [← e2]; exact h1)
    · rcases h2 with h2 | ⟨e2, h2⟩
      · exact Or.inl (by rw [e1]; exact h2)
      · exact Or.inr ⟨e1.trans e2, lt_ord.tra _ _ _ h1 h2⟩
  · intro a b hne h
    unfold ahB at *
    simp only [Bool.or_eq_false_iff, Bool.and_eq_false_iff, beq_eq_false_iff_ne] at h
    simp only [Bool.or_eq_true, Bool.and_eq_true, beq_iff_eq]
    by_cases h1 : a.1 = b.1
    · right
      refine ⟨h1.symm, lt_ord.tot _ _ (fun e => hne (Prod.ext h1 e)) ?_⟩
      rcases h.2 with h2 | h2
      · exact absurd h1 h2
      · exact h2
    · exact Or.inl (lt_ord.tot _ _ h1 h.1)
/-- What Add, Remove come to. -/
def addB (L : List Hn) (h : Hn) : Bool := filB h.1 && !L.contains h
def addL (L : List Hn) (h : Hn) : List Hn := if addB L h then insO ahB h L else L
def remL (L : List Hn) (h : Hn) : List Hn := L.filter (· != h)
def remB (L : List Hn) (h : Hn) : Bool := decide ((remL L h).length < L.length)
/-- A text into a rising row, once. -/
def putL (l : List (List UInt8)) (s : List UInt8) : List (List UInt8) := if (l.dropWhile (ltB · s)).head? == some s then l else insO ltB s l
def matL (L : List Hn) (n : List UInt8) : List (List UInt8) := L.foldl (fun out h => if matB h.1 n then putL out h.2 else out) []
def ofL (L : List Hn) (c : List UInt8) : List (List UInt8) := (L.filter (·.2 == c)).map (·.1)
/-- A row of levels, each with a slash behind it, put one by one. -/
def nodF (s : List UInt8) (all : List (List UInt8)) : List (List UInt8) → List (List UInt8)
  | [] => all
  | x :: r => nodF (s ++ x ++ [47]) (putL all (s ++ x ++ [47])) r
def nodA (L : List Hn) : List (List UInt8) := L.foldl (fun all h => nodF [] all (levs h.1)) []
def nodL (L : List Hn) : Int := (nodA L).length + 1
theorem head_mem (l : List (List UInt8)) (s : List UInt8) (hs : Srt ltB l) : (l.dropWhile (ltB · s)).head? = some s ↔ s ∈ l := by
  induction l with
  | nil => simp
  | cons a r ih =>
    obtain ⟨h1, h2⟩ := (srt_cons a r).1 hs
    rw [List.dropWhile_cons]
    cases hl : ltB a s with
    | true =>
      rw [if_pos rfl, ih h2]
      have : s ≠ a := fun e => by rw [e, lt_ord.irr] at hl; cases hl
      simp [this]
    | false =>
      rw [if_neg (by decide), List.head?_cons]
      constructor
      · intro e; cases e; simp
      · intro e
        rcases List.mem_cons.1 e with e | e
        · rw [e]
        · rw [h1 s e] at hl; cases hl
theorem put_mem (l : List (List UInt8)) (s x : List UInt8) (hs : Srt ltB l) : x ∈ putL l s ↔ x = s ∨ x ∈ l := by
  unfold putL
  split
  · next h =>
    have := (head_mem l s hs).1 (by simpa using h)
    constructor
    · exact Or.inr
    · rintro (rfl | h)
      · exact this
      · exact h
  · exact ins_mem s x l
theorem put_srt (l : List (List UInt8)) (s : List UInt8) (hs : Srt ltB l) : Srt ltB (putL l s) := by
  unfold putL
  split
  · exact hs
  · next h =>
    exact ins_srt lt_ord s l hs (fun hm => h (by simpa using (head_mem l s hs).2 hm))
theorem mat_snoc (L : List Hn) (h : Hn) (n : List UInt8) : matL (L ++ [h]) n = if matB h.1 n then putL (matL L n) h.2 else matL L n := by
  unfold matL; rw [List.foldl_append]; rfl
theorem snoc_ind {α : Type} {P : List α → Prop} (h0 : P []) (hs : ∀ l x, P l → P (l ++ [x])) : ∀ l, P l := by
  have h : ∀ l : List α, P l.reverse := by
    intro l
    induction l with
    | nil => exact h0
    | cons a r ih => rw [List.reverse_cons]; exact hs _ a ih
  intro l
  have := h l.reverse
  rwa [List.reverse_reverse] at this
theorem mat_facts (n : List UInt8) : ∀ L : List Hn, Srt ltB (matL L n) ∧ ∀ x, x ∈ matL L n ↔ ∃ h ∈ L, h.2 = x ∧ matB h.1 n = true := by
  refine snoc_ind ⟨List.Pairwise.nil, fun x => by simp [matL]⟩ ?_
  · intro L h ih
    obtain ⟨h1, h2⟩ := ih
    rw [mat_snoc]
    cases hm : matB h.1 n with
    | true =>
      rw [if_pos rfl]
      refine ⟨put_srt _ _ h1, fun x => ?_⟩
      rw [put_mem _ _ _ h1, h2]
      constructor
      · rintro (rfl | ⟨y, hy, e⟩)
        · exact ⟨h, by simp, rfl, hm⟩
        · exact ⟨y, by simp [hy], e⟩
      · rintro ⟨y, hy, e1, e2⟩
        rcases List.mem_append.1 hy with hy | hy
        · exact Or.inr ⟨y, hy, e1, e2⟩
        · rw [List.mem_singleton] at hy
          subst hy
          exact Or.inl e1.symm
    | false =>
      rw [if_neg (by decide)]
      refine ⟨h1, fun x => ?_⟩
      rw [h2]
      constructor
      · rintro ⟨y, hy, e⟩
        exact ⟨y, by simp [hy], e⟩
      · rintro ⟨y, hy, e1, e2⟩
        rcases List.mem_append.1 hy with hy | hy
        · exact ⟨y, hy, e1, e2⟩
        · rw [List.mem_singleton] at hy
          subst hy
          rw [hm] at e2; cases e2
theorem add_srt (L : List Hn) (h : Hn) (hs : Srt ahB L) : Srt ahB (addL L h) := by
  unfold addL
  split
  · next hb =>
    unfold addB at hb
    exact ins_srt ah_ord h L hs (by simp at hb; exact hb.2)
  · exact hs
theorem rem_srt (L : List Hn) (h : Hn) (hs : Srt ahB L) : Srt ahB (remL L h) := srt_filter _ L hs
theorem rem_mem (L : List Hn) (h : Hn) : remB L h = L.contains h := by
  unfold remB remL
  rw [Bool.eq_iff_iff, decide_eq_true_eq, List.contains_iff_mem]
  constructor
  · intro hl
    have := List.length_filter_lt_length_iff_exists.1 hl
    obtain ⟨x, hx, hp⟩ := this
    simp at hp
    rw [← hp]; exact hx
  · intro hm
    exact List.length_filter_lt_length_iff_exists.2 ⟨h, hm, by simp⟩
end Go.Proofs.YthhadjnffeadfaaGreatDoor
