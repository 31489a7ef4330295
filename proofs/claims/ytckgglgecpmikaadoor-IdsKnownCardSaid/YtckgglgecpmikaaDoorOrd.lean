/-
  Rows in order, of whatever kind: what is put in, sorted rows are told by their members.
-/
import Derived.Test.YtckgglgecpmikaaDoorKit
set_option linter.unusedSimpArgs false
set_option linter.unusedVariables false
namespace Go.Proofs.YtckgglgecpmikaaDoor
open Go.RowKit

/-! Rows in order, of whatever kind. -/
structure Ord3 {α : Type} (lt : α → α → Bool) : Prop where
  irr : ∀ a, lt a a = false
  tra : ∀ a b c, lt a b = true → lt b c = true → lt a c = true
  tot : ∀ a b, a ≠ b → lt a b = false → lt b a = true
section
variable {α : Type} {lt : α → α → Bool}
/-- Put where it belongs. -/
def insO (lt : α → α → Bool) (x : α) (l : List α) : List α := l.takeWhile (lt · x) ++ x :: l.dropWhile (lt · x)
def Srt (lt : α → α → Bool) (l : List α) : Prop := l.Pairwise fun a b => lt a b = true
theorem ins_mem (x y : α) (l : List α) : y ∈ insO lt x l ↔ y = x ∨ y ∈ l := by
  unfold insO
  have h : y ∈ l ↔ y ∈ l.takeWhile (lt · x) ∨ y ∈ l.dropWhile (lt · x) := by
    rw [← List.mem_append, List.takeWhile_append_dropWhile]
  rw [List.mem_append, List.mem_cons, h]
  exact ⟨fun | .inl h => .inr (.inl h) | .inr (.inl h) => .inl h | .inr (.inr h) => .inr (.inr h), fun | .inl h => .inr (.inl h) | .inr (.inl h) => .inl h | .inr (.inr h) => .inr (.inr h)⟩
theorem ins_len (x : α) (l : List α) : (insO lt x l).length = l.length + 1 := by
  unfold insO
  rw [List.length_append, List.length_cons, ← Nat.add_assoc, ← List.length_append, List.takeWhile_append_dropWhile]
theorem ins_nil (x : α) : insO lt x [] = [x] := rfl
theorem ins_cons_lt (x a : α) (l : List α) (h : lt a x = true) : insO lt x (a :: l) = a :: insO lt x l := by
  unfold insO
  rw [List.takeWhile_cons, List.dropWhile_cons, h]; rfl
theorem ins_cons_ge (x a : α) (l : List α) (h : lt a x = false) : insO lt x (a :: l) = x :: a :: l := by
  unfold insO
  rw [List.takeWhile_cons, List.dropWhile_cons, h]; rfl
theorem srt_cons (a : α) (l : List α) : Srt lt (a :: l) ↔ (∀ b ∈ l, lt a b = true) ∧ Srt lt l := List.pairwise_cons
theorem ins_srt (H : Ord3 lt) (x : α) : ∀ (l : List α), Srt lt l → x ∉ l → Srt lt (insO lt x l)
  | [], _, _ => by rw [ins_nil]; exact List.pairwise_singleton _ _
  | a :: l, hs, hx => by
    obtain ⟨h1, h2⟩ := (srt_cons a l).1 hs
    have hne : a ≠ x := fun e => hx (by simp [e])
    cases hl : lt a x with
    | true =>
      rw [ins_cons_lt x a l hl, srt_cons]
      refine ⟨fun b hb => ?_, ins_srt H x l h2 (fun h => hx (by simp [h]))⟩
      rcases (ins_mem x b l).1 hb with rfl | hb
      · exact hl
      · exact h1 b hb
    | false =>
      have hxa := H.tot a x hne hl
      rw [ins_cons_ge x a l hl, srt_cons]
      refine ⟨fun b hb => ?_, hs⟩
      rcases List.mem_cons.1 hb with rfl | hb
      · exact hxa
      · exact H.tra x a b hxa (h1 b hb)
theorem srt_ext (H : Ord3 lt) : ∀ (l m : List α), Srt lt l → Srt lt m → (∀ x, x ∈ l ↔ x ∈ m) → l = m
  | [], [], _, _, _ => rfl
  | [], b :: m, _, _, h => absurd ((h b).2 (by simp)) (by simp)
  | a :: l, [], _, _, h => absurd ((h a).1 (by simp)) (by simp)
  | a :: l, b :: m, h1, h2, h => by
    obtain ⟨p1, p2⟩ := (srt_cons a l).1 h1
    obtain ⟨q1, q2⟩ := (srt_cons b m).1 h2
    have hab : a = b := by
      rcases List.mem_cons.1 ((h a).1 (by simp)) with e | e
      · exact e
      · rcases List.mem_cons.1 ((h b).2 (by simp)) with f | f
        · exact f.symm
        · have := H.tra a b a (p1 b f) (q1 a e)
          rw [H.irr] at this; cases this
    subst hab
    rw [srt_ext H l m p2 q2 (fun x => ⟨fun hx => ?_, fun hx => ?_⟩)]
    · rcases List.mem_cons.1 ((h x).1 (by simp [hx])) with e | e
      · subst e; have := p1 x hx; rw [H.irr] at this; cases this
      · exact e
    · rcases List.mem_cons.1 ((h x).2 (by simp [hx])) with e | e
      · subst e; have := q1 x hx; rw [H.irr] at this; cases this
      · exact e
theorem srt_filter (p : α → Bool) (l : List α) (h : Srt lt l) : Srt lt (l.filter p) := List.Pairwise.filter p h
theorem srt_nodup (H : Ord3 lt) (l : List α) (h : Srt lt l) : l.Nodup := by
  refine List.Pairwise.imp (fun {a b} hab e => ?_) h
  subst e; rw [H.irr] at hab; cases hab
/-- How far a loop has come that goes on while p holds. -/
theorem tw_step (p : α → Bool) : ∀ (l : List α) (k : Nat) (x : α), l[k]? = some x → k ≤ (l.takeWhile p).length → p x = true → k + 1 ≤ (l.takeWhile p).length
  | [], k, x, h, _, _ => by simp at h
  | a :: l, 0, x, h, _, hp => by
    simp at h; subst h
    rw [List.takeWhile_cons, hp, if_pos rfl]; simp
  | a :: l, k + 1, x, h, hk, hp => by
    rw [List.takeWhile_cons] at hk ⊢
    split at hk
    · next ha =>
      rw [if_pos ha]
      have := tw_step p l k x (by simpa using h) (by simpa using hk) hp
      simpa using this
    · simp at hk
theorem tw_stop (p : α → Bool) : ∀ (l : List α) (k : Nat), k ≤ (l.takeWhile p).length → (∀ x, l[k]? = some x → p x = false) → l.takeWhile p = l.take k ∧ l.dropWhile p = l.drop k
  | [], k, h, _ => by simp
  | a :: l, 0, _, h => by
    have := h a (by simp)
    rw [List.takeWhile_cons, List.dropWhile_cons, this]; simp
  | a :: l, k + 1, hk, h => by
    rw [List.takeWhile_cons] at hk
    split at hk
    · next ha =>
      have := tw_stop p l k (by simpa using hk) (fun x hx => h x (by simpa using hx))
      rw [List.takeWhile_cons, List.dropWhile_cons, if_pos ha, if_pos ha, this.1, this.2]; simp
    · simp at hk
end

end Go.Proofs.YtckgglgecpmikaaDoor
