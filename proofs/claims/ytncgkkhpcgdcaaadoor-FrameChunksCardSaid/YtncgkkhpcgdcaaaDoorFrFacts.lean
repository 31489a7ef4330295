/-
  frame: facts of what is told, whatever the pieces.
-/
import Derived.Test.YtncgkkhpcgdcaaaDoorFrMath
set_option linter.unusedSimpArgs false
set_option linter.unusedVariables false
namespace Go.Proofs.YtncgkkhpcgdcaaaDoor
set_option maxRecDepth 100000
section
variable {m : Int}
theorem dr_facts (hm : m ≤ 65536) : ∀ (k : Nat) (b : List UInt8), b.length < k →
    ((drR m b).2.2 = 0 → ∀ x ∈ (drR m b).1, x.2 = 0) ∧ ((drR m b).2.2 ≠ 0 → (∃ T0, (drR m b).1 = T0 ++ [((zPk, []), (drR m b).2.2)] ∧ ∀ x ∈ T0, x.2 = 0) ∧ ((drR m b).2.2 = 3 ∨ (drR m b).2.2 = 4) ∧ (drR m b).2.1 = []) ∧ ∀ x ∈ (drR m b).1, x.1.2.length ≤ 50000
  | 0, b, h => by omega
  | k + 1, b, hk => by
    rcases dc_any m b hm with h1 | ⟨e, h1, he⟩ | ⟨p, xs, n, h1, h2, h3, h4⟩
    · rw [dr_none h1]; simp
    · rw [dr_err h1 (by omega)]
      refine ⟨fun h => by dsimp only at h; omega, fun _ => ⟨⟨[], rfl, fun x hx => by cases hx⟩, he, rfl⟩, fun x hx => ?_⟩
      simp only [List.mem_singleton] at hx
      rw [hx]
      simp
    · have hl : (b.drop n).length = b.length - n := List.length_drop
      obtain ⟨i1, i2, i3⟩ := dr_facts hm k (b.drop n) (by omega)
      have hxs : xs.length ≤ 50000 := by
        rcases h4 with ⟨v, _, rfl, _⟩ | ⟨_, hf, _⟩
        · simp
        · exact hf.num
      rw [dr_some hm h1 (by omega) h3]
      dsimp only
      refine ⟨fun h x hx => ?_, fun h => ?_, fun x hx => ?_⟩
      · rcases List.mem_cons.1 hx with rfl | hx
        · rfl
        · exact i1 h x hx
      · obtain ⟨⟨T0, j1, j2⟩, j3⟩ := i2 h
        refine ⟨⟨((p, xs), 0) :: T0, by rw [j1]; rfl, fun x hx => ?_⟩, j3⟩
        rcases List.mem_cons.1 hx with rfl | hx
        · rfl
        · exact j2 x hx
      · rcases List.mem_cons.1 hx with rfl | hx
        · exact hxs
        · exact i3 x hx
/-- What was told of the bytes s, and what is left of them: the bytes b, and the error f. -/
structure Inv (m : Int) (s : List UInt8) (T : List TX) (b : List UInt8) (f : Int) : Prop where
  go : f = 0 → ∀ t, drR m (s ++ t) = (T ++ (drR m (b ++ t)).1, (drR m (b ++ t)).2)
  stop : f ≠ 0 → b = [] ∧ (∃ T0, T = T0 ++ [((zPk, []), f)]) ∧ ∀ t, drR m (s ++ t) = (T, [], f)
  ok : f = 0 → ∀ x ∈ T, x.2 = 0
  len : 2 * T.length + b.length ≤ s.length + 2 ∧ (f = 0 → 2 * T.length + b.length ≤ s.length)
  sub : ∀ x ∈ T, x.1.2.length ≤ 50000
theorem Inv.nil (m : Int) : Inv m [] [] [] 0 := ⟨fun _ t => rfl, fun h => absurd rfl h, fun _ x hx => (by cases hx), by simp, fun x hx => (by cases hx)⟩
theorem Inv.push {s T b} (h : Inv m s T b 0) (x : List UInt8) : Inv m (s ++ x) T (b ++ x) 0 :=
  ⟨fun _ t => by rw [List.append_assoc, h.go rfl, List.append_assoc], fun h => absurd rfl h, h.ok, by have := h.len; simp only [List.length_append]; exact ⟨by omega, fun _ => by have := this.2 rfl; omega⟩, h.sub⟩
theorem dr_lens (hm : m ≤ 65536) : ∀ (k : Nat) (b : List UInt8), b.length < k → 2 * (drR m b).1.length + (drR m b).2.1.length ≤ b.length + 2 ∧ ((drR m b).2.2 = 0 → 2 * (drR m b).1.length + (drR m b).2.1.length ≤ b.length)
  | 0, b, h => by omega
  | k + 1, b, hk => by
    rcases dc_any m b hm with h1 | ⟨e, h1, he⟩ | ⟨p, xs, n, h1, h2, h3, h4⟩
    · rw [dr_none h1]; simp
    · rw [dr_err h1 (by omega)]; simp; omega
    · have hl : (b.drop n).length = b.length - n := List.length_drop
      obtain ⟨i1, i2⟩ := dr_lens hm k (b.drop n) (by omega)
      rw [dr_some hm h1 (by omega) h3]
      dsimp only
      rw [List.length_cons]
      exact ⟨by omega, fun h => by have := i2 h; omega⟩
theorem Inv.drain {s T b} (h : Inv m s T b 0) (hm : m ≤ 65536) : Inv m s (T ++ (drR m b).1) (drR m b).2.1 (drR m b).2.2 := by
  obtain ⟨i1, i2, i3⟩ := dr_facts hm (b.length + 1) b (by omega)
  obtain ⟨j1, j2⟩ := dr_lens hm (b.length + 1) b (by omega)
  have hl := h.len.2 rfl
  refine ⟨fun hf t => ?_, fun hf => ⟨(i2 hf).2.2, ?_, fun t => ?_⟩, fun hf x hx => ?_, ?_, fun x hx => ?_⟩
  · rw [h.go rfl, dr_app (b.length + 1) b t hm (by omega), if_pos hf]
    simp
  · obtain ⟨⟨T0, k1, _⟩, _⟩ := i2 hf
    exact ⟨T ++ T0, by rw [k1]; simp⟩
  · rw [h.go rfl, dr_app (b.length + 1) b t hm (by omega), if_neg hf]
    have := (i2 hf).2.2
    rw [← this]
  · rcases List.mem_append.1 hx with hx | hx
    · exact h.ok rfl x hx
    · exact i1 hf x hx
  · rw [List.length_append]
    exact ⟨by omega, fun hf => by have := j2 hf; omega⟩
  · rcases List.mem_append.1 hx with hx | hx
    · exact h.sub x hx
    · exact i3 x hx
/-- All is told. -/
theorem Inv.whole {s T b f} (h : Inv m s T b f) (hm : m ≤ 65536) (hd : f = 0 → (drR m b).1 = [] ∧ (drR m b).2 = (b, 0)) (t : List UInt8) (hf : f ≠ 0 ∨ t = []) : drR m (s ++ t) = (T, b, f) := by
  by_cases h0 : f = 0
  · subst h0
    have ht : t = [] := by rcases hf with h1 | h1; exact absurd rfl h1; exact h1
    subst ht
    rw [h.go rfl, List.append_nil, (hd rfl).1, (hd rfl).2]
    simp
  · obtain ⟨h1, _, h2⟩ := h.stop h0
    rw [h2, h1]
/-- What is drained is drained. -/
theorem dr_again (hm : m ≤ 65536) : ∀ (k : Nat) (b : List UInt8), b.length < k → (drR m b).2.2 = 0 → drR m (drR m b).2.1 = ([], (drR m b).2.1, 0)
  | 0, b, h, _ => by omega
  | k + 1, b, hk, h0 => by
    rcases dc_any m b hm with h1 | ⟨e, h1, he⟩ | ⟨p, xs, n, h1, h2, h3, h4⟩
    · rw [dr_none h1]; exact dr_none h1
    · rw [dr_err h1 (by omega)] at h0; dsimp only at h0; omega
    · have hl : (b.drop n).length = b.length - n := List.length_drop
      rw [dr_some hm h1 (by omega) h3] at h0 ⊢
      exact dr_again hm k (b.drop n) (by omega) h0
end
end Go.Proofs.YtncgkkhpcgdcaaaDoor
