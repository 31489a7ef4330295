/-
  A slice of packets that came in; great.
-/
import Derived.Test.YtncgkkhpcgdcaaaGreatDoorWrD
import Derived.Test.YtncgkkhpcgdcaaaGreatDoorPkGreat
set_option linter.unusedSimpArgs false
set_option linter.unusedVariables false
namespace Go.Proofs.YtncgkkhpcgdcaaaGreatDoor
open Go.RowKit Go.ChangeShapes Go.WideShapes Go.Deep
set_option maxRecDepth 100000
theorem list_of {α : Type} (P : Nat → α → Prop) : ∀ n : Nat, (∀ i, i < n → ∃ x, P i x) → ∃ L : List α, L.length = n ∧ ∀ i x, L[i]? = some x → P i x
  | 0, _ => ⟨[], rfl, fun i x hx => by simp at hx⟩
  | n + 1, h => by
    obtain ⟨L, h1, h2⟩ := list_of P n (fun i hi => h i (by omega))
    obtain ⟨x, hx⟩ := h n (by omega)
    refine ⟨L ++ [x], by simp [h1], fun i y hy => ?_⟩
    by_cases hi : i < n
    · rw [List.getElem?_append_left (by omega)] at hy
      exact h2 i y hy
    · by_cases hn : i = n
      · subst hn
        rw [← h1, List.getElem?_append_right (Nat.le_refl _), Nat.sub_self] at hy
        simp at hy
        rw [← hy]
        exact hx
      · have := (List.getElem?_eq_some_iff.1 hy).1
        simp at this
        omega
section
variable {H : Type} {enc : TypeId × Value → H}
theorem cells_pk : Tryz.prog.cellsOf 36 = 24 := by kernel_rfl
theorem open_Pks {W : World} {base : Nat} {v : Value} {d : DataW H} {pl : List MemPlace} {sp : Nat → Bool} {hd : Bool}
    (hok : Value.okWide Tryz.prog W .any base 47 v) (h : DataW.Trod enc Tryz.prog W 0 sp hd 47 v d pl) : ∃ A n c ps, v = .slice A n c ∧ Pks W A n ps ∧ (A = none → c = 0) ∧ n ≤ 9223372036854775807 ∧ ∀ x ∈ ps, Came x.1 x.2 := by
  obtain ⟨a0, len0, cap0, rfl⟩ := okWide_slice Tryz.underlying47 hok
  obtain ⟨fuel, hf⟩ := h
  rcases open_slice Tryz.underlying47 hf with ⟨hcs, _⟩ | ⟨a, len, cap, m, n, D, Pl, hcs, _, hl, hm, hmm, _, hi⟩
  · have e0 : Value.slice a0 len0 cap0 = .slice none 0 0 := by simpa [Value.cells] using hcs
    rw [e0]
    exact ⟨none, 0, 0, [], rfl, Pks.nil _, fun _ => rfl, by omega, fun x hx => (by cases hx)⟩
  · have e0 : Value.slice a0 len0 cap0 = .slice (some a) len cap := by simpa [Value.cells] using hcs
    rw [e0]
    clear e0 hcs hf hok
    have hml : len ≤ m := by rw [hmm]; split <;> omega
    have hmax : cap ≤ 9223372036854775807 := by unfold maxLen at hm; omega
    rcases Nat.eq_zero_or_pos len with h0 | h0
    · subst h0
      exact ⟨some a, 0, cap, [], rfl, Pks.nil _, fun e => (by cases e), by omega, fun x hx => (by cases hx)⟩
    have key : ∀ i, i < len → ∃ (p : Pk) (A : Option Addr) (k c : Nat) (xs : List (List UInt8 × Int)), (∀ j, j < 24 → W.cell? (a.add (i * 24 + j)) = (PkC p A k c)[j]?) ∧ Subs W A k xs ∧ (A = none → c = 0) ∧ Came p xs := by
      intro i hil
      obtain ⟨cs', hc, ht⟩ := hi i (by omega)
      rw [cells_pk] at hc
      obtain ⟨_, hcl, hat⟩ := World.cells?_some hc
      obtain ⟨p, A, k, c, xs, hp, h1, h2, h3⟩ := trod_Pk hcl ht
      refine ⟨p, A, k, c, xs, fun j hj => ?_, h1, h2, h3⟩
      rw [← Go.Deep.add_add, hat j hj]
      subst hp
      rw [Array.getElem?_toList]
    obtain ⟨b, off, spot⟩ := a
    have hspot : spot = none := by
      obtain ⟨p, A, k, c, xs, h1, _⟩ := key 0 h0
      have h2 := h1 0 (by omega)
      rw [PkC_0] at h2
      simpa [Addr.add] using World.cell?_spot h2
    subst hspot
    have add_p : ∀ j, (⟨b, off, none⟩ : Addr).add j = ⟨b, off + j, none⟩ := fun j => by unfold Addr.add; split <;> simp_all
    have key2 : ∀ i, i < len → ∃ x : PX, (off + i * 24 + 24 ≤ (rowAt W b).size ∧ ∃ A' n' c', (rowAt W b).extract (off + i * 24) (off + i * 24 + 24) = PkC x.1 A' n' c' ∧ Subs W A' n' x.2 ∧ (A' = none → c' = 0)) ∧ Came x.1 x.2 ∧ b < W.heap.size := by
      intro i hil
      obtain ⟨p, A, k, c, xs, h1, h2, h3, h4⟩ := key i hil
      have hr : ∀ j, j < 24 → (rowAt W b)[off + i * 24 + j]? = (PkC p A k c)[j]? := by
        intro j hj
        have h5 := h1 j hj
        have h6 : (PkC p A k c)[j]? = some ((PkC p A k c)[j]'(by rw [PkC_size]; exact hj)) := Array.getElem?_eq_getElem _
        rw [h6, add_p] at h5
        have := cell_row h5
        rw [h6, ← this, ← Nat.add_assoc]
      have hsz : off + i * 24 + 24 ≤ (rowAt W b).size := by
        have h7 := hr 23 (by omega)
        rw [PkC_23] at h7
        have := (Array.getElem?_eq_some_iff.1 h7).1
        omega
      have hblk : b < W.heap.size := by
        have h5 := h1 0 (by omega)
        rw [PkC_0] at h5
        exact World.block_lt_of_cell? _ _ (by rw [add_p] at h5; exact h5)
      refine ⟨(p, xs), ⟨hsz, A, k, c, ?_, h2, h3⟩, h4, hblk⟩
      apply Array.ext_getElem?
      intro j
      rw [Array.getElem?_extract]
      by_cases hj : j < 24
      · rw [if_pos (by omega), hr j hj]
      · rw [if_neg (by omega), Array.getElem?_eq_none (by rw [PkC_size]; omega)]
    obtain ⟨L, hL, hP⟩ := list_of _ len key2
    refine ⟨some ⟨b, off, none⟩, len, cap, L, rfl, ⟨hL, fun _ => ⟨b, off, rfl, ?_, fun j x hx => (hP j x hx).1⟩⟩, fun e => (by cases e), by omega, fun x hx => ?_⟩
    · obtain ⟨x, _, _, hb⟩ := key2 0 h0
      exact hb
    · obtain ⟨i, hi2⟩ := List.mem_iff_getElem?.1 hx
      exact (hP i x hi2).2.1
end
/-- What great answers: no, then the packets are few and small. -/
def GPs (ps : List PX) (w : World) (e : Ending) (w' : World) : Prop := ∃ g, e = .returned (.bool g) ∧ (g = false → ps.length ≤ 20 ∧ ∀ x ∈ ps, totB x.1 x.2 ≤ 10000 ∧ x.2.length ≤ 100) ∧ Below w.heap.size w w'
theorem gps_mk {ps : List PX} {w w' : World} {e : Ending} (g : Bool) (h1 : e = .returned (.bool g)) (h2 : g = false → ps.length ≤ 20 ∧ ∀ x ∈ ps, totB x.1 x.2 ≤ 10000 ∧ x.2.length ≤ 100) (h3 : Below w.heap.size w w') : GPs ps w e w' := ⟨g, h1, h2, h3⟩
end Go.Proofs.YtncgkkhpcgdcaaaGreatDoor
