/-
  topic's statements: what their helpers answer.
-/
import Derived.Test.YthhadjnffeadfaaGreatDoorTpRef3
set_option linter.unusedSimpArgs false
set_option linter.unusedVariables false
namespace Go.Proofs.YthhadjnffeadfaaGreatDoor
open Go.RowKit

def longB (l : List UInt8) : Bool := decide (3000 < l.length) && decide (l.length < 65530) || decide (65550 < l.length)
open Go.ChangeShapes Go.WideShapes in
theorem open_StrsC {P : Program} {H : Type} {enc : TypeId × Value → H} {t e : TypeId} {W : World} {base : Nat} {v : Value} {d : DataW H} {ps : List MemPlace} {sp : Nat → Bool} {hd : Bool} (ht : P.underlying t = some (.slice e)) (he : P.underlying e = some .string) (hc : P.cellsOf e = 1)
    (hok : Value.okWide P W .any base t v) (h : DataW.Trod enc P W 0 sp hd t v d ps) : ∃ A n c xs, v = .slice A n c ∧ Strs W A n xs ∧ n ≤ c ∧ n ≤ maxLen ∧ Hid (∀ x ∈ xs, x.length ≤ 9223372036854775807) := by
  obtain ⟨A, n, c, xs, rfl, h1, h2, h3, h4⟩ := open_Strs ht he hc hok h
  refine ⟨A, n, c, xs, rfl, h1, ?_, h3, h4⟩
  obtain ⟨fuel, hf⟩ := h
  rcases open_strings ht he hc hf with ⟨hcs, hx⟩ | ⟨a, len', cap', ss, hcs, _, hl, hm, hz, hx, hcell, hwz⟩
  · have e0 : Value.slice A n c = .slice none 0 0 := by simpa [Value.cells] using hcs
    injection e0 with e1 e2 e3
    omega
  · have e0 : Value.slice A n c = .slice (some a) len' cap' := by simpa [Value.cells] using hcs
    injection e0 with e1 e2 e3
    subst e1 e2 e3
    exact hl
theorem weights_strs {P : Program} {H : Type} (e : TypeId) : ∀ (ss : List ByteArray) (s : ByteArray), s ∈ ss → s.data.toList.length ∈ DataW.weightsAll (H := H) P e (ChangeShapes.strs ss)
  | [], s, h => by cases h
  | a :: r, s, h => by
    show _ ∈ DataW.weights P e (.lit (.string a.data.toList)) ++ DataW.weightsAll P e (ChangeShapes.strs r)
    rw [List.mem_append]
    rcases List.mem_cons.1 h with rfl | h
    · left; simp [DataW.weights]
    · right; exact weights_strs e r s h
open Go.ChangeShapes Go.WideShapes in
theorem open_StrsW {P : Program} {H : Type} {enc : TypeId × Value → H} {t e : TypeId} {W : World} {base : Nat} {v : Value} {d : DataW H} {ps : List MemPlace} {sp : Nat → Bool} {hd : Bool} (ht : P.underlying t = some (.slice e)) (he : P.underlying e = some .string) (hc : P.cellsOf e = 1)
    (hok : Value.okWide P W .any base t v) (h : DataW.Trod enc P W 0 sp hd t v d ps) (hw : ∀ n ∈ d.weights P t, n ≤ reachBytes) : ∃ A n c xs, v = .slice A n c ∧ Strs W A n xs ∧ n ≤ c ∧ n ≤ maxLen ∧ Hid (∀ x ∈ xs, x.length ≤ 140737488351232) := by
  obtain ⟨A, n, c, xs, rfl, h1, h2, h3, h4⟩ := open_StrsC ht he hc hok h
  refine ⟨A, n, c, xs, rfl, h1, h2, h3, ?_⟩
  obtain ⟨fuel, hf⟩ := h
  rcases open_strings ht he hc hf with ⟨hcs, hx⟩ | ⟨a, len', cap', ss, hcs, _, hl, hm, hz, hx, hcell, hwz⟩
  · have e0 : Value.slice A n c = .slice none 0 0 := by simpa [Value.cells] using hcs
    injection e0 with e1 e2 e3
    have hlen := h1.len
    have : xs = [] := List.eq_nil_of_length_eq_zero (by omega)
    subst this
    intro x hx; cases hx
  · have e0 : Value.slice A n c = .slice (some a) len' cap' := by simpa [Value.cells] using hcs
    injection e0 with e1 e2 e3
    subst e1 e2 e3
    have hxx : xs = (ss.take n).map fun s => s.data.toList := by
      have hlen := h1.len
      have hzl : n ≤ ss.length := by rw [hz]; split <;> omega
      apply List.ext_getElem?
      intro j
      by_cases hj : j < n
      · obtain ⟨b, off, x, ea, hxj, hcj⟩ := h1.at_ hj
        injection ea with ea
        subst ea
        have := hcell j (by omega)
        rw [add_plain, hcj] at this
        injection this with this
        injection this with this
        rw [hxj, List.getElem?_map, List.getElem?_take, if_pos hj, List.getElem?_eq_getElem (by omega)]
        rw [List.getD, List.getElem?_eq_getElem (by omega)] at this
        simp only [Option.getD_some] at this
        rw [Option.map_some, ← this]
      · rw [List.getElem?_eq_none (by omega), List.getElem?_eq_none (by rw [List.length_map, List.length_take]; omega)]
    rw [hxx]
    injection hx with hx1 hx2
    rw [hx1] at hw
    intro x hx
    rw [List.mem_map] at hx
    obtain ⟨s, hs, rfl⟩ := hx
    have := hw s.data.toList.length (by
      unfold DataW.weights
      rw [ht]
      exact List.mem_cons_of_mem _ (List.mem_append_left _ (weights_strs e _ s hs)))
    unfold reachBytes at this
    exact this
end Go.Proofs.YthhadjnffeadfaaGreatDoor
