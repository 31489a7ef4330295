/-
  topic's statements: what their helpers answer.
-/
import Derived.Test.YtiiojdlmbfkkhaaDoorTpRef3
set_option linter.unusedSimpArgs false
set_option linter.unusedVariables false
namespace Go.Proofs.YtiiojdlmbfkkhaaDoor
open Go.RowKit

def longB (l : List UInt8) : Bool := decide (3000 < l.length) && decide (l.length < 65530) || decide (65550 < l.length)
theorem long1_eq (g c : Nat) (l : List UInt8) (b : Bool) (w : World) (hs : w.cell? ⟨g, 0, none⟩ = some (.string ⟨l.toArray⟩)) (hl : l.length ≤ 9223372036854775807) (h : longB l = b) :
    Calls Tryd.prog 9 #[.slice (some ⟨g, 0, none⟩) 1 c] w fun e w' => e = .returned (.bool b) ∧ w = w' := by
  have H := Lib.hid h
  clear h
  go_enter Tryd.func9, Tryd.ntmps9
  go_wp2_with fail
  go_loop [3] (fun i => ∃ k : Nat, i = .int .i64 k ∧ k ≤ 1 ∧ Hid (k = 1 → longB l = false)) (fun i => 1 - (intOf i).toNat)
  case atStart => exact ⟨0, rfl, by omega, fun h => by cases h⟩
  case round =>
    obtain ⟨k, rfl, hk, hc⟩ := hrel
    by_cases hlt : k < 1
    · obtain rfl : k = 0 := by omega
      clear hc
      by_cases h1 : 3000 < l.length
      · by_cases h2 : l.length < 65530
        · have HN : Hid (b = true) := by show _ = _; rw [← H.out, longB, decide_eq_true h1, decide_eq_true h2]; rfl
          have i1 : (3000 : Int) < (l.length : Int) := by omega
          have i2 : (l.length : Int) < 65530 := by omega
          go_wp2_with fail
          go_ret
          exact ⟨by rw [HN.out]; rfl, rfl⟩
        · have i1 : (3000 : Int) < (l.length : Int) := by omega
          have i2 : ¬ (l.length : Int) < 65530 := by omega
          by_cases h3 : 65550 < l.length
          · have HN : Hid (b = true) := by show _ = _; rw [← H.out, longB, decide_eq_true h3]; simp
            have i3 : (65550 : Int) < (l.length : Int) := by omega
            go_wp2_with fail
            go_ret
            exact ⟨by rw [HN.out]; rfl, rfl⟩
          · have HN : Hid (longB l = false) := by show _ = _; rw [longB, decide_eq_false h2, decide_eq_false h3]; simp
            have i3 : ¬ (65550 : Int) < (l.length : Int) := by omega
            go_wp2_with fail
            go_round
            case rel => exact ⟨1, by go_num, by omega, fun _ => HN.out⟩
            case measure => simp [intOf]
      · have i1 : ¬ (3000 : Int) < (l.length : Int) := by omega
        have h3 : ¬ 65550 < l.length := by omega
        have i3 : ¬ (65550 : Int) < (l.length : Int) := by omega
        have HN : Hid (longB l = false) := by show _ = _; rw [longB, decide_eq_false h1, decide_eq_false h3]; simp
        go_wp2_with fail
        go_round
        case rel => exact ⟨1, by go_num, by omega, fun _ => HN.out⟩
        case measure => simp [intOf]
    · have HN : Hid (b = false) := by show _ = _; rw [← H.out]; exact hc.out (by omega)
      go_wp2_with fail
      go_ret
      exact ⟨by rw [HN.out]; rfl, rfl⟩
open Go.ChangeShapes Go.WideShapes in
theorem open_StrsC {P : Program} {H : Type} {enc : TypeId × Value → H} {t e : TypeId} {W : World} {base : Nat} {v : Value} {d : DataW H} {ps : List MemPlace} {sp : Nat → Bool} {hd : Bool} (ht : P.underlying t = some (.slice e)) (he : P.underlying e = some .string) (hc : P.cellsOf e = 1)
    (hok : Value.okWide P W .any base t v) (h : DataW.Trod enc P W 0 sp hd t v d ps) : ∃ A n c xs, v = .slice A n c ∧ Strs W A n xs ∧ n ≤ c ∧ n ≤ maxLen ∧ Hid (∀ x ∈ xs, x.length ≤ 9223372036854775807) := by
  obtain ⟨A, n, c, xs, rfl, h1, h2, h3, h4⟩ := open_Strs ht he hc hok h
  refine ⟨A, n, c, xs, rfl, h1, ?_, h3, h4⟩
  obtain ⟨fuel, hf⟩ := h
  rcases open_strings ht he hc hf with ⟨hcs, hx⟩ | ⟨a, len', cap', ss, hcs, _, hl, hm, hz, hx, hcell, hwz⟩
  · have e0 : Value.slice A n c = .slice none 0 0 := by simpa [Value.cells] using hcs
    injection e0 with e1 e2 e3
    omega
  · have e0 : Value.slice A n c = .slice (some a) len' cap' := by simpa [Value.cells] using hcs
    injection e0 with e1 e2 e3
    subst e1 e2 e3
    exact hl
theorem weights_strs {P : Program} {H : Type} (e : TypeId) : ∀ (ss : List ByteArray) (s : ByteArray), s ∈ ss → s.data.toList.length ∈ DataW.weightsAll (H := H) P e (ChangeShapes.strs ss)
  | [], s, h => by cases h
  | a :: r, s, h => by
    show _ ∈ DataW.weights P e (.lit (.string a.data.toList)) ++ DataW.weightsAll P e (ChangeShapes.strs r)
    rw [List.mem_append]
    rcases List.mem_cons.1 h with rfl | h
    · left; simp [DataW.weights]
    · right; exact weights_strs e r s h
open Go.ChangeShapes Go.WideShapes in
theorem open_StrsW {P : Program} {H : Type} {enc : TypeId × Value → H} {t e : TypeId} {W : World} {base : Nat} {v : Value} {d : DataW H} {ps : List MemPlace} {sp : Nat → Bool} {hd : Bool} (ht : P.underlying t = some (.slice e)) (he : P.underlying e = some .string) (hc : P.cellsOf e = 1)
    (hok : Value.okWide P W .any base t v) (h : DataW.Trod enc P W 0 sp hd t v d ps) (hw : ∀ n ∈ d.weights P t, n ≤ reachBytes) : ∃ A n c xs, v = .slice A n c ∧ Strs W A n xs ∧ n ≤ c ∧ n ≤ maxLen ∧ Hid (∀ x ∈ xs, x.length ≤ 140737488351232) := by
  obtain ⟨A, n, c, xs, rfl, h1, h2, h3, h4⟩ := open_StrsC ht he hc hok h
  refine ⟨A, n, c, xs, rfl, h1, h2, h3, ?_⟩
  obtain ⟨fuel, hf⟩ := h
  rcases open_strings ht he hc hf with ⟨hcs, hx⟩ | ⟨a, len', cap', ss, hcs, _, hl, hm, hz, hx, hcell, hwz⟩
  · have e0 : Value.slice A n c = .slice none 0 0 := by simpa [Value.cells] using hcs
    injection e0 with e1 e2 e3
    have hlen := h1.len
    have : xs = [] := List.eq_nil_of_length_eq_zero (by omega)
    subst this
    intro x hx; cases hx
  · have e0 : Value.slice A n c = .slice (some a) len' cap' := by simpa [Value.cells] using hcs
    injection e0 with e1 e2 e3
    subst e1 e2 e3
    have hxx : xs = (ss.take n).map fun s => s.data.toList := by
      have hlen := h1.len
      have hzl : n ≤ ss.length := by rw [hz]; split <;> omega
      apply List.ext_getElem?
      intro j
      by_cases hj : j < n
      · obtain ⟨b, off, x, ea, hxj, hcj⟩ := h1.at_ hj
        injection ea with ea
        subst ea
        have := hcell j (by omega)
        rw [add_plain, hcj] at this
        injection this with this
        injection this with this
        rw [hxj, List.getElem?_map, List.getElem?_take, if_pos hj, List.getElem?_eq_getElem (by omega)]
        rw [List.getD, List.getElem?_eq_getElem (by omega)] at this
        simp only [Option.getD_some] at this
        rw [Option.map_some, ← this]
      · rw [List.getElem?_eq_none (by omega), List.getElem?_eq_none (by rw [List.length_map, List.length_take]; omega)]
    rw [hxx]
    injection hx with hx1 hx2
    rw [hx1] at hw
    intro x hx
    rw [List.mem_map] at hx
    obtain ⟨s, hs, rfl⟩ := hx
    have := hw s.data.toList.length (by
      unfold DataW.weights
      rw [ht]
      exact List.mem_cons_of_mem _ (List.mem_append_left _ (weights_strs e _ s hs)))
    unfold reachBytes at this
    exact this
end Go.Proofs.YtiiojdlmbfkkhaaDoor
