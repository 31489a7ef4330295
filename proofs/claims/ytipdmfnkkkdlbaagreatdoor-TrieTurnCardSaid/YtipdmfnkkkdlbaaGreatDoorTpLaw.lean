/-
  topic's statements: what their helpers answer.
-/
import Derived.Test.YtipdmfnkkkdlbaaGreatDoorTpRef3
set_option linter.unusedSimpArgs false
set_option linter.unusedVariables false
namespace Go.Proofs.YtipdmfnkkkdlbaaGreatDoor
open Go.RowKit

theorem sameTexts_eq (A : Option Addr) (n c : Nat) (xs : List (List UInt8)) (B : Option Addr) (m d : Nat) (ys : List (List UInt8)) (b : Bool) (w : World) (h1 : Strs w A n xs) (h2 : Strs w B m ys) (hn : n ≤ 1000000000) (h : (xs == ys) = b) :
    Calls Tryz.prog 16 #[.slice A n c, .slice B m d] w fun e w' => e = .returned (.bool b) ∧ Below w.heap.size w w' := by
  have l1 := h1.len
  have l2 := h2.len
  by_cases hnm : n = m
  · subst hnm
    have HB0 : Hid (∀ (k : Nat) (x y : List UInt8), xs[k]? = some x → ys[k]? = some y → (x == y) = false → b = false) := by
      intro k x y hx hy hne
      rw [← h, beq_eq_false_iff_ne]
      rintro rfl
      rw [hx] at hy
      cases hy
      simp at hne
    have HB1 : Hid ((∀ k : Nat, k < n → xs[k]? = ys[k]?) → b = true) := by
      intro he
      rw [← h, beq_iff_eq]
      apply List.ext_getElem?
      intro i
      by_cases hi : i < n
      · exact he i hi
      · rw [List.getElem?_eq_none (by omega), List.getElem?_eq_none (by omega)]
    clear h l1 l2
    have H1 := Lib.hid h1
    have H2 := Lib.hid h2
    clear h1 h2
    go_enter Tryz.func16, Tryz.ntmps16
    go_wp2_with fail
    go_loopw [5] (fun i wr => ∃ k : Nat, i = .int .i64 k ∧ k ≤ n ∧ Below w.heap.size w wr ∧ Hid (∀ j : Nat, j < k → xs[j]? = ys[j]?)) (fun i _ => n - (intOf i).toNat)
    case atStart => exact ⟨0, rfl, by omega, Below.refl _ _, fun j hj => by omega⟩
    case round =>
      obtain ⟨k, rfl, hk, hb, hc⟩ := hrel
      by_cases hlt : k < n
      · obtain ⟨b1, o1, x, rfl, hx, hcx⟩ := (H1.out.below hb).at_ hlt
        obtain ⟨b2, o2, y, rfl, hy, hcy⟩ := (H2.out.below hb).at_ hlt
        cases hxy : x == y with
        | false =>
          have HN := Lib.hid (HB0.out k x y hx hy hxy)
          clear hx hy
          go_wp2_with fail
          go_quiet (fail)
          go_wp2_with fail
          go_ret
          exact ⟨by rw [HN.out]; rfl, below_drewN hb _⟩
        | true =>
          have HN : Hid (∀ j : Nat, j < k + 1 → xs[j]? = ys[j]?) := by
            intro j hj
            by_cases hjk : j = k
            · subst hjk; rw [hx, hy]; simpa using hxy
            · exact hc.out j (by omega)
          clear hx hy
          go_wp2_with fail
          go_quiet (fail)
          have hb9 : Below w.heap.size w (wr.drewN nq) := below_drewN hb _
          generalize wr.drewN nq = w9 at hb9 ⊢
          go_wp2_with fail
          go_roundw
          case rel => exact ⟨k + 1, by go_num, by omega, hb9, HN.out⟩
          case measure => simp [intOf]; omega
      · have HN : Hid (b = true) := HB1.out (fun j hj => hc.out j (by omega))
        go_wp2_with fail
        go_ret
        exact ⟨by rw [HN.out]; rfl, hb⟩
  · have HB : Hid (b = false) := by
      show _ = _
      rw [← h, beq_eq_false_iff_ne]
      rintro rfl
      exact hnm (by omega)
    have hne : ((n : Int) == (m : Int)) = false := beq_eq_false_iff_ne.2 (by omega)
    have hne2 : ((n : Int) != (m : Int)) = true := by rw [bne, hne]; rfl
    clear h hnm l1 l2 h1 h2
    go_enter Tryz.func16, Tryz.ntmps16
    go_wp2_with fail
    go_ret
    exact ⟨by rw [HB.out]; rfl, Below.refl _ _⟩
def longB (l : List UInt8) : Bool := decide (3000 < l.length) && decide (l.length < 65530) || decide (65550 < l.length)
open Go.ChangeShapes Go.WideShapes in
theorem open_StrsC {P : Program} {H : Type} {enc : TypeId × Value → H} {t e : TypeId} {W : World} {base : Nat} {v : Value} {d : DataW H} {ps : List MemPlace} {sp : Nat → Bool} {hd : Bool} (ht : P.underlying t = some (.slice e)) (he : P.underlying e = some .string) (hc : P.cellsOf e = 1)
    (hok : Value.okWide P W .any base t v) (h : DataW.Trod enc P W 0 sp hd t v d ps) : ∃ A n c xs, v = .slice A n c ∧ Strs W A n xs ∧ n ≤ c ∧ n ≤ maxLen ∧ Hid (∀ x ∈ xs, x.length ≤ 9223372036854775807) := by
  obtain ⟨A, n, c, xs, rfl, h1, h2, h3, h4⟩ := open_Strs ht he hc hok h
  refine ⟨A, n, c, xs, rfl, h1, ?_, h3, h4⟩
  obtain ⟨fuel, hf⟩ := h
  rcases open_strings ht he hc hf with ⟨hcs, hx⟩ | ⟨a, len', cap', ss, hcs, _, hl, hm, hz, hx, hcell, hwz⟩
  · have e0 : Value.slice A n c = .slice none 0 0 := by simpa [Value.cells] using hcs
    injection e0 with e1 e2 e3
    omega
  · have e0 : Value.slice A n c = .slice (some a) len' cap' := by simpa [Value.cells] using hcs
    injection e0 with e1 e2 e3
    subst e1 e2 e3
    exact hl
theorem weights_strs {P : Program} {H : Type} (e : TypeId) : ∀ (ss : List ByteArray) (s : ByteArray), s ∈ ss → s.data.toList.length ∈ DataW.weightsAll (H := H) P e (ChangeShapes.strs ss)
  | [], s, h => by cases h
  | a :: r, s, h => by
    show _ ∈ DataW.weights P e (.lit (.string a.data.toList)) ++ DataW.weightsAll P e (ChangeShapes.strs r)
    rw [List.mem_append]
    rcases List.mem_cons.1 h with rfl | h
    · left; simp [DataW.weights]
    · right; exact weights_strs e r s h
open Go.ChangeShapes Go.WideShapes in
theorem open_StrsW {P : Program} {H : Type} {enc : TypeId × Value → H} {t e : TypeId} {W : World} {base : Nat} {v : Value} {d : DataW H} {ps : List MemPlace} {sp : Nat → Bool} {hd : Bool} (ht : P.underlying t = some (.slice e)) (he : P.underlying e = some .string) (hc : P.cellsOf e = 1)
    (hok : Value.okWide P W .any base t v) (h : DataW.Trod enc P W 0 sp hd t v d ps) (hw : ∀ n ∈ d.weights P t, n ≤ reachBytes) : ∃ A n c xs, v = .slice A n c ∧ Strs W A n xs ∧ n ≤ c ∧ n ≤ maxLen ∧ Hid (∀ x ∈ xs, x.length ≤ 140737488351232) := by
  obtain ⟨A, n, c, xs, rfl, h1, h2, h3, h4⟩ := open_StrsC ht he hc hok h
  refine ⟨A, n, c, xs, rfl, h1, h2, h3, ?_⟩
  obtain ⟨fuel, hf⟩ := h
  rcases open_strings ht he hc hf with ⟨hcs, hx⟩ | ⟨a, len', cap', ss, hcs, _, hl, hm, hz, hx, hcell, hwz⟩
  · have e0 : Value.slice A n c = .slice none 0 0 := by simpa [Value.cells] using hcs
    injection e0 with e1 e2 e3
    have hlen := h1.len
    have : xs = [] := List.eq_nil_of_length_eq_zero (by omega)
    subst this
    intro x hx; cases hx
  · have e0 : Value.slice A n c = .slice (some a) len' cap' := by simpa [Value.cells] using hcs
    injection e0 with e1 e2 e3
    subst e1 e2 e3
    have hxx : xs = (ss.take n).map fun s => s.data.toList := by
      have hlen := h1.len
      have hzl : n ≤ ss.length := by rw [hz]; split <;> omega
      apply List.ext_getElem?
      intro j
      by_cases hj : j < n
      · obtain ⟨b, off, x, ea, hxj, hcj⟩ := h1.at_ hj
        injection ea with ea
        subst ea
        have := hcell j (by omega)
        rw [add_plain, hcj] at this
        injection this with this
        injection this with this
        rw [hxj, List.getElem?_map, List.getElem?_take, if_pos hj, List.getElem?_eq_getElem (by omega)]
        rw [List.getD, List.getElem?_eq_getElem (by omega)] at this
        simp only [Option.getD_some] at this
        rw [Option.map_some, ← this]
      · rw [List.getElem?_eq_none (by omega), List.getElem?_eq_none (by rw [List.length_map, List.length_take]; omega)]
    rw [hxx]
    injection hx with hx1 hx2
    rw [hx1] at hw
    intro x hx
    rw [List.mem_map] at hx
    obtain ⟨s, hs, rfl⟩ := hx
    have := hw s.data.toList.length (by
      unfold DataW.weights
      rw [ht]
      exact List.mem_cons_of_mem _ (List.mem_append_left _ (weights_strs e _ s hs)))
    unfold reachBytes at this
    exact this
end Go.Proofs.YtipdmfnkkkdlbaaGreatDoor
