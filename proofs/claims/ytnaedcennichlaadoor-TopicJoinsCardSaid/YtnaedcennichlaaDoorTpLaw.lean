/-
  topic's statements: what their helpers answer.
-/
import Derived.Test.YtnaedcennichlaaDoorTpRef3
set_option linter.unusedSimpArgs false
set_option linter.unusedVariables false
namespace Go.Proofs.YtnaedcennichlaaDoor
open Go.RowKit

theorem sameTexts_eq (A : Option Addr) (n c : Nat) (xs : List (List UInt8)) (B : Option Addr) (m d : Nat) (ys : List (List UInt8)) (b : Bool) (w : World) (h1 : Strs w A n xs) (h2 : Strs w B m ys) (hn : n ≤ 1000000000) (h : (xs == ys) = b) :
    Calls Tryd.prog 14 #[.slice A n c, .slice B m d] w fun e w' => e = .returned (.bool b) ∧ Below w.heap.size w w' := by
  have l1 := h1.len
  have l2 := h2.len
  by_cases hnm : n = m
  · subst hnm
    have HB0 : Hid (∀ (k : Nat) (x y : List UInt8), xs[k]? = some x → ys[k]? = some y → (x == y) = false → b = false) := by
      intro k x y hx hy hne
      rw [← h, beq_eq_false_iff_ne]
      rintro rfl
      rw [hx] at hy
      cases hy
      simp at hne
    have HB1 : Hid ((∀ k : Nat, k < n → xs[k]? = ys[k]?) → b = true) := by
      intro he
      rw [← h, beq_iff_eq]
      apply List.ext_getElem?
      intro i
      by_cases hi : i < n
      · exact he i hi
      · rw [List.getElem?_eq_none (by omega), List.getElem?_eq_none (by omega)]
    clear h l1 l2
    have H1 := Lib.hid h1
    have H2 := Lib.hid h2
    clear h1 h2
    go_enter Tryd.func14, Tryd.ntmps14
    go_wp2_with fail
    go_loopw [5] (fun i wr => ∃ k : Nat, i = .int .i64 k ∧ k ≤ n ∧ Below w.heap.size w wr ∧ Hid (∀ j : Nat, j < k → xs[j]? = ys[j]?)) (fun i _ => n - (intOf i).toNat)
    case atStart => exact ⟨0, rfl, by omega, Below.refl _ _, fun j hj => by omega⟩
    case round =>
      obtain ⟨k, rfl, hk, hb, hc⟩ := hrel
      by_cases hlt : k < n
      · obtain ⟨b1, o1, x, rfl, hx, hcx⟩ := (H1.out.below hb).at_ hlt
        obtain ⟨b2, o2, y, rfl, hy, hcy⟩ := (H2.out.below hb).at_ hlt
        cases hxy : x == y with
        | false =>
          have HN := Lib.hid (HB0.out k x y hx hy hxy)
          clear hx hy
          go_wp2_with fail
          go_quiet (fail)
          go_wp2_with fail
          go_ret
          exact ⟨by rw [HN.out]; rfl, below_drewN hb _⟩
        | true =>
          have HN : Hid (∀ j : Nat, j < k + 1 → xs[j]? = ys[j]?) := by
            intro j hj
            by_cases hjk : j = k
            · subst hjk; rw [hx, hy]; simpa using hxy
            · exact hc.out j (by omega)
          clear hx hy
          go_wp2_with fail
          go_quiet (fail)
          have hb9 : Below w.heap.size w (wr.drewN nq) := below_drewN hb _
          generalize wr.drewN nq = w9 at hb9 ⊢
          go_wp2_with fail
          go_roundw
          case rel => exact ⟨k + 1, by go_num, by omega, hb9, HN.out⟩
          case measure => simp [intOf]; omega
      · have HN : Hid (b = true) := HB1.out (fun j hj => hc.out j (by omega))
        go_wp2_with fail
        go_ret
        exact ⟨by rw [HN.out]; rfl, hb⟩
  · have HB : Hid (b = false) := by
      show _ = _
      rw [← h, beq_eq_false_iff_ne]
      rintro rfl
      exact hnm (by omega)
    have hne : ((n : Int) == (m : Int)) = false := beq_eq_false_iff_ne.2 (by omega)
    have hne2 : ((n : Int) != (m : Int)) = true := by rw [bne, hne]; rfl
    clear h hnm l1 l2 h1 h2
    go_enter Tryd.func14, Tryd.ntmps14
    go_wp2_with fail
    go_ret
    exact ⟨by rw [HB.out]; rfl, Below.refl _ _⟩
def longB (l : List UInt8) : Bool := decide (3000 < l.length) && decide (l.length < 65530) || decide (65550 < l.length)
theorem long1_eq (g c : Nat) (l : List UInt8) (b : Bool) (w : World) (hs : w.cell? ⟨g, 0, none⟩ = some (.string ⟨l.toArray⟩)) (hl : l.length ≤ 9223372036854775807) (h : longB l = b) :
    Calls Tryd.prog 9 #[.slice (some ⟨g, 0, none⟩) 1 c] w fun e w' => e = .returned (.bool b) ∧ w = w' := by
  have H := Lib.hid h
  clear h
  go_enter Tryd.func9, Tryd.ntmps9
  go_wp2_with fail
  go_loop [3] (fun i => ∃ k : Nat, i = .int .i64 k ∧ k ≤ 1 ∧ Hid (k = 1 → longB l = false)) (fun i => 1 - (intOf i).toNat)
  case atStart => exact ⟨0, rfl, by omega, fun h => by cases h⟩
  case round =>
    obtain ⟨k, rfl, hk, hc⟩ := hrel
    by_cases hlt : k < 1
    · obtain rfl : k = 0 := by omega
      clear hc
      by_cases h1 : 3000 < l.length
      · by_cases h2 : l.length < 65530
        · have HN : Hid (b = true) := by show _ = _; rw [← H.out, longB, decide_eq_true h1, decide_eq_true h2]; rfl
          have i1 : (3000 : Int) < (l.length : Int) := by omega
          have i2 : (l.length : Int) < 65530 := by omega
          go_wp2_with fail
          go_ret
          exact ⟨by rw [HN.out]; rfl, rfl⟩
        · have i1 : (3000 : Int) < (l.length : Int) := by omega
          have i2 : ¬ (l.length : Int) < 65530 := by omega
          by_cases h3 : 65550 < l.length
          · have HN : Hid (b = true) := by show _ = _; rw [← H.out, longB, decide_eq_true h3]; simp
            have i3 : (65550 : Int) < (l.length : Int) := by omega
            go_wp2_with fail
            go_ret
            exact ⟨by rw [HN.out]; rfl, rfl⟩
          · have HN : Hid (longB l = false) := by show _ = _; rw [longB, decide_eq_false h2, decide_eq_false h3]; simp
            have i3 : ¬ (65550 : Int) < (l.length : Int) := by omega
            go_wp2_with fail
            go_round
            case rel => exact ⟨1, by go_num, by omega, fun _ => HN.out⟩
            case measure => simp [intOf]
      · have i1 : ¬ (3000 : Int) < (l.length : Int) := by omega
        have h3 : ¬ 65550 < l.length := by omega
        have i3 : ¬ (65550 : Int) < (l.length : Int) := by omega
        have HN : Hid (longB l = false) := by show _ = _; rw [longB, decide_eq_false h1, decide_eq_false h3]; simp
        go_wp2_with fail
        go_round
        case rel => exact ⟨1, by go_num, by omega, fun _ => HN.out⟩
        case measure => simp [intOf]
    · have HN : Hid (b = false) := by show _ = _; rw [← H.out]; exact hc.out (by omega)
      go_wp2_with fail
      go_ret
      exact ⟨by rw [HN.out]; rfl, rfl⟩
theorem awake7_any (w : World) (hG : Glo w) :
    Calls Tryd.prog 10 #[] w fun e w' => e = .returned (.bool true) ∧ Below w.heap.size w w' := by
  have HG := Lib.hid hG
  have hb : Below w.heap.size w w := Below.refl _ _
  clear hG
  go_enter Tryd.func10, Tryd.ntmps10
  go_wp2_with fail
  refine (tpMatch_eq [97, 47, 43, 47, 35] [97, 47, 98, 47, 99, 47, 100] true _ (HG.out.below hb) (by decide) (by decide) (by decide +kernel)).mono ?_
  rintro e w1 ⟨rfl, hb1⟩
  replace hb := below_more hb hb1
  clear hb1
  go_wp2_with fail
  refine (tpMatch_eq [97, 47, 43] [97] false _ (HG.out.below hb) (by decide) (by decide) (by decide +kernel)).mono ?_
  rintro e w1 ⟨rfl, hb1⟩
  replace hb := below_more hb hb1
  clear hb1
  go_wp2_with fail
  refine (tpFilter_eq [43, 47, 98] true _ (HG.out.below hb) (by decide) (by decide +kernel)).mono ?_
  rintro e w1 ⟨rfl, hb1⟩
  replace hb := below_more hb hb1
  clear hb1
  go_wp2_with fail
  refine (tpName_eq [43, 47, 98] false _ (by decide) (by decide +kernel)).mono ?_
  rintro e w1 ⟨rfl, hb1⟩
  replace hb := below_more hb hb1
  clear hb1
  go_wp2_with fail
  go_ret
  exact ⟨rfl, hb⟩
open Go.ChangeShapes Go.WideShapes in
theorem open_StrsC {P : Program} {H : Type} {enc : TypeId × Value → H} {t e : TypeId} {W : World} {base : Nat} {v : Value} {d : DataW H} {ps : List MemPlace} {sp : Nat → Bool} {hd : Bool} (ht : P.underlying t = some (.slice e)) (he : P.underlying e = some .string) (hc : P.cellsOf e = 1)
    (hok : Value.okWide P W .any base t v) (h : DataW.Trod enc P W 0 sp hd t v d ps) : ∃ A n c xs, v = .slice A n c ∧ Strs W A n xs ∧ n ≤ c ∧ n ≤ maxLen ∧ Hid (∀ x ∈ xs, x.length ≤ 9223372036854775807) := by
  obtain ⟨A, n, c, xs, rfl, h1, h2, h3, h4⟩ := open_Strs ht he hc hok h
  refine ⟨A, n, c, xs, rfl, h1, ?_, h3, h4⟩
  obtain ⟨fuel, hf⟩ := h
  rcases open_strings ht he hc hf with ⟨hcs, hx⟩ | ⟨a, len', cap', ss, hcs, _, hl, hm, hz, hx, hcell, hwz⟩
  · have e0 : Value.slice A n c = .slice none 0 0 := by simpa [Value.cells] using hcs
    injection e0 with e1 e2 e3
    omega
  · have e0 : Value.slice A n c = .slice (some a) len' cap' := by simpa [Value.cells] using hcs
    injection e0 with e1 e2 e3
    subst e1 e2 e3
    exact hl
theorem weights_strs {P : Program} {H : Type} (e : TypeId) : ∀ (ss : List ByteArray) (s : ByteArray), s ∈ ss → s.data.toList.length ∈ DataW.weightsAll (H := H) P e (ChangeShapes.strs ss)
  | [], s, h => by cases h
  | a :: r, s, h => by
    show _ ∈ DataW.weights P e (.lit (.string a.data.toList)) ++ DataW.weightsAll P e (ChangeShapes.strs r)
    rw [List.mem_append]
    rcases List.mem_cons.1 h with rfl | h
    · left; simp [DataW.weights]
    · right; exact weights_strs e r s h
open Go.ChangeShapes Go.WideShapes in
theorem open_StrsW {P : Program} {H : Type} {enc : TypeId × Value → H} {t e : TypeId} {W : World} {base : Nat} {v : Value} {d : DataW H} {ps : List MemPlace} {sp : Nat → Bool} {hd : Bool} (ht : P.underlying t = some (.slice e)) (he : P.underlying e = some .string) (hc : P.cellsOf e = 1)
    (hok : Value.okWide P W .any base t v) (h : DataW.Trod enc P W 0 sp hd t v d ps) (hw : ∀ n ∈ d.weights P t, n ≤ reachBytes) : ∃ A n c xs, v = .slice A n c ∧ Strs W A n xs ∧ n ≤ c ∧ n ≤ maxLen ∧ Hid (∀ x ∈ xs, x.length ≤ 140737488351232) := by
  obtain ⟨A, n, c, xs, rfl, h1, h2, h3, h4⟩ := open_StrsC ht he hc hok h
  refine ⟨A, n, c, xs, rfl, h1, h2, h3, ?_⟩
  obtain ⟨fuel, hf⟩ := h
  rcases open_strings ht he hc hf with ⟨hcs, hx⟩ | ⟨a, len', cap', ss, hcs, _, hl, hm, hz, hx, hcell, hwz⟩
  · have e0 : Value.slice A n c = .slice none 0 0 := by simpa [Value.cells] using hcs
    injection e0 with e1 e2 e3
    have hlen := h1.len
    have : xs = [] := List.eq_nil_of_length_eq_zero (by omega)
    subst this
    intro x hx; cases hx
  · have e0 : Value.slice A n c = .slice (some a) len' cap' := by simpa [Value.cells] using hcs
    injection e0 with e1 e2 e3
    subst e1 e2 e3
    have hxx : xs = (ss.take n).map fun s => s.data.toList := by
      have hlen := h1.len
      have hzl : n ≤ ss.length := by rw [hz]; split <;> omega
      apply List.ext_getElem?
      intro j
      by_cases hj : j < n
      · obtain ⟨b, off, x, ea, hxj, hcj⟩ := h1.at_ hj
        injection ea with ea
        subst ea
        have := hcell j (by omega)
        rw [add_plain, hcj] at this
        injection this with this
        injection this with this
        rw [hxj, List.getElem?_map, List.getElem?_take, if_pos hj, List.getElem?_eq_getElem (by omega)]
        rw [List.getD, List.getElem?_eq_getElem (by omega)] at this
        simp only [Option.getD_some] at this
        rw [Option.map_some, ← this]
      · rw [List.getElem?_eq_none (by omega), List.getElem?_eq_none (by rw [List.length_map, List.length_take]; omega)]
    rw [hxx]
    injection hx with hx1 hx2
    rw [hx1] at hw
    intro x hx
    rw [List.mem_map] at hx
    obtain ⟨s, hs, rfl⟩ := hx
    have := hw s.data.toList.length (by
      unfold DataW.weights
      rw [ht]
      exact List.mem_cons_of_mem _ (List.mem_append_left _ (weights_strs e _ s hs)))
    unfold reachBytes at this
    exact this
end Go.Proofs.YtnaedcennichlaaDoor
