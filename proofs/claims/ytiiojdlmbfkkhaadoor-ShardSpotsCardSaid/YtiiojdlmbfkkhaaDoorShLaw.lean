/-
  shard's statements: what their helpers answer.
-/
import Derived.Test.YtiiojdlmbfkkhaaDoorShRef2
set_option linter.unusedSimpArgs false
set_option linter.unusedVariables false
namespace Go.Proofs.YtiiojdlmbfkkhaaDoor
open Go.RowKit

theorem sameInts_eq (A : Option Addr) (n c : Nat) (xs : List Int) (B : Option Addr) (m d : Nat) (ys : List Int) (b : Bool) (w : World) (h1 : Ints w A n xs) (h2 : Ints w B m ys) (hn : n ≤ 1000000000) (h : (xs == ys) = b) :
    Calls Tryd.prog 20 #[.slice A n c, .slice B m d] w fun e w' => e = .returned (.bool b) ∧ Below w.heap.size w w' := by
  have l1 := h1.len
  have l2 := h2.len
  by_cases hnm : n = m
  · subst hnm
    have HB0 : Hid (∀ (k : Nat) (x y : Int), xs[k]? = some x → ys[k]? = some y → (x == y) = false → b = false) := by
      intro k x y hx hy hne
      rw [← h, beq_eq_false_iff_ne]
      rintro rfl
      rw [hx] at hy
      cases hy
      simp at hne
    have HB1 : Hid ((∀ k : Nat, k < n → xs[k]? = ys[k]?) → b = true) := by
      intro he
      rw [← h, beq_iff_eq]
      apply List.ext_getElem?
      intro i
      by_cases hi : i < n
      · exact he i hi
      · rw [List.getElem?_eq_none (by omega), List.getElem?_eq_none (by omega)]
    clear h l1 l2
    have H1 := Lib.hid h1
    have H2 := Lib.hid h2
    clear h1 h2
    go_enter Tryd.func20, Tryd.ntmps20
    go_wp2_with fail
    go_loopw [5] (fun i wr => ∃ k : Nat, i = .int .i64 k ∧ k ≤ n ∧ Below w.heap.size w wr ∧ Hid (∀ j : Nat, j < k → xs[j]? = ys[j]?)) (fun i _ => n - (intOf i).toNat)
    case atStart => exact ⟨0, rfl, by omega, Below.refl _ _, fun j hj => by omega⟩
    case round =>
      obtain ⟨k, rfl, hk, hb, hc⟩ := hrel
      by_cases hlt : k < n
      · obtain ⟨b1, o1, x, rfl, hx, hcx⟩ := (H1.out.below hb).at_ hlt
        obtain ⟨b2, o2, y, rfl, hy, hcy⟩ := (H2.out.below hb).at_ hlt
        cases hxy : x == y with
        | false =>
          have HN := Lib.hid (HB0.out k x y hx hy hxy)
          have hxn : (x != y) = true := by rw [bne, hxy]; rfl
          clear hx hy
          go_wp2_with fail
          go_quiet (fail)
          go_wp2_with fail
          go_ret
          exact ⟨by rw [HN.out]; rfl, below_drewN hb _⟩
        | true =>
          have HN : Hid (∀ j : Nat, j < k + 1 → xs[j]? = ys[j]?) := by
            intro j hj
            by_cases hjk : j = k
            · subst hjk; rw [hx, hy]; simpa using hxy
            · exact hc.out j (by omega)
          have hxn : (x != y) = false := by rw [bne, hxy]; rfl
          clear hx hy
          go_wp2_with fail
          go_quiet (fail)
          have hb9 : Below w.heap.size w (wr.drewN nq) := below_drewN hb _
          generalize wr.drewN nq = w9 at hb9 ⊢
          go_wp2_with fail
          go_roundw
          case rel => exact ⟨k + 1, by go_num, by omega, hb9, HN.out⟩
          case measure => simp [intOf]; omega
      · have HN : Hid (b = true) := HB1.out (fun j hj => hc.out j (by omega))
        go_wp2_with fail
        go_ret
        exact ⟨by rw [HN.out]; rfl, hb⟩
  · have HB : Hid (b = false) := by
      show _ = _
      rw [← h, beq_eq_false_iff_ne]
      rintro rfl
      exact hnm (by omega)
    have hne : ((n : Int) == (m : Int)) = false := beq_eq_false_iff_ne.2 (by omega)
    have hne2 : ((n : Int) != (m : Int)) = true := by rw [bne, hne]; rfl
    clear h hnm l1 l2 h1 h2
    go_enter Tryd.func20, Tryd.ntmps20
    go_wp2_with fail
    go_ret
    exact ⟨by rw [HB.out]; rfl, Below.refl _ _⟩
theorem hasI_eq (A : Option Addr) (n c : Nat) (xs : List Int) (v : Int) (b : Bool) (w : World) (h1 : Ints w A n xs) (hn : n ≤ 1000000000) (h : xs.contains v = b) :
    Calls Tryd.prog 25 #[.slice A n c, .int .i64 v] w fun e w' => e = .returned (.bool b) ∧ w = w' := by
  have HB0 : Hid (∀ (k : Nat) (x : Int), xs[k]? = some x → (x == v) = true → b = true) := by
    intro k x hx he
    have : x = v := by simpa using he
    subst this
    rw [← h, List.contains_iff_mem]
    exact List.mem_of_getElem? hx
  have l1 := Lib.hid h1.len
  have HB1 : Hid ((∀ (k : Nat) (x : Int), k < n → xs[k]? = some x → (x == v) = false) → b = false) := by
    intro he
    rw [← h, Bool.eq_false_iff]
    intro hc
    rw [List.contains_iff_mem] at hc
    obtain ⟨i, hi, e⟩ := List.mem_iff_getElem.1 hc
    have := he i v (by rw [← l1.out]; exact hi) (by rw [List.getElem?_eq_getElem hi, e])
    simp at this
  clear h
  have H1 := Lib.hid h1
  clear h1
  go_enter Tryd.func25, Tryd.ntmps25
  go_wp2_with fail
  go_loop [5] (fun i => ∃ k : Nat, i = .int .i64 k ∧ k ≤ n ∧ Hid (∀ (j : Nat) (x : Int), j < k → xs[j]? = some x → (x == v) = false)) (fun i => n - (intOf i).toNat)
  case atStart => exact ⟨0, rfl, by omega, fun j x hj => by omega⟩
  case round =>
    obtain ⟨k, rfl, hk, hc⟩ := hrel
    by_cases hlt : k < n
    · obtain ⟨b1, o1, x, rfl, hx, hcx⟩ := H1.out.at_ hlt
      cases hxy : x == v with
      | true =>
        have HN := Lib.hid (HB0.out k x hx hxy)
        clear hx
        go_wp2_with fail
        go_ret
        exact ⟨by rw [HN.out]; rfl, rfl⟩
      | false =>
        have HN : Hid (∀ (j : Nat) (y : Int), j < k + 1 → xs[j]? = some y → (y == v) = false) := by
          intro j y hj hy
          by_cases hjk : j = k
          · subst hjk; rw [hx] at hy; cases hy; exact hxy
          · exact hc.out j y (by omega) hy
        clear hx
        go_wp2_with fail
        go_round
        case rel => exact ⟨k + 1, by go_num, by omega, HN.out⟩
        case measure => simp [intOf]; omega
    · have HN : Hid (b = false) := HB1.out (fun j x hj => hc.out j x (by omega))
      go_wp2_with fail
      go_ret
      exact ⟨by rw [HN.out]; rfl, rfl⟩
theorem awake8_any (w : World) (hG : Glo w) :
    Calls Tryd.prog 10 #[] w fun e w' => e = .returned (.bool true) ∧ Below w.heap.size w w' := by
  have HG := Lib.hid hG
  have hb : Below w.heap.size w w := Below.refl _ _
  clear hG
  go_enter Tryd.func10, Tryd.ntmps10
  go_wp2_with fail
  refine (shHash_eq _ 2 2 [[102, 111, 111], [98, 97, 114]] 9625390261332436968 _ (strs_new2 _ _ _ _) (by omega) (by intro x hx; simp at hx; rcases hx with rfl | rfl <;> simp) (by decide +kernel)).mono ?_
  rintro e w1 ⟨rfl, rfl⟩
  replace hb := below_alloc hb (.cells #[.string ⟨#[102, 111, 111]⟩, .string ⟨#[98, 97, 114]⟩] 9)
  go_wp2_with fail
  refine (home_eq [98] 64 37 _ (by decide) (by decide +kernel)).mono ?_
  rintro e w1 ⟨rfl, hb1⟩
  replace hb := below_more hb hb1
  clear hb1
  go_wp2_with fail
  refine (hub_eq [47, 120] 4 1 _ (HG.out.below hb) (by decide) (by decide +kernel)).mono ?_
  rintro e w1 ⟨rfl, hb1⟩
  replace hb := below_more hb hb1
  clear hb1
  go_wp2_with fail
  refine (hubs_eq [43, 47, 97] 3 [0, 1, 2] _ (HG.out.below hb) (by decide) (by decide +kernel)).mono ?_
  rintro e w4 ⟨A, c, rfl, hs, hc, hb2⟩
  replace hb := below_more hb hb2
  clear hb2
  go_wp2_with fail
  go_ret
  exact ⟨rfl, hb⟩
def longX (l : List UInt8) : Bool := decide (3000 < l.length) && decide (l.length < 65530) || decide (65550 < l.length)
theorem longX_no (l : List UInt8) (h : l.length ≤ 2000) : longX l = false := by
  unfold longX
  rw [decide_eq_false (show ¬ 3000 < l.length by omega), decide_eq_false (show ¬ 65550 < l.length by omega)]; rfl
theorem longAny_eq (A : Option Addr) (n c : Nat) (xs : List (List UInt8)) (w : World) (hs : Strs w A n xs) (hn : n ≤ 9223372036854775807) (hm : Hid (∀ x ∈ xs, x.length ≤ 9223372036854775807)) :
    Calls Tryd.prog 9 #[.slice A n c] w fun e w' => e = .returned (.bool (xs.any longX)) ∧ w = w' := by
  have l1 := Lib.hid hs.len
  have HB0 : Hid (∀ (k : Nat) (x : List UInt8), xs[k]? = some x → longX x = true → xs.any longX = true) := by
    intro k x hx he
    exact List.any_eq_true.2 ⟨x, List.mem_of_getElem? hx, he⟩
  have HB1 : Hid ((∀ (k : Nat) (x : List UInt8), k < n → xs[k]? = some x → longX x = false) → xs.any longX = false) := by
    intro he
    rw [List.any_eq_false]
    intro x hx
    obtain ⟨i, hi, e⟩ := List.mem_iff_getElem.1 hx
    have := he i x (by rw [← l1.out]; exact hi) (by rw [List.getElem?_eq_getElem hi, e])
    simp [this]
  obtain ⟨b, hb⟩ : ∃ b, xs.any longX = b := ⟨_, rfl⟩
  rw [hb] at HB0 HB1 ⊢
  clear hb
  have H1 := Lib.hid hs
  clear hs
  go_enter Tryd.func9, Tryd.ntmps9
  go_wp2_with fail
  go_loop [3] (fun i => ∃ k : Nat, i = .int .i64 k ∧ k ≤ n ∧ Hid (∀ (j : Nat) (x : List UInt8), j < k → xs[j]? = some x → longX x = false)) (fun i => n - (intOf i).toNat)
  case atStart => exact ⟨0, rfl, by omega, fun j x hj => by omega⟩
  case round =>
    obtain ⟨k, rfl, hk, hc⟩ := hrel
    by_cases hlt : k < n
    · obtain ⟨b1, o1, l, rfl, hx, hcx⟩ := H1.out.at_ hlt
      have hl := hm.out l (List.mem_of_getElem? hx)
      have HN1 := Lib.hid (HB0.out k l hx)
      have HN2 : Hid (longX l = false → ∀ (j : Nat) (y : List UInt8), j < k + 1 → xs[j]? = some y → longX y = false) := by
        intro h0 j y hj hy
        by_cases hjk : j = k
        · subst hjk; rw [hx] at hy; cases hy; exact h0
        · exact hc.out j y (by omega) hy
      clear hx
      by_cases h1 : 3000 < l.length
      · by_cases h2 : l.length < 65530
        · have HN : Hid (b = true) := HN1.out (by rw [longX, decide_eq_true h1, decide_eq_true h2]; rfl)
          have i1 : (3000 : Int) < (l.length : Int) := by omega
          have i2 : (l.length : Int) < 65530 := by omega
          go_wp2_with fail
          go_ret
          exact ⟨by rw [HN.out]; rfl, rfl⟩
        · have i1 : (3000 : Int) < (l.length : Int) := by omega
          have i2 : ¬ (l.length : Int) < 65530 := by omega
          by_cases h3 : 65550 < l.length
          · have HN : Hid (b = true) := HN1.out (by rw [longX, decide_eq_true h3]; simp)
            have i3 : (65550 : Int) < (l.length : Int) := by omega
            go_wp2_with fail
            go_ret
            exact ⟨by rw [HN.out]; rfl, rfl⟩
          · have HN := Lib.hid (HN2.out (by rw [longX, decide_eq_false h2, decide_eq_false h3]; simp))
            have i3 : ¬ (65550 : Int) < (l.length : Int) := by omega
            go_wp2_with fail
            go_round
            case rel => exact ⟨k + 1, by go_num, by omega, HN.out⟩
            case measure => simp [intOf]; omega
      · have i1 : ¬ (3000 : Int) < (l.length : Int) := by omega
        have h3 : ¬ 65550 < l.length := by omega
        have i3 : ¬ (65550 : Int) < (l.length : Int) := by omega
        have HN := Lib.hid (HN2.out (by rw [longX, decide_eq_false h1, decide_eq_false h3]; simp))
        go_wp2_with fail
        go_round
        case rel => exact ⟨k + 1, by go_num, by omega, HN.out⟩
        case measure => simp [intOf]; omega
    · have HN : Hid (b = false) := HB1.out (fun j x hj => hc.out j x (by omega))
      go_wp2_with fail
      go_ret
      exact ⟨by rw [HN.out]; rfl, rfl⟩
theorem joined_eq (A : Option Addr) (n c : Nat) (xs : List (List UInt8)) (v : List UInt8) (w : World) (hs : Strs w A n xs) (hn : n ≤ 50) (hm : Hid (∀ x ∈ xs, x.length ≤ 2000)) (h : xs.flatten = v) :
    Calls Tryd.prog 13 #[.slice A n c] w fun e w' => e = .returned (.string ⟨v.toArray⟩) ∧ w = w' := by
  have HL := Lib.hid hs.len
  have H := Lib.hid h
  clear h
  go_enter Tryd.func13, Tryd.ntmps13
  go_wp2_with fail
  go_loop [3, 4] (fun s i => ∃ (k : Nat) (acc : List UInt8), i = .int .i64 k ∧ s = .string ⟨acc.toArray⟩ ∧ k ≤ n ∧ acc.length ≤ 2000 * k ∧ Hid (acc = (xs.take k).flatten)) (fun _ i => n - (intOf i).toNat)
  case atStart => exact ⟨0, [], rfl, rfl, by omega, by simp, by show _ = _; rw [List.take_zero]; rfl⟩
  case round =>
    obtain ⟨k, acc, rfl, rfl, hk, hal, hc⟩ := hrel
    by_cases hlt : k < n
    · obtain ⟨b1, o1, x, rfl, hx, hcx⟩ := hs.at_ hlt
      have hxl := hm.out x (List.mem_of_getElem? hx)
      have HN : Hid (acc ++ x = (xs.take (k + 1)).flatten) := by show _ = _; rw [flat_take xs k x hx, ← hc.out]
      have had : ∀ W, (Op.stringOp .add ⟨acc.toArray⟩ ⟨x.toArray⟩).run Tryd.prog W = .ok (.string ⟨(acc ++ x).toArray⟩) W := by
        intro W; exact add_str W acc x (by omega)
      have hal2 : (acc ++ x).length ≤ 2000 * (k + 1) := by rw [List.length_append]; omega
      obtain ⟨S, hS⟩ : ∃ S, acc ++ x = S := ⟨_, rfl⟩
      rw [hS] at HN had hal2
      clear hx hS
      go_wp2_with fail
      go_round
      case rel => exact ⟨k + 1, S, by go_num, rfl, by omega, hal2, HN.out⟩
      case measure => simp [intOf]; omega
    · have HN : Hid (acc = v) := by show _ = _; rw [hc.out, List.take_of_length_le (by rw [HL.out]; omega)]; exact H.out
      go_wp2_with fail
      go_ret
      exact ⟨by rw [HN.out]; rfl, rfl⟩
end Go.Proofs.YtiiojdlmbfkkhaaDoor
