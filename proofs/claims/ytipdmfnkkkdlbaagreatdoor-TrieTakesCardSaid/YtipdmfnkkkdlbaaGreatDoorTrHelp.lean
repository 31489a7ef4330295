/-
  trie's statements: what their helpers answer, but those that touch a trie.
-/
import Derived.Test.YtipdmfnkkkdlbaaGreatDoorTrActs
set_option linter.unusedSimpArgs false
set_option linter.unusedVariables false
namespace Go.Proofs.YtipdmfnkkkdlbaaGreatDoor
open Go.RowKit

/-- Few and small enough. -/
def AcsOk (l : List Ac) : Prop := l.length ≤ 60 ∧ ∀ x ∈ l, x.f.length ≤ 300 ∧ x.c.length ≤ 300 ∧ x.nm.length ≤ 300
def G9 (l : List Ac) (e : Ending) (w w' : World) : Prop := ∃ b, e = .returned (.bool b) ∧ (b = false → AcsOk l) ∧ w = w'
theorem great9_any (A : Option Addr) (n c : Nat) (l : List Ac) (w : World) (hs : Acts w A n l) (hn : n ≤ 9223372036854775807) (hi : Hid (∀ x ∈ l, AcIn x)) :
    Calls Tryz.prog 9 #[.slice A n c] w fun e w' => G9 l e w w' := by
  have HL := Lib.hid hs.len
  have HS := Lib.hid hs
  clear hs
  go_enter Tryz.func9, Tryz.ntmps9
  go_wp2_with fail
  go_loop [3] (fun i => ∃ k : Nat, i = .int .i64 k ∧ k ≤ n ∧ Hid (∀ (j : Nat) (x : Ac), j < k → l[j]? = some x → x.f.length ≤ 300 ∧ x.c.length ≤ 300 ∧ x.nm.length ≤ 300)) (fun i => n - (intOf i).toNat)
  case atStart => exact ⟨0, rfl, by omega, fun j x hj => by omega⟩
  case round =>
    obtain ⟨k, rfl, hk, hc⟩ := hrel
    by_cases hlt : k < n
    · obtain ⟨b1, o1, x, rfl, hx, c0, c1, c2, c3⟩ := HS.out.at_ hlt
      obtain ⟨_, _, hf, hcl, hnm⟩ := hi.out x (List.mem_of_getElem? hx)
      obtain ⟨d, xf, xc, xn⟩ := x
      have HX := Lib.hid hx
      dsimp only at hf hcl hnm c0 c1 c2 c3
      clear hx
      by_cases h1 : 300 < xf.length
      · have i1 : (300 : Int) < (xf.length : Int) := by omega
        go_wp2_with fail
        go_ret
        exact ⟨true, rfl, (fun h => by cases h), rfl⟩
      · have i1 : ¬ (300 : Int) < (xf.length : Int) := by omega
        by_cases h2 : 300 < xc.length
        · have i2 : (300 : Int) < (xc.length : Int) := by omega
          go_wp2_with fail
          go_ret
          exact ⟨true, rfl, (fun h => by cases h), rfl⟩
        · have i2 : ¬ (300 : Int) < (xc.length : Int) := by omega
          by_cases h3 : 300 < xn.length
          · have i3 : (300 : Int) < (xn.length : Int) := by omega
            go_wp2_with fail
            go_ret
            exact ⟨true, rfl, (fun h => by cases h), rfl⟩
          · have i3 : ¬ (300 : Int) < (xn.length : Int) := by omega
            have HN : Hid (∀ (j : Nat) (y : Ac), j < k + 1 → l[j]? = some y → y.f.length ≤ 300 ∧ y.c.length ≤ 300 ∧ y.nm.length ≤ 300) := by
              intro j y hj hy
              by_cases hjk : j = k
              · subst hjk; rw [HX.out] at hy; cases hy
                exact ⟨by show xf.length ≤ 300; omega, by show xc.length ≤ 300; omega, by show xn.length ≤ 300; omega⟩
              · exact hc.out j y (by omega) hy
            go_wp2_with fail
            go_round
            case rel => exact ⟨k + 1, by go_num, by omega, HN⟩
            case measure => simp [intOf]; omega
    · have HA : Hid (∀ x ∈ l, x.f.length ≤ 300 ∧ x.c.length ≤ 300 ∧ x.nm.length ≤ 300) := by
        intro x hx
        obtain ⟨j, hj, e⟩ := List.mem_iff_getElem.1 hx
        exact hc.out j x (by rw [HL.out] at hj; omega) (by rw [List.getElem?_eq_getElem hj, e])
      by_cases h6 : 60 < n
      · have i6 : (60 : Int) < (n : Int) := by omega
        go_wp2_with fail
        go_ret
        exact ⟨true, by simp, fun h => (by cases h), rfl⟩
      · have i6 : ¬ (60 : Int) < (n : Int) := by omega
        go_wp2_with fail
        go_ret
        exact ⟨false, by simp, fun _ => ⟨by rw [HL.out]; omega, HA.out⟩, rfl⟩
theorem sameHints_eq (A : Option Addr) (n c : Nat) (xs : List Hn) (B : Option Addr) (m d : Nat) (ys : List Hn) (b : Bool) (w : World) (h1 : Hnts w A n xs) (h2 : Hnts w B m ys) (hn : n ≤ 1000000000) (h : (xs == ys) = b) :
    Calls Tryz.prog 13 #[.slice A n c, .slice B m d] w fun e w' => e = .returned (.bool b) ∧ Below w.heap.size w w' := by
  have l1 := h1.len
  have l2 := h2.len
  by_cases hnm : n = m
  · subst hnm
    have HB0 : Hid (∀ (k : Nat) (x y : Hn), xs[k]? = some x → ys[k]? = some y → x ≠ y → b = false) := by
      intro k x y hx hy hne
      rw [← h, beq_eq_false_iff_ne]
      rintro rfl
      rw [hx] at hy
      cases hy
      exact hne rfl
    have HB1 : Hid ((∀ k : Nat, k < n → xs[k]? = ys[k]?) → b = true) := by
      intro he
      rw [← h, beq_iff_eq]
      apply List.ext_getElem?
      intro i
      by_cases hi : i < n
      · exact he i hi
      · rw [List.getElem?_eq_none (by omega), List.getElem?_eq_none (by omega)]
    clear h l1 l2
    have H1 := Lib.hid h1
    have H2 := Lib.hid h2
    clear h1 h2
    go_enter Tryz.func13, Tryz.ntmps13
    go_wp2_with fail
    go_loopw [5] (fun i wr => ∃ k : Nat, i = .int .i64 k ∧ k ≤ n ∧ Below w.heap.size w wr ∧ Hid (∀ j : Nat, j < k → xs[j]? = ys[j]?)) (fun i _ => n - (intOf i).toNat)
    case atStart => exact ⟨0, rfl, by omega, Below.refl _ _, fun j hj => by omega⟩
    case round =>
      obtain ⟨k, rfl, hk, hb, hc⟩ := hrel
      by_cases hlt : k < n
      · obtain ⟨b1, o1, x, rfl, hx, hcx1, hcx2⟩ := (H1.out.below hb).at_ hlt
        obtain ⟨b2, o2, y, rfl, hy, hcy1, hcy2⟩ := (H2.out.below hb).at_ hlt
        obtain ⟨x1, x2⟩ := x
        obtain ⟨y1, y2⟩ := y
        cases hxy : (x1 == y1 && x2 == y2) with
        | false =>
          have HN := Lib.hid (HB0.out k _ _ hx hy (by intro e; cases e; simp at hxy))
          clear hx hy
          go_wp2_with fail
          go_quiet (fail)
          go_wp2_with fail
          go_ret
          exact ⟨by rw [HN.out]; rfl, below_drewN hb _⟩
        | true =>
          have HN : Hid (∀ j : Nat, j < k + 1 → xs[j]? = ys[j]?) := by
            intro j hj
            by_cases hjk : j = k
            · subst hjk; rw [hx, hy]; simp at hxy; rw [hxy.1, hxy.2]
            · exact hc.out j (by omega)
          clear hx hy
          go_wp2_with fail
          go_quiet (fail)
          have hb9 : Below w.heap.size w (wr.drewN nq) := below_drewN hb _
          generalize wr.drewN nq = w9 at hb9 ⊢
          go_wp2_with fail
          go_roundw
          case rel => exact ⟨k + 1, by go_num, by omega, hb9, HN.out⟩
          case measure => simp [intOf]; omega
      · have HN : Hid (b = true) := HB1.out (fun j hj => hc.out j (by omega))
        go_wp2_with fail
        go_ret
        exact ⟨by rw [HN.out]; rfl, hb⟩
  · have HB : Hid (b = false) := by
      show _ = _
      rw [← h, beq_eq_false_iff_ne]
      rintro rfl
      exact hnm (by omega)
    have hne : ((n : Int) == (m : Int)) = false := beq_eq_false_iff_ne.2 (by omega)
    have hne2 : ((n : Int) != (m : Int)) = true := by rw [bne, hne]; rfl
    clear h hnm l1 l2 h1 h2
    go_enter Tryz.func13, Tryz.ntmps13
    go_wp2_with fail
    go_ret
    exact ⟨by rw [HB.out]; rfl, Below.refl _ _⟩
theorem hasT_eq (A : Option Addr) (n c : Nat) (xs : List (List UInt8)) (v : List UInt8) (b : Bool) (w : World) (h1 : Strs w A n xs) (hn : n ≤ 1000000000) (h : xs.contains v = b) :
    Calls Tryz.prog 26 #[.slice A n c, .string ⟨v.toArray⟩] w fun e w' => e = .returned (.bool b) ∧ w = w' := by
  have HB0 : Hid (∀ (k : Nat) (x : List UInt8), xs[k]? = some x → (x == v) = true → b = true) := by
    intro k x hx he
    have : x = v := by simpa using he
    subst this
    rw [← h, List.contains_iff_mem]
    exact List.mem_of_getElem? hx
  have l1 := Lib.hid h1.len
  have HB1 : Hid ((∀ (k : Nat) (x : List UInt8), k < n → xs[k]? = some x → (x == v) = false) → b = false) := by
    intro he
    rw [← h, Bool.eq_false_iff]
    intro hc
    rw [List.contains_iff_mem] at hc
    obtain ⟨i, hi, e⟩ := List.mem_iff_getElem.1 hc
    have := he i v (by rw [← l1.out]; exact hi) (by rw [List.getElem?_eq_getElem hi, e])
    simp at this
  clear h
  have H1 := Lib.hid h1
  clear h1
  go_enter Tryz.func26, Tryz.ntmps26
  go_wp2_with fail
  go_loop [5] (fun i => ∃ k : Nat, i = .int .i64 k ∧ k ≤ n ∧ Hid (∀ (j : Nat) (x : List UInt8), j < k → xs[j]? = some x → (x == v) = false)) (fun i => n - (intOf i).toNat)
  case atStart => exact ⟨0, rfl, by omega, fun j x hj => by omega⟩
  case round =>
    obtain ⟨k, rfl, hk, hc⟩ := hrel
    by_cases hlt : k < n
    · obtain ⟨b1, o1, x, rfl, hx, hcx⟩ := H1.out.at_ hlt
      cases hxy : x == v with
      | true =>
        have HN := Lib.hid (HB0.out k x hx hxy)
        clear hx
        go_wp2_with fail
        go_ret
        exact ⟨by rw [HN.out]; rfl, rfl⟩
      | false =>
        have HN : Hid (∀ (j : Nat) (y : List UInt8), j < k + 1 → xs[j]? = some y → (y == v) = false) := by
          intro j y hj hy
          by_cases hjk : j = k
          · subst hjk; rw [hx] at hy; cases hy; exact hxy
          · exact hc.out j y (by omega) hy
        clear hx
        go_wp2_with fail
        go_round
        case rel => exact ⟨k + 1, by go_num, by omega, HN.out⟩
        case measure => simp [intOf]; omega
    · have HN : Hid (b = false) := HB1.out (fun j x hj => hc.out j x (by omega))
      go_wp2_with fail
      go_ret
      exact ⟨by rw [HN.out]; rfl, rfl⟩
end Go.Proofs.YtipdmfnkkkdlbaaGreatDoor
