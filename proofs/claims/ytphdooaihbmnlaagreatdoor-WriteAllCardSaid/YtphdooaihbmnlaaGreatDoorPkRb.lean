/-
  The document's own Filter.
-/
import Derived.Test.YtphdooaihbmnlaaGreatDoorPkRa
set_option linter.unusedSimpArgs false
set_option linter.unusedVariables false
namespace Go.Proofs.YtphdooaihbmnlaaGreatDoor
open Go.RowKit
def stB (l : List UInt8) : Nat → Bool
  | 0 => true
  | j + 1 => l[j]? == some 47
theorem scan_at (l : List UInt8) (k : Nat) (h : k < l.length) : scanB (stB l k) (l.drop k) = ((!isW l[k] || (stB l k && (decide (k + 1 = l.length) || (l[k] == 43 && l[k + 1]? == some 47)))) && scanB (stB l (k + 1)) (l.drop (k + 1))) := by
  rw [List.drop_eq_getElem_cons h, scanB]
  have h1 : (l.drop (k + 1)).isEmpty = decide (k + 1 = l.length) := by
    rw [Bool.eq_iff_iff]; simp; omega
  have h2 : (l.drop (k + 1)).head? = l[k + 1]? := by simp
  have h3 : stB l (k + 1) = (l[k] == 47) := by
    show (l[k]? == some 47) = _
    rw [List.getElem?_eq_getElem h]; rfl
  rw [h1, h2, h3]
theorem scan_b (b : UInt8) : ((b.toNat : Int) == 43) = (b == 43) ∧ ((b.toNat : Int) == 35) = (b == 35) ∧ ((b.toNat : Int) == 47) = (b == 47) := ⟨byte_eq b 43 (by omega), byte_eq b 35 (by omega), byte_eq b 47 (by omega)⟩
theorem st_succ (l : List UInt8) (j : Nat) (h : j < l.length) : stB l (j + 1) = (((l[j].toNat : Int)) == 47) := by
  rw [(scan_b l[j]).2.2]
  show (l[j]? == some 47) = _
  rw [List.getElem?_eq_getElem h]; rfl
theorem b_any {a c : Int} {r : Bool} (h : (a == c) = r) : (a != c) = (!r) := by subst h; rfl
set_option maxHeartbeats 2000000 in
theorem refFilter_eq (l : List UInt8) (b : Bool) (w : World) (hl : l.length ≤ 9223372036854775806) (h : flB l = b) :
    Calls Tryz.prog 54 #[.string ⟨l.toArray⟩] w fun e w' => e = .returned (.bool b) ∧ Below w.heap.size w w' := by
  have hb : Below w.heap.size w w := Below.refl _ _
  rw [flB_scan] at h
  by_cases h0 : l.length = 0
  · obtain rfl := List.eq_nil_of_length_eq_zero h0
    obtain rfl : false = b := h
    clear h0
    go_enter Tryz.func54, Tryz.ntmps54
    go_wp2_with fail
    go_ret
    exact ⟨rfl, hb⟩
  · have he : l.isEmpty = false := by cases l with | nil => exact absurd rfl h0 | cons a l => rfl
    have hd : ((l.length : Int) == 0) = false := by simp; exact fun e => h0 (by rw [e]; rfl)
    rw [he] at h
    clear he h0
    cases hv : valB l with
    | false =>
      obtain rfl : false = b := by rw [← h, hv]; rfl
      have HV := Lib.hid hv
      clear hv h
      go_enter Tryz.func54, Tryz.ntmps54
      go_wp2_with fail
      refine (refValid_eq l false _ (by omega) HV.out).mono ?_
      rintro e w1 ⟨rfl, hb1⟩
      replace hb := below_more hb hb1
      clear hb1
      go_wp2_with fail
      go_ret
      exact ⟨rfl, hb⟩
    | true =>
      have HV := Lib.hid hv
      rw [hv] at h
      have H : Hid (scanB true l = b) := by show _ = _; rw [← h]; rfl
      clear hv h
      go_enter Tryz.func54, Tryz.ntmps54
      go_wp2_with fail
      refine (refValid_eq l true _ (by omega) HV.out).mono ?_
      rintro e w1 ⟨rfl, hb1⟩
      go_wp2_with fail
      go_loop [3] (fun i => ∃ k : Nat, i = .int .i64 k ∧ k ≤ l.length ∧ Hid (scanB (stB l k) (l.drop k) = b)) (fun i => l.length - (intOf i).toNat)
      case atStart => exact ⟨0, rfl, by omega, H⟩
      case round =>
        obtain ⟨k, rfl, hkl, hc1⟩ := hrel
        by_cases hlt : k < l.length
        · have hlt2 : (k : Int) < (l.length : Int) := by omega
          have hx := byte_at l k hlt
          have hst := scan_at l k hlt
          have hwl : wrap64 ((l.length : Int) - 1) = (l.length : Int) - 1 := IntWalk.wrap64_in _ (by omega)
          obtain ⟨x, hxx⟩ : ∃ x, l[k] = x := ⟨_, rfl⟩
          obtain ⟨e1, e2, _⟩ := scan_b x
          simp only [hxx] at hx hst
          cases hw : isW x with
          | false =>
            have h43 : (x == 43) = false := by unfold isW at hw; cases hq : (x == 43) with | false => rfl | true => rw [hq] at hw; cases hw
            have h35 : (x == 35) = false := by unfold isW at hw; rw [h43] at hw; exact hw
            rw [h43] at e1
            have ge1 := b_any e1; simp only [Bool.not_true, Bool.not_false] at ge1
            rw [h35] at e2
            have ge2 := b_any e2; simp only [Bool.not_true, Bool.not_false] at ge2
            have HC : Hid (scanB (stB l (k + 1)) (l.drop (k + 1)) = b) := by show _ = _; rw [← hc1.out, hst, hw]; rfl
            clear hst hc1 hw hxx h43 h35
            go_wp2_with fail
            go_round
            case rel => exact ⟨k + 1, by go_num, by omega, HC⟩
            case measure => simp [intOf]; omega
          | true =>
            have hw2 : (x == 43 && x == 35) = false ∧ (x == 43 || x == 35) = true := ⟨by cases hq : (x == 43) with | false => rfl | true => (rw [beq_iff_eq] at hq; subst hq; rfl), hw⟩
            obtain ⟨r43, hq⟩ : ∃ r, (x == 43) = r := ⟨_, rfl⟩
            have hq2 : (x == 35) = !r43 := by
              obtain ⟨h1, h2⟩ := hw2
              rw [hq] at h1 h2
              cases r43
              · rw [Bool.false_or] at h2; exact h2
              · rw [Bool.true_and] at h1; exact h1
            rw [hq] at e1
            rw [hq2] at e2
            have ge1 := b_any e1
            have ge2 := b_any e2
            have hwk : wrap64 ((k : Int) + 1) = ((k + 1 : Nat) : Int) := by rw [IntWalk.wrap64_in _ (by omega)]; omega
            rw [hw, hq] at hst
            clear hw hw2 hq hq2 hxx
            by_cases hk0 : k = 0
            · have hs : stB l k = true := by rw [hk0]; rfl
              have hz : ¬ 0 < k := by omega
              have hzi : ¬ (0 : Int) < (k : Int) := by omega
              rw [hs] at hst
              have hc1 : Hid (scanB true (l.drop k) = b) := by show _ = _; rw [← hc1.out, hs]
              clear hs
              by_cases hla : k + 1 = l.length
              · have hl1 : ((k : Int) == (l.length : Int) - 1) = true := by rw [beq_iff_eq]; omega
                have HC : Hid (scanB (stB l (k + 1)) (l.drop (k + 1)) = b) := by show _ = _; rw [← hc1.out, hst, decide_eq_true hla]; rfl
                have HLA := Lib.hid hla
                have HK0 := Lib.hid hk0
                clear hst hc1 hla hk0
                cases r43
                all_goals
                  simp only [Bool.not_true, Bool.not_false] at e1 e2 ge1 ge2
                  go_wp2_with fail
                  go_round
                  case rel => exact ⟨k + 1, by go_num, by omega, HC⟩
                  case measure => simp [intOf]; omega
              · have hl1 : ((k : Int) == (l.length : Int) - 1) = false := by rw [beq_eq_false_iff_ne]; omega
                have hk1 : k + 1 < l.length := by omega
                have hzz := byte_at l (k + 1) hk1
                have hn1 : l[k + 1]? = some l[k + 1] := List.getElem?_eq_getElem hk1
                obtain ⟨z, hz2⟩ : ∃ z, l[k + 1] = z := ⟨_, rfl⟩
                simp only [hz2] at hzz hn1
                obtain ⟨_, _, e3⟩ := scan_b z
                obtain ⟨r47, hr⟩ : ∃ r, (z == 47) = r := ⟨_, rfl⟩
                have hr2 : (some z == some (47 : UInt8)) = r47 := hr
                rw [hr] at e3
                have ge3 := b_any e3
                rw [decide_eq_false hla, hn1, hr2] at hst
                have HK0 := Lib.hid hk0
                clear hla hn1 hz2 hr hr2 hk0
                have hk2 : (k : Int) + 1 < (l.length : Int) := by omega
                cases r43
                · have HB : Hid (false = b) := by show _ = _; rw [← hc1.out, hst]; rfl
                  clear hst hc1
                  simp only [Bool.not_true, Bool.not_false] at e1 e2 ge1 ge2
                  go_wp2_with fail
                  go_ret
                  exact ⟨by rw [← HB.out]; rfl, hb1⟩
                · cases r47
                  · have HB : Hid (false = b) := by show _ = _; rw [← hc1.out, hst]; rfl
                    clear hst hc1
                    simp only [Bool.not_true, Bool.not_false] at e1 e2 ge1 ge2 e3 ge3
                    go_wp2_with fail
                    go_ret
                    exact ⟨by rw [← HB.out]; rfl, hb1⟩
                  · have HC : Hid (scanB (stB l (k + 1)) (l.drop (k + 1)) = b) := by show _ = _; rw [← hc1.out, hst]; rfl
                    clear hst hc1
                    simp only [Bool.not_true, Bool.not_false] at e1 e2 ge1 ge2 e3 ge3
                    go_wp2_with fail
                    go_round
                    case rel => exact ⟨k + 1, by go_num, by omega, HC⟩
                    case measure => simp [intOf]; omega
            · obtain ⟨j, hkj⟩ : ∃ j, k = j + 1 := ⟨k - 1, by omega⟩
              have hj : j < l.length := by omega
              have hz : 0 < k := by omega
              have hzi : (0 : Int) < (k : Int) := by omega
              have hwj : wrap64 ((k : Int) - 1) = (j : Int) := by rw [IntWalk.wrap64_in _ (by omega)]; omega
              have hy := byte_at l (k - 1) (by omega)
              obtain ⟨rs, hs⟩ : ∃ r, stB l k = r := ⟨_, rfl⟩
              have hs' : ((l[j].toNat : Int) == 47) = rs := by rw [← hs, hkj, st_succ l j hj]
              obtain ⟨y, hyy⟩ : ∃ y, l[j] = y := ⟨_, rfl⟩
              have hyk : l[k - 1]'(by omega) = y := by rw [← hyy]; congr 1; omega
              simp only [hyy] at hs'
              simp only [hyk] at hy
              clear hyk
              have gs := b_any hs'
              rw [hs] at hst
              have hc1 : Hid (scanB rs (l.drop k) = b) := by show _ = _; rw [← hc1.out, hs]
              have HKJ := Lib.hid hkj
              clear hs hyy hkj
              cases rs
              · have HB : Hid (false = b) := by show _ = _; rw [← hc1.out, hst]; cases r43 <;> rfl
                have HK0 := Lib.hid hk0
                clear hst hc1 hk0
                cases r43
                all_goals
                  simp only [Bool.not_true, Bool.not_false] at e1 e2 ge1 ge2 gs
                  go_wp2_with fail
                  go_ret
                  exact ⟨by rw [← HB.out]; rfl, hb1⟩
              · simp only [Bool.not_true, Bool.not_false] at gs
                by_cases hla : k + 1 = l.length
                · have hl1 : ((k : Int) == (l.length : Int) - 1) = true := by rw [beq_iff_eq]; omega
                  have HC : Hid (scanB (stB l (k + 1)) (l.drop (k + 1)) = b) := by show _ = _; rw [← hc1.out, hst, decide_eq_true hla]; rfl
                  have HLA := Lib.hid hla
                  have HK0 := Lib.hid hk0
                  clear hst hc1 hla hk0
                  cases r43
                  all_goals
                    simp only [Bool.not_true, Bool.not_false] at e1 e2 ge1 ge2
                    go_wp2_with fail
                    go_round
                    case rel => exact ⟨k + 1, by go_num, by omega, HC⟩
                    case measure => simp [intOf]; omega
                · have hl1 : ((k : Int) == (l.length : Int) - 1) = false := by rw [beq_eq_false_iff_ne]; omega
                  have hk1 : k + 1 < l.length := by omega
                  have hzz := byte_at l (k + 1) hk1
                  have hn1 : l[k + 1]? = some l[k + 1] := List.getElem?_eq_getElem hk1
                  obtain ⟨z, hz2⟩ : ∃ z, l[k + 1] = z := ⟨_, rfl⟩
                  simp only [hz2] at hzz hn1
                  obtain ⟨_, _, e3⟩ := scan_b z
                  obtain ⟨r47, hr⟩ : ∃ r, (z == 47) = r := ⟨_, rfl⟩
                  have hr2 : (some z == some (47 : UInt8)) = r47 := hr
                  rw [hr] at e3
                  have ge3 := b_any e3
                  rw [decide_eq_false hla, hn1, hr2] at hst
                  have HK0 := Lib.hid hk0
                  clear hla hn1 hz2 hr hr2 hk0
                  have hk2 : (k : Int) + 1 < (l.length : Int) := by omega
                  cases r43
                  · have HB : Hid (false = b) := by show _ = _; rw [← hc1.out, hst]; rfl
                    clear hst hc1
                    simp only [Bool.not_true, Bool.not_false] at e1 e2 ge1 ge2
                    go_wp2_with fail
                    go_ret
                    exact ⟨by rw [← HB.out]; rfl, hb1⟩
                  · cases r47
                    · have HB : Hid (false = b) := by show _ = _; rw [← hc1.out, hst]; rfl
                      clear hst hc1
                      simp only [Bool.not_true, Bool.not_false] at e1 e2 ge1 ge2 e3 ge3
                      go_wp2_with fail
                      go_ret
                      exact ⟨by rw [← HB.out]; rfl, hb1⟩
                    · have HC : Hid (scanB (stB l (k + 1)) (l.drop (k + 1)) = b) := by show _ = _; rw [← hc1.out, hst]; rfl
                      clear hst hc1
                      simp only [Bool.not_true, Bool.not_false] at e1 e2 ge1 ge2 e3 ge3
                      go_wp2_with fail
                      go_round
                      case rel => exact ⟨k + 1, by go_num, by omega, HC⟩
                      case measure => simp [intOf]; omega
        · have hge : ¬ (k : Int) < (l.length : Int) := by omega
          have hbt : Hid (true = b) := by show _ = _; rw [← hc1.out, List.drop_eq_nil_of_le (by omega)]; rfl
          clear hc1
          go_wp2_with fail
          go_ret
          exact ⟨by rw [← hbt.out]; rfl, hb1⟩
end Go.Proofs.YtphdooaihbmnlaaGreatDoor
