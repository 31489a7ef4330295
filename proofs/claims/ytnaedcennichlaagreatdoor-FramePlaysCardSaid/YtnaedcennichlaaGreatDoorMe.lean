/-
  PkRa, PkRb, PkRc, PkRd, PkRe, PkRf in one. (By tools/cmerge.py.)
-/
import Derived.Test.YtnaedcennichlaaGreatDoorMa
import Derived.Test.YtnaedcennichlaaGreatDoorTextRefs
import Derived.Test.YtnaedcennichlaaGreatDoorPkI
import Derived.Deep.Cut
import Derived.Deep.DeepCutAuto
set_option linter.unusedSimpArgs false
set_option linter.unusedVariables false
/-
  The document's own Right: what it asks of texts: a byte that stands in one, a name, a filter, a type's fields.
-/
namespace Go.Proofs.YtnaedcennichlaaGreatDoor
open Go.RowKit
def hasB (l : List UInt8) (c : Int) : Bool := l.any fun b => (b.toNat : Int) == c
theorem hasB_take (l : List UInt8) (c : Int) (k : Nat) (h : k < l.length) : hasB (l.drop k) c = (((l[k].toNat : Int) == c) || hasB (l.drop (k + 1)) c) := by
  rw [List.drop_eq_getElem_cons h]; rfl
theorem byte_eq (b : UInt8) (n : Nat) (hn : n < 256) : ((b.toNat : Int) == (n : Int)) = (b == UInt8.ofNat n) := by
  rw [Bool.eq_iff_iff, beq_iff_eq, beq_iff_eq]
  constructor
  · intro h
    apply UInt8.toNat.inj
    rw [show (UInt8.ofNat n).toNat = n from Nat.mod_eq_of_lt hn]
    omega
  · rintro rfl
    rw [show (UInt8.ofNat n).toNat = n from Nat.mod_eq_of_lt hn]
theorem hasW_two (l : List UInt8) : hasW l = (hasB l 43 || hasB l 35) := by
  induction l with
  | nil => rfl
  | cons a l ih =>
    have h1 : ((a.toNat : Int) == 43) = (a == 43) := byte_eq a 43 (by omega)
    have h2 : ((a.toNat : Int) == 35) = (a == 35) := byte_eq a 35 (by omega)
    have e1 : hasB (a :: l) 43 = ((a == 43) || hasB l 43) := by rw [← h1]; rfl
    have e2 : hasB (a :: l) 35 = ((a == 35) || hasB l 35) := by rw [← h2]; rfl
    rw [hasW_cons, ih, e1, e2, isW]
    cases (a == 43) <;> cases (a == 35) <;> cases hasB l 43 <;> cases hasB l 35 <;> rfl
theorem has_eq (l : List UInt8) (c : Int) (b : Bool) (w : World) (hl : l.length ≤ 9223372036854775807) (h : hasB l c = b) :
    Calls Tryz.prog 45 #[.string ⟨l.toArray⟩, .int .u8 c] w fun e w' => e = .returned (.bool b) ∧ w' = w := by
  have H := Lib.hid h
  clear h
  go_enter Tryz.func45, Tryz.ntmps45
  go_wp2_with fail
  go_loop [5] (fun i => ∃ k : Nat, i = .int .i64 k ∧ k ≤ l.length ∧ Hid (hasB (l.drop k) c = b)) (fun i => l.length - (intOf i).toNat)
  case atStart => exact ⟨0, rfl, by omega, H⟩
  case round =>
    obtain ⟨k, rfl, hkl, hc1⟩ := hrel
    by_cases hlt : k < l.length
    · have hlt2 : (k : Int) < (l.length : Int) := by omega
      have hx := byte_at l k hlt
      obtain ⟨r1, hr1⟩ : ∃ r1, ((l[k].toNat : Int) == c) = r1 := ⟨_, rfl⟩
      have h1 := hasB_take l c k hlt
      rw [hr1] at h1
      cases r1 with
      | true =>
        have hbt : Hid (b = true) := by show _ = _; rw [← hc1.out, h1]; rfl
        clear h1 hc1
        go_wp2_with fail
        go_ret
        exact ⟨by rw [hbt.out]; rfl, rfl⟩
      | false =>
        have HC1 : Hid (hasB (l.drop (k + 1)) c = b) := by show _ = _; rw [← hc1.out, h1]; rfl
        clear h1 hc1
        go_wp2_with fail
        go_round
        case rel => exact ⟨k + 1, by go_num, by omega, HC1⟩
        case measure => simp [intOf]; omega
    · have hge : ¬ (k : Int) < (l.length : Int) := by omega
      have hbt : Hid (b = false) := by show _ = _; rw [← hc1.out, List.drop_eq_nil_of_le (by omega)]; rfl
      clear hc1
      go_wp2_with fail
      go_ret
      exact ⟨by rw [hbt.out]; rfl, rfl⟩
theorem refName_eq (l : List UInt8) (b : Bool) (w : World) (hl : l.length ≤ 9223372036854775807) (h : nmB l = b) :
    Calls Tryz.prog 44 #[.string ⟨l.toArray⟩] w fun e w' => e = .returned (.bool b) ∧ Below w.heap.size w w' := by
  have hb : Below w.heap.size w w := Below.refl _ _
  unfold nmB at h
  rw [hasW_two] at h
  by_cases h0 : l.length = 0
  · obtain rfl := List.eq_nil_of_length_eq_zero h0
    obtain rfl : false = b := h
    clear h0
    go_enter Tryz.func44, Tryz.ntmps44
    go_wp2_with fail
    go_ret
    exact ⟨rfl, hb⟩
  · have he : l.isEmpty = false := by cases l with | nil => exact absurd rfl h0 | cons a l => rfl
    have hd : 0 < l.length := by omega
    rw [he] at h
    clear he h0
    cases hv : valB l with
    | false =>
      obtain rfl : false = b := by rw [← h, hv]; rfl
      have HV := Lib.hid hv
      clear hv h
      go_enter Tryz.func44, Tryz.ntmps44
      go_wp2_with fail
      refine (refValid_eq l false _ hl HV.out).mono ?_
      rintro e w1 ⟨rfl, hb1⟩
      replace hb := below_more hb hb1
      clear hb1
      go_wp2_with fail
      go_ret
      exact ⟨rfl, hb⟩
    | true =>
      have HV := Lib.hid hv
      rw [hv] at h
      clear hv
      cases h43 : hasB l 43 with
      | true =>
        obtain rfl : false = b := by rw [← h, h43]; rfl
        have H43 := Lib.hid h43
        clear h43 h
        go_enter Tryz.func44, Tryz.ntmps44
        go_wp2_with fail
        refine (refValid_eq l true _ hl HV.out).mono ?_
        rintro e w1 ⟨rfl, hb1⟩
        replace hb := below_more hb hb1
        clear hb1
        go_wp2_with fail
        refine (has_eq l 43 true _ hl H43.out).mono ?_
        rintro e w1 ⟨rfl, rfl⟩
        go_wp2_with fail
        go_ret
        exact ⟨rfl, hb⟩
      | false =>
        have H43 := Lib.hid h43
        rw [h43] at h
        clear h43
        cases h35 : hasB l 35
        all_goals
          have HB : Hid ((!hasB l 35) = b) := by show _ = _; rw [← h, h35]; rfl
          have H35 := Lib.hid h35
          rw [h35] at HB
          clear h35 h
          go_enter Tryz.func44, Tryz.ntmps44
          go_wp2_with fail
          refine (refValid_eq l true _ hl HV.out).mono ?_
          rintro e w1 ⟨rfl, hb1⟩
          go_wp2_with fail
          refine (has_eq l 43 false _ hl H43.out).mono ?_
          rintro e w2 ⟨rfl, rfl⟩
          go_wp2_with fail
          refine (has_eq l 35 _ _ hl H35.out).mono ?_
          rintro e w2 ⟨rfl, rfl⟩
          go_wp2_with fail
          go_ret
          exact ⟨by rw [← HB.out]; rfl, hb1⟩
def fieldsL : List (List UInt8) := [[45], [108, 99, 107, 110, 119, 117, 115], [101, 111], [100, 113, 114, 105, 116, 112], [105], [105], [105], [105], [105, 98], [105, 109], [105, 98], [105], [], [], []]
def fldF (k : Nat) : List UInt8 := (fieldsL[k]?).getD [45]
theorem refFields_eq (k : Nat) (hk : k ≤ 255) (L : List UInt8) (h : fldF k = L) (w : World) :
    Calls Tryz.prog 40 #[.int .u8 k] w fun e w' => e = .returned (.string ⟨L.toArray⟩) ∧ Below w.heap.size w w' := by
  have hb : Below w.heap.size w w := Below.refl _ _
  have H := Lib.hid h
  clear h
  by_cases hlt : k < 15
  · have hd : decide ((k : Int) < 15) = true := by simp; omega
    have hd2 : decide ((15 : Int) ≤ (k : Int)) = false := by simp; omega
    go_enter Tryz.func40, Tryz.ntmps40
    go_upto_region 2 with fail
    generalize hW : w.alloc _ = W
    have hG : Strs W (some ⟨w.heap.size, 0, none⟩) 15 fieldsL := by rw [← hW]; exact strs_new w fieldsL 9
    have hbW : Below w.heap.size w W := by rw [← hW]; exact below_alloc hb _
    clear hW hb
    obtain ⟨x, hx, hcell⟩ := hG.at0 hlt
    have HX : Hid (x = L) := by show _ = _; rw [← H.out, fldF, hx]; rfl
    clear hx hG
    go_wp2_with fail
    go_ret
    exact ⟨by rw [HX.out]; rfl, hbW⟩
  · have hd2 : decide ((15 : Int) ≤ (k : Int)) = true := by simp; omega
    have HX : Hid (L = [45]) := by
      show _ = _
      rw [← H.out, fldF, List.getElem?_eq_none (by show 15 ≤ k; omega)]
      rfl
    go_enter Tryz.func40, Tryz.ntmps40
    go_upto_region 2 with fail
    generalize hW : w.alloc _ = W
    have hbW : Below w.heap.size w W := by rw [← hW]; exact below_alloc hb _
    clear hW hb
    go_wp2_with fail
    go_ret
    exact ⟨by rw [HX.out]; rfl, hbW⟩
end Go.Proofs.YtnaedcennichlaaGreatDoor

/-
  The document's own Filter.
-/
namespace Go.Proofs.YtnaedcennichlaaGreatDoor
open Go.RowKit
def stB (l : List UInt8) : Nat → Bool
  | 0 => true
  | j + 1 => l[j]? == some 47
theorem scan_at (l : List UInt8) (k : Nat) (h : k < l.length) : scanB (stB l k) (l.drop k) = ((!isW l[k] || (stB l k && (decide (k + 1 = l.length) || (l[k] == 43 && l[k + 1]? == some 47)))) && scanB (stB l (k + 1)) (l.drop (k + 1))) := by
  rw [List.drop_eq_getElem_cons h, scanB]
  have h1 : (l.drop (k + 1)).isEmpty = decide (k + 1 = l.length) := by
    rw [Bool.eq_iff_iff]; simp; omega
  have h2 : (l.drop (k + 1)).head? = l[k + 1]? := by simp
  have h3 : stB l (k + 1) = (l[k] == 47) := by
    show (l[k]? == some 47) = _
    rw [List.getElem?_eq_getElem h]; rfl
  rw [h1, h2, h3]
theorem scan_b (b : UInt8) : ((b.toNat : Int) == 43) = (b == 43) ∧ ((b.toNat : Int) == 35) = (b == 35) ∧ ((b.toNat : Int) == 47) = (b == 47) := ⟨byte_eq b 43 (by omega), byte_eq b 35 (by omega), byte_eq b 47 (by omega)⟩
theorem st_succ (l : List UInt8) (j : Nat) (h : j < l.length) : stB l (j + 1) = (((l[j].toNat : Int)) == 47) := by
  rw [(scan_b l[j]).2.2]
  show (l[j]? == some 47) = _
  rw [List.getElem?_eq_getElem h]; rfl
theorem b_any {a c : Int} {r : Bool} (h : (a == c) = r) : (a != c) = (!r) := by subst h; rfl
set_option maxHeartbeats 2000000 in
theorem refFilter_eq (l : List UInt8) (b : Bool) (w : World) (hl : l.length ≤ 9223372036854775806) (h : flB l = b) :
    Calls Tryz.prog 57 #[.string ⟨l.toArray⟩] w fun e w' => e = .returned (.bool b) ∧ Below w.heap.size w w' := by
  have hb : Below w.heap.size w w := Below.refl _ _
  rw [flB_scan] at h
  by_cases h0 : l.length = 0
  · obtain rfl := List.eq_nil_of_length_eq_zero h0
    obtain rfl : false = b := h
    clear h0
    go_enter Tryz.func57, Tryz.ntmps57
    go_wp2_with fail
    go_ret
    exact ⟨rfl, hb⟩
  · have he : l.isEmpty = false := by cases l with | nil => exact absurd rfl h0 | cons a l => rfl
    have hd : ((l.length : Int) == 0) = false := by simp; exact fun e => h0 (by rw [e]; rfl)
    rw [he] at h
    clear he h0
    cases hv : valB l with
    | false =>
      obtain rfl : false = b := by rw [← h, hv]; rfl
      have HV := Lib.hid hv
      clear hv h
      go_enter Tryz.func57, Tryz.ntmps57
      go_wp2_with fail
      refine (refValid_eq l false _ (by omega) HV.out).mono ?_
      rintro e w1 ⟨rfl, hb1⟩
      replace hb := below_more hb hb1
      clear hb1
      go_wp2_with fail
      go_ret
      exact ⟨rfl, hb⟩
    | true =>
      have HV := Lib.hid hv
      rw [hv] at h
      have H : Hid (scanB true l = b) := by show _ = _; rw [← h]; rfl
      clear hv h
      go_enter Tryz.func57, Tryz.ntmps57
      go_wp2_with fail
      refine (refValid_eq l true _ (by omega) HV.out).mono ?_
      rintro e w1 ⟨rfl, hb1⟩
      go_wp2_with fail
      go_loop [3] (fun i => ∃ k : Nat, i = .int .i64 k ∧ k ≤ l.length ∧ Hid (scanB (stB l k) (l.drop k) = b)) (fun i => l.length - (intOf i).toNat)
      case atStart => exact ⟨0, rfl, by omega, H⟩
      case round =>
        obtain ⟨k, rfl, hkl, hc1⟩ := hrel
        by_cases hlt : k < l.length
        · have hlt2 : (k : Int) < (l.length : Int) := by omega
          have hx := byte_at l k hlt
          have hst := scan_at l k hlt
          have hwl : wrap64 ((l.length : Int) - 1) = (l.length : Int) - 1 := IntWalk.wrap64_in _ (by omega)
          obtain ⟨x, hxx⟩ : ∃ x, l[k] = x := ⟨_, rfl⟩
          obtain ⟨e1, e2, _⟩ := scan_b x
          simp only [hxx] at hx hst
          cases hw : isW x with
          | false =>
            have h43 : (x == 43) = false := by unfold isW at hw; cases hq : (x == 43) with | false => rfl | true => rw [hq] at hw; cases hw
            have h35 : (x == 35) = false := by unfold isW at hw; rw [h43] at hw; exact hw
            rw [h43] at e1
            have ge1 := b_any e1; simp only [Bool.not_true, Bool.not_false] at ge1
            rw [h35] at e2
            have ge2 := b_any e2; simp only [Bool.not_true, Bool.not_false] at ge2
            have HC : Hid (scanB (stB l (k + 1)) (l.drop (k + 1)) = b) := by show _ = _; rw [← hc1.out, hst, hw]; rfl
            clear hst hc1 hw hxx h43 h35
            go_wp2_with fail
            go_round
            case rel => exact ⟨k + 1, by go_num, by omega, HC⟩
            case measure => simp [intOf]; omega
          | true =>
            have hw2 : (x == 43 && x == 35) = false ∧ (x == 43 || x == 35) = true := ⟨by cases hq : (x == 43) with | false => rfl | true => (rw [beq_iff_eq] at hq; subst hq; rfl), hw⟩
            obtain ⟨r43, hq⟩ : ∃ r, (x == 43) = r := ⟨_, rfl⟩
            have hq2 : (x == 35) = !r43 := by
              obtain ⟨h1, h2⟩ := hw2
              rw [hq] at h1 h2
              cases r43
              · rw [Bool.false_or] at h2; exact h2
              · rw [Bool.true_and] at h1; exact h1
            rw [hq] at e1
            rw [hq2] at e2
            have ge1 := b_any e1
            have ge2 := b_any e2
            have hwk : wrap64 ((k : Int) + 1) = ((k + 1 : Nat) : Int) := by rw [IntWalk.wrap64_in _ (by omega)]; omega
            rw [hw, hq] at hst
            clear hw hw2 hq hq2 hxx
            by_cases hk0 : k = 0
            · have hs : stB l k = true := by rw [hk0]; rfl
              have hz : ¬ 0 < k := by omega
              have hzi : ¬ (0 : Int) < (k : Int) := by omega
              rw [hs] at hst
              have hc1 : Hid (scanB true (l.drop k) = b) := by show _ = _; rw [← hc1.out, hs]
              clear hs
              by_cases hla : k + 1 = l.length
              · have hl1 : ((k : Int) == (l.length : Int) - 1) = true := by rw [beq_iff_eq]; omega
                have HC : Hid (scanB (stB l (k + 1)) (l.drop (k + 1)) = b) := by show _ = _; rw [← hc1.out, hst, decide_eq_true hla]; rfl
                have HLA := Lib.hid hla
                have HK0 := Lib.hid hk0
                clear hst hc1 hla hk0
                cases r43
                all_goals
                  simp only [Bool.not_true, Bool.not_false] at e1 e2 ge1 ge2
                  go_wp2_with fail
                  go_round
                  case rel => exact ⟨k + 1, by go_num, by omega, HC⟩
                  case measure => simp [intOf]; omega
              · have hl1 : ((k : Int) == (l.length : Int) - 1) = false := by rw [beq_eq_false_iff_ne]; omega
                have hk1 : k + 1 < l.length := by omega
                have hzz := byte_at l (k + 1) hk1
                have hn1 : l[k + 1]? = some l[k + 1] := List.getElem?_eq_getElem hk1
                obtain ⟨z, hz2⟩ : ∃ z, l[k + 1] = z := ⟨_, rfl⟩
                simp only [hz2] at hzz hn1
                obtain ⟨_, _, e3⟩ := scan_b z
                obtain ⟨r47, hr⟩ : ∃ r, (z == 47) = r := ⟨_, rfl⟩
                have hr2 : (some z == some (47 : UInt8)) = r47 := hr
                rw [hr] at e3
                have ge3 := b_any e3
                rw [decide_eq_false hla, hn1, hr2] at hst
                have HK0 := Lib.hid hk0
                clear hla hn1 hz2 hr hr2 hk0
                have hk2 : (k : Int) + 1 < (l.length : Int) := by omega
                cases r43
                · have HB : Hid (false = b) := by show _ = _; rw [← hc1.out, hst]; rfl
                  clear hst hc1
                  simp only [Bool.not_true, Bool.not_false] at e1 e2 ge1 ge2
                  go_wp2_with fail
                  go_ret
                  exact ⟨by rw [← HB.out]; rfl, hb1⟩
                · cases r47
                  · have HB : Hid (false = b) := by show _ = _; rw [← hc1.out, hst]; rfl
                    clear hst hc1
                    simp only [Bool.not_true, Bool.not_false] at e1 e2 ge1 ge2 e3 ge3
                    go_wp2_with fail
                    go_ret
                    exact ⟨by rw [← HB.out]; rfl, hb1⟩
                  · have HC : Hid (scanB (stB l (k + 1)) (l.drop (k + 1)) = b) := by show _ = _; rw [← hc1.out, hst]; rfl
                    clear hst hc1
                    simp only [Bool.not_true, Bool.not_false] at e1 e2 ge1 ge2 e3 ge3
                    go_wp2_with fail
                    go_round
                    case rel => exact ⟨k + 1, by go_num, by omega, HC⟩
                    case measure => simp [intOf]; omega
            · obtain ⟨j, hkj⟩ : ∃ j, k = j + 1 := ⟨k - 1, by omega⟩
              have hj : j < l.length := by omega
              have hz : 0 < k := by omega
              have hzi : (0 : Int) < (k : Int) := by omega
              have hwj : wrap64 ((k : Int) - 1) = (j : Int) := by rw [IntWalk.wrap64_in _ (by omega)]; omega
              have hy := byte_at l (k - 1) (by omega)
              obtain ⟨rs, hs⟩ : ∃ r, stB l k = r := ⟨_, rfl⟩
              have hs' : ((l[j].toNat : Int) == 47) = rs := by rw [← hs, hkj, st_succ l j hj]
              obtain ⟨y, hyy⟩ : ∃ y, l[j] = y := ⟨_, rfl⟩
              have hyk : l[k - 1]'(by omega) = y := by rw [← hyy]; congr 1; omega
              simp only [hyy] at hs'
              simp only [hyk] at hy
              clear hyk
              have gs := b_any hs'
              rw [hs] at hst
              have hc1 : Hid (scanB rs (l.drop k) = b) := by show _ = _; rw [← hc1.out, hs]
              have HKJ := Lib.hid hkj
              clear hs hyy hkj
              cases rs
              · have HB : Hid (false = b) := by show _ = _; rw [← hc1.out, hst]; cases r43 <;> rfl
                have HK0 := Lib.hid hk0
                clear hst hc1 hk0
                cases r43
                all_goals
                  simp only [Bool.not_true, Bool.not_false] at e1 e2 ge1 ge2 gs
                  go_wp2_with fail
                  go_ret
                  exact ⟨by rw [← HB.out]; rfl, hb1⟩
              · simp only [Bool.not_true, Bool.not_false] at gs
                by_cases hla : k + 1 = l.length
                · have hl1 : ((k : Int) == (l.length : Int) - 1) = true := by rw [beq_iff_eq]; omega
                  have HC : Hid (scanB (stB l (k + 1)) (l.drop (k + 1)) = b) := by show _ = _; rw [← hc1.out, hst, decide_eq_true hla]; rfl
                  have HLA := Lib.hid hla
                  have HK0 := Lib.hid hk0
                  clear hst hc1 hla hk0
                  cases r43
                  all_goals
                    simp only [Bool.not_true, Bool.not_false] at e1 e2 ge1 ge2
                    go_wp2_with fail
                    go_round
                    case rel => exact ⟨k + 1, by go_num, by omega, HC⟩
                    case measure => simp [intOf]; omega
                · have hl1 : ((k : Int) == (l.length : Int) - 1) = false := by rw [beq_eq_false_iff_ne]; omega
                  have hk1 : k + 1 < l.length := by omega
                  have hzz := byte_at l (k + 1) hk1
                  have hn1 : l[k + 1]? = some l[k + 1] := List.getElem?_eq_getElem hk1
                  obtain ⟨z, hz2⟩ : ∃ z, l[k + 1] = z := ⟨_, rfl⟩
                  simp only [hz2] at hzz hn1
                  obtain ⟨_, _, e3⟩ := scan_b z
                  obtain ⟨r47, hr⟩ : ∃ r, (z == 47) = r := ⟨_, rfl⟩
                  have hr2 : (some z == some (47 : UInt8)) = r47 := hr
                  rw [hr] at e3
                  have ge3 := b_any e3
                  rw [decide_eq_false hla, hn1, hr2] at hst
                  have HK0 := Lib.hid hk0
                  clear hla hn1 hz2 hr hr2 hk0
                  have hk2 : (k : Int) + 1 < (l.length : Int) := by omega
                  cases r43
                  · have HB : Hid (false = b) := by show _ = _; rw [← hc1.out, hst]; rfl
                    clear hst hc1
                    simp only [Bool.not_true, Bool.not_false] at e1 e2 ge1 ge2
                    go_wp2_with fail
                    go_ret
                    exact ⟨by rw [← HB.out]; rfl, hb1⟩
                  · cases r47
                    · have HB : Hid (false = b) := by show _ = _; rw [← hc1.out, hst]; rfl
                      clear hst hc1
                      simp only [Bool.not_true, Bool.not_false] at e1 e2 ge1 ge2 e3 ge3
                      go_wp2_with fail
                      go_ret
                      exact ⟨by rw [← HB.out]; rfl, hb1⟩
                    · have HC : Hid (scanB (stB l (k + 1)) (l.drop (k + 1)) = b) := by show _ = _; rw [← hc1.out, hst]; rfl
                      clear hst hc1
                      simp only [Bool.not_true, Bool.not_false] at e1 e2 ge1 ge2 e3 ge3
                      go_wp2_with fail
                      go_round
                      case rel => exact ⟨k + 1, by go_num, by omega, HC⟩
                      case measure => simp [intOf]; omega
        · have hge : ¬ (k : Int) < (l.length : Int) := by omega
          have hbt : Hid (true = b) := by show _ = _; rw [← hc1.out, List.drop_eq_nil_of_le (by omega)]; rfl
          clear hc1
          go_wp2_with fail
          go_ret
          exact ⟨by rw [← hbt.out]; rfl, hb1⟩
end Go.Proofs.YtnaedcennichlaaGreatDoor

/-
  The document's own rest: how many bytes a packet's rest is.
-/
namespace Go.Proofs.YtnaedcennichlaaGreatDoor
open Go.RowKit
def rrA (p : Pk) : Int := (p.load.length : Int) + p.codes.length + (if 0 < p.id then 2 else 0)
def rrS (p : Pk) : Int := if p.ty = 8 then 1 else 0
def rrC (p : Pk) : Int := if p.ty = 1 then 12 + (p.client.length : Int) + (if p.hasWill then 4 + (p.wt.length : Int) + p.wl.length else 0) + (if p.hasUser then 2 + (p.user.length : Int) else 0) + (if p.hasPass then 2 + (p.pass.length : Int) else 0) else if p.ty = 2 then 2 else if p.ty = 3 then 2 + (p.topic.length : Int) else 0
def rrN (p : Pk) (xs : List (List UInt8 × Int)) : Int := rrA p + sbB (rrS p) xs + rrC p
theorem Fit.lens2 {p : Pk} {xs : List (List UInt8 × Int)} (h : Fit p xs) : p.topic.length ≤ 100000 ∧ p.load.length ≤ 100000 ∧ p.client.length ≤ 100000 ∧ p.wt.length ≤ 100000 ∧ p.wl.length ≤ 100000 ∧ p.user.length ≤ 100000 ∧ p.pass.length ≤ 100000 ∧ p.codes.length ≤ 100000 ∧ sumB xs ≤ 100000 := by
  have := h.tot
  unfold totB at this
  omega
theorem Subs.two {w : World} {A : Option Addr} {n k : Nat} {xs : List (List UInt8 × Int)} (h : Subs w A n xs) (hk : k < n) :
    ∃ b off x, A = some ⟨b, off, none⟩ ∧ xs[k]? = some x ∧ w.cell? ⟨b, off + k * 2, none⟩ = some (.string ⟨x.1.toArray⟩) ∧ w.cell? ⟨b, off + k * 2 + 1, none⟩ = some (.int .u8 x.2) := by
  obtain ⟨b, off, x, e, hx, _, hs, he⟩ := h.at_ hk
  refine ⟨b, off, x, e, hx, ?_, ?_⟩
  · rw [rowAt_cell (by omega)]
    have h1 : ((rowAt w b).extract (off + k * 2) (off + k * 2 + 2))[0]? = (SbC x.1 x.2)[0]? := by rw [he]
    rw [Array.getElem?_extract, if_pos (by omega)] at h1
    exact h1
  · rw [rowAt_cell (by omega)]
    have h1 : ((rowAt w b).extract (off + k * 2) (off + k * 2 + 2))[1]? = (SbC x.1 x.2)[1]? := by rw [he]
    rw [Array.getElem?_extract, if_pos (by omega)] at h1
    exact h1
set_option maxRecDepth 100000 in
set_option maxHeartbeats 2000000 in
theorem refRest_any (p : Pk) (A : Option Addr) (n c : Nat) (xs : List (List UInt8 × Int)) (w : World) (hs : Subs w A n xs) (hf : Fit p xs) :
    Calls Tryz.prog 46 #[.agg (PkC p A n c)] w fun e w' => e = .returned (.int .i64 (rrN p xs)) ∧ Below w.heap.size w w' := by
  have hK0 := (Kp.nil w).new (PkC p A n c) 36
  obtain ⟨l1, l2, l3, l4, l5, l6, l7, l8, l9⟩ := hf.lens2
  have hn : n ≤ 1000000 := by have := hf.num; have := hs.len; omega
  have hS0 : 0 ≤ rrS p ∧ rrS p ≤ 1 := by unfold rrS; split <;> omega
  have hsb := sbB_bd (rrS p) hS0.1 xs
  have hbig : sbB (rrS p) xs ≤ 10000000 := by
    have h1 : (2 + rrS p) * (xs.length : Int) ≤ 3 * (xs.length : Int) := Int.mul_le_mul_of_nonneg_right (by omega) (by omega)
    have := hf.num
    omega
  have hsm := Lib.hid (sumB_mem xs)
  have HS := Lib.hid hs
  have hA0 : 0 ≤ rrA p ∧ rrA p ≤ 300000 := by unfold rrA; split <;> omega
  clear hs hf hsb
  go_enter Tryz.func46, Tryz.ntmps46
  go_upto_if 14 with fail
  obtain ⟨wv, hwv⟩ : ∃ wv : World, wv = w.alloc (.cells (PkC p A n c) 36) := ⟨_, rfl⟩
  rw [← hwv] at hK0 ⊢
  clear hwv
  have p1r := hK0.row; have p1f := hK0.free; have p1c := hK0.cell; have p1l := hK0.lt; have p1z := hK0.froz
  go_cut [3] (fun s3 wx => s3 = .int .i64 (rrA p) ∧ wx = wv)
  case first =>
    by_cases hid : 0 < p.id
    · have hr : rrA p = (p.load.length : Int) + p.codes.length + 2 := by unfold rrA; rw [if_pos hid]
      have hd : decide (0 < p.id) = true := by simpa using hid
      have HR := Lib.hid hr
      clear hr
      go_wp2_with fail
      go_meet
      case rel => exact ⟨by rw [HR.out], rfl⟩
    · have hr : rrA p = (p.load.length : Int) + p.codes.length := by unfold rrA; rw [if_neg hid]; omega
      have hd : decide (0 < p.id) = false := by simpa using hid
      have HR := Lib.hid hr
      clear hr
      go_wp2_with fail
      go_meet
      case rel => exact ⟨by rw [HR.out], rfl⟩
  obtain ⟨rfl, rfl⟩ := hcut
  obtain ⟨t8, h8⟩ : ∃ r, (p.ty == 8) = r := ⟨_, rfl⟩
  have h8S : Hid (rrS p = if t8 = true then 1 else 0) := by
    show _ = _
    unfold rrS
    rw [← h8]
    by_cases h : p.ty = 8 <;> simp [h]
  go_wp2_with fail
  go_loopw [3, 4] (fun s i wr => ∃ (k : Nat) (b : Int), i = .int .i64 k ∧ s = .int .i64 b ∧ k ≤ n ∧ Kp w [(w.heap.size, PkC p A n c, 36)] wr ∧ Hid (b + sbB (rrS p) (xs.drop k) = rrA p + sbB (rrS p) xs) ∧ 0 ≤ b) (fun _ i _ => n - (intOf i).toNat)
  case atStart => exact ⟨0, rrA p, rfl, rfl, by omega, hK0, rfl, by omega⟩
  case round =>
    clear p1r p1f p1c p1l p1z hK0
    obtain ⟨k, b, rfl, rfl, hk, hKr, hc, hb0⟩ := hrel
    have e1r := hKr.row; have e1f := hKr.free; have e1c := hKr.cell; have e1l := hKr.lt; have e1z := hKr.froz
    by_cases hlt : k < n
    · have hlt2 : (k : Int) < (n : Int) := by omega
      obtain ⟨bx, off, x, rfl, hx, hx1, hx2⟩ := (HS.out.below hKr.below).two hlt
      have hs1 := sb_step (rrS p) xs k x hx
      have hxl := hsm.out x (List.mem_of_getElem? hx)
      have hsb2 := (sbB_bd (rrS p) hS0.1 (xs.drop (k + 1))).1
      have hcc := hc.out
      unfold fldB at hs1
      have hbb : b + ((x.1.length : Int) + 2) + 1 ≤ 20000000 := by omega
      have HB : Hid (b + 2 + (x.1.length : Int) + rrS p + sbB (rrS p) (xs.drop (k + 1)) = rrA p + sbB (rrS p) xs) := by show _ = _; omega
      clear hs1 hsb2 hcc hc
      cases t8 with
      | true =>
        have HS1 : Hid (rrS p = 1) := by show _ = _; rw [h8S.out]; rfl
        go_wp2_with fail
        go_roundw
        case rel => exact ⟨k + 1, _, by go_num, rfl, by omega, hKr, by show _ = _; rw [← HB.out, HS1.out], by omega⟩
        case measure => simp [intOf]; omega
      | false =>
        have HS1 : Hid (rrS p = 0) := by show _ = _; rw [h8S.out]; rfl
        go_wp2_with fail
        go_roundw
        case rel => exact ⟨k + 1, _, by go_num, rfl, by omega, hKr, by show _ = _; rw [← HB.out, HS1.out]; omega, by omega⟩
        case measure => simp [intOf]; omega
    · obtain rfl : k = n := by omega
      have hbb : b = rrA p + sbB (rrS p) xs := by
        have h1 := hc.out
        rw [List.drop_eq_nil_of_le (by have := HS.out.len; omega)] at h1
        simp only [sbB] at h1
        omega
      have hlt2 : ¬ (k : Int) < (k : Int) := by omega
      have hb1 : 0 ≤ b ∧ b ≤ 20000000 := by omega
      have HN : Hid (rrN p xs = b + rrC p) := by show _ = _; rw [rrN, hbb]
      have hfin := hKr.below
      clear hc hlt hbb h8S t8 h8
      by_cases t1 : p.ty = 1
      · have ht1 : (p.ty == 1) = true := by simpa using t1
        have HC : Hid (rrC p = 12 + (p.client.length : Int) + (if p.hasWill then 4 + (p.wt.length : Int) + p.wl.length else 0) + (if p.hasUser then 2 + (p.user.length : Int) else 0) + (if p.hasPass then 2 + (p.pass.length : Int) else 0)) := by show rrC p = _; unfold rrC; rw [if_pos t1]
        cases hW : p.hasWill <;> cases hU : p.hasUser <;> cases hP : p.hasPass
        all_goals
          have HE : Hid (rrN p xs = b + rrC p ∧ rrC p = _) := ⟨HN.out, HC.out⟩
          rw [hW, hU, hP] at HE
          simp only [Bool.false_eq_true, if_false, if_true] at HE
          go_wp2_with fail
          go_ret
          refine ⟨ret_int ?_, hfin⟩
          rw [HE.out.1, HE.out.2]
          omega
      · have ht1 : (p.ty == 1) = false := by simpa using t1
        by_cases t2 : p.ty = 2
        · have ht2 : (p.ty == 2) = true := by simpa using t2
          have HC : Hid (rrC p = 2) := by show rrC p = _; unfold rrC; rw [if_neg t1, if_pos t2]
          go_wp2_with fail
          go_ret
          refine ⟨ret_int ?_, hfin⟩
          rw [HN.out, HC.out]
        · have ht2 : (p.ty == 2) = false := by simpa using t2
          by_cases t3 : p.ty = 3
          · have ht3 : (p.ty == 3) = true := by simpa using t3
            have HC : Hid (rrC p = 2 + (p.topic.length : Int)) := by show rrC p = _; unfold rrC; rw [if_neg t1, if_neg t2, if_pos t3]
            go_wp2_with fail
            go_ret
            refine ⟨ret_int ?_, hfin⟩
            rw [HN.out, HC.out]
            omega
          · have ht3 : (p.ty == 3) = false := by simpa using t3
            have HC : Hid (rrC p = 0) := by show rrC p = _; unfold rrC; rw [if_neg t1, if_neg t2, if_neg t3]
            go_wp2_with fail
            go_ret
            refine ⟨ret_int ?_, hfin⟩
            rw [HN.out, HC.out]
            omega
end Go.Proofs.YtnaedcennichlaaGreatDoor

/-
  The document's own lists: whether a packet's Subs and Codes may be.
-/
namespace Go.Proofs.YtnaedcennichlaaGreatDoor
open Go.RowKit
def sbK (t10 : Bool) (x : List UInt8 × Int) : Bool := flB x.1 && (!decide (2 < x.2) && !(t10 && decide (0 < x.2)))
def cdK (b : UInt8) : Bool := !(decide (2 < (b.toNat : Int)) && (b.toNat : Int) != 128)
def lsB (p : Pk) (xs : List (List UInt8 × Int)) : Bool := xs.all (sbK (p.ty == 10)) && (p.codes.all cdK && ((((p.ty == 8) || (p.ty == 10)) == decide (0 < xs.length)) && ((p.ty == 9) == decide (0 < p.codes.length))))
theorem all_drop {α : Type} (f : α → Bool) (l : List α) (k : Nat) (h : k < l.length) : (l.drop k).all f = (f l[k] && (l.drop (k + 1)).all f) := by
  rw [List.drop_eq_getElem_cons h, List.all_cons]
set_option maxRecDepth 100000 in
set_option maxHeartbeats 4000000 in
theorem refLists_eq (p : Pk) (A : Option Addr) (n c : Nat) (xs : List (List UInt8 × Int)) (r : Bool) (w : World) (hs : Subs w A n xs) (hf : Fit p xs) (h : lsB p xs = r) :
    Calls Tryz.prog 42 #[.agg (PkC p A n c)] w fun e w' => e = .returned (.bool r) ∧ Below w.heap.size w w' := by
  have hK0 := (Kp.nil w).new (PkC p A n c) 36
  obtain ⟨l1, l2, l3, l4, l5, l6, l7, l8, l9⟩ := hf.lens2
  have hn : n ≤ 1000000 := by have := hf.num; have := hs.len; omega
  have hlen := Lib.hid hs.len
  have hsm := Lib.hid (sumB_mem xs)
  have hsu := Lib.hid hf.sub
  have HS := Lib.hid hs
  obtain ⟨a8, h8⟩ : ∃ r, (p.ty == 8) = r := ⟨_, rfl⟩
  obtain ⟨a9, h9⟩ : ∃ r, (p.ty == 9) = r := ⟨_, rfl⟩
  obtain ⟨a10, h10⟩ : ∃ r, (p.ty == 10) = r := ⟨_, rfl⟩
  obtain ⟨last, hla⟩ : ∃ b, ((((p.ty == 8) || (p.ty == 10)) == decide (0 < xs.length)) && ((p.ty == 9) == decide (0 < p.codes.length))) = b := ⟨_, rfl⟩
  have H : Hid ((xs.all (sbK a10) && (p.codes.all cdK && last)) = r) := by show _ = _; rw [← h, lsB, hla, h10]
  rw [h8, h9, h10, hs.len] at hla
  have HLA := Lib.hid hla
  clear hs hf h hla
  go_enter Tryz.func42, Tryz.ntmps42
  go_upto_region 1 with fail
  obtain ⟨wv, hwv⟩ : ∃ wv : World, wv = w.alloc (.cells (PkC p A n c) 36) := ⟨_, rfl⟩
  rw [← hwv] at hK0 ⊢
  clear hwv
  have p1r := hK0.row; have p1f := hK0.free; have p1c := hK0.cell; have p1l := hK0.lt; have p1z := hK0.froz
  go_wp2_with fail
  go_loopw [3] (fun i wr => ∃ (k : Nat), i = .int .i64 k ∧ k ≤ n ∧ Kp w [(w.heap.size, PkC p A n c, 36)] wr ∧ Hid (((xs.drop k).all (sbK a10) && (p.codes.all cdK && last)) = r)) (fun i _ => n - (intOf i).toNat)
  case atStart => exact ⟨0, rfl, by omega, hK0, H⟩
  case round =>
    clear p1r p1f p1c p1l p1z hK0 H
    obtain ⟨k, rfl, hk, hKr, hc⟩ := hrel
    have e1r := hKr.row; have e1f := hKr.free; have e1c := hKr.cell; have e1l := hKr.lt; have e1z := hKr.froz
    by_cases hlt : k < n
    · have hlt2 : (k : Int) < (n : Int) := by omega
      obtain ⟨bx, off, x, rfl, hx, hx1, hx2⟩ := (HS.out.below hKr.below).two hlt
      have hs1 := Lib.hid (sb_all (sbK a10) xs k x hx)
      have hxl := hsm.out x (List.mem_of_getElem? hx)
      have hxu := hsu.out x (List.mem_of_getElem? hx)
      cases hfl : flB x.1 with
      | false =>
        have HF := Lib.hid hfl
        have HB : Hid (false = r) := by show _ = _; rw [← hc.out, hs1.out, sbK, hfl]; rfl
        clear hfl hs1 hc
        go_wp2_with fail
        refine (refFilter_eq x.1 false _ (by omega) HF.out).mono ?_
        rintro e w7 ⟨rfl, hb7⟩
        go_wp2_with fail
        go_ret
        exact ⟨by rw [← HB.out]; rfl, below_more hKr.below hb7⟩
      | true =>
        have HF := Lib.hid hfl
        obtain ⟨q2, hq2⟩ : ∃ q, decide (2 < x.2) = q := ⟨_, rfl⟩
        obtain ⟨q0, hq0⟩ : ∃ q, decide (0 < x.2) = q := ⟨_, rfl⟩
        have HD : Hid (((!q2 && !(a10 && q0)) && ((xs.drop (k + 1)).all (sbK a10) && (p.codes.all cdK && last))) = r) := by
          show _ = _
          rw [← hc.out, hs1.out, sbK, hfl, hq2, hq0, Bool.true_and]
          simp only [Bool.and_assoc]
        have HX := Lib.hid hx1
        have HX2 := Lib.hid hx2
        have hbr := hKr.below
        clear hfl hs1 hc hx
        go_wp2_with fail
        refine (refFilter_eq x.1 true _ (by omega) HF.out).mono ?_
        rintro e w7 ⟨rfl, hb7⟩
        have hK7 := hKr.more hb7
        have hx7 : w7.cell? ⟨bx, off + k * 2 + 1, none⟩ = some (.int .u8 x.2) := by
          obtain ⟨b', o', x', e, hx', h1', h2'⟩ := (HS.out.below hK7.below).two hlt
          cases e
          have hxx : x' = x := by
            have h1 := HX.out
            obtain ⟨b2, o2, x2, e2, hx2', h12, h22⟩ := (HS.out.below hbr).two hlt
            cases e2
            rw [hx2'] at hx'
            cases hx'
            have h3 := h12.symm.trans h1
            have h4 := h22.symm.trans HX2.out
            cases x'; cases x
            simp at h3 h4
            simp [h3, h4]
          rw [h2', hxx]
        clear hb7 e1r e1f e1c e1l e1z hx1 hx2
        have s1r := hK7.row; have s1f := hK7.free; have s1c := hK7.cell; have s1l := hK7.lt; have s1z := hK7.froz
        have hfin := hK7.below
        cases q2
        · cases a10
          · have HC : Hid (((xs.drop (k + 1)).all (sbK false) && (p.codes.all cdK && last)) = r) := by show _ = _; rw [← HD.out]; rfl
            go_wp2_with fail
            go_roundw
            case rel => exact ⟨k + 1, by go_num, by omega, hK7, HC⟩
            case measure => simp [intOf]; omega
          · cases q0
            · have HC : Hid (((xs.drop (k + 1)).all (sbK true) && (p.codes.all cdK && last)) = r) := by show _ = _; rw [← HD.out]; rfl
              go_wp2_with fail
              go_roundw
              case rel => exact ⟨k + 1, by go_num, by omega, hK7, HC⟩
              case measure => simp [intOf]; omega
            · have HB : Hid (false = r) := by show _ = _; rw [← HD.out]; rfl
              go_wp2_with fail
              go_ret
              exact ⟨by rw [← HB.out]; rfl, hfin⟩
        · have HB : Hid (false = r) := by show _ = _; rw [← HD.out]; rfl
          go_wp2_with fail
          go_ret
          exact ⟨by rw [← HB.out]; rfl, hfin⟩
    · obtain rfl : k = n := by omega
      have H2 : Hid ((p.codes.all cdK && last) = r) := by
        show _ = _
        rw [← hc.out, List.drop_eq_nil_of_le (by have := hlen.out; omega)]
        rfl
      have hlt2 : ¬ (k : Int) < (k : Int) := by omega
      clear hc hlt
      go_wp2_with fail
      clear e1r e1f e1c e1l e1z
      go_loopw [4] (fun i wz => ∃ (j : Nat), i = .int .i64 j ∧ j ≤ p.codes.length ∧ Kp w [(w.heap.size, PkC p A k c, 36)] wz ∧ Hid (((p.codes.drop j).all cdK && last) = r)) (fun i _ => p.codes.length - (intOf i).toNat)
      case atStart => exact ⟨0, rfl, by omega, hKr, H2⟩
      case round =>
        clear hKr H2
        obtain ⟨j, rfl, hj, hKz, hc⟩ := hrel
        have e1r := hKz.row; have e1f := hKz.free; have e1c := hKz.cell; have e1l := hKz.lt; have e1z := hKz.froz
        have hfin := hKz.below
        by_cases hlt : j < p.codes.length
        · have hlt2 : (j : Int) < (p.codes.length : Int) := by omega
          have hx := byte_at p.codes j hlt
          have hs1 := all_drop cdK p.codes j hlt
          obtain ⟨b, hb⟩ : ∃ b, p.codes[j] = b := ⟨_, rfl⟩
          simp only [hb] at hx hs1
          obtain ⟨q2, hq2⟩ : ∃ q, decide (2 < (b.toNat : Int)) = q := ⟨_, rfl⟩
          obtain ⟨qe, hqe⟩ : ∃ q, ((b.toNat : Int) != 128) = q := ⟨_, rfl⟩
          have HD : Hid ((!(q2 && qe) && ((p.codes.drop (j + 1)).all cdK && last)) = r) := by
            show _ = _
            rw [← hc.out, hs1, cdK, hq2, hqe]
            simp only [Bool.and_assoc]
          clear hs1 hc hb
          cases q2
          · have HC : Hid (((p.codes.drop (j + 1)).all cdK && last) = r) := by show _ = _; rw [← HD.out]; rfl
            go_wp2_with fail
            go_roundw
            case rel => exact ⟨j + 1, by go_num, by omega, hKz, HC⟩
            case measure => simp [intOf]; omega
          · cases qe
            · have HC : Hid (((p.codes.drop (j + 1)).all cdK && last) = r) := by show _ = _; rw [← HD.out]; rfl
              go_wp2_with fail
              go_roundw
              case rel => exact ⟨j + 1, by go_num, by omega, hKz, HC⟩
              case measure => simp [intOf]; omega
            · have HB : Hid (false = r) := by show _ = _; rw [← HD.out]; rfl
              go_wp2_with fail
              go_ret
              exact ⟨by rw [← HB.out]; rfl, hfin⟩
        · have hlt2 : ¬ (j : Int) < (p.codes.length : Int) := by omega
          have HB : Hid (last = r) := by show _ = _; rw [← hc.out, List.drop_eq_nil_of_le (by omega)]; rfl
          clear hc
          obtain ⟨d1, hd1⟩ : ∃ q, decide (0 < k) = q := ⟨_, rfl⟩
          obtain ⟨d2, hd2⟩ : ∃ q, decide (0 < p.codes.length) = q := ⟨_, rfl⟩
          have HV : Hid ((((a8 || a10) == d1) && (a9 == d2)) = r) := by
            show _ = _
            rw [← HB.out, ← HLA.out, ← hd1, ← hd2]
          clear HLA HB
          cases a8 <;> cases a10 <;> cases d1 <;> cases a9 <;> cases d2
          all_goals
            go_wp2_with fail
            go_ret
            exact ⟨by rw [← HV.out]; rfl, hfin⟩
end Go.Proofs.YtnaedcennichlaaGreatDoor

/-
  The document's own connect: whether a Connect's fields may be.
-/
namespace Go.Proofs.YtnaedcennichlaaGreatDoor
open Go.RowKit
def cA (p : Pk) : Bool := (p.level == 4) && valB p.client
def cW (p : Pk) : Bool := if p.hasWill then nmB p.wt && (!decide (65535 < p.wl.length) && !decide (2 < p.wq)) else (p.wt == []) && ((p.wl == []) && ((p.wq == 0) && !p.wr))
def cU (p : Pk) : Bool := if p.hasUser then valB p.user else (p.user == []) && !p.hasPass
def cP (p : Pk) : Bool := if p.hasPass then decide (p.pass.length ≤ 65535) else p.pass == []
def cnB (p : Pk) : Bool := cA p && (cW p && (cU p && cP p))
theorem if_t {α : Type} {b : Bool} {x y : α} (h : b = true) : (if b = true then x else y) = x := if_pos h
theorem if_f {α : Type} {b : Bool} {x y : α} (h : b = false) : (if b = true then x else y) = y := if_neg (by rw [h]; decide)
set_option maxRecDepth 100000 in
set_option maxHeartbeats 4000000 in
theorem refConnect_eq (p : Pk) (A : Option Addr) (n c : Nat) (r : Bool) (w : World) (l3 : p.client.length ≤ 100000) (l4 : p.wt.length ≤ 100000) (l5 : p.wl.length ≤ 100000) (l6 : p.user.length ≤ 100000) (l7 : p.pass.length ≤ 100000) (h : cnB p = r) :
    Calls Tryz.prog 43 #[.agg (PkC p A n c)] w fun e w' => e = .returned (.bool r) ∧ Below w.heap.size w w' := by
  have hK0 := (Kp.nil w).new (PkC p A n c) 36
  have H := Lib.hid h
  clear h
  go_enter Tryz.func43, Tryz.ntmps43
  go_upto_region 1 with fail
  obtain ⟨wv, hwv⟩ : ∃ wv : World, wv = w.alloc (.cells (PkC p A n c) 36) := ⟨_, rfl⟩
  rw [← hwv] at hK0 ⊢
  clear hwv
  have p1r := hK0.row; have p1f := hK0.free; have p1c := hK0.cell; have p1l := hK0.lt; have p1z := hK0.froz
  go_cut [11] (fun s11 wx => s11 = .bool (!cA p) ∧ Kp w [(w.heap.size, PkC p A n c, 36)] wx)
  case first =>
    obtain ⟨e4, h4⟩ : ∃ r, (p.level == 4) = r := ⟨_, rfl⟩
    have g4 := b_any h4
    cases e4
    · have HC : Hid (cA p = false) := by show _ = _; rw [cA, h4]; rfl
      simp only [Bool.not_false] at g4
      go_wp2_with fail
      go_meet
      case rel => exact ⟨by rw [HC.out]; rfl, hK0⟩
    · simp only [Bool.not_true] at g4
      obtain ⟨v, hv⟩ : ∃ r, valB p.client = r := ⟨_, rfl⟩
      have HC : Hid (cA p = v) := by show _ = _; rw [cA, h4, hv]; rfl
      have HV := Lib.hid hv
      clear hv
      go_wp2_with fail
      refine (refValid_eq p.client v _ (by omega) HV.out).mono ?_
      rintro e w1 ⟨rfl, hb1⟩
      have hK1 := hK0.more hb1
      clear hb1 p1r p1f p1c p1l p1z
      go_wp2_with fail
      go_meet
      case rel => exact ⟨by rw [HC.out], hK1⟩
  obtain ⟨rfl, hK1⟩ := hcut
  clear p1r p1f p1c p1l p1z hK0
  cases hA : cA p with
  | false =>
    have HB : Hid (false = r) := by show _ = _; rw [← H.out, cnB, hA]; rfl
    clear hA
    go_wp2_with fail
    go_ret
    exact ⟨by rw [← HB.out]; rfl, hK1.below⟩
  | true =>
  have HA := Lib.hid hA
  clear hA
  go_upto_region 3 with fail
  have p1r := hK1.row; have p1f := hK1.free; have p1c := hK1.cell; have p1l := hK1.lt; have p1z := hK1.froz
  go_cut [33] (fun s33 wx => s33 = .bool (p.hasWill && !cW p) ∧ Kp w [(w.heap.size, PkC p A n c, 36)] wx)
  case first =>
    cases hW : p.hasWill
    · go_wp2_with fail
      go_meet
      case rel => exact ⟨by rw [hW]; rfl, hK1⟩
    · obtain ⟨v, hv⟩ : ∃ r, nmB p.wt = r := ⟨_, rfl⟩
      obtain ⟨b1, h1⟩ : ∃ r, decide (65535 < p.wl.length) = r := ⟨_, rfl⟩
      obtain ⟨b2, h2⟩ : ∃ r, decide (2 < p.wq) = r := ⟨_, rfl⟩
      have HC : Hid (cW p = (v && (!b1 && !b2))) := by show _ = _; rw [cW, if_t hW, hv, h1, h2]
      have h1i : decide (65535 < (p.wl.length : Int)) = b1 := by rw [← h1, decide_eq_decide]; omega
      have HV := Lib.hid hv
      clear hv
      go_wp2_with fail
      refine (refName_eq p.wt v _ (by omega) HV.out).mono ?_
      rintro e w2 ⟨rfl, hb1⟩
      have hK2 := hK1.more hb1
      clear hb1 p1r p1f p1c p1l p1z
      have p1r := hK2.row; have p1f := hK2.free; have p1c := hK2.cell; have p1l := hK2.lt; have p1z := hK2.froz
      cases v
      · go_wp2_with fail
        go_meet
        case rel => exact ⟨by rw [hW, HC.out]; rfl, hK2⟩
      · cases b1
        · go_wp2_with fail
          go_meet
          case rel => exact ⟨by rw [hW, HC.out]; cases b2 <;> rfl, hK2⟩
        · go_wp2_with fail
          go_meet
          case rel => exact ⟨by rw [hW, HC.out]; rfl, hK2⟩
  obtain ⟨rfl, hK2⟩ := hcut
  clear p1r p1f p1c p1l p1z hK1
  cases hA : (p.hasWill && !cW p) with
  | true =>
    have HB : Hid (false = r) := by
      show _ = _
      have : cW p = false := by cases hq : cW p with | false => rfl | true => (rw [hq, Bool.not_true, Bool.and_false] at hA; cases hA)
      rw [← H.out, cnB, this, Bool.false_and, Bool.and_false]
    clear hA
    go_wp2_with fail
    go_ret
    exact ⟨by rw [← HB.out]; rfl, hK2.below⟩
  | false =>
  have HW1 := Lib.hid hA
  clear hA
  go_upto_region 5 with fail
  have p1r := hK2.row; have p1f := hK2.free; have p1c := hK2.cell; have p1l := hK2.lt; have p1z := hK2.froz
  go_cut [59] (fun s59 wx => s59 = .bool (!p.hasWill && !cW p) ∧ Kp w [(w.heap.size, PkC p A n c, 36)] wx)
  case first =>
    cases hW : p.hasWill
    rotate_left
    · go_wp2_with fail
      go_meet
      case rel => exact ⟨by rw [hW]; rfl, hK2⟩
    · obtain ⟨b1, h1⟩ : ∃ r, (p.wt == []) = r := ⟨_, rfl⟩
      obtain ⟨b2, h2⟩ : ∃ r, (p.wl == []) = r := ⟨_, rfl⟩
      obtain ⟨b3, h3⟩ : ∃ r, (p.wq == 0) = r := ⟨_, rfl⟩
      obtain ⟨b4, h4⟩ : ∃ r, p.wr = r := ⟨_, rfl⟩
      have HC : Hid (cW p = (b1 && (b2 && (b3 && !b4)))) := by show _ = _; rw [cW, if_f hW, h1, h2, h3, h4]
      have g1 : (p.wt != []) = !b1 := by rw [← h1]; rfl
      have g2 : (p.wl != []) = !b2 := by rw [← h2]; rfl
      have g3 := b_any h3
      cases b1
      · simp only [Bool.not_false, Bool.not_true] at g1
        go_wp2_with fail
        go_meet
        case rel => exact ⟨by rw [hW, HC.out]; rfl, hK2⟩
      · cases b2
        · simp only [Bool.not_false, Bool.not_true] at g1 g2
          go_wp2_with fail
          go_meet
          case rel => exact ⟨by rw [hW, HC.out]; rfl, hK2⟩
        · cases b3
          · simp only [Bool.not_false, Bool.not_true] at g1 g2 g3
            go_wp2_with fail
            go_meet
            case rel => exact ⟨by rw [hW, HC.out]; rfl, hK2⟩
          · simp only [Bool.not_false, Bool.not_true] at g1 g2 g3
            go_wp2_with fail
            go_meet
            case rel => exact ⟨by rw [hW, HC.out]; cases b4 <;> rfl, hK2⟩
  obtain ⟨rfl, hK3⟩ := hcut
  clear p1r p1f p1c p1l p1z hK2
  cases hA : (!p.hasWill && !cW p) with
  | true =>
    have HB : Hid (false = r) := by
      show _ = _
      have : cW p = false := by cases hq : cW p with | false => rfl | true => (rw [hq, Bool.not_true, Bool.and_false] at hA; cases hA)
      rw [← H.out, cnB, this, Bool.false_and, Bool.and_false]
    clear hA
    go_wp2_with fail
    go_ret
    exact ⟨by rw [← HB.out]; rfl, hK3.below⟩
  | false =>
  have HW : Hid (cW p = true) := by
    show _ = _
    have h1 := HW1.out
    cases hq : cW p with
    | true => rfl
    | false => rw [hq] at h1 hA; cases hw : p.hasWill <;> rw [hw] at h1 hA <;> first | exact absurd h1 (by decide) | exact absurd hA (by decide)
  clear hA HW1
  go_upto_region 7 with fail
  have p1r := hK3.row; have p1f := hK3.free; have p1c := hK3.cell; have p1l := hK3.lt; have p1z := hK3.froz
  go_cut [81] (fun s81 wx => s81 = .bool (!cU p) ∧ Kp w [(w.heap.size, PkC p A n c, 36)] wx)
  case first =>
    cases hU : p.hasUser
    · obtain ⟨b1, h1⟩ : ∃ r, (p.user == []) = r := ⟨_, rfl⟩
      obtain ⟨b2, h2⟩ : ∃ r, p.hasPass = r := ⟨_, rfl⟩
      have HC : Hid (cU p = (b1 && !b2)) := by show _ = _; rw [cU, if_f hU, h1, h2]
      have g1 : (p.user != []) = !b1 := by rw [← h1]; rfl
      cases b1
      · simp only [Bool.not_false, Bool.not_true] at g1
        go_wp2_with fail
        go_meet
        case rel => exact ⟨by rw [HC.out]; rfl, hK3⟩
      · simp only [Bool.not_false, Bool.not_true] at g1
        go_wp2_with fail
        go_meet
        case rel => exact ⟨by rw [HC.out]; cases b2 <;> rfl, hK3⟩
    · obtain ⟨v, hv⟩ : ∃ r, valB p.user = r := ⟨_, rfl⟩
      have HC : Hid (cU p = v) := by show _ = _; rw [cU, if_t hU, hv]
      have HV := Lib.hid hv
      clear hv
      go_wp2_with fail
      refine (refValid_eq p.user v _ (by omega) HV.out).mono ?_
      rintro e w4 ⟨rfl, hb1⟩
      have hK4 := hK3.more hb1
      clear hb1 p1r p1f p1c p1l p1z
      have p1r := hK4.row; have p1f := hK4.free; have p1c := hK4.cell; have p1l := hK4.lt; have p1z := hK4.froz
      cases v
      all_goals
        go_wp2_with fail
        go_meet
        case rel => exact ⟨by rw [HC.out]; rfl, hK4⟩
  obtain ⟨rfl, hK4⟩ := hcut
  clear p1r p1f p1c p1l p1z hK3
  cases hA : cU p with
  | false =>
    have HB : Hid (false = r) := by show _ = _; rw [← H.out, cnB, hA, Bool.false_and, Bool.and_false, Bool.and_false]
    clear hA
    go_wp2_with fail
    go_ret
    exact ⟨by rw [← HB.out]; rfl, hK4.below⟩
  | true =>
  have HB : Hid (cP p = r) := by show _ = _; rw [← H.out, cnB, HA.out, HW.out, hA]; rfl
  clear hA H HA HW
  have hfin := hK4.below
  have p1r := hK4.row; have p1f := hK4.free; have p1c := hK4.cell; have p1l := hK4.lt; have p1z := hK4.froz
  cases hP : p.hasPass
  · obtain ⟨b1, h1⟩ : ∃ r, (p.pass == []) = r := ⟨_, rfl⟩
    have HC : Hid (b1 = r) := by show _ = _; rw [← HB.out, cP, if_f hP, h1]
    go_wp2_with fail
    go_ret
    exact ⟨by rw [← HC.out]; rfl, hfin⟩
  · obtain ⟨b1, h1⟩ : ∃ r, decide (p.pass.length ≤ 65535) = r := ⟨_, rfl⟩
    have h1i : decide ((p.pass.length : Int) ≤ 65535) = b1 := by rw [← h1, decide_eq_decide]; omega
    have HC : Hid (b1 = r) := by show _ = _; rw [← HB.out, cP, if_t hP, h1]
    cases b1
    all_goals
      go_wp2_with fail
      go_ret
      exact ⟨by rw [← HC.out]; rfl, hfin⟩
end Go.Proofs.YtnaedcennichlaaGreatDoor

/-
  The document's own Only: a packet with those fields alone that its type has.
-/
namespace Go.Proofs.YtnaedcennichlaaGreatDoor
open Go.RowKit
def onl1 (L : List UInt8) (p q : Pk) : Pk := q.s_dup (p.dup && hasB L 100)
def onl2 (L : List UInt8) (p q : Pk) : Pk := q.s_ret (p.ret && hasB L 114)
def onl3 (L : List UInt8) (p q : Pk) : Pk := q.s_clean (p.clean && hasB L 99)
def onl4 (L : List UInt8) (p q : Pk) : Pk := q.s_present (p.present && hasB L 101)
def onl5 (L : List UInt8) (q : Pk) : Pk := if hasB L 113 = true then q else q.s_qos 0
def onl6 (L : List UInt8) (q : Pk) : Pk := if hasB L 105 = true then q else q.s_id 0
def onl7 (L : List UInt8) (q : Pk) : Pk := if hasB L 116 = true then q else q.s_topic []
def onl8 (L : List UInt8) (q : Pk) : Pk := if hasB L 112 = true then q else q.s_load []
def onl9 (L : List UInt8) (q : Pk) : Pk := if hasB L 108 = true then q else ((((((((((q.s_level 0).s_keep 0).s_client []).s_hasWill false).s_will [] [] 0 false).s_hasUser false).s_user []).s_hasPass false).s_pass []))
def onl10 (L : List UInt8) (q : Pk) : Pk := if hasB L 111 = true then q else q.s_code 0
def onl11 (L : List UInt8) (q : Pk) : Pk := q
def onl12 (L : List UInt8) (q : Pk) : Pk := if hasB L 109 = true then q else q.s_codes []
def oA (L : List UInt8) (A : Option Addr) : Option Addr := if hasB L 98 = true then A else none
def oN (L : List UInt8) (n : Nat) : Nat := if hasB L 98 = true then n else 0
def onlyP (L : List UInt8) (p : Pk) : Pk := onl12 L (onl11 L (onl10 L (onl9 L (onl8 L (onl7 L (onl6 L (onl5 L (onl4 L p (onl3 L p (onl2 L p (onl1 L p (p))))))))))))
set_option maxRecDepth 100000 in
set_option maxHeartbeats 8000000 in
theorem refOnly_any (p : Pk) (A : Option Addr) (n c k : Nat) (L : List UInt8) (w : World) (hty : p.ty = (k : Int)) (hk : k ≤ 255) (hL : fldF k = L) (hl : L.length ≤ 100) :
    Calls Tryz.prog 41 #[.agg (PkC p A n c)] w fun e w' => e = .returned (.agg (PkC (onlyP L p) (oA L A) (oN L n) (oN L c))) ∧ Below w.heap.size w w' := by
  have hK0 := (((Kp.nil w).new (PkC p A n c) 36).new (PkC zPk none 0 0) 36).swap
  simp only [World.size_alloc] at hK0
  have hF : ∀ w, Calls Tryz.prog 40 #[.int .u8 p.ty] w fun e w' => e = .returned (.string ⟨L.toArray⟩) ∧ Below w.heap.size w w' := by
    intro w
    rw [hty]
    exact refFields_eq k hk L hL w
  have HF := Lib.hid hF
  have hb0 : Below w.heap.size w w := Below.refl _ _
  clear hF hty hk hL
  go_enter Tryz.func41, Tryz.ntmps41
  go_wp2_with fail
  refine (HF.out _).mono ?_
  rintro e w6 ⟨rfl, hb6⟩
  have hK6 := hK0.more hb6
  clear hb6 hK0 HF
  have p1r := hK6.row; have p1f := hK6.free; have p1c := hK6.cell; have p1l := hK6.lt; have p1z := hK6.froz
  have p2r := hK6.tail.row; have p2f := hK6.tail.free; have p2c := hK6.tail.cell; have p2l := hK6.tail.lt; have p2z := hK6.tail.froz
  go_upto_region 3 with fail
  obtain ⟨w7, hw7⟩ : ∃ w7 : World, w7 = w6.alloc (.cells (PkC p A n c) 36) := ⟨_, rfl⟩
  have hK7 := hK6.new (PkC p A n c) 36
  rw [← hw7] at hK7 ⊢
  obtain ⟨g, hg⟩ : ∃ g, g = w6.heap.size := ⟨_, rfl⟩
  have hg1 : w.heap.size + 1 < g := by omega
  rw [← hg] at hK7 ⊢
  clear hw7 hg hK6 p1r p1f p1c p1l p1z p2r p2f p2c p2l p2z
  have hne : ∀ x ∈ [(w.heap.size, PkC p A n c, 36), (w.heap.size + 1, PkC zPk none 0 0, 36)], x.1 ≠ g := by
    intro x hx
    simp at hx
    rcases hx with rfl | rfl <;> (simp; omega)
  have m1 : ¬ w.heap.size = g := by omega
  have m2 : ¬ w.heap.size + 1 = g := by omega
  have m3 : ¬ g = w.heap.size := by omega
  have m4 : ¬ g = w.heap.size + 1 := by omega
  have HNE := Lib.hid hne
  clear hne
  obtain ⟨q0, hq0⟩ : ∃ q0, q0 = p := ⟨_, rfl⟩
  rw [show PkC p A n c = PkC q0 A n c by rw [hq0]] at hK7
  rw [show (w.heap.size, PkC q0 A n c, 36) = (w.heap.size, PkC p A n c, 36) by rw [hq0]] at hK7
  have HQ0 := Lib.hid hq0
  clear hq0
  go_upto_region 3 with fail
  have p1r := hK7.row; have p1f := hK7.free; have p1c := hK7.cell; have p1l := hK7.lt; have p1z := hK7.froz
  have p2r := hK7.tail.row; have p2f := hK7.tail.free; have p2c := hK7.tail.cell; have p2l := hK7.tail.lt; have p2z := hK7.tail.froz
  have p3r := hK7.tail.tail.row; have p3f := hK7.tail.tail.free; have p3c := hK7.tail.tail.cell; have p3l := hK7.tail.tail.lt; have p3z := hK7.tail.tail.froz
  go_cut [] (fun wx => Kp w [(g, PkC (onl1 L p q0) A n c, 36), (w.heap.size, PkC p A n c, 36), (w.heap.size + 1, PkC zPk none 0 0, 36)] wx)
  case first =>
    cases hd : p.dup
    · go_wp2_with fail
      go_meet
      case rel => (unfold onl1; rw [hd]; exact hK7.set HNE.out _)
    · go_wp2_with fail
      refine (has_eq L 100 _ _ (by omega) rfl).mono ?_
      rintro e wh ⟨rfl, rfl⟩
      go_wp2_with fail
      go_meet
      case rel => (unfold onl1; rw [hd]; exact hK7.set HNE.out _)
  clear hK7 p1r p1f p1c p1l p1z p2r p2f p2c p2l p2z p3r p3f p3c p3l p3z
  have hK7 := hcut
  clear hcut
  obtain ⟨q1, hq1⟩ : ∃ q, q = onl1 L p q0 := ⟨_, rfl⟩
  rw [← hq1] at hK7
  have HQ1 := Lib.hid hq1
  clear hq1
  go_upto_region 4 with fail
  have p1r := hK7.row; have p1f := hK7.free; have p1c := hK7.cell; have p1l := hK7.lt; have p1z := hK7.froz
  have p2r := hK7.tail.row; have p2f := hK7.tail.free; have p2c := hK7.tail.cell; have p2l := hK7.tail.lt; have p2z := hK7.tail.froz
  have p3r := hK7.tail.tail.row; have p3f := hK7.tail.tail.free; have p3c := hK7.tail.tail.cell; have p3l := hK7.tail.tail.lt; have p3z := hK7.tail.tail.froz
  go_cut [] (fun wx => Kp w [(g, PkC (onl2 L p q1) A n c, 36), (w.heap.size, PkC p A n c, 36), (w.heap.size + 1, PkC zPk none 0 0, 36)] wx)
  case first =>
    cases hd : p.ret
    · go_wp2_with fail
      go_meet
      case rel => (unfold onl2; rw [hd]; exact hK7.set HNE.out _)
    · go_wp2_with fail
      refine (has_eq L 114 _ _ (by omega) rfl).mono ?_
      rintro e wh ⟨rfl, rfl⟩
      go_wp2_with fail
      go_meet
      case rel => (unfold onl2; rw [hd]; exact hK7.set HNE.out _)
  clear hK7 p1r p1f p1c p1l p1z p2r p2f p2c p2l p2z p3r p3f p3c p3l p3z
  have hK7 := hcut
  clear hcut
  obtain ⟨q2, hq2⟩ : ∃ q, q = onl2 L p q1 := ⟨_, rfl⟩
  rw [← hq2] at hK7
  have HQ2 := Lib.hid hq2
  clear hq2
  go_upto_region 5 with fail
  have p1r := hK7.row; have p1f := hK7.free; have p1c := hK7.cell; have p1l := hK7.lt; have p1z := hK7.froz
  have p2r := hK7.tail.row; have p2f := hK7.tail.free; have p2c := hK7.tail.cell; have p2l := hK7.tail.lt; have p2z := hK7.tail.froz
  have p3r := hK7.tail.tail.row; have p3f := hK7.tail.tail.free; have p3c := hK7.tail.tail.cell; have p3l := hK7.tail.tail.lt; have p3z := hK7.tail.tail.froz
  go_cut [] (fun wx => Kp w [(g, PkC (onl3 L p q2) A n c, 36), (w.heap.size, PkC p A n c, 36), (w.heap.size + 1, PkC zPk none 0 0, 36)] wx)
  case first =>
    cases hd : p.clean
    · go_wp2_with fail
      go_meet
      case rel => (unfold onl3; rw [hd]; exact hK7.set HNE.out _)
    · go_wp2_with fail
      refine (has_eq L 99 _ _ (by omega) rfl).mono ?_
      rintro e wh ⟨rfl, rfl⟩
      go_wp2_with fail
      go_meet
      case rel => (unfold onl3; rw [hd]; exact hK7.set HNE.out _)
  clear hK7 p1r p1f p1c p1l p1z p2r p2f p2c p2l p2z p3r p3f p3c p3l p3z
  have hK7 := hcut
  clear hcut
  obtain ⟨q3, hq3⟩ : ∃ q, q = onl3 L p q2 := ⟨_, rfl⟩
  rw [← hq3] at hK7
  have HQ3 := Lib.hid hq3
  clear hq3
  go_upto_region 6 with fail
  have p1r := hK7.row; have p1f := hK7.free; have p1c := hK7.cell; have p1l := hK7.lt; have p1z := hK7.froz
  have p2r := hK7.tail.row; have p2f := hK7.tail.free; have p2c := hK7.tail.cell; have p2l := hK7.tail.lt; have p2z := hK7.tail.froz
  have p3r := hK7.tail.tail.row; have p3f := hK7.tail.tail.free; have p3c := hK7.tail.tail.cell; have p3l := hK7.tail.tail.lt; have p3z := hK7.tail.tail.froz
  go_cut [] (fun wx => Kp w [(g, PkC (onl4 L p q3) A n c, 36), (w.heap.size, PkC p A n c, 36), (w.heap.size + 1, PkC zPk none 0 0, 36)] wx)
  case first =>
    cases hd : p.present
    · go_wp2_with fail
      go_meet
      case rel => (unfold onl4; rw [hd]; exact hK7.set HNE.out _)
    · go_wp2_with fail
      refine (has_eq L 101 _ _ (by omega) rfl).mono ?_
      rintro e wh ⟨rfl, rfl⟩
      go_wp2_with fail
      go_meet
      case rel => (unfold onl4; rw [hd]; exact hK7.set HNE.out _)
  clear hK7 p1r p1f p1c p1l p1z p2r p2f p2c p2l p2z p3r p3f p3c p3l p3z
  have hK7 := hcut
  clear hcut
  obtain ⟨q4, hq4⟩ : ∃ q, q = onl4 L p q3 := ⟨_, rfl⟩
  rw [← hq4] at hK7
  have HQ4 := Lib.hid hq4
  clear hq4
  go_upto_region 7 with fail
  have p1r := hK7.row; have p1f := hK7.free; have p1c := hK7.cell; have p1l := hK7.lt; have p1z := hK7.froz
  have p2r := hK7.tail.row; have p2f := hK7.tail.free; have p2c := hK7.tail.cell; have p2l := hK7.tail.lt; have p2z := hK7.tail.froz
  have p3r := hK7.tail.tail.row; have p3f := hK7.tail.tail.free; have p3c := hK7.tail.tail.cell; have p3l := hK7.tail.tail.lt; have p3z := hK7.tail.tail.froz
  go_wp2_with fail
  refine (has_eq L 113 _ _ (by omega) rfl).mono ?_
  rintro e wh ⟨rfl, rfl⟩
  go_upto_if 39 with fail
  go_cut [] (fun wx => Kp w [(g, PkC (onl5 L q4) A n c, 36), (w.heap.size, PkC p A n c, 36), (w.heap.size + 1, PkC zPk none 0 0, 36)] wx)
  case first =>
    cases hd : hasB L 113
    · go_wp2_with fail
      go_meet
      case rel => (unfold onl5; simp only [hd, Bool.false_eq_true, if_false]; exact hK7.set HNE.out _)
    · go_wp2_with fail
      go_meet
      case rel => (unfold onl5; simp only [hd, if_true]; exact hK7)
  clear hK7 p1r p1f p1c p1l p1z p2r p2f p2c p2l p2z p3r p3f p3c p3l p3z
  have hK7 := hcut
  clear hcut
  obtain ⟨q5, hq5⟩ : ∃ q, q = onl5 L q4 := ⟨_, rfl⟩
  rw [← hq5] at hK7
  have HQ5 := Lib.hid hq5
  clear hq5
  go_upto_region 9 with fail
  have p1r := hK7.row; have p1f := hK7.free; have p1c := hK7.cell; have p1l := hK7.lt; have p1z := hK7.froz
  have p2r := hK7.tail.row; have p2f := hK7.tail.free; have p2c := hK7.tail.cell; have p2l := hK7.tail.lt; have p2z := hK7.tail.froz
  have p3r := hK7.tail.tail.row; have p3f := hK7.tail.tail.free; have p3c := hK7.tail.tail.cell; have p3l := hK7.tail.tail.lt; have p3z := hK7.tail.tail.froz
  go_wp2_with fail
  refine (has_eq L 105 _ _ (by omega) rfl).mono ?_
  rintro e wh ⟨rfl, rfl⟩
  go_upto_if 43 with fail
  go_cut [] (fun wx => Kp w [(g, PkC (onl6 L q5) A n c, 36), (w.heap.size, PkC p A n c, 36), (w.heap.size + 1, PkC zPk none 0 0, 36)] wx)
  case first =>
    cases hd : hasB L 105
    · go_wp2_with fail
      go_meet
      case rel => (unfold onl6; simp only [hd, Bool.false_eq_true, if_false]; exact hK7.set HNE.out _)
    · go_wp2_with fail
      go_meet
      case rel => (unfold onl6; simp only [hd, if_true]; exact hK7)
  clear hK7 p1r p1f p1c p1l p1z p2r p2f p2c p2l p2z p3r p3f p3c p3l p3z
  have hK7 := hcut
  clear hcut
  obtain ⟨q6, hq6⟩ : ∃ q, q = onl6 L q5 := ⟨_, rfl⟩
  rw [← hq6] at hK7
  have HQ6 := Lib.hid hq6
  clear hq6
  go_upto_region 11 with fail
  have p1r := hK7.row; have p1f := hK7.free; have p1c := hK7.cell; have p1l := hK7.lt; have p1z := hK7.froz
  have p2r := hK7.tail.row; have p2f := hK7.tail.free; have p2c := hK7.tail.cell; have p2l := hK7.tail.lt; have p2z := hK7.tail.froz
  have p3r := hK7.tail.tail.row; have p3f := hK7.tail.tail.free; have p3c := hK7.tail.tail.cell; have p3l := hK7.tail.tail.lt; have p3z := hK7.tail.tail.froz
  go_wp2_with fail
  refine (has_eq L 116 _ _ (by omega) rfl).mono ?_
  rintro e wh ⟨rfl, rfl⟩
  go_upto_if 47 with fail
  go_cut [] (fun wx => Kp w [(g, PkC (onl7 L q6) A n c, 36), (w.heap.size, PkC p A n c, 36), (w.heap.size + 1, PkC zPk none 0 0, 36)] wx)
  case first =>
    cases hd : hasB L 116
    · go_wp2_with fail
      go_meet
      case rel => (unfold onl7; simp only [hd, Bool.false_eq_true, if_false]; exact hK7.set HNE.out _)
    · go_wp2_with fail
      go_meet
      case rel => (unfold onl7; simp only [hd, if_true]; exact hK7)
  clear hK7 p1r p1f p1c p1l p1z p2r p2f p2c p2l p2z p3r p3f p3c p3l p3z
  have hK7 := hcut
  clear hcut
  obtain ⟨q7, hq7⟩ : ∃ q, q = onl7 L q6 := ⟨_, rfl⟩
  rw [← hq7] at hK7
  have HQ7 := Lib.hid hq7
  clear hq7
  go_upto_region 13 with fail
  have p1r := hK7.row; have p1f := hK7.free; have p1c := hK7.cell; have p1l := hK7.lt; have p1z := hK7.froz
  have p2r := hK7.tail.row; have p2f := hK7.tail.free; have p2c := hK7.tail.cell; have p2l := hK7.tail.lt; have p2z := hK7.tail.froz
  have p3r := hK7.tail.tail.row; have p3f := hK7.tail.tail.free; have p3c := hK7.tail.tail.cell; have p3l := hK7.tail.tail.lt; have p3z := hK7.tail.tail.froz
  go_wp2_with fail
  refine (has_eq L 112 _ _ (by omega) rfl).mono ?_
  rintro e wh ⟨rfl, rfl⟩
  go_upto_if 51 with fail
  go_cut [] (fun wx => Kp w [(g, PkC (onl8 L q7) A n c, 36), (w.heap.size, PkC p A n c, 36), (w.heap.size + 1, PkC zPk none 0 0, 36)] wx)
  case first =>
    cases hd : hasB L 112
    · go_wp2_with fail
      go_meet
      case rel => (unfold onl8; simp only [hd, Bool.false_eq_true, if_false]; exact hK7.set HNE.out _)
    · go_wp2_with fail
      go_meet
      case rel => (unfold onl8; simp only [hd, if_true]; exact hK7)
  clear hK7 p1r p1f p1c p1l p1z p2r p2f p2c p2l p2z p3r p3f p3c p3l p3z
  have hK7 := hcut
  clear hcut
  obtain ⟨q8, hq8⟩ : ∃ q, q = onl8 L q7 := ⟨_, rfl⟩
  rw [← hq8] at hK7
  have HQ8 := Lib.hid hq8
  clear hq8
  go_upto_region 15 with fail
  have p1r := hK7.row; have p1f := hK7.free; have p1c := hK7.cell; have p1l := hK7.lt; have p1z := hK7.froz
  have p2r := hK7.tail.row; have p2f := hK7.tail.free; have p2c := hK7.tail.cell; have p2l := hK7.tail.lt; have p2z := hK7.tail.froz
  have p3r := hK7.tail.tail.row; have p3f := hK7.tail.tail.free; have p3c := hK7.tail.tail.cell; have p3l := hK7.tail.tail.lt; have p3z := hK7.tail.tail.froz
  go_wp2_with fail
  refine (has_eq L 108 _ _ (by omega) rfl).mono ?_
  rintro e wh ⟨rfl, rfl⟩
  go_upto_if 55 with fail
  go_cut [] (fun wx => Kp w [(g, PkC (onl9 L q8) A n c, 36), (w.heap.size, PkC p A n c, 36), (w.heap.size + 1, PkC zPk none 0 0, 36)] wx)
  case first =>
    cases hd : hasB L 108
    · go_wp2_with fail
      go_meet
      case rel => (unfold onl9; simp only [hd, Bool.false_eq_true, if_false]; exact hK7.set HNE.out _)
    · go_wp2_with fail
      go_meet
      case rel => (unfold onl9; simp only [hd, if_true]; exact hK7)
  clear hK7 p1r p1f p1c p1l p1z p2r p2f p2c p2l p2z p3r p3f p3c p3l p3z
  have hK7 := hcut
  clear hcut
  obtain ⟨q9, hq9⟩ : ∃ q, q = onl9 L q8 := ⟨_, rfl⟩
  rw [← hq9] at hK7
  have HQ9 := Lib.hid hq9
  clear hq9
  go_upto_region 25 with fail
  have p1r := hK7.row; have p1f := hK7.free; have p1c := hK7.cell; have p1l := hK7.lt; have p1z := hK7.froz
  have p2r := hK7.tail.row; have p2f := hK7.tail.free; have p2c := hK7.tail.cell; have p2l := hK7.tail.lt; have p2z := hK7.tail.froz
  have p3r := hK7.tail.tail.row; have p3f := hK7.tail.tail.free; have p3c := hK7.tail.tail.cell; have p3l := hK7.tail.tail.lt; have p3z := hK7.tail.tail.froz
  go_wp2_with fail
  refine (has_eq L 111 _ _ (by omega) rfl).mono ?_
  rintro e wh ⟨rfl, rfl⟩
  go_upto_if 68 with fail
  go_cut [] (fun wx => Kp w [(g, PkC (onl10 L q9) A n c, 36), (w.heap.size, PkC p A n c, 36), (w.heap.size + 1, PkC zPk none 0 0, 36)] wx)
  case first =>
    cases hd : hasB L 111
    · go_wp2_with fail
      go_meet
      case rel => (unfold onl10; simp only [hd, Bool.false_eq_true, if_false]; exact hK7.set HNE.out _)
    · go_wp2_with fail
      go_meet
      case rel => (unfold onl10; simp only [hd, if_true]; exact hK7)
  clear hK7 p1r p1f p1c p1l p1z p2r p2f p2c p2l p2z p3r p3f p3c p3l p3z
  have hK7 := hcut
  clear hcut
  obtain ⟨q10, hq10⟩ : ∃ q, q = onl10 L q9 := ⟨_, rfl⟩
  rw [← hq10] at hK7
  have HQ10 := Lib.hid hq10
  clear hq10
  go_upto_region 27 with fail
  have p1r := hK7.row; have p1f := hK7.free; have p1c := hK7.cell; have p1l := hK7.lt; have p1z := hK7.froz
  have p2r := hK7.tail.row; have p2f := hK7.tail.free; have p2c := hK7.tail.cell; have p2l := hK7.tail.lt; have p2z := hK7.tail.froz
  have p3r := hK7.tail.tail.row; have p3f := hK7.tail.tail.free; have p3c := hK7.tail.tail.cell; have p3l := hK7.tail.tail.lt; have p3z := hK7.tail.tail.froz
  go_wp2_with fail
  refine (has_eq L 98 _ _ (by omega) rfl).mono ?_
  rintro e wh ⟨rfl, rfl⟩
  go_upto_if 72 with fail
  go_cut [] (fun wx => Kp w [(g, PkC q10 (if hasB L 98 = true then A else none) (if hasB L 98 = true then n else 0) (if hasB L 98 = true then c else 0), 36), (w.heap.size, PkC p A n c, 36), (w.heap.size + 1, PkC zPk none 0 0, 36)] wx)
  case first =>
    cases hd : hasB L 98
    · go_wp2_with fail
      go_meet
      case rel => (simp only [hd, Bool.false_eq_true, if_false]; exact hK7.set HNE.out _)
    · go_wp2_with fail
      go_meet
      case rel => (simp only [hd, if_true]; exact hK7)
  clear hK7 p1r p1f p1c p1l p1z p2r p2f p2c p2l p2z p3r p3f p3c p3l p3z
  have hK7 := hcut
  clear hcut
  obtain ⟨A', hA'⟩ : ∃ a, a = oA L A := ⟨_, rfl⟩
  obtain ⟨n', hn'⟩ : ∃ a, a = oN L n := ⟨_, rfl⟩
  obtain ⟨c', hc'⟩ : ∃ a, a = oN L c := ⟨_, rfl⟩
  rw [show (if hasB L 98 = true then A else none) = A' from hA'.symm, show (if hasB L 98 = true then n else 0) = n' from hn'.symm, show (if hasB L 98 = true then c else 0) = c' from hc'.symm] at hK7
  have HA' := Lib.hid hA'
  have HN' := Lib.hid hn'
  have HC' := Lib.hid hc'
  clear hA' hn' hc'
  obtain ⟨q11, hq11⟩ : ∃ q, q = onl11 L q10 := ⟨_, rfl⟩
  rw [show q10 = q11 by rw [hq11]; rfl] at hK7
  have HQ11 := Lib.hid hq11
  clear hq11
  go_upto_region 29 with fail
  have p1r := hK7.row; have p1f := hK7.free; have p1c := hK7.cell; have p1l := hK7.lt; have p1z := hK7.froz
  have p2r := hK7.tail.row; have p2f := hK7.tail.free; have p2c := hK7.tail.cell; have p2l := hK7.tail.lt; have p2z := hK7.tail.froz
  have p3r := hK7.tail.tail.row; have p3f := hK7.tail.tail.free; have p3c := hK7.tail.tail.cell; have p3l := hK7.tail.tail.lt; have p3z := hK7.tail.tail.froz
  go_wp2_with fail
  refine (has_eq L 109 _ _ (by omega) rfl).mono ?_
  rintro e wh ⟨rfl, rfl⟩
  go_upto_if 76 with fail
  go_cut [] (fun wx => Kp w [(g, PkC (onl12 L q11) A' n' c', 36), (w.heap.size, PkC p A n c, 36), (w.heap.size + 1, PkC zPk none 0 0, 36)] wx)
  case first =>
    cases hd : hasB L 109
    · go_wp2_with fail
      go_meet
      case rel => (unfold onl12; simp only [hd, Bool.false_eq_true, if_false]; exact hK7.set HNE.out _)
    · go_wp2_with fail
      go_meet
      case rel => (unfold onl12; simp only [hd, if_true]; exact hK7)
  clear hK7 p1r p1f p1c p1l p1z p2r p2f p2c p2l p2z p3r p3f p3c p3l p3z
  have hK7 := hcut
  clear hcut
  obtain ⟨q12, hq12⟩ : ∃ q, q = onl12 L q11 := ⟨_, rfl⟩
  rw [← hq12] at hK7
  have HQ12 := Lib.hid hq12
  clear hq12
  have HE : Hid (onlyP L p = q12) := by
    show _ = _
    unfold onlyP
    rw [HQ12.out, HQ11.out, HQ10.out, HQ9.out, HQ8.out, HQ7.out, HQ6.out, HQ5.out, HQ4.out, HQ3.out, HQ2.out, HQ1.out, HQ0.out]
  clear HQ0 HQ1 HQ2 HQ3 HQ4 HQ5 HQ6 HQ7 HQ8 HQ9 HQ10 HQ11 HQ12
  have p1r := hK7.row; have p1f := hK7.free; have p1c := hK7.cell; have p1l := hK7.lt; have p1z := hK7.froz
  have p2r := hK7.tail.row; have p2f := hK7.tail.free; have p2c := hK7.tail.cell; have p2l := hK7.tail.lt; have p2z := hK7.tail.froz
  have p3r := hK7.tail.tail.row; have p3f := hK7.tail.tail.free; have p3c := hK7.tail.tail.cell; have p3l := hK7.tail.tail.lt; have p3z := hK7.tail.tail.froz
  have hfin := hK7.below
  go_wp2_with fail
  refine ret_pk 2 _ q12 A' n' c' rfl rfl (by go_simp) rfl ⟨by rw [HE.out, HA'.out, HN'.out, HC'.out], ?_⟩
  repeat (first | exact hfin | refine below_setRow ?_ (by omega) _)
end Go.Proofs.YtnaedcennichlaaGreatDoor
