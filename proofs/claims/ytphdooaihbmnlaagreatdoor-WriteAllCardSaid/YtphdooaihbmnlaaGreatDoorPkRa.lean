/-
  The document's own Right: what it asks of texts: a byte that stands in one, a name, a filter, a type's fields.
-/
import Derived.Test.YtphdooaihbmnlaaGreatDoorPkMath
import Derived.Test.YtphdooaihbmnlaaGreatDoorPkFacts
import Derived.Test.YtphdooaihbmnlaaGreatDoorTextRefs
set_option linter.unusedSimpArgs false
set_option linter.unusedVariables false
namespace Go.Proofs.YtphdooaihbmnlaaGreatDoor
open Go.RowKit
def hasB (l : List UInt8) (c : Int) : Bool := l.any fun b => (b.toNat : Int) == c
theorem hasB_take (l : List UInt8) (c : Int) (k : Nat) (h : k < l.length) : hasB (l.drop k) c = (((l[k].toNat : Int) == c) || hasB (l.drop (k + 1)) c) := by
  rw [List.drop_eq_getElem_cons h]; rfl
theorem byte_eq (b : UInt8) (n : Nat) (hn : n < 256) : ((b.toNat : Int) == (n : Int)) = (b == UInt8.ofNat n) := by
  rw [Bool.eq_iff_iff, beq_iff_eq, beq_iff_eq]
  constructor
  · intro h
    apply UInt8.toNat.inj
    rw [show (UInt8.ofNat n).toNat = n from Nat.mod_eq_of_lt hn]
    omega
  · rintro rfl
    rw [show (UInt8.ofNat n).toNat = n from Nat.mod_eq_of_lt hn]
theorem hasW_two (l : List UInt8) : hasW l = (hasB l 43 || hasB l 35) := by
  induction l with
  | nil => rfl
  | cons a l ih =>
    have h1 : ((a.toNat : Int) == 43) = (a == 43) := byte_eq a 43 (by omega)
    have h2 : ((a.toNat : Int) == 35) = (a == 35) := byte_eq a 35 (by omega)
    have e1 : hasB (a :: l) 43 = ((a == 43) || hasB l 43) := by rw [← h1]; rfl
    have e2 : hasB (a :: l) 35 = ((a == 35) || hasB l 35) := by rw [← h2]; rfl
    rw [hasW_cons, ih, e1, e2, isW]
    cases (a == 43) <;> cases (a == 35) <;> cases hasB l 43 <;> cases hasB l 35 <;> rfl
theorem has_eq (l : List UInt8) (c : Int) (b : Bool) (w : World) (hl : l.length ≤ 9223372036854775807) (h : hasB l c = b) :
    Calls Tryz.prog 33 #[.string ⟨l.toArray⟩, .int .u8 c] w fun e w' => e = .returned (.bool b) ∧ w' = w := by
  have H := Lib.hid h
  clear h
  go_enter Tryz.func33, Tryz.ntmps33
  go_wp2_with fail
  go_loop [5] (fun i => ∃ k : Nat, i = .int .i64 k ∧ k ≤ l.length ∧ Hid (hasB (l.drop k) c = b)) (fun i => l.length - (intOf i).toNat)
  case atStart => exact ⟨0, rfl, by omega, H⟩
  case round =>
    obtain ⟨k, rfl, hkl, hc1⟩ := hrel
    by_cases hlt : k < l.length
    · have hlt2 : (k : Int) < (l.length : Int) := by omega
      have hx := byte_at l k hlt
      obtain ⟨r1, hr1⟩ : ∃ r1, ((l[k].toNat : Int) == c) = r1 := ⟨_, rfl⟩
      have h1 := hasB_take l c k hlt
      rw [hr1] at h1
      cases r1 with
      | true =>
        have hbt : Hid (b = true) := by show _ = _; rw [← hc1.out, h1]; rfl
        clear h1 hc1
        go_wp2_with fail
        go_ret
        exact ⟨by rw [hbt.out]; rfl, rfl⟩
      | false =>
        have HC1 : Hid (hasB (l.drop (k + 1)) c = b) := by show _ = _; rw [← hc1.out, h1]; rfl
        clear h1 hc1
        go_wp2_with fail
        go_round
        case rel => exact ⟨k + 1, by go_num, by omega, HC1⟩
        case measure => simp [intOf]; omega
    · have hge : ¬ (k : Int) < (l.length : Int) := by omega
      have hbt : Hid (b = false) := by show _ = _; rw [← hc1.out, List.drop_eq_nil_of_le (by omega)]; rfl
      clear hc1
      go_wp2_with fail
      go_ret
      exact ⟨by rw [hbt.out]; rfl, rfl⟩
theorem refName_eq (l : List UInt8) (b : Bool) (w : World) (hl : l.length ≤ 9223372036854775807) (h : nmB l = b) :
    Calls Tryz.prog 32 #[.string ⟨l.toArray⟩] w fun e w' => e = .returned (.bool b) ∧ Below w.heap.size w w' := by
  have hb : Below w.heap.size w w := Below.refl _ _
  unfold nmB at h
  rw [hasW_two] at h
  by_cases h0 : l.length = 0
  · obtain rfl := List.eq_nil_of_length_eq_zero h0
    obtain rfl : false = b := h
    clear h0
    go_enter Tryz.func32, Tryz.ntmps32
    go_wp2_with fail
    go_ret
    exact ⟨rfl, hb⟩
  · have he : l.isEmpty = false := by cases l with | nil => exact absurd rfl h0 | cons a l => rfl
    have hd : 0 < l.length := by omega
    rw [he] at h
    clear he h0
    cases hv : valB l with
    | false =>
      obtain rfl : false = b := by rw [← h, hv]; rfl
      have HV := Lib.hid hv
      clear hv h
      go_enter Tryz.func32, Tryz.ntmps32
      go_wp2_with fail
      refine (refValid_eq l false _ hl HV.out).mono ?_
      rintro e w1 ⟨rfl, hb1⟩
      replace hb := below_more hb hb1
      clear hb1
      go_wp2_with fail
      go_ret
      exact ⟨rfl, hb⟩
    | true =>
      have HV := Lib.hid hv
      rw [hv] at h
      clear hv
      cases h43 : hasB l 43 with
      | true =>
        obtain rfl : false = b := by rw [← h, h43]; rfl
        have H43 := Lib.hid h43
        clear h43 h
        go_enter Tryz.func32, Tryz.ntmps32
        go_wp2_with fail
        refine (refValid_eq l true _ hl HV.out).mono ?_
        rintro e w1 ⟨rfl, hb1⟩
        replace hb := below_more hb hb1
        clear hb1
        go_wp2_with fail
        refine (has_eq l 43 true _ hl H43.out).mono ?_
        rintro e w1 ⟨rfl, rfl⟩
        go_wp2_with fail
        go_ret
        exact ⟨rfl, hb⟩
      | false =>
        have H43 := Lib.hid h43
        rw [h43] at h
        clear h43
        cases h35 : hasB l 35
        all_goals
          have HB : Hid ((!hasB l 35) = b) := by show _ = _; rw [← h, h35]; rfl
          have H35 := Lib.hid h35
          rw [h35] at HB
          clear h35 h
          go_enter Tryz.func32, Tryz.ntmps32
          go_wp2_with fail
          refine (refValid_eq l true _ hl HV.out).mono ?_
          rintro e w1 ⟨rfl, hb1⟩
          go_wp2_with fail
          refine (has_eq l 43 false _ hl H43.out).mono ?_
          rintro e w2 ⟨rfl, rfl⟩
          go_wp2_with fail
          refine (has_eq l 35 _ _ hl H35.out).mono ?_
          rintro e w2 ⟨rfl, rfl⟩
          go_wp2_with fail
          go_ret
          exact ⟨by rw [← HB.out]; rfl, hb1⟩
def fieldsL : List (List UInt8) := [[45], [108, 99, 107, 110, 119, 117, 115], [101, 111], [100, 113, 114, 105, 116, 112], [105], [105], [105], [105], [105, 98], [105, 109], [105, 98], [105], [], [], []]
def fldF (k : Nat) : List UInt8 := (fieldsL[k]?).getD [45]
theorem refFields_eq (k : Nat) (hk : k ≤ 255) (L : List UInt8) (h : fldF k = L) (w : World) :
    Calls Tryz.prog 28 #[.int .u8 k] w fun e w' => e = .returned (.string ⟨L.toArray⟩) ∧ Below w.heap.size w w' := by
  have hb : Below w.heap.size w w := Below.refl _ _
  have H := Lib.hid h
  clear h
  by_cases hlt : k < 15
  · have hd : decide ((k : Int) < 15) = true := by simp; omega
    have hd2 : decide ((15 : Int) ≤ (k : Int)) = false := by simp; omega
    go_enter Tryz.func28, Tryz.ntmps28
    go_upto_region 2 with fail
    generalize hW : w.alloc _ = W
    have hG : Strs W (some ⟨w.heap.size, 0, none⟩) 15 fieldsL := by rw [← hW]; exact strs_new w fieldsL 9
    have hbW : Below w.heap.size w W := by rw [← hW]; exact below_alloc hb _
    clear hW hb
    obtain ⟨x, hx, hcell⟩ := hG.at0 hlt
    have HX : Hid (x = L) := by show _ = _; rw [← H.out, fldF, hx]; rfl
    clear hx hG
    go_wp2_with fail
    go_ret
    exact ⟨by rw [HX.out]; rfl, hbW⟩
  · have hd2 : decide ((15 : Int) ≤ (k : Int)) = true := by simp; omega
    have HX : Hid (L = [45]) := by
      show _ = _
      rw [← H.out, fldF, List.getElem?_eq_none (by show 15 ≤ k; omega)]
      rfl
    go_enter Tryz.func28, Tryz.ntmps28
    go_upto_region 2 with fail
    generalize hW : w.alloc _ = W
    have hbW : Below w.heap.size w W := by rw [← hW]; exact below_alloc hb _
    clear hW hb
    go_wp2_with fail
    go_ret
    exact ⟨by rw [HX.out]; rfl, hbW⟩
end Go.Proofs.YtphdooaihbmnlaaGreatDoor
