/-
  topic: the document's own answers: names, filters, what covers what.
-/
import Derived.Test.YthhadjnffeadfaaGreatDoorTpRef
set_option linter.unusedSimpArgs false
set_option linter.unusedVariables false
namespace Go.Proofs.YthhadjnffeadfaaGreatDoor
open Go.RowKit

theorem refPlain2_eq (l : List UInt8) (b : Bool) (w : World) (hl : l.length ≤ 1000000000) (h : plB l = b) :
    Calls Tryz.prog 33 #[.string ⟨l.toArray⟩] w fun e w' => e = .returned (.bool b) ∧ w = w' := (refPlain_eq l b w hl h).mono fun _ _ ⟨h1, h2⟩ => ⟨h1, h2.symm⟩
theorem refName_eq (l : List UInt8) (b : Bool) (w : World) (hl : l.length ≤ 1000000000) (h : namB l = b) :
    Calls Tryz.prog 22 #[.string ⟨l.toArray⟩] w fun e w' => e = .returned (.bool b) ∧ Below w.heap.size w w' := by
  by_cases h0 : l = []
  · subst h0
    have hb0 : b = false := h.symm
    subst hb0
    go_enter Tryz.func22, Tryz.ntmps22
    go_wp2_with fail
    go_ret
    exact ⟨rfl, Below.refl _ _⟩
  · have hne : l.isEmpty = false := by simpa using h0
    have hpos : 0 < l.length := List.length_pos_iff.2 h0
    cases hv : valB l with
    | false =>
      have H : Hid (b = false) := by show _ = _; rw [← h, namB, hne, hv]; rfl
      have HV := Lib.hid hv
      clear h hv h0 hne
      go_enter Tryz.func22, Tryz.ntmps22
      go_wp2_with fail
      refine (refValid_eq l false _ (by omega) HV.out).mono ?_
      rintro e w1 ⟨rfl, hb⟩
      go_wp2_with fail
      go_ret
      exact ⟨by rw [H.out]; rfl, hb⟩
    | true =>
      have H : Hid (plB l = b) := by show _ = _; rw [← h, namB, hne, hv]; rfl
      have HV := Lib.hid hv
      have hb : Below w.heap.size w w := Below.refl _ _
      clear h hv h0 hne
      go_enter Tryz.func22, Tryz.ntmps22
      go_wp2_with fail
      refine (refValid_eq l true _ (by omega) HV.out).mono ?_
      rintro e w1 ⟨rfl, hb1⟩
      replace hb := below_more hb hb1
      clear hb1
      go_wp2_with fail
      refine (refPlain2_eq l b _ hl H.out).mono ?_
      rintro e w1 ⟨rfl, rfl⟩
      go_wp2_with fail
      go_ret
      exact ⟨rfl, hb⟩
set_option maxHeartbeats 1000000 in
theorem refFilter_eq (l : List UInt8) (b : Bool) (w : World) (hl : l.length ≤ 100000000) (h : filB l = b) :
    Calls Tryz.prog 50 #[.string ⟨l.toArray⟩] w fun e w' => e = .returned (.bool b) ∧ Below w.heap.size w w' := by
  obtain ⟨f, hf⟩ : ∃ f, fitL (levs l) = f := ⟨_, rfl⟩
  have HB0 : Hid (f = false → b = false) := fun e => by rw [← h, filB, hf, e, Bool.and_false]
  have HB1 : Hid (f = true → b = (!l.isEmpty && valB l)) := fun e => by rw [← h, filB, hf, e, Bool.and_true]
  have hll := levs_len l
  have HM : Hid (∀ x ∈ levs l, x.length ≤ 1000000000) := fun x hx => by have := levs_bd l x hx; omega
  obtain ⟨L, hL⟩ : ∃ L, levs l = L := ⟨_, rfl⟩
  rw [hL] at hf hll HM
  have HL := Lib.hid hL
  have HF := Lib.hid hf
  clear h hf hL
  go_enter Tryz.func50, Tryz.ntmps50
  go_wp2_with fail
  refine (refLevels_eq l L _ hl HL.out).mono ?_
  rintro e w2 ⟨g, c, rfl, _, hs, hb⟩
  go_wp2_with fail
  go_loopw [4] (fun i wr => ∃ k : Nat, i = .int .i64 k ∧ k ≤ L.length ∧ wr = w2 ∧ Hid (fitL (L.drop k) = f)) (fun i _ => L.length - (intOf i).toNat)
  case atStart => exact ⟨0, rfl, by omega, rfl, HF.out⟩
  case round =>
    obtain ⟨k, rfl, hk, rfl, hc⟩ := hrel
    by_cases hlt : k < L.length
    · obtain ⟨x, hx, hcell⟩ := hs.at0 (k := k) hlt
      have hxl := HM.out x (List.mem_of_getElem? hx)
      have HD := Lib.hid (fit_drop L k x hx)
      have hsH := Lib.hid hs
      have hkI : (k : Int) < (L.length : Int) := by omega
      clear hx hs
      cases hp : plB x with
      | true =>
        have HP := Lib.hid hp
        rw [hp] at HD
        have HN : Hid (fitL (L.drop (k + 1)) = f) := by show _ = _; rw [← hc.out, HD.out]; rfl
        clear hp
        go_wp2_with fail
        refine (refPlain2_eq x true _ hxl HP.out).mono ?_
        rintro e w1 ⟨rfl, rfl⟩
        go_wp2_with fail
        go_roundw
        case rel => exact ⟨k + 1, by go_num, by omega, by trivial, HN.out⟩
        case measure => simp [intOf]; omega
      | false =>
        have HP := Lib.hid hp
        rw [hp] at HD
        clear hp
        cases h43 : x == [43] with
        | true =>
          rw [h43] at HD
          have h43n : (x != [43]) = false := by rw [bne, h43]; rfl
          have HN : Hid (fitL (L.drop (k + 1)) = f) := by show _ = _; rw [← hc.out, HD.out]; rfl
          clear HD
          go_wp2_with fail
          refine (refPlain2_eq x false _ hxl HP.out).mono ?_
          rintro e w1 ⟨rfl, rfl⟩
          go_wp2_with fail
          go_roundw
          case rel => exact ⟨k + 1, by go_num, by omega, by trivial, HN.out⟩
          case measure => simp [intOf]; omega
        | false =>
          rw [h43] at HD
          have h43n : (x != [43]) = true := by rw [bne, h43]; rfl
          cases h35 : x == [35] with
          | false =>
            rw [h35] at HD
            have h35n : (x != [35]) = true := by rw [bne, h35]; rfl
            have HN : Hid (b = false) := HB0.out (by rw [← hc.out, HD.out]; rfl)
            clear HD
            go_wp2_with fail
            refine (refPlain2_eq x false _ hxl HP.out).mono ?_
            rintro e w1 ⟨rfl, rfl⟩
            go_wp2_with fail
            go_ret
            exact ⟨by rw [HN.out]; rfl, hb⟩
          | true =>
            rw [h35] at HD
            have h35n : (x != [35]) = false := by rw [bne, h35]; rfl
            by_cases hlast : k + 1 = L.length
            · have hge : ¬ (k : Int) < (L.length : Int) - 1 := by omega
              have HN : Hid (fitL (L.drop (k + 1)) = f) := by show _ = _; rw [← hc.out, HD.out, decide_eq_true hlast]; rfl
              clear HD hlast
              go_wp2_with fail
              refine (refPlain2_eq x false _ hxl HP.out).mono ?_
              rintro e w1 ⟨rfl, rfl⟩
              go_wp2_with fail
              go_roundw
              case rel => exact ⟨k + 1, by go_num, by omega, by trivial, HN.out⟩
              case measure => simp [intOf]; omega
            · have hlt2 : (k : Int) < (L.length : Int) - 1 := by omega
              have HN : Hid (b = false) := HB0.out (by rw [← hc.out, HD.out, decide_eq_false hlast]; rfl)
              clear HD hlast
              go_wp2_with fail
              refine (refPlain2_eq x false _ hxl HP.out).mono ?_
              rintro e w1 ⟨rfl, rfl⟩
              go_wp2_with fail
              go_ret
              exact ⟨by rw [HN.out]; rfl, hb⟩
    · have hf1 : f = true := by rw [← hc.out, List.drop_eq_nil_of_le (by omega)]; rfl
      have HB2 := Lib.hid (HB1.out hf1)
      clear hf1 hs
      by_cases h0 : l = []
      · subst h0
        have HN : Hid (b = false) := by show _ = _; rw [HB2.out]; rfl
        go_wp2_with fail
        go_ret
        exact ⟨by rw [HN.out]; rfl, hb⟩
      · have hpos : 0 < l.length := List.length_pos_iff.2 h0
        have HN : Hid (valB l = b) := by show _ = _; rw [HB2.out, show l.isEmpty = false by simpa using h0]; rfl
        clear h0
        go_wp2_with fail
        refine (refValid_eq l b _ (by omega) HN.out).mono ?_
        rintro e w1 ⟨rfl, hb1⟩
        replace hb := below_more hb hb1
        clear hb1
        go_wp2_with fail
        go_ret
        exact ⟨rfl, hb⟩
def wilX (l : List UInt8) : Bool := headL l == [43] || headL l == [35]
theorem refWild_eq (l : List UInt8) (b : Bool) (w : World) (hl : l.length ≤ 100000000) (h : wilX l = b) :
    Calls Tryz.prog 51 #[.string ⟨l.toArray⟩] w fun e w' => e = .returned (.bool b) ∧ Below w.heap.size w w' := by
  obtain ⟨L, hL⟩ : ∃ L, levs l = L := ⟨_, rfl⟩
  obtain ⟨x, hx⟩ : ∃ x, headL l = x := ⟨_, rfl⟩
  have HX0 : Hid (L[0]? = some x) := by
    show _ = _
    rw [← hx, ← hL]
    have := levs_cons l
    rw [this]; rfl
  have hpos : 0 < L.length := by rw [← hL]; exact levs_pos l
  unfold wilX at h
  rw [hx] at h
  have HL := Lib.hid hL
  clear hL hx
  cases h43 : x == [43] with
  | true =>
    rw [h43] at h
    have hb1 : b = true := h.symm
    subst hb1
    clear h
    go_enter Tryz.func51, Tryz.ntmps51
    go_wp2_with fail
    refine (refLevels_eq l L _ hl HL.out).mono ?_
    rintro e w2 ⟨g, c, rfl, _, hs, hb⟩
    obtain ⟨x', hx', hcell⟩ := hs.at0 (k := 0) hpos
    rw [HX0.out] at hx'
    obtain rfl := Option.some.inj hx'
    clear hx' hs
    go_wp2_with fail
    go_ret
    exact ⟨rfl, hb⟩
  | false =>
    rw [h43, Bool.false_or] at h
    have HB := Lib.hid h
    clear h
    go_enter Tryz.func51, Tryz.ntmps51
    go_wp2_with fail
    refine (refLevels_eq l L _ hl HL.out).mono ?_
    rintro e w2 ⟨g, c, rfl, _, hs, hb⟩
    obtain ⟨x', hx', hcell⟩ := hs.at0 (k := 0) hpos
    rw [HX0.out] at hx'
    obtain rfl := Option.some.inj hx'
    clear hx' hs
    go_wp2_with fail
    go_ret
    exact ⟨by rw [← HB.out]; rfl, hb⟩
end Go.Proofs.YthhadjnffeadfaaGreatDoor
