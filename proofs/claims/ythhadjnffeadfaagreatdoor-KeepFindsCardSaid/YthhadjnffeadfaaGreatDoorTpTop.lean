/-
  topic: names, filters, what covers what; levels joined.
-/
import Derived.Test.YthhadjnffeadfaaGreatDoorTpCov
set_option linter.unusedSimpArgs false
set_option linter.unusedVariables false
namespace Go.Proofs.YthhadjnffeadfaaGreatDoor
open Go.RowKit

theorem tpName_eq (l : List UInt8) (b : Bool) (w : World) (hl : l.length ≤ 1000000000) (h : namB l = b) :
    Calls Tryz.prog 21 #[.string ⟨l.toArray⟩] w fun e w' => e = .returned (.bool b) ∧ Below w.heap.size w w' := by
  by_cases h0 : l = []
  · subst h0
    have hb0 : b = false := h.symm
    subst hb0
    go_enter Tryz.func21, Tryz.ntmps21
    go_wp2_with fail
    go_ret
    exact ⟨rfl, Below.refl _ _⟩
  · have hne : l.isEmpty = false := by simpa using h0
    have hnn : (l == []) = false := by simpa using h0
    cases hv : valB l with
    | false =>
      have H : Hid (b = false) := by show _ = _; rw [← h, namB, hne, hv]; rfl
      have HV := Lib.hid hv
      clear h hv h0
      go_enter Tryz.func21, Tryz.ntmps21
      go_wp2_with fail
      refine (textValid_eq l false _ (by omega) HV.out).mono ?_
      rintro e w1 ⟨rfl, hb⟩
      go_wp2_with fail
      go_ret
      exact ⟨by rw [H.out]; rfl, hb⟩
    | true =>
      have H : Hid (plB l = b) := by show _ = _; rw [← h, namB, hne, hv]; rfl
      have HV := Lib.hid hv
      have hb : Below w.heap.size w w := Below.refl _ _
      clear h hv h0
      go_enter Tryz.func21, Tryz.ntmps21
      go_wp2_with fail
      refine (textValid_eq l true _ (by omega) HV.out).mono ?_
      rintro e w1 ⟨rfl, hb1⟩
      replace hb := below_more hb hb1
      clear hb1
      go_wp2_with fail
      refine (hasWild_eq l b _ hl H.out).mono ?_
      rintro e w1 ⟨rfl, hb1⟩
      replace hb := below_more hb hb1
      clear hb1
      go_wp2_with fail
      go_ret
      exact ⟨by simp, hb⟩
theorem levs_bd (l : List UInt8) : ∀ x ∈ levs l, x.length ≤ l.length := by rw [← levs_split]; exact splitL_le l
theorem tpFilter_eq (l : List UInt8) (b : Bool) (w : World) (hG : Glo w) (hl : l.length ≤ 100000000) (h : filB l = b) :
    Calls Tryz.prog 45 #[.string ⟨l.toArray⟩] w fun e w' => e = .returned (.bool b) ∧ Below w.heap.size w w' := by
  by_cases h0 : l = []
  · subst h0
    have hb0 : b = false := h.symm
    subst hb0
    go_enter Tryz.func45, Tryz.ntmps45
    go_wp2_with fail
    go_ret
    exact ⟨rfl, Below.refl _ _⟩
  · have hne : l.isEmpty = false := by simpa using h0
    have hnn : (l == []) = false := by simpa using h0
    have HG := Lib.hid hG
    clear hG
    cases hv : valB l with
    | false =>
      have H : Hid (b = false) := by show _ = _; rw [← h, filB, hne, hv]; rfl
      have HV := Lib.hid hv
      clear h hv h0
      go_enter Tryz.func45, Tryz.ntmps45
      go_wp2_with fail
      refine (textValid_eq l false _ (by omega) HV.out).mono ?_
      rintro e w1 ⟨rfl, hb⟩
      go_wp2_with fail
      go_ret
      exact ⟨by rw [H.out]; rfl, hb⟩
    | true =>
      have H : Hid (fitL (levs l) = b) := by show _ = _; rw [← h, filB, hne, hv]; rfl
      have HV := Lib.hid hv
      have hll := levs_len l
      have HM : Hid (∀ x ∈ levs l, x.length ≤ 1000000000) := fun x hx => by have := levs_bd l x hx; omega
      obtain ⟨L, hL⟩ : ∃ L, levs l = L := ⟨_, rfl⟩
      rw [hL] at H hll HM
      have HL := Lib.hid hL
      clear h hv h0 hL
      go_enter Tryz.func45, Tryz.ntmps45
      go_wp2_with fail
      refine (textValid_eq l true _ (by omega) HV.out).mono ?_
      rintro e w1 ⟨rfl, hb⟩
      go_wp2_with fail
      refine (tpLevels_eq l L _ (HG.out.below hb) (by omega) HL.out).mono ?_
      rintro e w2 ⟨g, c, rfl, _, hs, hb2⟩
      replace hb := below_more hb hb2
      clear hb2
      go_wp2_with fail
      refine (wcFit_eq _ _ c L b _ hs (by omega) HM H.out).mono ?_
      rintro e w3 ⟨rfl, hb3⟩
      replace hb := below_more hb hb3
      clear hb3
      go_wp2_with fail
      go_ret
      exact ⟨rfl, hb⟩
/-- What First answers. -/
def firL (l : List UInt8) : List UInt8 × Bool := if filB l && !wilB l then (headL l, true) else ([], false)
theorem hasPre_dol (l : List UInt8) : Lib.hasPrefix l [36] = dolB l := by
  unfold Lib.hasPrefix dolB
  cases l with
  | nil => rfl
  | cons c r =>
    show (36 == c && true) = (some c == some 36)
    rw [Bool.and_true, Bool.eq_iff_iff]
    simp only [beq_iff_eq, Option.some.injEq]
    exact ⟨fun h => h.symm, fun h => h.symm⟩
theorem hasDol_eq (l : List UInt8) (b : Bool) (w : World) (h : dolB l = b) :
    Calls Tryz.prog 47 #[.string ⟨l.toArray⟩, .string ⟨#[36]⟩] w fun e w' => e = .returned (.bool b) ∧ w = w' := by
  refine (Tryz.strings_HasPrefix _ _ _).mono ?_
  rintro e w' ⟨rfl, rfl⟩
  have h1 := hasPre_dol l
  rw [h] at h1
  exact ⟨by rw [← h1], rfl⟩
set_option maxHeartbeats 1000000 in
theorem tpCovers_eq (l m : List UInt8) (b : Bool) (w : World) (hG : Glo w) (hl : l.length ≤ 100000000) (hm : m.length ≤ 100000000) (h : covB l m = b) :
    Calls Tryz.prog 36 #[.string ⟨l.toArray⟩, .string ⟨m.toArray⟩] w fun e w' => e = .returned (.bool b) ∧ Below w.heap.size w w' := by
  have HG := Lib.hid hG
  clear hG
  have hb : Below w.heap.size w w := Below.refl _ _
  cases hf : filB l with
  | false =>
    have H : b = false := by rw [← h, covB, hf]; rfl
    subst H
    have HF := Lib.hid hf
    clear h hf
    go_enter Tryz.func36, Tryz.ntmps36
    go_wp2_with fail
    refine (tpFilter_eq l false _ HG.out (by omega) HF.out).mono ?_
    rintro e w1 ⟨rfl, hb1⟩
    replace hb := below_more hb hb1
    clear hb1
    go_wp2_with fail
    go_ret
    exact ⟨rfl, hb⟩
  | true =>
    cases hg : filB m with
    | false =>
      have H : b = false := by rw [← h, covB, hf, hg]; rfl
      subst H
      have HF := Lib.hid hf
      have HF2 := Lib.hid hg
      clear h hf hg
      go_enter Tryz.func36, Tryz.ntmps36
      go_wp2_with fail
      refine (tpFilter_eq l true _ HG.out (by omega) HF.out).mono ?_
      rintro e w1 ⟨rfl, hb1⟩
      replace hb := below_more hb hb1
      clear hb1
      go_wp2_with fail
      refine (tpFilter_eq m false _ (HG.out.below hb) (by omega) HF2.out).mono ?_
      rintro e w1 ⟨rfl, hb1⟩
      replace hb := below_more hb hb1
      clear hb1
      go_wp2_with fail
      go_ret
      exact ⟨rfl, hb⟩
    | true =>
      have hll := levs_len l
      have hlm := levs_len m
      have HC0 : Hid (wilB l = true → dolB m = true → b = false) := fun h1 h2 => by rw [← h, covB, h1, h2]; simp
      have HC1 : Hid ((wilB l && dolB m) = false → covL (levs l) (levs m) = b) := fun h1 => by rw [← h, covB, h1, hf, hg]; rfl
      obtain ⟨L, hL⟩ : ∃ L, levs l = L := ⟨_, rfl⟩
      obtain ⟨M, hM⟩ : ∃ L, levs m = L := ⟨_, rfl⟩
      rw [hL] at HC1 hll
      rw [hM] at HC1 hlm
      have HL := Lib.hid hL
      have HM := Lib.hid hM
      have HF := Lib.hid hf
      have HF2 := Lib.hid hg
      clear h hf hg hL hM
      cases hw : wilB l with
      | false =>
        have HC : Hid (covL L M = b) := HC1.out (by rw [hw]; rfl)
        have HW := Lib.hid hw
        clear hw HC0 HC1
        go_enter Tryz.func36, Tryz.ntmps36
        go_wp2_with fail
        refine (tpFilter_eq l true _ HG.out (by omega) HF.out).mono ?_
        rintro e w1 ⟨rfl, hb1⟩
        replace hb := below_more hb hb1
        clear hb1
        go_wp2_with fail
        refine (tpFilter_eq m true _ (HG.out.below hb) (by omega) HF2.out).mono ?_
        rintro e w1 ⟨rfl, hb1⟩
        replace hb := below_more hb hb1
        clear hb1
        go_wp2_with fail
        refine (startsWild_eq l false _ (HG.out.below hb) (by omega) HW.out).mono ?_
        rintro e w1 ⟨rfl, hb1⟩
        replace hb := below_more hb hb1
        clear hb1
        go_wp2_with fail
        refine (tpLevels_eq l L _ (HG.out.below hb) (by omega) HL.out).mono ?_
        rintro e w2 ⟨g1, c1, rfl, _, hs1, hb2⟩
        replace hb := below_more hb hb2
        clear hb2
        go_wp2_with fail
        refine (tpLevels_eq m M _ (HG.out.below hb) (by omega) HM.out).mono ?_
        rintro e w3 ⟨g2, c2, rfl, _, hs2, hb3⟩
        replace hb := below_more hb hb3
        replace hs1 := hs1.below hb3
        clear hb3
        go_wp2_with fail
        refine (levsCover_eq g1 g2 c1 c2 L M b _ (by omega) (by omega) hs1 hs2 HC.out).mono ?_
        rintro e w4 ⟨rfl, hb4⟩
        replace hb := below_more hb hb4
        clear hb4
        go_wp2_with fail
        go_ret
        exact ⟨rfl, hb⟩
      | true =>
        cases hd : dolB m with
        | true =>
          have H := HC0.out hw hd
          subst H
          have HW := Lib.hid hw
          have HD := Lib.hid hd
          clear hw hd HC0 HC1
          go_enter Tryz.func36, Tryz.ntmps36
          go_wp2_with fail
          refine (tpFilter_eq l true _ HG.out (by omega) HF.out).mono ?_
          rintro e w1 ⟨rfl, hb1⟩
          replace hb := below_more hb hb1
          clear hb1
          go_wp2_with fail
          refine (tpFilter_eq m true _ (HG.out.below hb) (by omega) HF2.out).mono ?_
          rintro e w1 ⟨rfl, hb1⟩
          replace hb := below_more hb hb1
          clear hb1
          go_wp2_with fail
          refine (startsWild_eq l true _ (HG.out.below hb) (by omega) HW.out).mono ?_
          rintro e w1 ⟨rfl, hb1⟩
          replace hb := below_more hb hb1
          clear hb1
          go_wp2_with fail
          refine (hasDol_eq m true _ HD.out).mono ?_
          rintro e w1 ⟨rfl, rfl⟩
          go_wp2_with fail
          go_ret
          exact ⟨rfl, hb⟩
        | false =>
          have HC : Hid (covL L M = b) := HC1.out (by rw [hw, hd]; rfl)
          have HW := Lib.hid hw
          have HD := Lib.hid hd
          clear hw hd HC0 HC1
          go_enter Tryz.func36, Tryz.ntmps36
          go_wp2_with fail
          refine (tpFilter_eq l true _ HG.out (by omega) HF.out).mono ?_
          rintro e w1 ⟨rfl, hb1⟩
          replace hb := below_more hb hb1
          clear hb1
          go_wp2_with fail
          refine (tpFilter_eq m true _ (HG.out.below hb) (by omega) HF2.out).mono ?_
          rintro e w1 ⟨rfl, hb1⟩
          replace hb := below_more hb hb1
          clear hb1
          go_wp2_with fail
          refine (startsWild_eq l true _ (HG.out.below hb) (by omega) HW.out).mono ?_
          rintro e w1 ⟨rfl, hb1⟩
          replace hb := below_more hb hb1
          clear hb1
          go_wp2_with fail
          refine (hasDol_eq m false _ HD.out).mono ?_
          rintro e w1 ⟨rfl, rfl⟩
          go_wp2_with fail
          refine (tpLevels_eq l L _ (HG.out.below hb) (by omega) HL.out).mono ?_
          rintro e w2 ⟨g1, c1, rfl, _, hs1, hb2⟩
          replace hb := below_more hb hb2
          clear hb2
          go_wp2_with fail
          refine (tpLevels_eq m M _ (HG.out.below hb) (by omega) HM.out).mono ?_
          rintro e w3 ⟨g2, c2, rfl, _, hs2, hb3⟩
          replace hb := below_more hb hb3
          replace hs1 := hs1.below hb3
          clear hb3
          go_wp2_with fail
          refine (levsCover_eq g1 g2 c1 c2 L M b _ (by omega) (by omega) hs1 hs2 HC.out).mono ?_
          rintro e w4 ⟨rfl, hb4⟩
          replace hb := below_more hb hb4
          clear hb4
          go_wp2_with fail
          go_ret
          exact ⟨rfl, hb⟩
theorem tpMatch_eq (l m : List UInt8) (b : Bool) (w : World) (hG : Glo w) (hl : l.length ≤ 100000000) (hm : m.length ≤ 100000000) (h : matB l m = b) :
    Calls Tryz.prog 28 #[.string ⟨l.toArray⟩, .string ⟨m.toArray⟩] w fun e w' => e = .returned (.bool b) ∧ Below w.heap.size w w' := by
  have HG := Lib.hid hG
  clear hG
  have hb : Below w.heap.size w w := Below.refl _ _
  cases hf : namB m with
  | false =>
    have H : b = false := by rw [← h, matB, hf]; rfl
    subst H
    have HF := Lib.hid hf
    clear h hf
    go_enter Tryz.func28, Tryz.ntmps28
    go_wp2_with fail
    refine (tpName_eq m false _ (by omega) HF.out).mono ?_
    rintro e w1 ⟨rfl, hb1⟩
    replace hb := below_more hb hb1
    clear hb1
    go_wp2_with fail
    go_ret
    exact ⟨rfl, hb⟩
  | true =>
    have H : Hid (covB l m = b) := by show _ = _; rw [← h, matB, hf]; rfl
    have HF := Lib.hid hf
    clear h hf
    go_enter Tryz.func28, Tryz.ntmps28
    go_wp2_with fail
    refine (tpName_eq m true _ (by omega) HF.out).mono ?_
    rintro e w1 ⟨rfl, hb1⟩
    replace hb := below_more hb hb1
    clear hb1
    go_wp2_with fail
    refine (tpCovers_eq l m b _ (HG.out.below hb) hl hm H.out).mono ?_
    rintro e w1 ⟨rfl, hb1⟩
    replace hb := below_more hb hb1
    clear hb1
    go_wp2_with fail
    go_ret
    exact ⟨rfl, hb⟩
theorem Strs.joinable {w : World} {A : Option Addr} {n : Nat} {xs : List (List UInt8)} (h : Strs w A n xs) (h0 : 0 < n) : ∃ b o, A = some ⟨b, o, none⟩ ∧ b < w.heap.size ∧ (xs.map fun x => (⟨x.toArray⟩ : ByteArray)).length = n ∧ ∀ (j : Nat) x, (xs.map fun x => (⟨x.toArray⟩ : ByteArray))[j]? = some x → w.cell? ⟨b, o + j, none⟩ = some (.string x) := by
  obtain ⟨b, o, e, hc⟩ := h.2 h0
  have hl := h.len
  have h1 : xs[0]? = some xs[0] := List.getElem?_eq_getElem (by omega)
  refine ⟨b, o, e, World.block_lt_of_cell? _ _ (hc 0 _ h1), by simp [hl], ?_⟩
  intro j x hx
  rw [List.getElem?_map, Option.map_eq_some_iff] at hx
  obtain ⟨y, hy, rfl⟩ := hx
  exact hc j y hy
end Go.Proofs.YthhadjnffeadfaaGreatDoor
