/-
  keep's statements: the chapter's store; awake; a store behind messages.
-/
import Derived.Test.YthhadjnffeadfaaGreatDoorKpHelp
set_option linter.unusedSimpArgs false
set_option linter.unusedVariables false
namespace Go.Proofs.YthhadjnffeadfaaGreatDoor
open Go.RowKit

def k0 : Ms := ([97, 47, 98], [49], 0, false)
def k1 : Ms := ([97], [50], 1, false)
def k2 : Ms := ([36, 115], [51], 0, false)
def k3 : Ms := ([97, 47, 98], [52], 2, false)
def smallM : List Ms := [([36, 115], [51], 0, true), ([97], [50], 1, true), ([97, 47, 98], [52], 2, true)]
theorem ks_m0 : setM [] k0 = [([97, 47, 98], [49], 0, true)] := by decide +kernel
theorem ks_y0 : mayB k0 = true := by decide +kernel
theorem ks_m1 : setM [([97, 47, 98], [49], 0, true)] k1 = [([97], [50], 1, true), ([97, 47, 98], [49], 0, true)] := by decide +kernel
theorem ks_y1 : mayB k1 = true := by decide +kernel
theorem ks_m2 : setM [([97], [50], 1, true), ([97, 47, 98], [49], 0, true)] k2 = [([36, 115], [51], 0, true), ([97], [50], 1, true), ([97, 47, 98], [49], 0, true)] := by decide +kernel
theorem ks_y2 : mayB k2 = true := by decide +kernel
theorem ks_m3 : setM [([36, 115], [51], 0, true), ([97], [50], 1, true), ([97, 47, 98], [49], 0, true)] k3 = smallM := by decide +kernel
theorem ks_y3 : mayB k3 = true := by decide +kernel
theorem ks_k1 : KsOk 1 [([97, 47, 98], [49], 0, true)] := by have := (KsOk.nil 0).set (m := k0) (by decide) (by decide); rwa [ks_m0] at this
theorem ks_k2 : KsOk 2 [([97], [50], 1, true), ([97, 47, 98], [49], 0, true)] := by have := ks_k1.set (m := k1) (by decide) (by decide); rwa [ks_m1] at this
theorem ks_k3 : KsOk 3 [([36, 115], [51], 0, true), ([97], [50], 1, true), ([97, 47, 98], [49], 0, true)] := by have := ks_k2.set (m := k2) (by decide) (by decide); rwa [ks_m2] at this
theorem ks_k4 : KsOk 4 smallM := by have := ks_k3.set (m := k3) (by decide) (by decide); rwa [ks_m3] at this
/-- A store that a call makes. -/
def MK (w : World) (L : List Ms) (e : Ending) (w' : World) : Prop := ∃ t F, e = .returned (.pointer (some ⟨t, 0, none⟩)) ∧ KP w' t F L ∧ Below w.heap.size w w' ∧ ∀ b, F b → w.heap.size ≤ b
/-- One Set more on a store of the call's own. -/
theorem mk_step {w w1 w2 : World} {t : Nat} {F : Nat → Prop} {M : List Ms} {r : Bool} {e : Ending} (hb : Below w.heap.size w w1) (hF : ∀ b, F b → w.heap.size ≤ b) (h : KS w1 t F M r e w2) : ∃ F', e = .returned (.bool r) ∧ KP w2 t F' M ∧ Below w.heap.size w w2 ∧ ∀ b, F' b → w.heap.size ≤ b := by
  obtain ⟨F', he, hP, hU, hV⟩ := h
  refine ⟨F', he, hP, hb.trans (hU.below (B := w.heap.size) (fun b _ h => hF b h) hb.size), fun b h => ?_⟩
  rcases hV b h with h2 | h2
  · exact hF b h2
  · have := hb.size; omega
set_option maxHeartbeats 1000000 in
theorem small_any (w : World) : Calls Tryz.prog 19 #[] w fun e w' => MK w smallM e w' := by
  go_enter Tryz.func19, Tryz.ntmps19
  go_wp2_with fail
  refine (kNew _).mono ?_
  rintro e w0 ⟨t, F0, rfl, hT0, hb0, hF0⟩
  go_wp2_with fail
  refine (kSet_any hT0 List.Pairwise.nil (by simp) k0 _ true (by decide) (by decide) ks_m0 ks_y0).mono ?_
  rintro e w1 hK1
  obtain ⟨F1, rfl, hT1, hb1, hF1⟩ := mk_step hb0 hF0 hK1
  clear hT0 hb0 hF0 hK1
  go_wp2_with fail
  refine (kSet_any hT1 ks_k1.1 (by simp) k1 _ true (by decide) (by decide) ks_m1 ks_y1).mono ?_
  rintro e w2 hK1
  obtain ⟨F2, rfl, hT2, hb2, hF2⟩ := mk_step hb1 hF1 hK1
  clear hT1 hb1 hF1 hK1
  go_wp2_with fail
  refine (kSet_any hT2 ks_k2.1 (by simp) k2 _ true (by decide) (by decide) ks_m2 ks_y2).mono ?_
  rintro e w3 hK1
  obtain ⟨F3, rfl, hT3, hb3, hF3⟩ := mk_step hb2 hF2 hK1
  clear hT2 hb2 hF2 hK1
  go_wp2_with fail
  refine (kSet_any hT3 ks_k3.1 (by simp) k3 _ true (by decide) (by decide) ks_m3 ks_y3).mono ?_
  rintro e w4 hK1
  obtain ⟨F4, rfl, hT4, hb4, hF4⟩ := mk_step hb3 hF3 hK1
  clear hT3 hb3 hF3 hK1
  go_wp2_with fail
  go_ret
  exact ⟨t, F4, rfl, hT4, hb4, hF4⟩
theorem sm_said : saidL smallM = [51, 32, 50, 32, 52, 32] := by decide +kernel
theorem sm_plus : fndM smallM [43] = [([97], [50], 1, true)] := by decide +kernel
theorem sm_said1 : saidL [([97], [50], 1, true)] = [50, 32] := by decide +kernel
set_option maxHeartbeats 1000000 in
theorem awake10_any (w : World) (hG : Glo w) : Calls Tryz.prog 6 #[] w fun e w' => e = .returned (.bool true) ∧ Below w.heap.size w w' := by
  have HG := Lib.hid hG
  clear hG
  go_enter Tryz.func6, Tryz.ntmps6
  go_wp2_with fail
  refine (small_any _).mono ?_
  rintro e w1 ⟨t, F, rfl, hT, hb, _⟩
  have HT := Lib.hid hT
  clear hT
  go_wp2_with fail
  refine (kAll HT.out ks_k4 (by omega)).mono ?_
  rintro e w2 ⟨v, rfl, hO⟩
  have hb2 := hO.below
  obtain ⟨A, c, rfl, _, hs, _, _⟩ := hO.form
  replace hb := below_more hb hb2
  have HT2 := Lib.hid (HT.out.below hb2)
  have HS := Lib.hid hs
  clear hs hO hb2
  go_wp2_with fail
  refine (said_eq A _ c smallM _ w2 HS.out (by decide) sm_said (by decide)).mono ?_
  rintro e w3 ⟨rfl, rfl⟩
  go_wp2_with fail
  refine (kFind [43] (HG.out.below hb) HT2.out ks_k4 (by omega) (by decide)).mono ?_
  rintro e w4 ⟨v, rfl, hO⟩
  rw [sm_plus] at hO
  have hb4 := hO.below
  obtain ⟨A4, c4, rfl, _, hs, _, _⟩ := hO.form
  replace hb := below_more hb hb4
  have HS4 := Lib.hid hs
  clear hs hO hb4
  go_wp2_with fail
  refine (said_eq A4 _ c4 _ _ w4 HS4.out (by decide) sm_said1 (by decide)).mono ?_
  rintro e w5 ⟨rfl, rfl⟩
  go_wp2_with fail
  go_ret
  exact ⟨rfl, hb⟩
end Go.Proofs.YthhadjnffeadfaaGreatDoor
