/-
  TrieKnown: the chapter's examples; a nil trie. The walk.
-/
import Derived.Test.YtipdmfnkkkdlbaaGreatDoorTrTells
set_option linter.unusedSimpArgs false
set_option linter.unusedVariables false
namespace Go.Proofs.YtipdmfnkkkdlbaaGreatDoor
open Go.RowKit
def smallR : List Hn := [([35], [122]), ([97, 47, 35], [120]), ([97, 47, 35], [121])]
theorem kn_mat1 : matL smallL [97] = [[120], [121], [122]] := by decide +kernel
theorem kn_mat2 : matL smallL [36, 115] = [] := by decide +kernel
theorem kn_mat3 : matL smallL [97, 47, 43] = [] := by decide +kernel
theorem kn_of : ofL smallL [120] = [[97, 47, 35], [97, 47, 43]] := by decide +kernel
theorem kn_a1 : addL smallL ([97, 47, 43], [120]) = smallL := by decide +kernel
theorem kn_b1 : addB smallL ([97, 47, 43], [120]) = false := by decide +kernel
theorem kn_a2 : addL smallL ([97, 43], [120]) = smallL := by decide +kernel
theorem kn_b2 : addB smallL ([97, 43], [120]) = false := by decide +kernel
theorem kn_a3 : remL smallL ([97, 47, 43], [121]) = smallL := by decide +kernel
theorem kn_b3 : remB smallL ([97, 47, 43], [121]) = false := by decide +kernel
theorem kn_a4 : remL smallL ([97, 47, 43], [120]) = smallR := by decide +kernel
theorem kn_b4 : remB smallL ([97, 47, 43], [120]) = true := by decide +kernel
theorem kn_n4 : nodL smallR = 4 := by decide +kernel
theorem kn_n0 : nodL [] = 1 := by decide +kernel
theorem kn_ok4 : HsOk 4 smallR := by
  have := sm_ok4.rem ([97, 47, 43], [120])
  rwa [show remL [([35], [122]), ([97, 47, 35], [120]), ([97, 47, 35], [121]), ([97, 47, 43], [120])] ([97, 47, 43], [120]) = smallR from kn_a4] at this
namespace lawTrieKnown
set_option maxHeartbeats 4000000 in
set_option maxRecDepth 100000 in
theorem walk (w : World) (hG : GT w) :
    Calls Tryz.prog 5 #[] w fun e w' => e = .returned (.bool true) ∧ Below w.heap.size w w' := by
  have HG := Lib.hid hG
  clear hG
  have hk : Hid (HsOk 100 smallL) := sm_ok4.le (by omega)
  have hkr : Hid (HsOk 100 smallR) := kn_ok4.le (by omega)
  go_enter Tryz.func5, Tryz.ntmps5
  go_wp2_with fail
  refine (small_any _ HG.out).mono ?_
  rintro e w1 ⟨t, F, rfl, hT, hb, hF⟩
  go_wp2_with fail
  refine (tMatch [97] [[120], [121], [122]] (HG.out.below hb) hT hk.out (by decide) kn_mat1).mono ?_
  rintro e w2 ⟨A, c, rfl, hs, _, _, hb2⟩
  replace hb := below_more hb hb2
  replace hT := hT.below hb2
  clear hb2
  go_wp2_with fail
  refine (sameTexts_eq _ 3 _ [[120], [121], [122]] _ 3 3 [[120], [121], [122]] true _ (hs.below ((Below.refl _ _).alloc (Nat.le_refl _) _)) (strs_new3t _ _ _ _ _) (by omega) (by simp)).mono ?_
  rintro e w3 ⟨rfl, hb3⟩
  replace hT := (hT.below ((Below.refl _ _).alloc (Nat.le_refl _) _)).below hb3
  replace hb := below_more (below_alloc hb _) hb3
  clear hb3 hs
  go_wp2_with fail
  refine (tMatch [36, 115] [] (HG.out.below hb) hT hk.out (by decide) kn_mat2).mono ?_
  rintro e w2 ⟨A, c, rfl, hs, _, _, hb2⟩
  replace hb := below_more hb hb2
  replace hT := hT.below hb2
  clear hb2
  clear hs
  go_wp2_with fail
  refine (tMatch [97, 47, 43] [] (HG.out.below hb) hT hk.out (by decide) kn_mat3).mono ?_
  rintro e w2 ⟨A, c, rfl, hs, _, _, hb2⟩
  replace hb := below_more hb hb2
  replace hT := hT.below hb2
  clear hb2
  clear hs
  go_wp2_with fail
  refine (tOf [120] [[97, 47, 35], [97, 47, 43]] (HG.out.below hb) hT hk.out (by decide) kn_of).mono ?_
  rintro e w2 ⟨v2, rfl, hO⟩
  have hb2 := hO.below
  obtain ⟨A, c, rfl, hs, hr⟩ := hO.row (Nat.le_refl _)
  clear hO hr
  replace hb := below_more hb hb2
  replace hT := hT.below hb2
  clear hb2
  go_wp2_with fail
  refine (sameTexts_eq _ 2 _ [[97, 47, 35], [97, 47, 43]] _ 2 2 [[97, 47, 35], [97, 47, 43]] true _ (hs.below ((Below.refl _ _).alloc (Nat.le_refl _) _)) (strs_new2 _ _ _ _) (by omega) (by simp)).mono ?_
  rintro e w3 ⟨rfl, hb3⟩
  replace hT := (hT.below ((Below.refl _ _).alloc (Nat.le_refl _) _)).below hb3
  replace hb := below_more (below_alloc hb _) hb3
  clear hb3 hs
  go_wp2_with fail
  refine (tAdd [97, 47, 43] [120] smallL false (HG.out.below hb) hT hk.out (by decide) (by decide) kn_a1 kn_b1).mono ?_
  rintro e wa1 ⟨F1, rfl, hT1, hU1, hV1⟩
  have hF1 : ∀ b, F1 b → w.heap.size ≤ b := fun b h => by
    rcases hV1 b h with h2 | h2
    · exact hF b h2
    · have := hb.size; omega
  replace hb := hb.trans (hU1.below (B := w.heap.size) (fun b _ h => hF b h) hb.size)
  clear hT hU1 hV1 hF
  have hT := hT1
  have hF := hF1
  clear hT1 hF1
  go_wp2_with fail
  refine (tAdd [97, 43] [120] smallL false (HG.out.below hb) hT hk.out (by decide) (by decide) kn_a2 kn_b2).mono ?_
  rintro e wa2 ⟨F2, rfl, hT2, hU2, hV2⟩
  have hF2 : ∀ b, F2 b → w.heap.size ≤ b := fun b h => by
    rcases hV2 b h with h2 | h2
    · exact hF b h2
    · have := hb.size; omega
  replace hb := hb.trans (hU2.below (B := w.heap.size) (fun b _ h => hF b h) hb.size)
  clear hT hU2 hV2 hF
  have hT := hT2
  have hF := hF2
  clear hT2 hF2
  go_wp2_with fail
  refine (tRem [97, 47, 43] [121] smallL false (HG.out.below hb) hT hk.out (by decide) (by decide) kn_a3 kn_b3).mono ?_
  rintro e wa3 ⟨F3, rfl, hT3, hU3, hV3⟩
  have hF3 : ∀ b, F3 b → w.heap.size ≤ b := fun b h => by
    rcases hV3 b h with h2 | h2
    · exact hF b h2
    · have := hb.size; omega
  replace hb := hb.trans (hU3.below (B := w.heap.size) (fun b _ h => hF b h) hb.size)
  clear hT hU3 hV3 hF
  have hT := hT3
  have hF := hF3
  clear hT3 hF3
  go_wp2_with fail
  refine (tRem [97, 47, 43] [120] smallR true (HG.out.below hb) hT hk.out (by decide) (by decide) kn_a4 kn_b4).mono ?_
  rintro e wa4 ⟨F4, rfl, hT4, hU4, hV4⟩
  have hF4 : ∀ b, F4 b → w.heap.size ≤ b := fun b h => by
    rcases hV4 b h with h2 | h2
    · exact hF b h2
    · have := hb.size; omega
  replace hb := hb.trans (hU4.below (B := w.heap.size) (fun b _ h => hF b h) hb.size)
  clear hT hU4 hV4 hF
  have hT := hT4
  have hF := hF4
  clear hT4 hF4
  go_wp2_with fail
  refine (tNodes 4 (HG.out.below hb) hT hkr.out kn_n4).mono ?_
  rintro e w2 ⟨rfl, hb2⟩
  replace hb := below_more hb hb2
  replace hT := hT.below hb2
  clear hb2
  go_wp2_with fail
  refine (tLen 3 (HG.out.below hb) hT hkr.out rfl).mono ?_
  rintro e w2 ⟨rfl, hb2⟩
  replace hb := below_more hb hb2
  clear hb2 hT hF
  go_wp2_with fail
  refine (nAdd [97] [120] (HG.out.below hb)).mono ?_
  rintro e w2 ⟨rfl, hb2⟩
  replace hb := below_more hb hb2
  clear hb2
  go_wp2_with fail
  refine (nRem [97] [120] (HG.out.below hb)).mono ?_
  rintro e w2 ⟨rfl, hb2⟩
  replace hb := below_more hb hb2
  clear hb2
  go_wp2_with fail
  refine (nMatch [97] (HG.out.below hb)).mono ?_
  rintro e w2 ⟨A, c, rfl, hs, _, _, hb2⟩
  replace hb := below_more hb hb2
  clear hb2 hs
  go_wp2_with fail
  refine (nOf [120] (HG.out.below hb)).mono ?_
  rintro e w2 ⟨v2, rfl, hO⟩
  have hb2 := hO.below
  obtain ⟨A, c, rfl, hs, hr⟩ := hO.row (Nat.le_refl _)
  replace hb := below_more hb hb2
  clear hO hr hb2 hs
  go_wp2_with fail
  refine (nAll (HG.out.below hb)).mono ?_
  rintro e w2 ⟨v2, rfl, hO⟩
  have hb2 := hO.below
  obtain ⟨A, c, rfl, hs, hr⟩ := hO.row (Nat.le_refl _)
  replace hb := below_more hb hb2
  clear hO hr hb2 hs
  go_wp2_with fail
  refine (nLen (HG.out.below hb)).mono ?_
  rintro e w2 ⟨rfl, hb2⟩
  replace hb := below_more hb hb2
  clear hb2
  go_wp2_with fail
  refine (nNodes (HG.out.below hb)).mono ?_
  rintro e w2 ⟨rfl, hb2⟩
  replace hb := below_more hb hb2
  clear hb2
  go_wp2_with fail
  refine (tNew _ (HG.out.below hb)).mono ?_
  rintro e w2 ⟨t2, F2, rfl, hT2, hb2, _⟩
  replace hb := below_more hb hb2
  clear hb2
  go_wp2_with fail
  refine (tNodes 1 (HG.out.below hb) hT2 (HsOk.nil 100) kn_n0).mono ?_
  rintro e w2 ⟨rfl, hb2⟩
  replace hb := below_more hb hb2
  clear hb2 hT2
  go_wp2_with fail
  refine (awake9_any _ (HG.out.below hb)).mono ?_
  rintro e w2 ⟨rfl, hb2⟩
  replace hb := below_more hb hb2
  clear hb2
  go_wp2_with fail
  go_ret
  exact ⟨rfl, hb⟩
end lawTrieKnown
end Go.Proofs.YtipdmfnkkkdlbaaGreatDoor
