/-
  trie's statements: the chapter's trie; awake.
-/
import Derived.Test.YtipdmfnkkkdlbaaGreatDoorTrDoes
set_option linter.unusedSimpArgs false
set_option linter.unusedVariables false
namespace Go.Proofs.YtipdmfnkkkdlbaaGreatDoor
open Go.RowKit

def smallL : List Hn := [([35], [122]), ([97, 47, 35], [120]), ([97, 47, 35], [121]), ([97, 47, 43], [120])]
theorem sm_add0 : addL [] ([97, 47, 43], [120]) = [([97, 47, 43], [120])] := by decide +kernel
theorem sm_yes0 : addB [] ([97, 47, 43], [120]) = true := by decide +kernel
theorem sm_add1 : addL [([97, 47, 43], [120])] ([97, 47, 35], [121]) = [([97, 47, 35], [121]), ([97, 47, 43], [120])] := by decide +kernel
theorem sm_yes1 : addB [([97, 47, 43], [120])] ([97, 47, 35], [121]) = true := by decide +kernel
theorem sm_add2 : addL [([97, 47, 35], [121]), ([97, 47, 43], [120])] ([97, 47, 35], [120]) = [([97, 47, 35], [120]), ([97, 47, 35], [121]), ([97, 47, 43], [120])] := by decide +kernel
theorem sm_yes2 : addB [([97, 47, 35], [121]), ([97, 47, 43], [120])] ([97, 47, 35], [120]) = true := by decide +kernel
theorem sm_add3 : addL [([97, 47, 35], [120]), ([97, 47, 35], [121]), ([97, 47, 43], [120])] ([35], [122]) = [([35], [122]), ([97, 47, 35], [120]), ([97, 47, 35], [121]), ([97, 47, 43], [120])] := by decide +kernel
theorem sm_yes3 : addB [([97, 47, 35], [120]), ([97, 47, 35], [121]), ([97, 47, 43], [120])] ([35], [122]) = true := by decide +kernel
theorem sm_ok0 : HsOk 0 [] := HsOk.nil 0
theorem sm_ok1 : HsOk 1 [([97, 47, 43], [120])] := by
  have := sm_ok0.add (h := ([97, 47, 43], [120])) (by decide) (by decide)
  rwa [sm_add0] at this
theorem sm_ok2 : HsOk 2 [([97, 47, 35], [121]), ([97, 47, 43], [120])] := by
  have := sm_ok1.add (h := ([97, 47, 35], [121])) (by decide) (by decide)
  rwa [sm_add1] at this
theorem sm_ok3 : HsOk 3 [([97, 47, 35], [120]), ([97, 47, 35], [121]), ([97, 47, 43], [120])] := by
  have := sm_ok2.add (h := ([97, 47, 35], [120])) (by decide) (by decide)
  rwa [sm_add2] at this
theorem sm_ok4 : HsOk 4 [([35], [122]), ([97, 47, 35], [120]), ([97, 47, 35], [121]), ([97, 47, 43], [120])] := by
  have := sm_ok3.add (h := ([35], [122])) (by decide) (by decide)
  rwa [sm_add3] at this
/-- The chapter's trie. -/
def SM (w : World) (L : List Hn) (e : Ending) (w' : World) : Prop := ∃ t F, e = .returned (.pointer (some ⟨t, 0, none⟩)) ∧ PT w' t F L ∧ Below w.heap.size w w' ∧ ∀ b, F b → w.heap.size ≤ b
theorem small_any (w : World) (hG : GT w) : Calls Tryz.prog 18 #[] w fun e w' => SM w smallL e w' := by
  have HG := Lib.hid hG
  clear hG
  go_enter Tryz.func18, Tryz.ntmps18
  go_wp2_with fail
  refine (tNew _ HG.out).mono ?_
  rintro e w0 ⟨t, F0, rfl, hT0, hb0, hF0⟩
  go_wp2_with fail
  refine (tAdd [97, 47, 43] [120] [([97, 47, 43], [120])] true (HG.out.below hb0) hT0 (sm_ok0.le (by omega)) (by decide) (by decide) sm_add0 sm_yes0).mono ?_
  rintro e w1 ⟨F1, rfl, hT1, hU1, hV1⟩
  have hb1 := hb0.trans (hU1.below (B := w.heap.size) (fun b _ h => hF0 b h) hb0.size)
  have hF1 : ∀ b, F1 b → w.heap.size ≤ b := fun b h => by
    rcases hV1 b h with h2 | h2
    · exact hF0 b h2
    · have := hb0.size; omega
  clear hT0 hU1 hV1 hb0 hF0
  go_wp2_with fail
  refine (tAdd [97, 47, 35] [121] [([97, 47, 35], [121]), ([97, 47, 43], [120])] true (HG.out.below hb1) hT1 (sm_ok1.le (by omega)) (by decide) (by decide) sm_add1 sm_yes1).mono ?_
  rintro e w2 ⟨F2, rfl, hT2, hU2, hV2⟩
  have hb2 := hb1.trans (hU2.below (B := w.heap.size) (fun b _ h => hF1 b h) hb1.size)
  have hF2 : ∀ b, F2 b → w.heap.size ≤ b := fun b h => by
    rcases hV2 b h with h2 | h2
    · exact hF1 b h2
    · have := hb1.size; omega
  clear hT1 hU2 hV2 hb1 hF1
  go_wp2_with fail
  refine (tAdd [97, 47, 35] [120] [([97, 47, 35], [120]), ([97, 47, 35], [121]), ([97, 47, 43], [120])] true (HG.out.below hb2) hT2 (sm_ok2.le (by omega)) (by decide) (by decide) sm_add2 sm_yes2).mono ?_
  rintro e w3 ⟨F3, rfl, hT3, hU3, hV3⟩
  have hb3 := hb2.trans (hU3.below (B := w.heap.size) (fun b _ h => hF2 b h) hb2.size)
  have hF3 : ∀ b, F3 b → w.heap.size ≤ b := fun b h => by
    rcases hV3 b h with h2 | h2
    · exact hF2 b h2
    · have := hb2.size; omega
  clear hT2 hU3 hV3 hb2 hF2
  go_wp2_with fail
  refine (tAdd [35] [122] [([35], [122]), ([97, 47, 35], [120]), ([97, 47, 35], [121]), ([97, 47, 43], [120])] true (HG.out.below hb3) hT3 (sm_ok3.le (by omega)) (by decide) (by decide) sm_add3 sm_yes3).mono ?_
  rintro e w4 ⟨F4, rfl, hT4, hU4, hV4⟩
  have hb4 := hb3.trans (hU4.below (B := w.heap.size) (fun b _ h => hF3 b h) hb3.size)
  have hF4 : ∀ b, F4 b → w.heap.size ≤ b := fun b h => by
    rcases hV4 b h with h2 | h2
    · exact hF3 b h2
    · have := hb3.size; omega
  clear hT3 hU4 hV4 hb3 hF3
  go_wp2_with fail
  go_ret
  exact ⟨t, F4, rfl, hT4, hb4, hF4⟩
theorem sm_len : smallL.length = 4 := rfl
theorem sm_nod : nodL smallL = 5 := by decide +kernel
theorem sm_mat : matL smallL [97, 47, 98] = [[120], [121], [122]] := by decide +kernel
theorem strs_new3t (w : World) (x y z : List UInt8) (t : TypeId) : Strs (w.alloc (.cells #[.string ⟨x.toArray⟩, .string ⟨y.toArray⟩, .string ⟨z.toArray⟩] t)) (some ⟨w.heap.size, 0, none⟩) 3 [x, y, z] := strs_new w [x, y, z] t
theorem awake9_any (w : World) (hG : GT w) : Calls Tryz.prog 10 #[] w fun e w' => e = .returned (.bool true) ∧ Below w.heap.size w w' := by
  have HG := Lib.hid hG
  clear hG
  go_enter Tryz.func10, Tryz.ntmps10
  go_wp2_with fail
  refine (small_any _ HG.out).mono ?_
  rintro e w1 ⟨t, F, rfl, hT, hb, _⟩
  have hk : Hid (HsOk 100 smallL) := sm_ok4.le (by omega)
  go_wp2_with fail
  refine (tMatch [97, 47, 98] [[120], [121], [122]] (HG.out.below hb) hT hk.out (by decide) sm_mat).mono ?_
  rintro e w2 ⟨A, c, rfl, hs, _, _, hb2⟩
  replace hb := below_more hb hb2
  replace hT := hT.below hb2
  clear hb2
  go_wp2_with fail
  refine (sameTexts_eq A 3 c [[120], [121], [122]] _ 3 3 [[120], [121], [122]] true _ (hs.below ((Below.refl _ _).alloc (Nat.le_refl _) _)) (strs_new3t w2 _ _ _ _) (by omega) (by simp)).mono ?_
  rintro e w3 ⟨rfl, hb3⟩
  replace hT := (hT.below ((Below.refl _ _).alloc (Nat.le_refl _) _)).below hb3
  replace hb := below_more (below_alloc hb _) hb3
  clear hb3 hs
  go_wp2_with fail
  refine (tLen 4 (HG.out.below hb) hT hk.out sm_len).mono ?_
  rintro e w4 ⟨rfl, hb4⟩
  replace hb := below_more hb hb4
  replace hT := hT.below hb4
  clear hb4
  go_wp2_with fail
  refine (tNodes 5 (HG.out.below hb) hT hk.out sm_nod).mono ?_
  rintro e w5 ⟨rfl, hb5⟩
  replace hb := below_more hb hb5
  clear hb5 hT
  go_wp2_with fail
  go_ret
  exact ⟨rfl, hb⟩
end Go.Proofs.YtipdmfnkkkdlbaaGreatDoor
