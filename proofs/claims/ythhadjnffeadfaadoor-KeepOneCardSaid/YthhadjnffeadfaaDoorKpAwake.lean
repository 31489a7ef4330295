/-
  keep's statements: the chapter's store; awake; a store behind messages.
-/
import Derived.Test.YthhadjnffeadfaaDoorKpHelp
set_option linter.unusedSimpArgs false
set_option linter.unusedVariables false
namespace Go.Proofs.YthhadjnffeadfaaDoor
open Go.RowKit

def k0 : Ms := ([97, 47, 98], [49], 0, false)
def k1 : Ms := ([97], [50], 1, false)
def k2 : Ms := ([36, 115], [51], 0, false)
def k3 : Ms := ([97, 47, 98], [52], 2, false)
def smallM : List Ms := [([36, 115], [51], 0, true), ([97], [50], 1, true), ([97, 47, 98], [52], 2, true)]
theorem ks_m0 : setM [] k0 = [([97, 47, 98], [49], 0, true)] := by decide +kernel
theorem ks_y0 : mayB k0 = true := by decide +kernel
theorem ks_m1 : setM [([97, 47, 98], [49], 0, true)] k1 = [([97], [50], 1, true), ([97, 47, 98], [49], 0, true)] := by decide +kernel
theorem ks_y1 : mayB k1 = true := by decide +kernel
theorem ks_m2 : setM [([97], [50], 1, true), ([97, 47, 98], [49], 0, true)] k2 = [([36, 115], [51], 0, true), ([97], [50], 1, true), ([97, 47, 98], [49], 0, true)] := by decide +kernel
theorem ks_y2 : mayB k2 = true := by decide +kernel
theorem ks_m3 : setM [([36, 115], [51], 0, true), ([97], [50], 1, true), ([97, 47, 98], [49], 0, true)] k3 = smallM := by decide +kernel
theorem ks_y3 : mayB k3 = true := by decide +kernel
theorem ks_k1 : KsOk 1 [([97, 47, 98], [49], 0, true)] := by have := (KsOk.nil 0).set (m := k0) (by decide) (by decide); rwa [ks_m0] at this
theorem ks_k2 : KsOk 2 [([97], [50], 1, true), ([97, 47, 98], [49], 0, true)] := by have := ks_k1.set (m := k1) (by decide) (by decide); rwa [ks_m1] at this
theorem ks_k3 : KsOk 3 [([36, 115], [51], 0, true), ([97], [50], 1, true), ([97, 47, 98], [49], 0, true)] := by have := ks_k2.set (m := k2) (by decide) (by decide); rwa [ks_m2] at this
theorem ks_k4 : KsOk 4 smallM := by have := ks_k3.set (m := k3) (by decide) (by decide); rwa [ks_m3] at this
/-- A store that a call makes. -/
def MK (w : World) (L : List Ms) (e : Ending) (w' : World) : Prop := ∃ t F, e = .returned (.pointer (some ⟨t, 0, none⟩)) ∧ KP w' t F L ∧ Below w.heap.size w w' ∧ ∀ b, F b → w.heap.size ≤ b
/-- One Set more on a store of the call's own. -/
theorem mk_step {w w1 w2 : World} {t : Nat} {F : Nat → Prop} {M : List Ms} {r : Bool} {e : Ending} (hb : Below w.heap.size w w1) (hF : ∀ b, F b → w.heap.size ≤ b) (h : KS w1 t F M r e w2) : ∃ F', e = .returned (.bool r) ∧ KP w2 t F' M ∧ Below w.heap.size w w2 ∧ ∀ b, F' b → w.heap.size ≤ b := by
  obtain ⟨F', he, hP, hU, hV⟩ := h
  refine ⟨F', he, hP, hb.trans (hU.below (B := w.heap.size) (fun b _ h => hF b h) hb.size), fun b h => ?_⟩
  rcases hV b h with h2 | h2
  · exact hF b h2
  · have := hb.size; omega
set_option maxHeartbeats 1000000 in
theorem small_any (w : World) : Calls Tryd.prog 7 #[] w fun e w' => MK w smallM e w' := by
  go_enter Tryd.func7, Tryd.ntmps7
  go_wp2_with fail
  refine (kNew _).mono ?_
  rintro e w0 ⟨t, F0, rfl, hT0, hb0, hF0⟩
  go_wp2_with fail
  refine (kSet_any hT0 List.Pairwise.nil (by simp) k0 _ true (by decide) (by decide) ks_m0 ks_y0).mono ?_
  rintro e w1 hK1
  obtain ⟨F1, rfl, hT1, hb1, hF1⟩ := mk_step hb0 hF0 hK1
  clear hT0 hb0 hF0 hK1
  go_wp2_with fail
  refine (kSet_any hT1 ks_k1.1 (by simp) k1 _ true (by decide) (by decide) ks_m1 ks_y1).mono ?_
  rintro e w2 hK1
  obtain ⟨F2, rfl, hT2, hb2, hF2⟩ := mk_step hb1 hF1 hK1
  clear hT1 hb1 hF1 hK1
  go_wp2_with fail
  refine (kSet_any hT2 ks_k2.1 (by simp) k2 _ true (by decide) (by decide) ks_m2 ks_y2).mono ?_
  rintro e w3 hK1
  obtain ⟨F3, rfl, hT3, hb3, hF3⟩ := mk_step hb2 hF2 hK1
  clear hT2 hb2 hF2 hK1
  go_wp2_with fail
  refine (kSet_any hT3 ks_k3.1 (by simp) k3 _ true (by decide) (by decide) ks_m3 ks_y3).mono ?_
  rintro e w4 hK1
  obtain ⟨F4, rfl, hT4, hb4, hF4⟩ := mk_step hb3 hF3 hK1
  clear hT3 hb3 hF3 hK1
  go_wp2_with fail
  go_ret
  exact ⟨t, F4, rfl, hT4, hb4, hF4⟩
theorem sm_said : saidL smallM = [51, 32, 50, 32, 52, 32] := by decide +kernel
theorem sm_plus : fndM smallM [43] = [([97], [50], 1, true)] := by decide +kernel
theorem sm_said1 : saidL [([97], [50], 1, true)] = [50, 32] := by decide +kernel
set_option maxHeartbeats 1000000 in
theorem awake10_any (w : World) (hG : Glo w) : Calls Tryd.prog 15 #[] w fun e w' => e = .returned (.bool true) ∧ Below w.heap.size w w' := by
  have HG := Lib.hid hG
  clear hG
  go_enter Tryd.func15, Tryd.ntmps15
  go_wp2_with fail
  refine (small_any _).mono ?_
  rintro e w1 ⟨t, F, rfl, hT, hb, _⟩
  have HT := Lib.hid hT
  clear hT
  go_wp2_with fail
  refine (kAll HT.out ks_k4 (by omega)).mono ?_
  rintro e w2 ⟨v, rfl, hO⟩
  have hb2 := hO.below
  obtain ⟨A, c, rfl, _, hs, _, _⟩ := hO.form
  replace hb := below_more hb hb2
  have HT2 := Lib.hid (HT.out.below hb2)
  have HS := Lib.hid hs
  clear hs hO hb2
  go_wp2_with fail
  refine (said_eq A _ c smallM _ w2 HS.out (by decide) sm_said (by decide)).mono ?_
  rintro e w3 ⟨rfl, rfl⟩
  go_wp2_with fail
  refine (kFind [43] (HG.out.below hb) HT2.out ks_k4 (by omega) (by decide)).mono ?_
  rintro e w4 ⟨v, rfl, hO⟩
  rw [sm_plus] at hO
  have hb4 := hO.below
  obtain ⟨A4, c4, rfl, _, hs, _, _⟩ := hO.form
  replace hb := below_more hb hb4
  have HS4 := Lib.hid hs
  clear hs hO hb4
  go_wp2_with fail
  refine (said_eq A4 _ c4 _ _ w4 HS4.out (by decide) sm_said1 (by decide)).mono ?_
  rintro e w5 ⟨rfl, rfl⟩
  go_wp2_with fail
  go_ret
  exact ⟨rfl, hb⟩
set_option maxHeartbeats 1000000 in
theorem made_any (A : Option Addr) (n c : Nat) (l : List Ms) (w : World) (hs : Msgs w A n l) (hok : MsgsOk l) :
    Calls Tryd.prog 17 #[.slice A n c] w fun e w' => MK w (madeM l) e w' ∧ KsOk 60 (madeM l) := by
  have HS := Lib.hid hs
  have HL := Lib.hid hs.len
  have hn60 : n ≤ 60 := by have := hs.len; have := hok.1; omega
  have HX := Lib.hid hok.2
  clear hs hok
  go_enter Tryd.func17, Tryd.ntmps17
  go_wp2_with fail
  refine (kNew _).mono ?_
  rintro e w1 ⟨t, F, rfl, hT, hb1, hF⟩
  go_wp2_with fail
  go_loopw [4] (fun i wr => ∃ (k : Nat) (F : Nat → Prop), i = .int .i64 k ∧ k ≤ n ∧ Below w.heap.size w wr ∧ KP wr t F (madeM (l.take k)) ∧ KsOk k (madeM (l.take k)) ∧ (∀ b, F b → w.heap.size ≤ b)) (fun i _ => n - (intOf i).toNat)
  case atStart => exact ⟨0, F, rfl, by omega, hb1, by rw [List.take_zero]; exact hT, by rw [List.take_zero]; exact KsOk.nil 0, hF⟩
  case round =>
    clear hT hb1 hF
    obtain ⟨k, F, rfl, hkn, hb, hP, hk, hF⟩ := hrel
    have HP := Lib.hid hP
    have HK := Lib.hid hk
    have HF := Lib.hid hF
    clear hP hk hF
    by_cases hlt : k < n
    · obtain ⟨b1, o1, x, rfl, hx, c0, c1, c2, c3⟩ := (HS.out.below hb).at_ hlt
      obtain ⟨hxf, hxc⟩ := HX.out x (List.mem_of_getElem? hx)
      have hml := made_take l k x hx
      have HK2 : Hid (KsOk (k + 1) (madeM (l.take (k + 1)))) := by show KsOk _ _; rw [hml]; exact HK.out.set hxf hxc
      have HML := Lib.hid hml
      obtain ⟨xf, xc, xq, xb⟩ := x
      dsimp only at hxf hxc c0 c1 c2 c3
      have hkl : (madeM (l.take k)).length ≤ 1000000 := by have := HK.out.2.1; omega
      clear hx hml
      go_wp2_with fail
      refine (kSet_any HP.out HK.out.1 hkl (xf, xc, xq, xb) _ _ (by dsimp only; omega) (by dsimp only; omega) HML.out.symm rfl).mono ?_
      rintro e w2 hK2
      obtain ⟨F2, rfl, hT2, hb2, hF2⟩ := mk_step hb HF.out hK2
      have HT2 := Lib.hid hT2
      have HF2 := Lib.hid hF2
      clear hK2 hb c0 c1 c2 c3 hT2 hF2
      go_wp2_with fail
      go_roundw
      case rel => exact ⟨k + 1, F2, by go_num, by omega, hb2, HT2.out, HK2.out, HF2.out⟩
      case measure => simp [intOf]; omega
    · have hkn2 : k = n := by omega
      have HN : l.take k = l := List.take_of_length_le (by rw [HL.out]; omega)
      rw [HN] at HP HK
      go_wp2_with fail
      go_ret
      exact ⟨⟨t, F, rfl, HP.out, hb, HF.out⟩, HK.out.le (by omega)⟩
end Go.Proofs.YthhadjnffeadfaaDoor
