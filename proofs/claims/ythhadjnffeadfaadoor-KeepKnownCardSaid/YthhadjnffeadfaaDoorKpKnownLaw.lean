/-
  KeepKnown: the chapter's examples; a nil one. The card: a closed statement.
-/
import Derived.Test.YthhadjnffeadfaaDoorKpAwake
import Derived.Test.YthhadjnffeadfaaDoorWrFrame
import Derived.Test.YthhadjnffeadfaaDoorTie
import Derived.Test.YthhadjnffeadfaaDoorCards
import Derived.SevenTiedAt
import Derived.ProofKit
set_option linter.unusedSimpArgs false
set_option linter.unusedVariables false
namespace Go.Proofs.YthhadjnffeadfaaDoor
open Go.RowKit Go.ChangeShapes Go.WideShapes Go.ChangeAt
open Go.ChangeMaps (open_string shut_string)
def twoM : List Ms := [([97], [50], 1, true), ([97, 47, 98], [52], 2, true)]
def restM : List Ms := [([36, 115], [51], 0, true), ([97, 47, 98], [52], 2, true)]
theorem kn_f0 : fndM smallM [97, 47, 35] = twoM := by decide +kernel
theorem kn_f1 : fndM smallM [35] = twoM := by decide +kernel
theorem kn_f2 : fndM smallM [97, 47, 35, 47, 98] = [] := by decide +kernel
theorem kn_s2 : saidL twoM = [50, 32, 52, 32] := by decide +kernel
theorem kn_s0 : saidL [] = [] := by decide +kernel
theorem kn_p0 : setM smallM ([97, 47, 43], [49], 0, false) = smallM := by decide +kernel
theorem kn_y0 : mayB ([97, 47, 43], [49], 0, false) = false := by decide +kernel
theorem kn_p1 : setM smallM ([97], [], 3, false) = smallM := by decide +kernel
theorem kn_y1 : mayB ([97], [], 3, false) = false := by decide +kernel
theorem kn_p2 : setM smallM ([97], [], 0, false) = restM := by decide +kernel
theorem kn_y2 : mayB ([97], [], 0, false) = true := by decide +kernel
theorem kn_k2 : KsOk 5 restM := by have := ks_k4.set (m := ([97], [], 0, false)) (by decide) (by decide); rwa [kn_p2] at this
theorem kn_g1 : (getM restM [97]).getD zMs = ([], [], 0, false) := by decide +kernel
theorem kn_g2 : (getM restM [97]).isSome = false := by decide +kernel
namespace lawKeepKnown
set_option maxRecDepth 100000 in
set_option maxHeartbeats 8000000 in
theorem walk (w : World) (hG : Glo w) : Calls Tryd.prog 3 #[] w fun e w' => e = .returned (.bool true) ∧ Below w.heap.size w w' := by
  have HG := Lib.hid hG
  clear hG
  go_enter Tryd.func3, Tryd.ntmps3
  go_wp2_with fail
  refine (small_any _).mono ?_
  rintro e w0 ⟨t, F, rfl, hT, hb, hF⟩
  have HT := Lib.hid hT
  have HF := Lib.hid hF
  clear hT hF
  go_wp2_with fail
  refine (kFind [97, 47, 35] (HG.out.below hb) HT.out ks_k4 (by omega) (by decide)).mono ?_
  rintro e u1 ⟨v, rfl, hO⟩
  rw [kn_f0] at hO
  have hb4 := hO.below
  obtain ⟨A1, c1, rfl, _, hs, _, _⟩ := hO.form
  replace hb := below_more hb hb4
  replace HT := Lib.hid (HT.out.below hb4)
  have HS1 := Lib.hid hs
  clear hs hO hb4
  go_wp2_with fail
  refine (said_eq A1 _ c1 twoM _ _ HS1.out (by decide) kn_s2 (by decide)).mono ?_
  rintro e v1 ⟨rfl, rfl⟩
  go_wp2_with fail
  refine (kFind [35] (HG.out.below hb) HT.out ks_k4 (by omega) (by decide)).mono ?_
  rintro e u2 ⟨v, rfl, hO⟩
  rw [kn_f1] at hO
  have hb4 := hO.below
  obtain ⟨A2, c2, rfl, _, hs, _, _⟩ := hO.form
  replace hb := below_more hb hb4
  replace HT := Lib.hid (HT.out.below hb4)
  have HS2 := Lib.hid hs
  clear hs hO hb4
  go_wp2_with fail
  refine (said_eq A2 _ c2 twoM _ _ HS2.out (by decide) kn_s2 (by decide)).mono ?_
  rintro e v2 ⟨rfl, rfl⟩
  go_wp2_with fail
  refine (kFind [97, 47, 35, 47, 98] (HG.out.below hb) HT.out ks_k4 (by omega) (by decide)).mono ?_
  rintro e u3 ⟨v, rfl, hO⟩
  rw [kn_f2] at hO
  have hb4 := hO.below
  obtain ⟨A3, c3, rfl, _, hs, _, _⟩ := hO.form
  replace hb := below_more hb hb4
  replace HT := Lib.hid (HT.out.below hb4)
  have HS3 := Lib.hid hs
  clear hs hO hb4
  go_wp2_with fail
  refine (said_eq A3 _ c3 [] _ _ HS3.out (by decide) kn_s0 (by decide)).mono ?_
  rintro e v3 ⟨rfl, rfl⟩
  go_wp2_with fail
  refine (kAll HT.out ks_k4 (by omega)).mono ?_
  rintro e u4 ⟨v, rfl, hO⟩
  have hb4 := hO.below
  obtain ⟨A4, c4, rfl, hcc, hs, hA4, _⟩ := hO.form
  replace hb := below_more hb hb4
  replace HT := Lib.hid (HT.out.below hb4)
  obtain ⟨b4, rfl⟩ : ∃ b, A4 = some ⟨b, 0, none⟩ := by
    rcases hA4 with ⟨rfl, _⟩ | h
    · obtain ⟨_, _, e, _⟩ := hs.2 (by decide)
      cases e
    · exact h
  have q4 : u4.cell? ⟨b4, 11, none⟩ = some (.bool true) := by
    obtain ⟨b, off, e, hc⟩ := hs.2 (by decide)
    cases e
    have := hc 11 (.bool true) rfl
    rwa [Nat.zero_add] at this
  have hcc3 : 3 ≤ c4 := hcc
  clear hs hO hb4 hA4 hcc
  go_wp2_with fail
  refine (kAll HT.out ks_k4 (by omega)).mono ?_
  rintro e u5 ⟨v, rfl, hO⟩
  have hb4 := hO.below
  obtain ⟨A5, c5, rfl, hcc, hs, hA4, _⟩ := hO.form
  replace hb := below_more hb hb4
  replace HT := Lib.hid (HT.out.below hb4)
  obtain ⟨b5, rfl⟩ : ∃ b, A5 = some ⟨b, 0, none⟩ := by
    rcases hA4 with ⟨rfl, _⟩ | h
    · obtain ⟨_, _, e, _⟩ := hs.2 (by decide)
      cases e
    · exact h
  have q5 : u5.cell? ⟨b5, 10, none⟩ = some (.int .u8 2) := by
    obtain ⟨b, off, e, hc⟩ := hs.2 (by decide)
    cases e
    have := hc 10 (.int .u8 2) rfl
    rwa [Nat.zero_add] at this
  have hcc3 : 3 ≤ c5 := hcc
  clear hs hO hb4 hA4 hcc
  go_wp2_with fail
  refine (kSet_any HT.out ks_k4.1 (by decide) ([97, 47, 43], [49], 0, false) smallM false (by decide) (by decide) kn_p0 kn_y0).mono ?_
  rintro e u6 hK
  obtain ⟨F6, rfl, hT2, hb2, hF2⟩ := mk_step hb HF.out hK
  clear hK HT HF hb
  have HT := Lib.hid hT2
  have HF := Lib.hid hF2
  have hb := hb2
  clear hT2 hF2 hb2
  go_wp2_with fail
  refine (kSet_any HT.out ks_k4.1 (by decide) ([97], [], 3, false) smallM false (by decide) (by decide) kn_p1 kn_y1).mono ?_
  rintro e u7 hK
  obtain ⟨F7, rfl, hT2, hb2, hF2⟩ := mk_step hb HF.out hK
  clear hK HT HF hb
  have HT := Lib.hid hT2
  have HF := Lib.hid hF2
  have hb := hb2
  clear hT2 hF2 hb2
  go_wp2_with fail
  refine (kSet_any HT.out ks_k4.1 (by decide) ([97], [], 0, false) restM true (by decide) (by decide) kn_p2 kn_y2).mono ?_
  rintro e u8 hK
  obtain ⟨F8, rfl, hT2, hb2, hF2⟩ := mk_step hb HF.out hK
  clear hK HT HF hb
  have HT := Lib.hid hT2
  have HF := Lib.hid hF2
  have hb := hb2
  clear hT2 hF2 hb2
  go_wp2_with fail
  have HLen := kLen HT.out kn_k2.1
  rw [show restM.length = 2 from rfl] at HLen
  refine HLen.mono ?_
  rintro e u20 ⟨rfl, rfl⟩
  go_wp2_with fail
  refine (kGet HT.out [97] ([], [], 0, false) false (by decide) kn_g1 kn_g2).mono ?_
  rintro e u21 ⟨rfl, hb21⟩
  replace hb := below_more hb hb21
  clear hb21 HLen
  go_wp2_with fail
  refine (kGetN _ [97] (by decide)).mono ?_
  rintro e u22 ⟨rfl, hb22⟩
  replace hb := below_more (below_alloc hb _) hb22
  clear hb22
  have hX : BxM (u22.alloc (.cells #[.string ⟨#[]⟩, .string ⟨#[]⟩, .int .u8 0, .bool false] 28)) u22.heap.size ([], [], 0, false) := BxM.new u22 ([], [], 0, false)
  have HX := Lib.hid hX
  clear hX
  go_wp2_with fail
  refine (kSetN _ ([97], [49], 0, false)).mono ?_
  rintro e u23 ⟨rfl, hb23⟩
  have X3 := HX.out.below hb23
  have x0 := X3.c0; have x1 := X3.c1; have x2 := X3.c2; have x3 := X3.c3
  have hz : eqM ([], [], 0, false) ([], [], 0, false) = true := rfl
  dsimp only at x0 x1 x2 x3
  replace hb := below_more (below_alloc hb _) hb23
  clear hb23 X3
  go_wp2_with fail
  refine (kFindN u23 [35] (HG.out.below hb) (by decide)).mono ?_
  rintro e u24 ⟨v, rfl, hO⟩
  replace hb := below_more hb hO.below
  obtain ⟨A24, c24, rfl, _, _, _, _⟩ := hO.form
  clear hO x0 x1 x2 x3
  go_wp2_with fail
  refine (kAllN u24).mono ?_
  rintro e u25 ⟨v, rfl, hO⟩
  replace hb := below_more hb hO.below
  obtain ⟨A25, c25, rfl, _, _, _, _⟩ := hO.form
  clear hO
  go_wp2_with fail
  refine (kLenN u25).mono ?_
  rintro e u26 ⟨rfl, rfl⟩
  go_wp2_with fail
  refine (kNew _).mono ?_
  rintro e u27 ⟨t2, F2, rfl, hT2, hb27, _⟩
  replace hb := below_more hb hb27
  clear hb27
  go_wp2_with fail
  refine (kLen hT2 List.Pairwise.nil).mono ?_
  rintro e u28 ⟨rfl, rfl⟩
  go_wp2_with fail
  refine (awake10_any _ (HG.out.below hb)).mono ?_
  rintro e u29 ⟨rfl, hb29⟩
  replace hb := below_more hb hb29
  clear hb29
  go_wp2_with fail
  go_ret
  exact ⟨rfl, hb⟩
set_option maxRecDepth 100000 in
theorem lifted (os : Os) (started : os.Started) (H : Type) (enc : TypeId × Value → H) :
    ReturnsInHanded {} Tryd.checked os 3 .any (fun w args => (Rows.keepKnownSpec.pre enc Tryd.prog Tryd.f3 [] false w args ∧ laidMetH Tryd.prog laidL w) ∧ sizedMet enc Tryd.prog Tryd.f3 (OpenSpec.ofChange Rows.keepKnownSpec) false w args)
      (Rows.keepKnownSpec.post enc Tryd.prog Tryd.f3 false true false false) := by
  refine handed_laid (C := Tryd.checked) (X := fun w _ => laidMetH Tryd.prog laidL w) own_none started (by kernel_rfl) Tryd.func3 (laid_witness os Rows.keepKnownSpec #[] (by kernel_rfl) (by kernel_rfl) (by kernel_rfl)) ?_
  intro W base args ds gs before hval0 hW hsh
  have hval : ∀ (j : Nat) t v, Tryd.f3.params[j]? = some t → args[j]? = some v → Value.okWide Tryd.prog W .any base t v := hval0
  have hWk := hW
  obtain ⟨p, q, hA0, hV, hbef, _, _⟩ := hWk
  have hA : DataW.TrodAll enc Tryd.prog W 0 (fun _ => true) true Tryd.f3.params.toList args.toList ds p := hA0
  obtain ⟨rfl, rfl⟩ := trodVars_none hV
  rw [Tryd.params3] at hA hval
  obtain ⟨hargs, rfl, hpn⟩ := trodAll_nil hA
  obtain rfl : args = #[] := by cases args; simp_all
  refine (walk W (glo_of hsh) ).mono fun e W' ⟨he, hg⟩ => ?_
  subst he
  exact ⟨_, rfl, law_post laid_out (by kernel_rfl) rfl (by kernel_rfl) Tryd.underlying4 hW rfl hg⟩

theorem over : Rows.keepKnownRow.holds Tryd.pinned (OpenSpec.ofChange Rows.keepKnownSpec) :=
  OpenClaim.holds_of_wide 3 Tryd.f3 rfl rfl rfl rfl rfl rfl rfl ⟨rfl, rfl, rfl, rfl, rfl⟩ rfl rfl rfl rfl rfl (by kernel_rfl) Tryd.func3 (by kernel_rfl)
    (of_decide_eq_true (by kernel_rfl)) (by unfold Func.isWrapper; first | (rw [if_pos (by decide +kernel)]; kernel_rfl) | (rw [if_neg (by decide +kernel)]; exact ⟨rfl, rfl⟩))
    (fun os started H enc _ => lifted os started H enc)

/-- THE STATEMENT: the card. -/
theorem proved : Rows.KeepKnownCardSaid :=
  Claim7.holds_tied_plain_at .later [] [.data, .pinned] true Rows.keepKnownCard.stood.harness false over (fun _ h => by cases h) (by kernel_rfl) (fun _ h => by cases h) keepKnown_row_tie rfl ⟨rfl, rfl⟩ (by kernel_rfl) rfl
    (fun f fn hf hfn => by
      obtain rfl : f = 3 := Option.some.inj ((show Tryd.prog.funcNamed Rows.keepKnownRow.func = some 3 by kernel_rfl).symm.trans hf) |>.symm
      obtain rfl : fn = Tryd.f3 := (Option.some.inj (Tryd.func3.symm.trans hfn)).symm
      exact ⟨by kernel_rfl, fun j t ht => by
        have hm : t ∈ Tryd.f3.params.toList := by simpa using Array.mem_of_getElem? ht
        have hall : (Tryd.f3.params.toList.all fun u => !Tryd.prog.wantsStandIn u) = true := by kernel_rfl
        exact (show Tryd.prog.wantsStandIn t = false by simpa using List.all_eq_true.1 hall t hm)⟩)
    (by kernel_rfl)
end lawKeepKnown
end Go.Proofs.YthhadjnffeadfaaDoor
