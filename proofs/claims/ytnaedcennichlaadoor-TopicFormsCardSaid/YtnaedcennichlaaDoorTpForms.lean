/-
  TopicForms: what a text is, its levels, its first one. The card.
-/
import Derived.Test.YtnaedcennichlaaDoorTpLaw
import Derived.Test.YtnaedcennichlaaDoorWrFrame
import Derived.Test.YtnaedcennichlaaDoorTie
import Derived.Test.YtnaedcennichlaaDoorCards
import Derived.SevenTiedAt
import Derived.ProofKit
set_option linter.unusedSimpArgs false
set_option linter.unusedVariables false
namespace Go.Proofs.YtnaedcennichlaaDoor
open Go.RowKit Go.ChangeShapes Go.WideShapes Go.ChangeAt
open Go.ChangeMaps (open_string shut_string)
namespace lawTopicForms
set_option maxHeartbeats 1000000 in
theorem walk (w : World) (hG : Glo w) (l : List UInt8) (hl : l.length ≤ 9223372036854775807) :
    Calls Tryd.prog 3 #[.string ⟨l.toArray⟩] w fun e w' => e = .returned (.bool true) ∧ Below w.heap.size w w' := by
  have HG := Lib.hid hG
  have hb : Below w.heap.size w w := Below.refl _ _
  clear hG
  cases hg : longB l with
  | true =>
    have HL := Lib.hid hg
    clear hg
    go_enter Tryd.func3, Tryd.ntmps3
    go_wp2_with fail
    refine (long1_eq w.heap.size _ l true _ (World.cell?_alloc_new _ _ _ _) hl HL.out).mono ?_
    rintro e w1 ⟨rfl, rfl⟩
    replace hb := below_alloc hb (.cells #[.string ⟨l.toArray⟩] 9)
    go_wp2_with fail
    refine (awake7_any _ (HG.out.below hb)).mono ?_
    rintro e w1 ⟨rfl, hb1⟩
    replace hb := below_more hb hb1
    clear hb1
    go_wp2_with fail
    go_ret
    exact ⟨rfl, hb⟩
  | false =>
    have hl2 : l.length ≤ 65550 := by
      unfold longB at hg
      rw [Bool.or_eq_false_iff] at hg
      have := hg.2
      simpa using this
    have HL := Lib.hid hg
    obtain ⟨L, hL⟩ : ∃ L, levs l = L := ⟨_, rfl⟩
    have hll := levs_len l
    rw [hL] at hll
    have HLL := Lib.hid hL
    obtain ⟨x, f, hf⟩ : ∃ x f, firL l = (x, f) := ⟨_, _, rfl⟩
    have HF := Lib.hid hf
    obtain ⟨n, hn⟩ : ∃ n, namB l = n := ⟨_, rfl⟩
    have HN := Lib.hid hn
    obtain ⟨q, hq⟩ : ∃ n, filB l = n := ⟨_, rfl⟩
    have HQ := Lib.hid hq
    have HS : Hid ((L == L) = true) := by show _ = _; simp
    clear hg hL hf hn hq
    go_enter Tryd.func3, Tryd.ntmps3
    go_wp2_with fail
    refine (long1_eq w.heap.size _ l false _ (World.cell?_alloc_new _ _ _ _) hl HL.out).mono ?_
    rintro e w1 ⟨rfl, rfl⟩
    replace hb := below_alloc hb (.cells #[.string ⟨l.toArray⟩] 9)
    go_wp2_with fail
    refine (tpLevels_eq l L _ (HG.out.below hb) (by omega) HLL.out).mono ?_
    rintro e w2 ⟨g1, c1, rfl, _, hs1, hb2⟩
    replace hb := below_more hb hb2
    clear hb2
    go_wp2_with fail
    refine (tpFirst_eq l x f _ (HG.out.below hb) (by omega) HF.out).mono ?_
    rintro e w3 ⟨rfl, hb3⟩
    replace hb := below_more hb hb3
    replace hs1 := hs1.below hb3
    clear hb3
    go_wp2_with fail
    refine (refFirst_eq l x f _ (by omega) HF.out).mono ?_
    rintro e w4 ⟨rfl, hb4⟩
    replace hb := below_more hb hb4
    replace hs1 := hs1.below hb4
    clear hb4
    go_wp2_with fail
    refine (refLevels_eq l L _ (by omega) HLL.out).mono ?_
    rintro e w5 ⟨g2, c2, rfl, _, hs2, hb5⟩
    replace hb := below_more hb hb5
    replace hs1 := hs1.below hb5
    clear hb5
    go_wp2_with fail
    refine (sameTexts_eq _ _ c1 L _ _ c2 L true _ hs1 hs2 (by omega) HS.out).mono ?_
    rintro e w1 ⟨rfl, hb1⟩
    replace hb := below_more hb hb1
    clear hb1
    go_wp2_with fail
    refine (tpName_eq l n _ (by omega) HN.out).mono ?_
    rintro e w1 ⟨rfl, hb1⟩
    replace hb := below_more hb hb1
    clear hb1
    go_wp2_with fail
    refine (refName_eq l n _ (by omega) HN.out).mono ?_
    rintro e w1 ⟨rfl, hb1⟩
    replace hb := below_more hb hb1
    clear hb1
    go_wp2_with fail
    refine (tpFilter_eq l q _ (HG.out.below hb) (by omega) HQ.out).mono ?_
    rintro e w1 ⟨rfl, hb1⟩
    replace hb := below_more hb hb1
    clear hb1
    go_wp2_with fail
    refine (refFilter_eq l q _ (by omega) HQ.out).mono ?_
    rintro e w1 ⟨rfl, hb1⟩
    replace hb := below_more hb hb1
    clear hb1
    go_wp2_with fail
    refine (awake7_any _ (HG.out.below hb)).mono ?_
    rintro e w1 ⟨rfl, hb1⟩
    replace hb := below_more hb hb1
    clear hb1
    go_wp2_with fail
    go_ret
    exact ⟨rfl, hb⟩
set_option maxRecDepth 100000 in
theorem lifted (os : Os) (started : os.Started) (H : Type) (enc : TypeId × Value → H) :
    ReturnsInHanded {} Tryd.checked os 3 .any (fun w args => (Rows.topicFormsSpec.pre enc Tryd.prog Tryd.f3 [] false w args ∧ laidMetH Tryd.prog laidL w) ∧ sizedMet enc Tryd.prog Tryd.f3 (OpenSpec.ofChange Rows.topicFormsSpec) false w args)
      (Rows.topicFormsSpec.post enc Tryd.prog Tryd.f3 false true false false) := by
  refine handed_laid (C := Tryd.checked) (X := fun w _ => laidMetH Tryd.prog laidL w) own_none started (by kernel_rfl) Tryd.func3 (laid_witness os Rows.topicFormsSpec #[.string ByteArray.empty] (by kernel_rfl) (by kernel_rfl) (by kernel_rfl)) ?_
  intro W base args ds gs before hval0 hW hsh
  have hval : ∀ (j : Nat) t v, Tryd.f3.params[j]? = some t → args[j]? = some v → Value.okWide Tryd.prog W .any base t v := hval0
  have hWk := hW
  obtain ⟨p, q, hA0, hV, hbef, _, _⟩ := hWk
  have hA : DataW.TrodAll enc Tryd.prog W 0 (fun _ => true) true Tryd.f3.params.toList args.toList ds p := hA0
  obtain ⟨rfl, rfl⟩ := trodVars_none hV
  rw [Tryd.params3] at hA hval
  obtain ⟨v0, vs0, d0, ds0, p0, q0, hargs, rfl, hp0, h0, r0⟩ := trodAll_cons hA
  obtain ⟨rfl, rfl, hpn⟩ := trodAll_nil r0
  obtain rfl : args = #[v0] := by cases args; simp_all
  obtain ⟨s0, rfl, rfl, hx0, w0⟩ := open_string Tryd.underlying9 (hval 0 9 v0 rfl rfl) h0
  obtain ⟨a0, rfl, hl0⟩ := str_of s0
  refine (walk W (glo_of hsh) a0 (by unfold maxLen at w0; omega)).mono fun e W' ⟨he, hg⟩ => ?_
  subst he
  exact ⟨_, rfl, law_post laid_out (by kernel_rfl) rfl (by kernel_rfl) Tryd.underlying4 hW rfl hg⟩

theorem over : Rows.topicFormsRow.holds Tryd.pinned (OpenSpec.ofChange Rows.topicFormsSpec) :=
  OpenClaim.holds_of_wide 3 Tryd.f3 rfl rfl rfl rfl rfl rfl rfl ⟨rfl, rfl, rfl, rfl, rfl⟩ rfl rfl rfl rfl rfl (by kernel_rfl) Tryd.func3 (by kernel_rfl)
    (of_decide_eq_true (by kernel_rfl)) (by unfold Func.isWrapper; first | (rw [if_pos (by decide +kernel)]; kernel_rfl) | (rw [if_neg (by decide +kernel)]; exact ⟨rfl, rfl⟩))
    (fun os started H enc _ => lifted os started H enc)

/-- THE STATEMENT: the card. -/
theorem proved : Rows.TopicFormsCardSaid :=
  Claim7.holds_tied_plain_at .later [] [.data, .pinned] true Rows.topicFormsCard.stood.harness false over (fun _ h => by cases h) (by kernel_rfl) (fun _ h => by cases h) topicForms_row_tie rfl ⟨rfl, rfl⟩ (by kernel_rfl) rfl
    (fun f fn hf hfn => by
      obtain rfl : f = 3 := Option.some.inj ((show Tryd.prog.funcNamed Rows.topicFormsRow.func = some 3 by kernel_rfl).symm.trans hf) |>.symm
      obtain rfl : fn = Tryd.f3 := (Option.some.inj (Tryd.func3.symm.trans hfn)).symm
      exact ⟨by kernel_rfl, fun j t ht => by
        have hm : t ∈ Tryd.f3.params.toList := by simpa using Array.mem_of_getElem? ht
        have hall : (Tryd.f3.params.toList.all fun u => !Tryd.prog.wantsStandIn u) = true := by kernel_rfl
        exact (show Tryd.prog.wantsStandIn t = false by simpa using List.all_eq_true.1 hall t hm)⟩)
    (by kernel_rfl)
end lawTopicForms
end Go.Proofs.YtnaedcennichlaaDoor
