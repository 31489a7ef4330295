/-
  TopicOrder: a filter covers itself, and what is covered by one that it covers; a name covers itself alone. The card.
-/
import Derived.Test.YtnaedcennichlaaDoorTpLaw
import Derived.Test.YtnaedcennichlaaDoorWrFrame
import Derived.Test.YtnaedcennichlaaDoorTie
import Derived.Test.YtnaedcennichlaaDoorCards
import Derived.SevenTiedAt
import Derived.ProofKit
set_option linter.unusedSimpArgs false
set_option linter.unusedVariables false
namespace Go.Proofs.YtnaedcennichlaaDoor
open Go.RowKit Go.ChangeShapes Go.WideShapes Go.ChangeAt
open Go.ChangeMaps (open_string shut_string)
namespace lawTopicOrder
set_option maxHeartbeats 1000000 in
theorem walkIn (w : World) (hG : Glo w) (a b c : List UInt8) (ha : a.length ≤ 1000) (hb1 : b.length ≤ 1000) (hc : c.length ≤ 1000) :
    Calls Tryd.prog 7 #[.string ⟨a.toArray⟩, .string ⟨b.toArray⟩, .string ⟨c.toArray⟩] w fun e w' => e = .returned (.bool true) ∧ Below w.heap.size w w' := by
  have HG := Lib.hid hG
  have hb : Below w.heap.size w w := Below.refl _ _
  clear hG
  have i1 : ¬ (1000 : Int) < (a.length : Int) := by omega
  have i2 : ¬ (1000 : Int) < (b.length : Int) := by omega
  have i3 : ¬ (1000 : Int) < (c.length : Int) := by omega
  obtain ⟨f, hf⟩ : ∃ n, filB a = n := ⟨_, rfl⟩
  have HF := Lib.hid hf
  have HA : Hid (covB a a = f) := by show _ = _; rw [covB_refl]; exact hf
  obtain ⟨p, hp⟩ : ∃ n, covB a b = n := ⟨_, rfl⟩
  have HP := Lib.hid hp
  cases p with
  | false =>
    clear hf hp
    go_enter Tryd.func7, Tryd.ntmps7
    go_wp2_with fail
    refine (tpCovers_eq a a f _ (HG.out.below hb) (by omega) (by omega) HA.out).mono ?_
    rintro e w1 ⟨rfl, hb1⟩
    replace hb := below_more hb hb1
    clear hb1
    go_wp2_with fail
    refine (tpFilter_eq a f _ (HG.out.below hb) (by omega) HF.out).mono ?_
    rintro e w1 ⟨rfl, hb1⟩
    replace hb := below_more hb hb1
    clear hb1
    go_wp2_with fail
    refine (tpCovers_eq a b false _ (HG.out.below hb) (by omega) (by omega) HP.out).mono ?_
    rintro e w1 ⟨rfl, hb1⟩
    replace hb := below_more hb hb1
    clear hb1
    cases hn : namB a with
    | false =>
      have HN := Lib.hid hn
      clear hn
      go_wp2_with fail
      refine (tpName_eq a false _ (by omega) HN.out).mono ?_
      rintro e w1 ⟨rfl, hb1⟩
      replace hb := below_more hb hb1
      clear hb1
      go_wp2_with fail
      refine (awake7_any _ (HG.out.below hb)).mono ?_
      rintro e w1 ⟨rfl, hb1⟩
      replace hb := below_more hb hb1
      clear hb1
      go_wp2_with fail
      go_ret
      exact ⟨rfl, hb⟩
    | true =>
      have HN := Lib.hid hn
      have HE : Hid ((a == b) = covB a b) := by show _ = _; rw [covB_name a b hn]
      clear hn
      go_wp2_with fail
      refine (tpName_eq a true _ (by omega) HN.out).mono ?_
      rintro e w1 ⟨rfl, hb1⟩
      replace hb := below_more hb hb1
      clear hb1
      go_wp2_with fail
      refine (tpCovers_eq a b _ _ (HG.out.below hb) (by omega) (by omega) HP.out).mono ?_
      rintro e w1 ⟨rfl, hb1⟩
      replace hb := below_more hb hb1
      clear hb1
      have HX := HE.out
      rw [HP.out] at HX
      go_wp2_with fail
      refine (awake7_any _ (HG.out.below hb)).mono ?_
      rintro e w9 ⟨rfl, hb9⟩
      replace hb := below_more hb hb9
      go_wp2_with fail
      go_ret
      exact ⟨rfl, hb⟩
  | true =>
    cases hq : covB b c with
    | false =>
      have HQ := Lib.hid hq
      clear hf hp hq
      go_enter Tryd.func7, Tryd.ntmps7
      go_wp2_with fail
      refine (tpCovers_eq a a f _ (HG.out.below hb) (by omega) (by omega) HA.out).mono ?_
      rintro e w1 ⟨rfl, hb1⟩
      replace hb := below_more hb hb1
      clear hb1
      go_wp2_with fail
      refine (tpFilter_eq a f _ (HG.out.below hb) (by omega) HF.out).mono ?_
      rintro e w1 ⟨rfl, hb1⟩
      replace hb := below_more hb hb1
      clear hb1
      go_wp2_with fail
      refine (tpCovers_eq a b true _ (HG.out.below hb) (by omega) (by omega) HP.out).mono ?_
      rintro e w1 ⟨rfl, hb1⟩
      replace hb := below_more hb hb1
      clear hb1
      go_wp2_with fail
      refine (tpCovers_eq b c false _ (HG.out.below hb) (by omega) (by omega) HQ.out).mono ?_
      rintro e w1 ⟨rfl, hb1⟩
      replace hb := below_more hb hb1
      clear hb1
      cases hn : namB a with
      | false =>
        have HN := Lib.hid hn
        clear hn
        go_wp2_with fail
        refine (tpName_eq a false _ (by omega) HN.out).mono ?_
        rintro e w1 ⟨rfl, hb1⟩
        replace hb := below_more hb hb1
        clear hb1
        go_wp2_with fail
        refine (awake7_any _ (HG.out.below hb)).mono ?_
        rintro e w1 ⟨rfl, hb1⟩
        replace hb := below_more hb hb1
        clear hb1
        go_wp2_with fail
        go_ret
        exact ⟨rfl, hb⟩
      | true =>
        have HN := Lib.hid hn
        have HE : Hid ((a == b) = covB a b) := by show _ = _; rw [covB_name a b hn]
        clear hn
        go_wp2_with fail
        refine (tpName_eq a true _ (by omega) HN.out).mono ?_
        rintro e w1 ⟨rfl, hb1⟩
        replace hb := below_more hb hb1
        clear hb1
        go_wp2_with fail
        refine (tpCovers_eq a b _ _ (HG.out.below hb) (by omega) (by omega) HP.out).mono ?_
        rintro e w1 ⟨rfl, hb1⟩
        replace hb := below_more hb hb1
        clear hb1
        have HX := HE.out
        rw [HP.out] at HX
        go_wp2_with fail
        refine (awake7_any _ (HG.out.below hb)).mono ?_
        rintro e w9 ⟨rfl, hb9⟩
        replace hb := below_more hb hb9
        go_wp2_with fail
        go_ret
        exact ⟨rfl, hb⟩
    | true =>
      have HQ := Lib.hid hq
      have HT : Hid (covB a c = true) := covB_trans a b c hp hq
      clear hf hp hq
      go_enter Tryd.func7, Tryd.ntmps7
      go_wp2_with fail
      refine (tpCovers_eq a a f _ (HG.out.below hb) (by omega) (by omega) HA.out).mono ?_
      rintro e w1 ⟨rfl, hb1⟩
      replace hb := below_more hb hb1
      clear hb1
      go_wp2_with fail
      refine (tpFilter_eq a f _ (HG.out.below hb) (by omega) HF.out).mono ?_
      rintro e w1 ⟨rfl, hb1⟩
      replace hb := below_more hb hb1
      clear hb1
      go_wp2_with fail
      refine (tpCovers_eq a b true _ (HG.out.below hb) (by omega) (by omega) HP.out).mono ?_
      rintro e w1 ⟨rfl, hb1⟩
      replace hb := below_more hb hb1
      clear hb1
      go_wp2_with fail
      refine (tpCovers_eq b c true _ (HG.out.below hb) (by omega) (by omega) HQ.out).mono ?_
      rintro e w1 ⟨rfl, hb1⟩
      replace hb := below_more hb hb1
      clear hb1
      go_wp2_with fail
      refine (tpCovers_eq a c true _ (HG.out.below hb) (by omega) (by omega) HT.out).mono ?_
      rintro e w1 ⟨rfl, hb1⟩
      replace hb := below_more hb hb1
      clear hb1
      cases hn : namB a with
      | false =>
        have HN := Lib.hid hn
        clear hn
        go_wp2_with fail
        refine (tpName_eq a false _ (by omega) HN.out).mono ?_
        rintro e w1 ⟨rfl, hb1⟩
        replace hb := below_more hb hb1
        clear hb1
        go_wp2_with fail
        refine (awake7_any _ (HG.out.below hb)).mono ?_
        rintro e w1 ⟨rfl, hb1⟩
        replace hb := below_more hb hb1
        clear hb1
        go_wp2_with fail
        go_ret
        exact ⟨rfl, hb⟩
      | true =>
        have HN := Lib.hid hn
        have HE : Hid ((a == b) = covB a b) := by show _ = _; rw [covB_name a b hn]
        clear hn
        go_wp2_with fail
        refine (tpName_eq a true _ (by omega) HN.out).mono ?_
        rintro e w1 ⟨rfl, hb1⟩
        replace hb := below_more hb hb1
        clear hb1
        go_wp2_with fail
        refine (tpCovers_eq a b _ _ (HG.out.below hb) (by omega) (by omega) HP.out).mono ?_
        rintro e w1 ⟨rfl, hb1⟩
        replace hb := below_more hb hb1
        clear hb1
        have HX := HE.out
        rw [HP.out] at HX
        go_wp2_with fail
        refine (awake7_any _ (HG.out.below hb)).mono ?_
        rintro e w9 ⟨rfl, hb9⟩
        replace hb := below_more hb hb9
        go_wp2_with fail
        go_ret
        exact ⟨rfl, hb⟩
theorem walk (w : World) (hG : Glo w) (a : List UInt8) (ha : a.length ≤ 9223372036854775807) (b : List UInt8) (hb9 : b.length ≤ 9223372036854775807) (c : List UInt8) (hc9 : c.length ≤ 9223372036854775807) :
    Calls Tryd.prog 7 #[.string ⟨a.toArray⟩, .string ⟨b.toArray⟩, .string ⟨c.toArray⟩] w fun e w' => e = .returned (.bool true) ∧ Below w.heap.size w w' := by
  by_cases h1 : 1000 < a.length
  · have i1 : (1000 : Int) < (a.length : Int) := by omega
    have hb : Below w.heap.size w w := Below.refl _ _
    have HG := Lib.hid hG
    clear hG
    go_enter Tryd.func7, Tryd.ntmps7
    go_wp2_with fail
    refine (awake7_any _ (HG.out.below hb)).mono ?_
    rintro e w1 ⟨rfl, hb1⟩
    replace hb := below_more hb hb1
    clear hb1
    go_wp2_with fail
    go_ret
    exact ⟨rfl, hb⟩
  by_cases h2 : 1000 < b.length
  · have i1 : ¬ (1000 : Int) < (a.length : Int) := by omega
    have i2 : (1000 : Int) < (b.length : Int) := by omega
    have hb : Below w.heap.size w w := Below.refl _ _
    have HG := Lib.hid hG
    clear hG
    go_enter Tryd.func7, Tryd.ntmps7
    go_wp2_with fail
    refine (awake7_any _ (HG.out.below hb)).mono ?_
    rintro e w1 ⟨rfl, hb1⟩
    replace hb := below_more hb hb1
    clear hb1
    go_wp2_with fail
    go_ret
    exact ⟨rfl, hb⟩
  by_cases h3 : 1000 < c.length
  · have i1 : ¬ (1000 : Int) < (a.length : Int) := by omega
    have i2 : ¬ (1000 : Int) < (b.length : Int) := by omega
    have i3 : (1000 : Int) < (c.length : Int) := by omega
    have hb : Below w.heap.size w w := Below.refl _ _
    have HG := Lib.hid hG
    clear hG
    go_enter Tryd.func7, Tryd.ntmps7
    go_wp2_with fail
    refine (awake7_any _ (HG.out.below hb)).mono ?_
    rintro e w1 ⟨rfl, hb1⟩
    replace hb := below_more hb hb1
    clear hb1
    go_wp2_with fail
    go_ret
    exact ⟨rfl, hb⟩
  exact walkIn w hG a b c (by omega) (by omega) (by omega)
set_option maxRecDepth 100000 in
theorem lifted (os : Os) (started : os.Started) (H : Type) (enc : TypeId × Value → H) :
    ReturnsInHanded {} Tryd.checked os 7 .any (fun w args => (Rows.topicOrderSpec.pre enc Tryd.prog Tryd.f7 [] false w args ∧ laidMetH Tryd.prog laidL w) ∧ sizedMet enc Tryd.prog Tryd.f7 (OpenSpec.ofChange Rows.topicOrderSpec) false w args)
      (Rows.topicOrderSpec.post enc Tryd.prog Tryd.f7 false true false false) := by
  refine handed_laid (C := Tryd.checked) (X := fun w _ => laidMetH Tryd.prog laidL w) own_none started (by kernel_rfl) Tryd.func7 (laid_witness os Rows.topicOrderSpec #[.string ByteArray.empty, .string ByteArray.empty, .string ByteArray.empty] (by kernel_rfl) (by kernel_rfl) (by kernel_rfl)) ?_
  intro W base args ds gs before hval0 hW hsh
  have hval : ∀ (j : Nat) t v, Tryd.f7.params[j]? = some t → args[j]? = some v → Value.okWide Tryd.prog W .any base t v := hval0
  have hWk := hW
  obtain ⟨p, q, hA0, hV, hbef, _, _⟩ := hWk
  have hA : DataW.TrodAll enc Tryd.prog W 0 (fun _ => true) true Tryd.f7.params.toList args.toList ds p := hA0
  obtain ⟨rfl, rfl⟩ := trodVars_none hV
  rw [Tryd.params7] at hA hval
  obtain ⟨v0, vs0, d0, ds0, p0, q0, hargs, rfl, hp0, h0, r0⟩ := trodAll_cons hA
  obtain ⟨v1, vs1, d1, ds1, p1, q1, rfl, rfl, hp1, h1, r1⟩ := trodAll_cons r0
  obtain ⟨v2, vs2, d2, ds2, p2, q2, rfl, rfl, hp2, h2, r2⟩ := trodAll_cons r1
  obtain ⟨rfl, rfl, hpn⟩ := trodAll_nil r2
  obtain rfl : args = #[v0, v1, v2] := by cases args; simp_all
  obtain ⟨s0, rfl, rfl, hx0, w0⟩ := open_string Tryd.underlying9 (hval 0 9 v0 rfl rfl) h0
  obtain ⟨a0, rfl, hl0⟩ := str_of s0
  obtain ⟨s1, rfl, rfl, hx1, w1⟩ := open_string Tryd.underlying9 (hval 1 9 v1 rfl rfl) h1
  obtain ⟨a1, rfl, hl1⟩ := str_of s1
  obtain ⟨s2, rfl, rfl, hx2, w2⟩ := open_string Tryd.underlying9 (hval 2 9 v2 rfl rfl) h2
  obtain ⟨a2, rfl, hl2⟩ := str_of s2
  refine (walk W (glo_of hsh) a0 (by unfold maxLen at w0; omega) a1 (by unfold maxLen at w1; omega) a2 (by unfold maxLen at w2; omega)).mono fun e W' ⟨he, hg⟩ => ?_
  subst he
  exact ⟨_, rfl, law_post laid_out (by kernel_rfl) rfl (by kernel_rfl) Tryd.underlying4 hW rfl hg⟩

theorem over : Rows.topicOrderRow.holds Tryd.pinned (OpenSpec.ofChange Rows.topicOrderSpec) :=
  OpenClaim.holds_of_wide 7 Tryd.f7 rfl rfl rfl rfl rfl rfl rfl ⟨rfl, rfl, rfl, rfl, rfl⟩ rfl rfl rfl rfl rfl (by kernel_rfl) Tryd.func7 (by kernel_rfl)
    (of_decide_eq_true (by kernel_rfl)) (by unfold Func.isWrapper; first | (rw [if_pos (by decide +kernel)]; kernel_rfl) | (rw [if_neg (by decide +kernel)]; exact ⟨rfl, rfl⟩))
    (fun os started H enc _ => lifted os started H enc)

/-- THE STATEMENT: the card. -/
theorem proved : Rows.TopicOrderCardSaid :=
  Claim7.holds_tied_plain_at .later [] [.data, .pinned] true Rows.topicOrderCard.stood.harness false over (fun _ h => by cases h) (by kernel_rfl) (fun _ h => by cases h) topicOrder_row_tie rfl ⟨rfl, rfl⟩ (by kernel_rfl) rfl
    (fun f fn hf hfn => by
      obtain rfl : f = 7 := Option.some.inj ((show Tryd.prog.funcNamed Rows.topicOrderRow.func = some 7 by kernel_rfl).symm.trans hf) |>.symm
      obtain rfl : fn = Tryd.f7 := (Option.some.inj (Tryd.func7.symm.trans hfn)).symm
      exact ⟨by kernel_rfl, fun j t ht => by
        have hm : t ∈ Tryd.f7.params.toList := by simpa using Array.mem_of_getElem? ht
        have hall : (Tryd.f7.params.toList.all fun u => !Tryd.prog.wantsStandIn u) = true := by kernel_rfl
        exact (show Tryd.prog.wantsStandIn t = false by simpa using List.all_eq_true.1 hall t hm)⟩)
    (by kernel_rfl)
end lawTopicOrder
end Go.Proofs.YtnaedcennichlaaDoor
