/-
  TopicLevels: Join of the levels is the text; a filter that takes a name goes on to take it with a level more behind both. The card.
-/
import Derived.Test.YtnaedcennichlaaDoorTpLaw
import Derived.Test.YtnaedcennichlaaDoorWrFrame
import Derived.Test.YtnaedcennichlaaDoorTie
import Derived.Test.YtnaedcennichlaaDoorCards
import Derived.SevenTiedAt
import Derived.ProofKit
set_option linter.unusedSimpArgs false
set_option linter.unusedVariables false
namespace Go.Proofs.YtnaedcennichlaaDoor
open Go.RowKit Go.ChangeShapes Go.WideShapes Go.ChangeAt
open Go.ChangeMaps (open_string shut_string)
theorem last_at (l : List UInt8) (p : Nat) (z : List UInt8) (hp : (levs l).length = p + 1) (hz : (levs l)[p]? = some z) : (levs l).getLast (levs_ne l) = z := by
  rw [List.getLast_eq_getElem]
  have : (levs l).length - 1 = p := by omega
  simp only [this]
  obtain ⟨_, h2⟩ := List.getElem?_eq_some_iff.1 hz
  exact h2
section
variable {a n m : List UInt8}
theorem tl1 (ha : a.length ≤ 1000) (hml : m.length ≤ 100) (h : matB a n = true) (hm : namB (n ++ 47 :: m) = true) (hm1 : levs m = [m]) (hl : (levs a).getLast (levs_ne a) ≠ [35]) : matB (a ++ 47 :: m) (n ++ 47 :: m) = true := by
  have hf := (fil_parts (covB_parts (matB_parts h).2).1).2.1
  have hn := (nam_parts (matB_parts h).1).2.1
  refine tl_more a n m m h hm hl (val_app a n (47 :: m) hf hn (nam_parts hm).2.1 (by simp; omega)) ?_ (47 :: m) hm (levs m) (levs_app n m) (cov_refl _)
  rw [hm1]; exact fit_plain _ (by simp [pl_app hm])
theorem tl2 (ha : a.length ≤ 1000) (h : matB a n = true) (hm : namB (n ++ 47 :: m) = true) (hm1 : levs m = [m]) (hl : (levs a).getLast (levs_ne a) ≠ [35]) : matB (a ++ [47, 43]) (n ++ 47 :: m) = true := by
  have hf := (fil_parts (covB_parts (matB_parts h).2).1).2.1
  refine tl_more a n m [43] h hm hl (val_slash a 43 hf (by decide) (by decide) (by omega)) (by decide) (47 :: m) hm (levs m) (levs_app n m) ?_
  have hp := pl_ne m (pl_app hm)
  rw [hm1, show levs [43] = [[43]] from by decide, cov_cons _ _ _ _ (by decide), lc_43, cov_nil]
  simpa using hp.2
theorem tl3 (ha : a.length ≤ 1000) (h : matB a n = true) (hm : namB (n ++ 47 :: m) = true) (hl : (levs a).getLast (levs_ne a) ≠ [35]) : matB (a ++ [47, 35]) n = true := by
  have hf := (fil_parts (covB_parts (matB_parts h).2).1).2.1
  have := tl_more a n m [35] h hm hl (val_slash a 35 hf (by decide) (by decide) (by omega)) (by decide) [] (by rw [List.append_nil]; exact (matB_parts h).1) [] (by simp) (by decide)
  rw [List.append_nil] at this
  exact this
end
namespace lawTopicLevels
set_option maxHeartbeats 4000000 in
set_option maxRecDepth 100000 in
theorem walkIn (w : World) (hG : Glo w) (a n m : List UInt8) (ha : a.length ≤ 1000) (hn : n.length ≤ 1000) (hm : m.length ≤ 100) :
    Calls Tryd.prog 8 #[.string ⟨a.toArray⟩, .string ⟨n.toArray⟩, .string ⟨m.toArray⟩] w fun e w' => e = .returned (.bool true) ∧ Below w.heap.size w w' := by
  have HG := Lib.hid hG
  have hb : Below w.heap.size w w := Below.refl _ _
  clear hG
  have i1 : ¬ (1000 : Int) < (a.length : Int) := by omega
  have i2 : ¬ (1000 : Int) < (n.length : Int) := by omega
  have i3 : ¬ (100 : Int) < (m.length : Int) := by omega
  obtain ⟨L, hL⟩ : ∃ L, levs a = L := ⟨_, rfl⟩
  have hll := levs_len a
  have HJ : Hid (joinL L = a) := by show _ = _; rw [← hL]; exact join_levs a
  obtain ⟨p, hp⟩ : ∃ p, (levs a).length = p + 1 := ⟨(levs a).length - 1, by have := levs_pos a; omega⟩
  obtain ⟨z, hz⟩ : ∃ z, (levs a)[p]? = some z := ⟨_, List.getElem?_eq_getElem (by omega)⟩
  have hla := last_at a p z hp hz
  rw [hL] at hll hp hz
  have hpb : (p : Int) ≤ 1001 := by omega
  have HP := Lib.hid hp
  have HZ := Lib.hid hz
  have HL := Lib.hid hL
  obtain ⟨S1, hS1⟩ : ∃ S, S = n ++ [47] := ⟨_, rfl⟩
  obtain ⟨S, hS⟩ : ∃ S, S = S1 ++ m := ⟨_, rfl⟩
  have hSe : S = n ++ 47 :: m := by rw [hS, hS1]; simp
  have l1 : S1.length = n.length + 1 := by rw [hS1]; simp
  have hSl : S.length ≤ 1200 := by rw [hS, List.length_append]; omega
  have had1 : ∀ W, (Op.stringOp .add ⟨n.toArray⟩ ⟨[47].toArray⟩).run Tryd.prog W = .ok (.string ⟨S1.toArray⟩) W := by
    intro W; rw [hS1]; exact add_str W n [47] (by simp; omega)
  have had2 : ∀ W, (Op.stringOp .add ⟨S1.toArray⟩ ⟨m.toArray⟩).run Tryd.prog W = .ok (.string ⟨S.toArray⟩) W := by
    intro W; rw [hS]; exact add_str W S1 m (by omega)
  obtain ⟨f, hf⟩ : ∃ f, filB a = f := ⟨_, rfl⟩
  have HF := Lib.hid hf
  have hnf : namB a = true → f = true := fun h => by rw [← hf]; exact nam_fil a h
  obtain ⟨M, hM⟩ : ∃ M, levs m = M := ⟨_, rfl⟩
  have HM := Lib.hid hM
  have hml := levs_len m
  rw [hM] at hml
  clear hf hL hp hz hS hS1 hM l1
  cases hma : matB a n with
  | false =>
    have HMA := Lib.hid hma
    clear hma hla hSe
    cases hna : namB a with
    | false =>
      have HN := Lib.hid hna
      clear hna hnf
      go_enter Tryd.func8, Tryd.ntmps8
      go_wp2_with fail
      refine (tpLevels_eq a L _ (HG.out.below hb) (by omega) HL.out).mono ?_
      rintro e w2 ⟨g1, c1, rfl, hc1, hs1, hb2⟩
      replace hb := below_more hb hb2
      clear hb2
      go_wp2_with fail
      refine (tpJoin_eq _ _ c1 L a _ hs1 hc1 (by omega) (by omega) HJ.out).mono ?_
      rintro e w1 ⟨rfl, hb1⟩
      replace hb := below_more hb hb1
      clear hb1
      clear hs1
      go_wp2_with fail
      refine (tpName_eq a false _ (by omega) HN.out).mono ?_
      rintro e w1 ⟨rfl, hb1⟩
      replace hb := below_more hb hb1
      clear hb1
      go_wp2_with fail
      refine (tpMatch_eq a n false _ (HG.out.below hb) (by omega) (by omega) HMA.out).mono ?_
      rintro e w1 ⟨rfl, hb1⟩
      replace hb := below_more hb hb1
      clear hb1
      go_wp2_with fail
      refine (awake7_any _ (HG.out.below hb)).mono ?_
      rintro e w1 ⟨rfl, hb1⟩
      replace hb := below_more hb hb1
      clear hb1
      go_wp2_with fail
      go_ret
      exact ⟨rfl, hb⟩
    | true =>
      have HN := Lib.hid hna
      have HF2 : Hid (filB a = true) := by show _ = _; rw [HF.out]; exact hnf hna
      clear hna hnf
      go_enter Tryd.func8, Tryd.ntmps8
      go_wp2_with fail
      refine (tpLevels_eq a L _ (HG.out.below hb) (by omega) HL.out).mono ?_
      rintro e w2 ⟨g1, c1, rfl, hc1, hs1, hb2⟩
      replace hb := below_more hb hb2
      clear hb2
      go_wp2_with fail
      refine (tpJoin_eq _ _ c1 L a _ hs1 hc1 (by omega) (by omega) HJ.out).mono ?_
      rintro e w1 ⟨rfl, hb1⟩
      replace hb := below_more hb hb1
      clear hb1
      clear hs1
      go_wp2_with fail
      refine (tpName_eq a true _ (by omega) HN.out).mono ?_
      rintro e w1 ⟨rfl, hb1⟩
      replace hb := below_more hb hb1
      clear hb1
      go_wp2_with fail
      refine (tpFilter_eq a true _ (HG.out.below hb) (by omega) HF2.out).mono ?_
      rintro e w1 ⟨rfl, hb1⟩
      replace hb := below_more hb hb1
      clear hb1
      go_wp2_with fail
      refine (tpMatch_eq a n false _ (HG.out.below hb) (by omega) (by omega) HMA.out).mono ?_
      rintro e w1 ⟨rfl, hb1⟩
      replace hb := below_more hb hb1
      clear hb1
      go_wp2_with fail
      refine (awake7_any _ (HG.out.below hb)).mono ?_
      rintro e w1 ⟨rfl, hb1⟩
      replace hb := below_more hb hb1
      clear hb1
      go_wp2_with fail
      go_ret
      exact ⟨rfl, hb⟩
  | true =>
    have HMA := Lib.hid hma
    cases hns : namB S with
    | false =>
      have HNS := Lib.hid hns
      clear hma hla hns hSe
      cases hna : namB a with
      | false =>
        have HN := Lib.hid hna
        clear hna hnf
        go_enter Tryd.func8, Tryd.ntmps8
        go_wp2_with fail
        refine (tpLevels_eq a L _ (HG.out.below hb) (by omega) HL.out).mono ?_
        rintro e w2 ⟨g1, c1, rfl, hc1, hs1, hb2⟩
        replace hb := below_more hb hb2
        clear hb2
        go_wp2_with fail
        refine (tpJoin_eq _ _ c1 L a _ hs1 hc1 (by omega) (by omega) HJ.out).mono ?_
        rintro e w1 ⟨rfl, hb1⟩
        replace hb := below_more hb hb1
        clear hb1
        clear hs1
        go_wp2_with fail
        refine (tpName_eq a false _ (by omega) HN.out).mono ?_
        rintro e w1 ⟨rfl, hb1⟩
        replace hb := below_more hb hb1
        clear hb1
        go_wp2_with fail
        refine (tpMatch_eq a n true _ (HG.out.below hb) (by omega) (by omega) HMA.out).mono ?_
        rintro e w1 ⟨rfl, hb1⟩
        replace hb := below_more hb hb1
        clear hb1
        go_wp2_with fail
        refine (tpName_eq S false _ (by omega) HNS.out).mono ?_
        rintro e w1 ⟨rfl, hb1⟩
        replace hb := below_more hb hb1
        clear hb1
        go_wp2_with fail
        refine (awake7_any _ (HG.out.below hb)).mono ?_
        rintro e w1 ⟨rfl, hb1⟩
        replace hb := below_more hb hb1
        clear hb1
        go_wp2_with fail
        go_ret
        exact ⟨rfl, hb⟩
      | true =>
        have HN := Lib.hid hna
        have HF2 : Hid (filB a = true) := by show _ = _; rw [HF.out]; exact hnf hna
        clear hna hnf
        go_enter Tryd.func8, Tryd.ntmps8
        go_wp2_with fail
        refine (tpLevels_eq a L _ (HG.out.below hb) (by omega) HL.out).mono ?_
        rintro e w2 ⟨g1, c1, rfl, hc1, hs1, hb2⟩
        replace hb := below_more hb hb2
        clear hb2
        go_wp2_with fail
        refine (tpJoin_eq _ _ c1 L a _ hs1 hc1 (by omega) (by omega) HJ.out).mono ?_
        rintro e w1 ⟨rfl, hb1⟩
        replace hb := below_more hb hb1
        clear hb1
        clear hs1
        go_wp2_with fail
        refine (tpName_eq a true _ (by omega) HN.out).mono ?_
        rintro e w1 ⟨rfl, hb1⟩
        replace hb := below_more hb hb1
        clear hb1
        go_wp2_with fail
        refine (tpFilter_eq a true _ (HG.out.below hb) (by omega) HF2.out).mono ?_
        rintro e w1 ⟨rfl, hb1⟩
        replace hb := below_more hb hb1
        clear hb1
        go_wp2_with fail
        refine (tpMatch_eq a n true _ (HG.out.below hb) (by omega) (by omega) HMA.out).mono ?_
        rintro e w1 ⟨rfl, hb1⟩
        replace hb := below_more hb hb1
        clear hb1
        go_wp2_with fail
        refine (tpName_eq S false _ (by omega) HNS.out).mono ?_
        rintro e w1 ⟨rfl, hb1⟩
        replace hb := below_more hb hb1
        clear hb1
        go_wp2_with fail
        refine (awake7_any _ (HG.out.below hb)).mono ?_
        rintro e w1 ⟨rfl, hb1⟩
        replace hb := below_more hb hb1
        clear hb1
        go_wp2_with fail
        go_ret
        exact ⟨rfl, hb⟩
    | true =>
      have HNS := Lib.hid hns
      by_cases h1 : M.length = 1
      · have hM1 : ((M.length : Int) == 1) = true := by simp; omega
        have hM2 : ((M.length : Int) != 1) = false := by rw [bne, hM1]; rfl
        have hm1 : levs m = [m] := levs_one m (by rw [HM.out]; exact h1)
        rw [hSe] at hns
        have hp0 : (0 : Int) ≤ (p : Int) := by omega
        by_cases h35 : z = [35]
        · have hz35 : (z == [35]) = true := by simpa using h35
          have HR : Hid (matB a S = true) := by show _ = _; rw [hSe]; exact tl_last a n m hma hns (by rw [hla]; exact h35)
          clear hma hla hns hSe h1 h35 hm1 hM2
          cases hna : namB a with
          | false =>
            have HN := Lib.hid hna
            clear hna hnf
            go_enter Tryd.func8, Tryd.ntmps8
            go_wp2_with fail
            refine (tpLevels_eq a L _ (HG.out.below hb) (by omega) HL.out).mono ?_
            rintro e w2 ⟨g1, c1, rfl, hc1, hs1, hb2⟩
            replace hb := below_more hb hb2
            clear hb2
            go_wp2_with fail
            refine (tpJoin_eq _ _ c1 L a _ hs1 hc1 (by omega) (by omega) HJ.out).mono ?_
            rintro e w1 ⟨rfl, hb1⟩
            replace hb := below_more hb hb1
            clear hb1
            clear hs1
            go_wp2_with fail
            refine (tpName_eq a false _ (by omega) HN.out).mono ?_
            rintro e w1 ⟨rfl, hb1⟩
            replace hb := below_more hb hb1
            clear hb1
            go_wp2_with fail
            refine (tpMatch_eq a n true _ (HG.out.below hb) (by omega) (by omega) HMA.out).mono ?_
            rintro e w1 ⟨rfl, hb1⟩
            replace hb := below_more hb hb1
            clear hb1
            go_wp2_with fail
            refine (tpName_eq S true _ (by omega) HNS.out).mono ?_
            rintro e w1 ⟨rfl, hb1⟩
            replace hb := below_more hb hb1
            clear hb1
            go_wp2_with fail
            refine (tpLevels_eq m M _ (HG.out.below hb) (by omega) HM.out).mono ?_
            rintro e w3 ⟨g3, c3, rfl, _, _, hb3⟩
            replace hb := below_more hb hb3
            clear hb3
            go_wp2_with fail
            refine (tpLevels_eq a L _ (HG.out.below hb) (by omega) HL.out).mono ?_
            rintro e w4 ⟨g4, c4, rfl, _, hs4, hb4⟩
            replace hb := below_more hb hb4
            clear hb4
            obtain ⟨z', hz', hcell⟩ := hs4.at0 (k := p) (by rw [HP.out]; omega)
            rw [HZ.out] at hz'
            obtain rfl := Option.some.inj hz'
            clear hz' hs4
            rw [HP.out]
            go_wp2_with fail
            refine (tpMatch_eq a S true _ (HG.out.below hb) (by omega) (by omega) HR.out).mono ?_
            rintro e w1 ⟨rfl, hb1⟩
            replace hb := below_more hb hb1
            clear hb1
            go_wp2_with fail
            refine (awake7_any _ (HG.out.below hb)).mono ?_
            rintro e w1 ⟨rfl, hb1⟩
            replace hb := below_more hb hb1
            clear hb1
            go_wp2_with fail
            go_ret
            exact ⟨rfl, hb⟩
          | true =>
            have HN := Lib.hid hna
            have HF2 : Hid (filB a = true) := by show _ = _; rw [HF.out]; exact hnf hna
            clear hna hnf
            go_enter Tryd.func8, Tryd.ntmps8
            go_wp2_with fail
            refine (tpLevels_eq a L _ (HG.out.below hb) (by omega) HL.out).mono ?_
            rintro e w2 ⟨g1, c1, rfl, hc1, hs1, hb2⟩
            replace hb := below_more hb hb2
            clear hb2
            go_wp2_with fail
            refine (tpJoin_eq _ _ c1 L a _ hs1 hc1 (by omega) (by omega) HJ.out).mono ?_
            rintro e w1 ⟨rfl, hb1⟩
            replace hb := below_more hb hb1
            clear hb1
            clear hs1
            go_wp2_with fail
            refine (tpName_eq a true _ (by omega) HN.out).mono ?_
            rintro e w1 ⟨rfl, hb1⟩
            replace hb := below_more hb hb1
            clear hb1
            go_wp2_with fail
            refine (tpFilter_eq a true _ (HG.out.below hb) (by omega) HF2.out).mono ?_
            rintro e w1 ⟨rfl, hb1⟩
            replace hb := below_more hb hb1
            clear hb1
            go_wp2_with fail
            refine (tpMatch_eq a n true _ (HG.out.below hb) (by omega) (by omega) HMA.out).mono ?_
            rintro e w1 ⟨rfl, hb1⟩
            replace hb := below_more hb hb1
            clear hb1
            go_wp2_with fail
            refine (tpName_eq S true _ (by omega) HNS.out).mono ?_
            rintro e w1 ⟨rfl, hb1⟩
            replace hb := below_more hb hb1
            clear hb1
            go_wp2_with fail
            refine (tpLevels_eq m M _ (HG.out.below hb) (by omega) HM.out).mono ?_
            rintro e w3 ⟨g3, c3, rfl, _, _, hb3⟩
            replace hb := below_more hb hb3
            clear hb3
            go_wp2_with fail
            refine (tpLevels_eq a L _ (HG.out.below hb) (by omega) HL.out).mono ?_
            rintro e w4 ⟨g4, c4, rfl, _, hs4, hb4⟩
            replace hb := below_more hb hb4
            clear hb4
            obtain ⟨z', hz', hcell⟩ := hs4.at0 (k := p) (by rw [HP.out]; omega)
            rw [HZ.out] at hz'
            obtain rfl := Option.some.inj hz'
            clear hz' hs4
            rw [HP.out]
            go_wp2_with fail
            refine (tpMatch_eq a S true _ (HG.out.below hb) (by omega) (by omega) HR.out).mono ?_
            rintro e w1 ⟨rfl, hb1⟩
            replace hb := below_more hb hb1
            clear hb1
            go_wp2_with fail
            refine (awake7_any _ (HG.out.below hb)).mono ?_
            rintro e w1 ⟨rfl, hb1⟩
            replace hb := below_more hb hb1
            clear hb1
            go_wp2_with fail
            go_ret
            exact ⟨rfl, hb⟩
        · have hz35 : (z == [35]) = false := by simpa using h35
          have hlast : (levs a).getLast (levs_ne a) ≠ [35] := by rw [hla]; exact h35
          obtain ⟨T1, hT1⟩ : ∃ S, S = a ++ [47] := ⟨_, rfl⟩
          obtain ⟨T, hT⟩ : ∃ S, S = T1 ++ m := ⟨_, rfl⟩
          obtain ⟨Q, hQ⟩ : ∃ S, S = a ++ [47, 43] := ⟨_, rfl⟩
          obtain ⟨R, hR⟩ : ∃ S, S = a ++ [47, 35] := ⟨_, rfl⟩
          have hTe : T = a ++ 47 :: m := by rw [hT, hT1]; simp
          have l2 : T1.length = a.length + 1 := by rw [hT1]; simp
          have l3 : T.length ≤ 1200 := by rw [hT, List.length_append]; omega
          have l4 : Q.length ≤ 1200 := by rw [hQ, List.length_append]; simp; omega
          have l5 : R.length ≤ 1200 := by rw [hR, List.length_append]; simp; omega
          have had3 : ∀ W, (Op.stringOp .add ⟨a.toArray⟩ ⟨[47].toArray⟩).run Tryd.prog W = .ok (.string ⟨T1.toArray⟩) W := by
            intro W; rw [hT1]; exact add_str W a [47] (by simp; omega)
          have had4 : ∀ W, (Op.stringOp .add ⟨T1.toArray⟩ ⟨m.toArray⟩).run Tryd.prog W = .ok (.string ⟨T.toArray⟩) W := by
            intro W; rw [hT]; exact add_str W T1 m (by omega)
          have had5 : ∀ W, (Op.stringOp .add ⟨a.toArray⟩ ⟨[47, 43].toArray⟩).run Tryd.prog W = .ok (.string ⟨Q.toArray⟩) W := by
            intro W; rw [hQ]; exact add_str W a [47, 43] (by simp; omega)
          have had6 : ∀ W, (Op.stringOp .add ⟨a.toArray⟩ ⟨[47, 35].toArray⟩).run Tryd.prog W = .ok (.string ⟨R.toArray⟩) W := by
            intro W; rw [hR]; exact add_str W a [47, 35] (by simp; omega)
          have R1 : Hid (matB T S = true) := by show _ = _; rw [hSe, hTe]; exact tl1 ha hm hma hns hm1 hlast
          have R2 : Hid (matB Q S = true) := by show _ = _; rw [hSe, hQ]; exact tl2 ha hma hns hm1 hlast
          have R3 : Hid (matB R n = true) := by show _ = _; rw [hR]; exact tl3 ha hma hns hlast
          have R4 : Hid (matB a S = false) := by show _ = _; rw [hSe]; exact tl_not a n m hma hlast
          clear hma hla hns hSe h1 h35 hm1 hlast hT1 hT hQ hR hTe l2 hM2
          cases hna : namB a with
          | false =>
            have HN := Lib.hid hna
            clear hna hnf
            go_enter Tryd.func8, Tryd.ntmps8
            go_wp2_with fail
            refine (tpLevels_eq a L _ (HG.out.below hb) (by omega) HL.out).mono ?_
            rintro e w2 ⟨g1, c1, rfl, hc1, hs1, hb2⟩
            replace hb := below_more hb hb2
            clear hb2
            go_wp2_with fail
            refine (tpJoin_eq _ _ c1 L a _ hs1 hc1 (by omega) (by omega) HJ.out).mono ?_
            rintro e w1 ⟨rfl, hb1⟩
            replace hb := below_more hb hb1
            clear hb1
            clear hs1
            go_wp2_with fail
            refine (tpName_eq a false _ (by omega) HN.out).mono ?_
            rintro e w1 ⟨rfl, hb1⟩
            replace hb := below_more hb hb1
            clear hb1
            go_wp2_with fail
            refine (tpMatch_eq a n true _ (HG.out.below hb) (by omega) (by omega) HMA.out).mono ?_
            rintro e w1 ⟨rfl, hb1⟩
            replace hb := below_more hb hb1
            clear hb1
            go_wp2_with fail
            refine (tpName_eq S true _ (by omega) HNS.out).mono ?_
            rintro e w1 ⟨rfl, hb1⟩
            replace hb := below_more hb hb1
            clear hb1
            go_wp2_with fail
            refine (tpLevels_eq m M _ (HG.out.below hb) (by omega) HM.out).mono ?_
            rintro e w3 ⟨g3, c3, rfl, _, _, hb3⟩
            replace hb := below_more hb hb3
            clear hb3
            go_wp2_with fail
            refine (tpLevels_eq a L _ (HG.out.below hb) (by omega) HL.out).mono ?_
            rintro e w4 ⟨g4, c4, rfl, _, hs4, hb4⟩
            replace hb := below_more hb hb4
            clear hb4
            obtain ⟨z', hz', hcell⟩ := hs4.at0 (k := p) (by rw [HP.out]; omega)
            rw [HZ.out] at hz'
            obtain rfl := Option.some.inj hz'
            clear hz' hs4
            rw [HP.out]
            go_wp2_with fail
            refine (tpMatch_eq T S true _ (HG.out.below hb) (by omega) (by omega) R1.out).mono ?_
            rintro e w1 ⟨rfl, hb1⟩
            replace hb := below_more hb hb1
            clear hb1
            go_wp2_with fail
            refine (tpMatch_eq Q S true _ (HG.out.below hb) (by omega) (by omega) R2.out).mono ?_
            rintro e w1 ⟨rfl, hb1⟩
            replace hb := below_more hb hb1
            clear hb1
            go_wp2_with fail
            refine (tpMatch_eq R n true _ (HG.out.below hb) (by omega) (by omega) R3.out).mono ?_
            rintro e w1 ⟨rfl, hb1⟩
            replace hb := below_more hb hb1
            clear hb1
            go_wp2_with fail
            refine (tpMatch_eq a S false _ (HG.out.below hb) (by omega) (by omega) R4.out).mono ?_
            rintro e w1 ⟨rfl, hb1⟩
            replace hb := below_more hb hb1
            clear hb1
            go_wp2_with fail
            refine (awake7_any _ (HG.out.below hb)).mono ?_
            rintro e w1 ⟨rfl, hb1⟩
            replace hb := below_more hb hb1
            clear hb1
            go_wp2_with fail
            go_ret
            exact ⟨rfl, hb⟩
          | true =>
            have HN := Lib.hid hna
            have HF2 : Hid (filB a = true) := by show _ = _; rw [HF.out]; exact hnf hna
            clear hna hnf
            go_enter Tryd.func8, Tryd.ntmps8
            go_wp2_with fail
            refine (tpLevels_eq a L _ (HG.out.below hb) (by omega) HL.out).mono ?_
            rintro e w2 ⟨g1, c1, rfl, hc1, hs1, hb2⟩
            replace hb := below_more hb hb2
            clear hb2
            go_wp2_with fail
            refine (tpJoin_eq _ _ c1 L a _ hs1 hc1 (by omega) (by omega) HJ.out).mono ?_
            rintro e w1 ⟨rfl, hb1⟩
            replace hb := below_more hb hb1
            clear hb1
            clear hs1
            go_wp2_with fail
            refine (tpName_eq a true _ (by omega) HN.out).mono ?_
            rintro e w1 ⟨rfl, hb1⟩
            replace hb := below_more hb hb1
            clear hb1
            go_wp2_with fail
            refine (tpFilter_eq a true _ (HG.out.below hb) (by omega) HF2.out).mono ?_
            rintro e w1 ⟨rfl, hb1⟩
            replace hb := below_more hb hb1
            clear hb1
            go_wp2_with fail
            refine (tpMatch_eq a n true _ (HG.out.below hb) (by omega) (by omega) HMA.out).mono ?_
            rintro e w1 ⟨rfl, hb1⟩
            replace hb := below_more hb hb1
            clear hb1
            go_wp2_with fail
            refine (tpName_eq S true _ (by omega) HNS.out).mono ?_
            rintro e w1 ⟨rfl, hb1⟩
            replace hb := below_more hb hb1
            clear hb1
            go_wp2_with fail
            refine (tpLevels_eq m M _ (HG.out.below hb) (by omega) HM.out).mono ?_
            rintro e w3 ⟨g3, c3, rfl, _, _, hb3⟩
            replace hb := below_more hb hb3
            clear hb3
            go_wp2_with fail
            refine (tpLevels_eq a L _ (HG.out.below hb) (by omega) HL.out).mono ?_
            rintro e w4 ⟨g4, c4, rfl, _, hs4, hb4⟩
            replace hb := below_more hb hb4
            clear hb4
            obtain ⟨z', hz', hcell⟩ := hs4.at0 (k := p) (by rw [HP.out]; omega)
            rw [HZ.out] at hz'
            obtain rfl := Option.some.inj hz'
            clear hz' hs4
            rw [HP.out]
            go_wp2_with fail
            refine (tpMatch_eq T S true _ (HG.out.below hb) (by omega) (by omega) R1.out).mono ?_
            rintro e w1 ⟨rfl, hb1⟩
            replace hb := below_more hb hb1
            clear hb1
            go_wp2_with fail
            refine (tpMatch_eq Q S true _ (HG.out.below hb) (by omega) (by omega) R2.out).mono ?_
            rintro e w1 ⟨rfl, hb1⟩
            replace hb := below_more hb hb1
            clear hb1
            go_wp2_with fail
            refine (tpMatch_eq R n true _ (HG.out.below hb) (by omega) (by omega) R3.out).mono ?_
            rintro e w1 ⟨rfl, hb1⟩
            replace hb := below_more hb hb1
            clear hb1
            go_wp2_with fail
            refine (tpMatch_eq a S false _ (HG.out.below hb) (by omega) (by omega) R4.out).mono ?_
            rintro e w1 ⟨rfl, hb1⟩
            replace hb := below_more hb hb1
            clear hb1
            go_wp2_with fail
            refine (awake7_any _ (HG.out.below hb)).mono ?_
            rintro e w1 ⟨rfl, hb1⟩
            replace hb := below_more hb hb1
            clear hb1
            go_wp2_with fail
            go_ret
            exact ⟨rfl, hb⟩
      · have hM1 : ((M.length : Int) == 1) = false := beq_eq_false_iff_ne.2 (by omega)
        have hM2 : ((M.length : Int) != 1) = true := by rw [bne, hM1]; rfl
        clear hma hla hns hSe h1
        cases hna : namB a with
        | false =>
          have HN := Lib.hid hna
          clear hna hnf
          go_enter Tryd.func8, Tryd.ntmps8
          go_wp2_with fail
          refine (tpLevels_eq a L _ (HG.out.below hb) (by omega) HL.out).mono ?_
          rintro e w2 ⟨g1, c1, rfl, hc1, hs1, hb2⟩
          replace hb := below_more hb hb2
          clear hb2
          go_wp2_with fail
          refine (tpJoin_eq _ _ c1 L a _ hs1 hc1 (by omega) (by omega) HJ.out).mono ?_
          rintro e w1 ⟨rfl, hb1⟩
          replace hb := below_more hb hb1
          clear hb1
          clear hs1
          go_wp2_with fail
          refine (tpName_eq a false _ (by omega) HN.out).mono ?_
          rintro e w1 ⟨rfl, hb1⟩
          replace hb := below_more hb hb1
          clear hb1
          go_wp2_with fail
          refine (tpMatch_eq a n true _ (HG.out.below hb) (by omega) (by omega) HMA.out).mono ?_
          rintro e w1 ⟨rfl, hb1⟩
          replace hb := below_more hb hb1
          clear hb1
          go_wp2_with fail
          refine (tpName_eq S true _ (by omega) HNS.out).mono ?_
          rintro e w1 ⟨rfl, hb1⟩
          replace hb := below_more hb hb1
          clear hb1
          go_wp2_with fail
          refine (tpLevels_eq m M _ (HG.out.below hb) (by omega) HM.out).mono ?_
          rintro e w3 ⟨g3, c3, rfl, _, _, hb3⟩
          replace hb := below_more hb hb3
          clear hb3
          go_wp2_with fail
          refine (awake7_any _ (HG.out.below hb)).mono ?_
          rintro e w1 ⟨rfl, hb1⟩
          replace hb := below_more hb hb1
          clear hb1
          go_wp2_with fail
          go_ret
          exact ⟨rfl, hb⟩
        | true =>
          have HN := Lib.hid hna
          have HF2 : Hid (filB a = true) := by show _ = _; rw [HF.out]; exact hnf hna
          clear hna hnf
          go_enter Tryd.func8, Tryd.ntmps8
          go_wp2_with fail
          refine (tpLevels_eq a L _ (HG.out.below hb) (by omega) HL.out).mono ?_
          rintro e w2 ⟨g1, c1, rfl, hc1, hs1, hb2⟩
          replace hb := below_more hb hb2
          clear hb2
          go_wp2_with fail
          refine (tpJoin_eq _ _ c1 L a _ hs1 hc1 (by omega) (by omega) HJ.out).mono ?_
          rintro e w1 ⟨rfl, hb1⟩
          replace hb := below_more hb hb1
          clear hb1
          clear hs1
          go_wp2_with fail
          refine (tpName_eq a true _ (by omega) HN.out).mono ?_
          rintro e w1 ⟨rfl, hb1⟩
          replace hb := below_more hb hb1
          clear hb1
          go_wp2_with fail
          refine (tpFilter_eq a true _ (HG.out.below hb) (by omega) HF2.out).mono ?_
          rintro e w1 ⟨rfl, hb1⟩
          replace hb := below_more hb hb1
          clear hb1
          go_wp2_with fail
          refine (tpMatch_eq a n true _ (HG.out.below hb) (by omega) (by omega) HMA.out).mono ?_
          rintro e w1 ⟨rfl, hb1⟩
          replace hb := below_more hb hb1
          clear hb1
          go_wp2_with fail
          refine (tpName_eq S true _ (by omega) HNS.out).mono ?_
          rintro e w1 ⟨rfl, hb1⟩
          replace hb := below_more hb hb1
          clear hb1
          go_wp2_with fail
          refine (tpLevels_eq m M _ (HG.out.below hb) (by omega) HM.out).mono ?_
          rintro e w3 ⟨g3, c3, rfl, _, _, hb3⟩
          replace hb := below_more hb hb3
          clear hb3
          go_wp2_with fail
          refine (awake7_any _ (HG.out.below hb)).mono ?_
          rintro e w1 ⟨rfl, hb1⟩
          replace hb := below_more hb hb1
          clear hb1
          go_wp2_with fail
          go_ret
          exact ⟨rfl, hb⟩
theorem walk (w : World) (hG : Glo w) (a : List UInt8) (ha : a.length ≤ 9223372036854775807) (n : List UInt8) (hn9 : n.length ≤ 9223372036854775807) (m : List UInt8) (hm9 : m.length ≤ 9223372036854775807) :
    Calls Tryd.prog 8 #[.string ⟨a.toArray⟩, .string ⟨n.toArray⟩, .string ⟨m.toArray⟩] w fun e w' => e = .returned (.bool true) ∧ Below w.heap.size w w' := by
  by_cases h1 : 1000 < a.length
  · have i1 : (1000 : Int) < (a.length : Int) := by omega
    have hb : Below w.heap.size w w := Below.refl _ _
    have HG := Lib.hid hG
    clear hG
    go_enter Tryd.func8, Tryd.ntmps8
    go_wp2_with fail
    refine (awake7_any _ (HG.out.below hb)).mono ?_
    rintro e w1 ⟨rfl, hb1⟩
    replace hb := below_more hb hb1
    clear hb1
    go_wp2_with fail
    go_ret
    exact ⟨rfl, hb⟩
  by_cases h2 : 1000 < n.length
  · have i1 : ¬ (1000 : Int) < (a.length : Int) := by omega
    have i2 : (1000 : Int) < (n.length : Int) := by omega
    have hb : Below w.heap.size w w := Below.refl _ _
    have HG := Lib.hid hG
    clear hG
    go_enter Tryd.func8, Tryd.ntmps8
    go_wp2_with fail
    refine (awake7_any _ (HG.out.below hb)).mono ?_
    rintro e w1 ⟨rfl, hb1⟩
    replace hb := below_more hb hb1
    clear hb1
    go_wp2_with fail
    go_ret
    exact ⟨rfl, hb⟩
  by_cases h3 : 100 < m.length
  · have i1 : ¬ (1000 : Int) < (a.length : Int) := by omega
    have i2 : ¬ (1000 : Int) < (n.length : Int) := by omega
    have i3 : (100 : Int) < (m.length : Int) := by omega
    have hb : Below w.heap.size w w := Below.refl _ _
    have HG := Lib.hid hG
    clear hG
    go_enter Tryd.func8, Tryd.ntmps8
    go_wp2_with fail
    refine (awake7_any _ (HG.out.below hb)).mono ?_
    rintro e w1 ⟨rfl, hb1⟩
    replace hb := below_more hb hb1
    clear hb1
    go_wp2_with fail
    go_ret
    exact ⟨rfl, hb⟩
  exact walkIn w hG a n m (by omega) (by omega) (by omega)
set_option maxRecDepth 100000 in
theorem lifted (os : Os) (started : os.Started) (H : Type) (enc : TypeId × Value → H) :
    ReturnsInHanded {} Tryd.checked os 8 .any (fun w args => (Rows.topicLevelsSpec.pre enc Tryd.prog Tryd.f8 [] false w args ∧ laidMetH Tryd.prog laidL w) ∧ sizedMet enc Tryd.prog Tryd.f8 (OpenSpec.ofChange Rows.topicLevelsSpec) false w args)
      (Rows.topicLevelsSpec.post enc Tryd.prog Tryd.f8 false true false false) := by
  refine handed_laid (C := Tryd.checked) (X := fun w _ => laidMetH Tryd.prog laidL w) own_none started (by kernel_rfl) Tryd.func8 (laid_witness os Rows.topicLevelsSpec #[.string ByteArray.empty, .string ByteArray.empty, .string ByteArray.empty] (by kernel_rfl) (by kernel_rfl) (by kernel_rfl)) ?_
  intro W base args ds gs before hval0 hW hsh
  have hval : ∀ (j : Nat) t v, Tryd.f8.params[j]? = some t → args[j]? = some v → Value.okWide Tryd.prog W .any base t v := hval0
  have hWk := hW
  obtain ⟨p, q, hA0, hV, hbef, _, _⟩ := hWk
  have hA : DataW.TrodAll enc Tryd.prog W 0 (fun _ => true) true Tryd.f8.params.toList args.toList ds p := hA0
  obtain ⟨rfl, rfl⟩ := trodVars_none hV
  rw [Tryd.params8] at hA hval
  obtain ⟨v0, vs0, d0, ds0, p0, q0, hargs, rfl, hp0, h0, r0⟩ := trodAll_cons hA
  obtain ⟨v1, vs1, d1, ds1, p1, q1, rfl, rfl, hp1, h1, r1⟩ := trodAll_cons r0
  obtain ⟨v2, vs2, d2, ds2, p2, q2, rfl, rfl, hp2, h2, r2⟩ := trodAll_cons r1
  obtain ⟨rfl, rfl, hpn⟩ := trodAll_nil r2
  obtain rfl : args = #[v0, v1, v2] := by cases args; simp_all
  obtain ⟨s0, rfl, rfl, hx0, w0⟩ := open_string Tryd.underlying9 (hval 0 9 v0 rfl rfl) h0
  obtain ⟨a0, rfl, hl0⟩ := str_of s0
  obtain ⟨s1, rfl, rfl, hx1, w1⟩ := open_string Tryd.underlying9 (hval 1 9 v1 rfl rfl) h1
  obtain ⟨a1, rfl, hl1⟩ := str_of s1
  obtain ⟨s2, rfl, rfl, hx2, w2⟩ := open_string Tryd.underlying9 (hval 2 9 v2 rfl rfl) h2
  obtain ⟨a2, rfl, hl2⟩ := str_of s2
  refine (walk W (glo_of hsh) a0 (by unfold maxLen at w0; omega) a1 (by unfold maxLen at w1; omega) a2 (by unfold maxLen at w2; omega)).mono fun e W' ⟨he, hg⟩ => ?_
  subst he
  exact ⟨_, rfl, law_post laid_out (by kernel_rfl) rfl (by kernel_rfl) Tryd.underlying4 hW rfl hg⟩

theorem over : Rows.topicLevelsRow.holds Tryd.pinned (OpenSpec.ofChange Rows.topicLevelsSpec) :=
  OpenClaim.holds_of_wide 8 Tryd.f8 rfl rfl rfl rfl rfl rfl rfl ⟨rfl, rfl, rfl, rfl, rfl⟩ rfl rfl rfl rfl rfl (by kernel_rfl) Tryd.func8 (by kernel_rfl)
    (of_decide_eq_true (by kernel_rfl)) (by unfold Func.isWrapper; first | (rw [if_pos (by decide +kernel)]; kernel_rfl) | (rw [if_neg (by decide +kernel)]; exact ⟨rfl, rfl⟩))
    (fun os started H enc _ => lifted os started H enc)

/-- THE STATEMENT: the card. -/
theorem proved : Rows.TopicLevelsCardSaid :=
  Claim7.holds_tied_plain_at .later [] [.data, .pinned] true Rows.topicLevelsCard.stood.harness false over (fun _ h => by cases h) (by kernel_rfl) (fun _ h => by cases h) topicLevels_row_tie rfl ⟨rfl, rfl⟩ (by kernel_rfl) rfl
    (fun f fn hf hfn => by
      obtain rfl : f = 8 := Option.some.inj ((show Tryd.prog.funcNamed Rows.topicLevelsRow.func = some 8 by kernel_rfl).symm.trans hf) |>.symm
      obtain rfl : fn = Tryd.f8 := (Option.some.inj (Tryd.func8.symm.trans hfn)).symm
      exact ⟨by kernel_rfl, fun j t ht => by
        have hm : t ∈ Tryd.f8.params.toList := by simpa using Array.mem_of_getElem? ht
        have hall : (Tryd.f8.params.toList.all fun u => !Tryd.prog.wantsStandIn u) = true := by kernel_rfl
        exact (show Tryd.prog.wantsStandIn t = false by simpa using List.all_eq_true.1 hall t hm)⟩)
    (by kernel_rfl)
end lawTopicLevels
end Go.Proofs.YtnaedcennichlaaDoor
