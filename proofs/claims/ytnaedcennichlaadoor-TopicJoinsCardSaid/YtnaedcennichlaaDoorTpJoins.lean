/-
  TopicJoins: texts joined. The card.
-/
import Derived.Test.YtnaedcennichlaaDoorTpLaw
import Derived.Test.YtnaedcennichlaaDoorWrFrame
import Derived.Test.YtnaedcennichlaaDoorTie
import Derived.Test.YtnaedcennichlaaDoorCards
import Derived.SevenTiedAt
import Derived.ProofKit
set_option linter.unusedSimpArgs false
set_option linter.unusedVariables false
namespace Go.Proofs.YtnaedcennichlaaDoor
open Go.RowKit Go.ChangeShapes Go.WideShapes Go.ChangeAt
open Go.ChangeMaps (open_string shut_string)
theorem joinL_len (xs : List (List UInt8)) : (joinL xs).length ≤ xs.length + Lib.lens xs := by
  cases xs with
  | nil => rw [joinL_nil]; simp
  | cons x r =>
    unfold joinL
    rw [Lib.join_length]
    simp only [List.length_cons, List.length_nil]
    omega
namespace lawTopicJoins
set_option maxHeartbeats 1000000 in
theorem walk (w : World) (hG : Glo w) (A : Option Addr) (n c : Nat) (xs : List (List UInt8)) (hs : Strs w A n xs) (hnc : n ≤ c) (hn : n ≤ 9223372036854775807) (hm : Hid (∀ x ∈ xs, x.length ≤ 140737488351232)) :
    Calls Tryd.prog 5 #[.slice A n c] w fun e w' => e = .returned (.bool true) ∧ Below w.heap.size w w' := by
  have HG := Lib.hid hG
  have hb : Below w.heap.size w w := Below.refl _ _
  have HL := Lib.hid hs.len
  obtain ⟨v, hv⟩ : ∃ v, joinL xs = v := ⟨_, rfl⟩
  have HV := Lib.hid hv
  clear hG hv
  go_enter Tryd.func5, Tryd.ntmps5
  go_wp2_with fail
  go_loop [3, 4] (fun s i => ∃ k q : Nat, i = .int .i64 k ∧ s = .int .i64 q ∧ k ≤ n ∧ k ≤ 100 ∧ q ≤ 3000 ∧ Hid (q = Lib.lens (xs.take k))) (fun _ i => n - (intOf i).toNat)
  case atStart => exact ⟨0, 0, rfl, rfl, by omega, by omega, by omega, rfl⟩
  case round =>
    obtain ⟨k, q, rfl, rfl, hk, hk2, hq, hc⟩ := hrel
    by_cases hlt : k < n
    · obtain ⟨bk, off, x, rfl, hx, hcell⟩ := hs.at_ hlt
      have hxl := hm.out x (List.mem_of_getElem? hx)
      have HT := Lib.hid (Lib.lens_take_succ xs k x hx)
      clear hx
      by_cases h1 : 3000 < q + x.length
      · have i1 : (3000 : Int) < (q : Int) + (x.length : Int) := by omega
        go_wp2_with fail
        refine (awake7_any _ HG.out).mono ?_
        rintro e w1 ⟨rfl, hb1⟩
        go_wp2_with fail
        go_ret
        exact ⟨rfl, hb1⟩
      · have i1 : ¬ (3000 : Int) < (q : Int) + (x.length : Int) := by omega
        by_cases h2 : 100 ≤ k
        · have i2 : (100 : Int) ≤ (k : Int) := by omega
          go_wp2_with fail
          refine (awake7_any _ HG.out).mono ?_
          rintro e w1 ⟨rfl, hb1⟩
          go_wp2_with fail
          go_ret
          exact ⟨rfl, hb1⟩
        · have i2 : ¬ (100 : Int) ≤ (k : Int) := by omega
          go_wp2_with fail
          go_round
          case rel => exact ⟨k + 1, q + x.length, by go_num, by go_num, by omega, by omega, by omega, by show _ = _; rw [HT.out, ← hc.out]⟩
          case measure => simp [intOf]; omega
    · have hkn : k = n := by omega
      have hvl : v.length ≤ 1000000 := by
        have h1 := joinL_len xs
        rw [HV.out] at h1
        have h2 := hc.out
        rw [List.take_of_length_le (by rw [HL.out]; omega)] at h2
        have h3 := HL.out
        omega
      have hn2 : n ≤ 1000000 := by omega
      have HS := Lib.hid hs
      clear hs hkn
      go_wp2_with fail
      refine (tpJoin_eq A n c xs v _ HS.out hnc (by omega) (by omega) HV.out).mono ?_
      rintro e w1 ⟨rfl, hb1⟩
      replace hb := below_more hb hb1
      clear hb1
      go_wp2_with fail
      refine (refJoin_eq A n c xs v _ (HS.out.below hb) (by omega) (by omega) HV.out).mono ?_
      rintro e w1 ⟨rfl, hb1⟩
      replace hb := below_more hb hb1
      clear hb1
      go_wp2_with fail
      refine (awake7_any _ (HG.out.below hb)).mono ?_
      rintro e w1 ⟨rfl, hb1⟩
      replace hb := below_more hb hb1
      clear hb1
      go_wp2_with fail
      go_ret
      exact ⟨rfl, hb⟩
set_option maxRecDepth 100000 in
theorem lifted (os : Os) (started : os.Started) (H : Type) (enc : TypeId × Value → H) :
    ReturnsInHanded {} Tryd.checked os 5 .any (fun w args => (Rows.topicJoinsSpec.pre enc Tryd.prog Tryd.f5 [] false w args ∧ laidMetH Tryd.prog laidL w) ∧ sizedMet enc Tryd.prog Tryd.f5 (OpenSpec.ofChange Rows.topicJoinsSpec) false w args)
      (Rows.topicJoinsSpec.post enc Tryd.prog Tryd.f5 false true false false) := by
  refine handed_laidW (C := Tryd.checked) (X := fun w _ => laidMetH Tryd.prog laidL w) own_none started (by kernel_rfl) Tryd.func5 (laid_witness os Rows.topicJoinsSpec #[.slice none 0 0] (by kernel_rfl) (by kernel_rfl) (by kernel_rfl)) ?_
  intro W base args ds gs before hval0 hW hwt hsh
  have hval : ∀ (j : Nat) t v, Tryd.f5.params[j]? = some t → args[j]? = some v → Value.okWide Tryd.prog W .any base t v := hval0
  have hWk := hW
  obtain ⟨p, q, hA0, hV, hbef, _, _⟩ := hWk
  have hA : DataW.TrodAll enc Tryd.prog W 0 (fun _ => true) true Tryd.f5.params.toList args.toList ds p := hA0
  obtain ⟨rfl, rfl⟩ := trodVars_none hV
  rw [Tryd.params5] at hA hval
  obtain ⟨v0, vs0, d0, ds0, p0, q0, hargs, rfl, hp0, h0, r0⟩ := trodAll_cons hA
  obtain ⟨rfl, rfl, hpn⟩ := trodAll_nil r0
  obtain rfl : args = #[v0] := by cases args; simp_all
  obtain ⟨A0, n0, c0, xs0, rfl, hi0⟩ := open_StrsW Tryd.underlying23 Tryd.underlying9 cells_str (hval 0 23 v0 rfl rfl) h0 (fun n hn => of_decide_eq_true (List.all_eq_true.1 hwt n (DataW.weights_mem_each (j := 0) (t := 23) (by rfl) (by rfl) n hn)))
  refine (walk W (glo_of hsh) A0 n0 c0 xs0 hi0.1 hi0.2.1 (by have := hi0.2.2.1; unfold maxLen at this; omega) hi0.2.2.2).mono fun e W' ⟨he, hg⟩ => ?_
  subst he
  exact ⟨_, rfl, law_post laid_out (by kernel_rfl) rfl (by kernel_rfl) Tryd.underlying4 hW rfl hg⟩

theorem over : Rows.topicJoinsRow.holds Tryd.pinned (OpenSpec.ofChange Rows.topicJoinsSpec) :=
  OpenClaim.holds_of_wide 5 Tryd.f5 rfl rfl rfl rfl rfl rfl rfl ⟨rfl, rfl, rfl, rfl, rfl⟩ rfl rfl rfl rfl rfl (by kernel_rfl) Tryd.func5 (by kernel_rfl)
    (of_decide_eq_true (by kernel_rfl)) (by unfold Func.isWrapper; first | (rw [if_pos (by decide +kernel)]; kernel_rfl) | (rw [if_neg (by decide +kernel)]; exact ⟨rfl, rfl⟩))
    (fun os started H enc _ => lifted os started H enc)

/-- THE STATEMENT: the card. -/
theorem proved : Rows.TopicJoinsCardSaid :=
  Claim7.holds_tied_plain_at .later [] [.data, .pinned] true Rows.topicJoinsCard.stood.harness false over (fun _ h => by cases h) (by kernel_rfl) (fun _ h => by cases h) topicJoins_row_tie rfl ⟨rfl, rfl⟩ (by kernel_rfl) rfl
    (fun f fn hf hfn => by
      obtain rfl : f = 5 := Option.some.inj ((show Tryd.prog.funcNamed Rows.topicJoinsRow.func = some 5 by kernel_rfl).symm.trans hf) |>.symm
      obtain rfl : fn = Tryd.f5 := (Option.some.inj (Tryd.func5.symm.trans hfn)).symm
      exact ⟨by kernel_rfl, fun j t ht => by
        have hm : t ∈ Tryd.f5.params.toList := by simpa using Array.mem_of_getElem? ht
        have hall : (Tryd.f5.params.toList.all fun u => !Tryd.prog.wantsStandIn u) = true := by kernel_rfl
        exact (show Tryd.prog.wantsStandIn t = false by simpa using List.all_eq_true.1 hall t hm)⟩)
    (by kernel_rfl)
end lawTopicJoins
end Go.Proofs.YtnaedcennichlaaDoor
