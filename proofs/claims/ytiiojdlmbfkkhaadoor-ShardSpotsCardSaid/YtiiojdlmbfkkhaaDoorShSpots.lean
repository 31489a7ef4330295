/-
  ShardSpots: the workers of clients, connections, names and filters are the document's. The card.
-/
import Derived.Test.YtiiojdlmbfkkhaaDoorShLaw
import Derived.Test.YtiiojdlmbfkkhaaDoorTpLaw
import Derived.Test.YtiiojdlmbfkkhaaDoorWrFrame
import Derived.Test.YtiiojdlmbfkkhaaDoorTie
import Derived.Test.YtiiojdlmbfkkhaaDoorCards
import Derived.SevenTiedAt
import Derived.ProofKit
set_option linter.unusedSimpArgs false
set_option linter.unusedVariables false
namespace Go.Proofs.YtiiojdlmbfkkhaaDoor
open Go.RowKit Go.ChangeShapes Go.WideShapes Go.ChangeAt
open Go.ChangeMaps (open_string shut_string)
namespace lawShardSpots
set_option maxHeartbeats 1000000 in
theorem walk (w : World) (hG : Glo w) (a : List UInt8) (ha : a.length ≤ 9223372036854775807) (p : Int) (hp : (Lit.int .i64 p).wf = true) (n : Int) (hn : (Lit.int .i64 n).wf = true) :
    Calls Tryd.prog 4 #[.string ⟨a.toArray⟩, .int .i64 p, .int .i64 n] w fun e w' => e = .returned (.bool true) ∧ Below w.heap.size w w' := by
  have HG := Lib.hid hG
  have hb : Below w.heap.size w w := Below.refl _ _
  have hp2 : p ≤ 9223372036854775807 := (by simpa [Lit.wf] using hp : _ ∧ _).2
  clear hG hp hn
  by_cases h1 : 2000 < a.length
  · have i1 : (2000 : Int) < (a.length : Int) := by omega
    go_enter Tryd.func4, Tryd.ntmps4
    go_wp2_with fail
    refine (awake8_any _ (HG.out.below hb)).mono ?_
    rintro e w1 ⟨rfl, hb1⟩
    replace hb := below_more hb hb1
    clear hb1
    go_wp2_with fail
    go_ret
    exact ⟨rfl, hb⟩
  have i1 : ¬ (2000 : Int) < (a.length : Int) := by omega
  obtain ⟨v1, hv1⟩ : ∃ v, homI a n = v := ⟨_, rfl⟩
  obtain ⟨v2, hv2⟩ : ∃ v, gatI p n = v := ⟨_, rfl⟩
  obtain ⟨v3, hv3⟩ : ∃ v, hubI a n = v := ⟨_, rfl⟩
  obtain ⟨L, hL⟩ : ∃ v, hubsI a n = v := ⟨_, rfl⟩
  have hll := hubs_len a n
  rw [hL] at hll
  have H1 := Lib.hid hv1
  have H2 := Lib.hid hv2
  have H3 := Lib.hid hv3
  have H4 := Lib.hid hL
  clear hv1 hv2 hv3 hL
  go_enter Tryd.func4, Tryd.ntmps4
  go_wp2_with fail
  refine (home_eq a n v1 _ (by omega) H1.out).mono ?_
  rintro e w1 ⟨rfl, hb1⟩
  replace hb := below_more hb hb1
  clear hb1
  go_wp2_with fail
  refine (refHome_eq a n v1 _ (by omega) H1.out).mono ?_
  rintro e w1 ⟨rfl, hb1⟩
  replace hb := below_more hb hb1
  clear hb1
  go_wp2_with fail
  refine (gate_eq p n v2 _ hp2 H2.out).mono ?_
  rintro e w1 ⟨rfl, rfl⟩
  go_wp2_with fail
  refine (refGate_eq p n v2 _ hp2 H2.out).mono ?_
  rintro e w1 ⟨rfl, rfl⟩
  go_wp2_with fail
  refine (hub_eq a n v3 _ (HG.out.below hb) (by omega) H3.out).mono ?_
  rintro e w1 ⟨rfl, hb1⟩
  replace hb := below_more hb hb1
  clear hb1
  go_wp2_with fail
  refine (refHub_eq a n v3 _ (by omega) H3.out).mono ?_
  rintro e w1 ⟨rfl, hb1⟩
  replace hb := below_more hb hb1
  clear hb1
  go_wp2_with fail
  refine (hubs_eq a n L _ (HG.out.below hb) (by omega) H4.out).mono ?_
  rintro e w4 ⟨A1, c1, rfl, hs1, _, hb2⟩
  replace hb := below_more hb hb2
  clear hb2
  go_wp2_with fail
  refine (refHubs_eq a n L _ (by omega) H4.out).mono ?_
  rintro e w5 ⟨A2, c2, rfl, hs2, _, hb2⟩
  replace hb := below_more hb hb2
  replace hs1 := hs1.below hb2
  clear hb2
  go_wp2_with fail
  refine (sameInts_eq _ _ c1 L _ _ c2 L true _ hs1 hs2 (by omega) (by simp)).mono ?_
  rintro e w1 ⟨rfl, hb1⟩
  replace hb := below_more hb hb1
  clear hb1
  go_wp2_with fail
  refine (awake8_any _ (HG.out.below hb)).mono ?_
  rintro e w1 ⟨rfl, hb1⟩
  replace hb := below_more hb hb1
  clear hb1
  go_wp2_with fail
  go_ret
  exact ⟨rfl, hb⟩
set_option maxRecDepth 100000 in
theorem lifted (os : Os) (started : os.Started) (H : Type) (enc : TypeId × Value → H) :
    ReturnsInHanded {} Tryd.checked os 4 .any (fun w args => (Rows.shardSpotsSpec.pre enc Tryd.prog Tryd.f4 [] false w args ∧ laidMetH Tryd.prog laidL w) ∧ sizedMet enc Tryd.prog Tryd.f4 (OpenSpec.ofChange Rows.shardSpotsSpec) false w args)
      (Rows.shardSpotsSpec.post enc Tryd.prog Tryd.f4 false true false false) := by
  refine handed_laid (C := Tryd.checked) (X := fun w _ => laidMetH Tryd.prog laidL w) own_none started (by kernel_rfl) Tryd.func4 (laid_witness os Rows.shardSpotsSpec #[.string ByteArray.empty, .int .i64 0, .int .i64 0] (by kernel_rfl) (by kernel_rfl) (by kernel_rfl)) ?_
  intro W base args ds gs before hval0 hW hsh
  have hval : ∀ (j : Nat) t v, Tryd.f4.params[j]? = some t → args[j]? = some v → Value.okWide Tryd.prog W .any base t v := hval0
  have hWk := hW
  obtain ⟨p, q, hA0, hV, hbef, _, _⟩ := hWk
  have hA : DataW.TrodAll enc Tryd.prog W 0 (fun _ => true) true Tryd.f4.params.toList args.toList ds p := hA0
  obtain ⟨rfl, rfl⟩ := trodVars_none hV
  rw [Tryd.params4] at hA hval
  obtain ⟨v0, vs0, d0, ds0, p0, q0, hargs, rfl, hp0, h0, r0⟩ := trodAll_cons hA
  obtain ⟨v1, vs1, d1, ds1, p1, q1, rfl, rfl, hp1, h1, r1⟩ := trodAll_cons r0
  obtain ⟨v2, vs2, d2, ds2, p2, q2, rfl, rfl, hp2, h2, r2⟩ := trodAll_cons r1
  obtain ⟨rfl, rfl, hpn⟩ := trodAll_nil r2
  obtain rfl : args = #[v0, v1, v2] := by cases args; simp_all
  obtain ⟨s0, rfl, rfl, hx0, w0⟩ := open_string Tryd.underlying9 (hval 0 9 v0 rfl rfl) h0
  obtain ⟨a0, rfl, hl0⟩ := str_of s0
  obtain ⟨a1, rfl, rfl, hx1, w1⟩ := open_int Tryd.underlying3 (hval 1 3 v1 rfl rfl) h1
  obtain ⟨a2, rfl, rfl, hx2, w2⟩ := open_int Tryd.underlying3 (hval 2 3 v2 rfl rfl) h2
  refine (walk W (glo_of hsh) a0 (by unfold maxLen at w0; omega) a1 w1 a2 w2).mono fun e W' ⟨he, hg⟩ => ?_
  subst he
  exact ⟨_, rfl, law_post laid_out (by kernel_rfl) rfl (by kernel_rfl) Tryd.underlying4 hW rfl hg⟩

theorem over : Rows.shardSpotsRow.holds Tryd.pinned (OpenSpec.ofChange Rows.shardSpotsSpec) :=
  OpenClaim.holds_of_wide 4 Tryd.f4 rfl rfl rfl rfl rfl rfl rfl ⟨rfl, rfl, rfl, rfl, rfl⟩ rfl rfl rfl rfl rfl (by kernel_rfl) Tryd.func4 (by kernel_rfl)
    (of_decide_eq_true (by kernel_rfl)) (by unfold Func.isWrapper; first | (rw [if_pos (by decide +kernel)]; kernel_rfl) | (rw [if_neg (by decide +kernel)]; exact ⟨rfl, rfl⟩))
    (fun os started H enc _ => lifted os started H enc)

/-- THE STATEMENT: the card. -/
theorem proved : Rows.ShardSpotsCardSaid :=
  Claim7.holds_tied_plain_at .later [] [.data, .pinned] true Rows.shardSpotsCard.stood.harness false over (fun _ h => by cases h) (by kernel_rfl) (fun _ h => by cases h) shardSpots_row_tie rfl ⟨rfl, rfl⟩ (by kernel_rfl) rfl
    (fun f fn hf hfn => by
      obtain rfl : f = 4 := Option.some.inj ((show Tryd.prog.funcNamed Rows.shardSpotsRow.func = some 4 by kernel_rfl).symm.trans hf) |>.symm
      obtain rfl : fn = Tryd.f4 := (Option.some.inj (Tryd.func4.symm.trans hfn)).symm
      exact ⟨by kernel_rfl, fun j t ht => by
        have hm : t ∈ Tryd.f4.params.toList := by simpa using Array.mem_of_getElem? ht
        have hall : (Tryd.f4.params.toList.all fun u => !Tryd.prog.wantsStandIn u) = true := by kernel_rfl
        exact (show Tryd.prog.wantsStandIn t = false by simpa using List.all_eq_true.1 hall t hm)⟩)
    (by kernel_rfl)
end lawShardSpots
end Go.Proofs.YtiiojdlmbfkkhaaDoor
