/-
  ShardTakes: the hub of a name that a filter takes is one of the filter's hubs; where a filter covers another one, its hubs have all of the other one's. The card.
-/
import Derived.Test.YtiiojdlmbfkkhaaDoorShLaw
import Derived.Test.YtiiojdlmbfkkhaaDoorTpLaw
import Derived.Test.YtiiojdlmbfkkhaaDoorWrFrame
import Derived.Test.YtiiojdlmbfkkhaaDoorTie
import Derived.Test.YtiiojdlmbfkkhaaDoorCards
import Derived.SevenTiedAt
import Derived.ProofKit
set_option linter.unusedSimpArgs false
set_option linter.unusedVariables false
namespace Go.Proofs.YtiiojdlmbfkkhaaDoor
open Go.RowKit Go.ChangeShapes Go.WideShapes Go.ChangeAt
open Go.ChangeMaps (open_string shut_string)
theorem head_cov (a b : List UInt8) (h : covB a b = true) (hw : wilB a = false) : headL a = headL b := by
  obtain ⟨h1, h2, h3, h4⟩ := covB_parts h
  rw [fit_head a h1, Bool.or_eq_false_iff] at hw
  have e1 : headL a ≠ [43] := by simpa using hw.1
  have e2 : headL a ≠ [35] := by simpa using hw.2
  rw [levs_cons a, levs_cons b] at h4
  have h5 : covL (headL a :: (levs a).tail) (headL b :: (levs b).tail) = true := h4
  rw [cov_cons _ _ _ _ e2, Bool.and_eq_true, lc_other _ _ hw.1] at h5
  simpa using h5.1
theorem upI_mem (n : Nat) (v : Int) (h0 : 0 ≤ v) (h1 : v < (n : Int)) : v ∈ upI n := by
  unfold upI
  rw [List.mem_map]
  exact ⟨v.toNat, by rw [List.mem_range]; omega, by omega⟩
theorem pick_in (l : List UInt8) (n : Int) (hn : manyB n = true) : pickI l n ∈ upI n.toNat := by
  have h := many_yes hn
  have hp := pickI_bd l n h.1
  exact upI_mem _ _ hp.1 (by omega)
theorem cov_hubs (a b : List UInt8) (n : Int) (hn : manyB n = true) (h : covB a b = true) : ∀ y ∈ hubsI b n, y ∈ hubsI a n := by
  obtain ⟨h1, h2, h3, h4⟩ := covB_parts h
  intro y hy
  unfold hubsI at hy ⊢
  rw [hn, h2, Bool.and_self, if_pos rfl] at hy
  rw [hn, h1, Bool.and_self, if_pos rfl]
  cases hw : wilB a with
  | true =>
    rw [if_pos rfl]
    cases hv : wilB b with
    | true => rw [hv, if_pos rfl] at hy; exact hy
    | false =>
      rw [hv, if_neg (by decide), List.mem_singleton] at hy
      rw [hy]; exact pick_in _ n hn
  | false =>
    have he := head_cov a b h hw
    have hv : wilB b = false := by rw [fit_head b h2, ← he, ← fit_head a h1]; exact hw
    rw [hv, if_neg (by decide)] at hy
    rw [if_neg (by decide), he]
    exact hy
theorem nam_hubs (b : List UInt8) (n : Int) (hn : manyB n = true) (h : namB b = true) : hubsI b n = [hubI b n] := by
  unfold hubsI hubI
  rw [hn, h, nam_fil b h, nam_wil b h]; rfl
theorem mat_hub (a b : List UInt8) (n : Int) (hn : manyB n = true) (h : matB a b = true) : hubI b n ∈ hubsI a n := by
  obtain ⟨h1, h2⟩ := matB_parts h
  exact cov_hubs a b n hn h2 _ (by rw [nam_hubs b n hn h1]; simp)
theorem hubs_pos (a : List UInt8) (n : Int) (hn : manyB n = true) : decide ((0 : Int) < ((hubsI a n).length : Int)) = filB a := by
  have hm := many_yes hn
  unfold hubsI
  rw [hn, Bool.true_and]
  cases filB a with
  | false => simp
  | true =>
    rw [if_pos rfl]
    split
    · rw [upI_len]; exact decide_eq_true (by omega)
    · simp
namespace lawShardTakes
set_option maxHeartbeats 1000000 in
set_option maxRecDepth 100000 in
theorem walkIn (w : World) (hG : Glo w) (a : List UInt8) (ha : a.length ≤ 2000) (b : List UInt8) (hb9 : b.length ≤ 2000) (n : Int) (h1 : 1 ≤ n) (h2 : n ≤ 64) :
    Calls Tryd.prog 6 #[.string ⟨a.toArray⟩, .string ⟨b.toArray⟩, .int .i64 n] w fun e w' => e = .returned (.bool true) ∧ Below w.heap.size w w' := by
  have HG := Lib.hid hG
  have hb : Below w.heap.size w w := Below.refl _ _
  clear hG
  have i1 : ¬ (2000 : Int) < (a.length : Int) := by omega
  have i2 : ¬ (2000 : Int) < (b.length : Int) := by omega
  have i3 : ¬ n < 1 := by omega
  have i4 : ¬ 64 < n := by omega
  have hm : manyB n = true := by unfold manyB; rw [decide_eq_true h1, decide_eq_true h2]; rfl
  have M1 : Hid (matB a b = true → (hubsI a n).contains (hubI b n) = true) := fun h => List.contains_iff_mem.2 (mat_hub a b n hm h)
  have M2 : Hid (covB a b = true → ∀ (k : Nat) (y : Int), (hubsI b n)[k]? = some y → (hubsI a n).contains y = true) := fun h k y hy => List.contains_iff_mem.2 (cov_hubs a b n hm h y (List.mem_of_getElem? hy))
  have hpos := hubs_pos a n hm
  have hxl := hubs_len a n
  have hyl := hubs_len b n
  obtain ⟨X, hX⟩ : ∃ X, hubsI a n = X := ⟨_, rfl⟩
  obtain ⟨Y, hY⟩ : ∃ X, hubsI b n = X := ⟨_, rfl⟩
  obtain ⟨v, hv⟩ : ∃ v, hubI b n = v := ⟨_, rfl⟩
  obtain ⟨f, hf⟩ : ∃ v, filB a = v := ⟨_, rfl⟩
  obtain ⟨nx, hnx⟩ : ∃ v, X.length = v := ⟨_, rfl⟩
  obtain ⟨ny, hny⟩ : ∃ v, Y.length = v := ⟨_, rfl⟩
  rw [hX, hv] at M1
  rw [hX, hY] at M2
  rw [hX, hf, hnx] at hpos
  rw [hX, hnx] at hxl
  rw [hY, hny] at hyl
  have HX := Lib.hid hX
  have HY := Lib.hid hY
  have HV := Lib.hid hv
  have HF := Lib.hid hf
  have HXL := Lib.hid hnx
  have HYL := Lib.hid hny
  have hfe : decide (0 < nx) = f := by rw [← hpos, decide_eq_decide]; omega
  clear hX hY hv hf hnx hny hm hpos
  cases hma : matB a b with
  | true =>
    have HV2 := Lib.hid (M1.out hma)
    have hco : covB a b = true := (matB_parts hma).2
    have HM := Lib.hid hma
    have HC := Lib.hid hco
    clear hma hco
    go_enter Tryd.func6, Tryd.ntmps6
    go_wp2_with fail
    refine (hubs_eq a n X _ (HG.out.below hb) (by omega) HX.out).mono ?_
    rintro e w4 ⟨A1, c1, rfl, hs1, hcc1, hb2⟩
    replace hb := below_more hb hb2
    clear hb2 hcc1
    go_wp2_with fail
    refine (hubs_eq b n Y _ (HG.out.below hb) (by omega) HY.out).mono ?_
    rintro e w5 ⟨A2, c2, rfl, hs2, hcc2, hb2⟩
    replace hb := below_more hb hb2
    replace hs1 := hs1.below hb2
    clear hb2 hcc2
    rw [HXL.out] at hs1 ⊢
    rw [HYL.out] at hs2 ⊢
    go_wp2_with fail
    refine (tpMatch_eq a b true _ (HG.out.below hb) (by omega) (by omega) HM.out).mono ?_
    rintro e w6 ⟨rfl, hb6⟩
    replace hb := below_more hb hb6
    replace hs1 := hs1.below hb6
    replace hs2 := hs2.below hb6
    clear hb6
    go_wp2_with fail
    refine (hub_eq b n v _ (HG.out.below hb) (by omega) HV.out).mono ?_
    rintro e w7 ⟨rfl, hb7⟩
    replace hb := below_more hb hb7
    replace hs1 := hs1.below hb7
    replace hs2 := hs2.below hb7
    clear hb7
    go_wp2_with fail
    refine (hasI_eq _ nx c1 X v true _ hs1 (by omega) HV2.out).mono ?_
    rintro e w10 ⟨rfl, rfl⟩
    go_wp2_with fail
    refine (tpCovers_eq a b true _ (HG.out.below hb) (by omega) (by omega) HC.out).mono ?_
    rintro e w8 ⟨rfl, hb8⟩
    replace hb := below_more hb hb8
    replace hs1 := hs1.below hb8
    replace hs2 := hs2.below hb8
    clear hb8
    have HS1 := Lib.hid hs1
    have HS2 := Lib.hid hs2
    clear hs1 hs2
    go_wp2_with fail
    go_loop [9] (fun i => ∃ k : Nat, i = .int .i64 k ∧ k ≤ ny) (fun i => ny - (intOf i).toNat)
    case atStart => exact ⟨0, rfl, by omega⟩
    case round =>
      obtain ⟨k, rfl, hk⟩ := hrel
      by_cases hlt : k < ny
      · obtain ⟨b1, o1, y, rfl, hy, hcy⟩ := HS2.out.at_ hlt
        have HK := Lib.hid (M2.out HC.out k y hy)
        clear hy
        go_wp2_with fail
        refine (hasI_eq _ nx c1 X y true _ HS1.out (by omega) HK.out).mono ?_
        rintro e w9 ⟨rfl, rfl⟩
        go_wp2_with fail
        go_round
        case rel => exact ⟨k + 1, by go_num, by omega⟩
        case measure => simp [intOf]; omega
      · skip
        go_wp2_with fail
        refine (tpFilter_eq a f _ (HG.out.below hb) (by omega) HF.out).mono ?_
        rintro e w6 ⟨rfl, hb6⟩
        replace hb := below_more hb hb6
        clear hb6
        go_wp2_with fail
        refine (awake8_any _ (HG.out.below hb)).mono ?_
        rintro e w1 ⟨rfl, hb1⟩
        replace hb := below_more hb hb1
        clear hb1
        go_wp2_with fail
        go_ret
        exact ⟨rfl, hb⟩
  | false =>
    have HM := Lib.hid hma
    cases hco : covB a b with
    | true =>
      have HC := Lib.hid hco
      clear hma hco
      go_enter Tryd.func6, Tryd.ntmps6
      go_wp2_with fail
      refine (hubs_eq a n X _ (HG.out.below hb) (by omega) HX.out).mono ?_
      rintro e w4 ⟨A1, c1, rfl, hs1, hcc1, hb2⟩
      replace hb := below_more hb hb2
      clear hb2 hcc1
      go_wp2_with fail
      refine (hubs_eq b n Y _ (HG.out.below hb) (by omega) HY.out).mono ?_
      rintro e w5 ⟨A2, c2, rfl, hs2, hcc2, hb2⟩
      replace hb := below_more hb hb2
      replace hs1 := hs1.below hb2
      clear hb2 hcc2
      rw [HXL.out] at hs1 ⊢
      rw [HYL.out] at hs2 ⊢
      go_wp2_with fail
      refine (tpMatch_eq a b false _ (HG.out.below hb) (by omega) (by omega) HM.out).mono ?_
      rintro e w6 ⟨rfl, hb6⟩
      replace hb := below_more hb hb6
      replace hs1 := hs1.below hb6
      replace hs2 := hs2.below hb6
      clear hb6
      go_wp2_with fail
      refine (tpCovers_eq a b true _ (HG.out.below hb) (by omega) (by omega) HC.out).mono ?_
      rintro e w8 ⟨rfl, hb8⟩
      replace hb := below_more hb hb8
      replace hs1 := hs1.below hb8
      replace hs2 := hs2.below hb8
      clear hb8
      have HS1 := Lib.hid hs1
      have HS2 := Lib.hid hs2
      clear hs1 hs2
      go_wp2_with fail
      go_loop [9] (fun i => ∃ k : Nat, i = .int .i64 k ∧ k ≤ ny) (fun i => ny - (intOf i).toNat)
      case atStart => exact ⟨0, rfl, by omega⟩
      case round =>
        obtain ⟨k, rfl, hk⟩ := hrel
        by_cases hlt : k < ny
        · obtain ⟨b1, o1, y, rfl, hy, hcy⟩ := HS2.out.at_ hlt
          have HK := Lib.hid (M2.out HC.out k y hy)
          clear hy
          go_wp2_with fail
          refine (hasI_eq _ nx c1 X y true _ HS1.out (by omega) HK.out).mono ?_
          rintro e w9 ⟨rfl, rfl⟩
          go_wp2_with fail
          go_round
          case rel => exact ⟨k + 1, by go_num, by omega⟩
          case measure => simp [intOf]; omega
        · skip
          go_wp2_with fail
          refine (tpFilter_eq a f _ (HG.out.below hb) (by omega) HF.out).mono ?_
          rintro e w6 ⟨rfl, hb6⟩
          replace hb := below_more hb hb6
          clear hb6
          go_wp2_with fail
          refine (awake8_any _ (HG.out.below hb)).mono ?_
          rintro e w1 ⟨rfl, hb1⟩
          replace hb := below_more hb hb1
          clear hb1
          go_wp2_with fail
          go_ret
          exact ⟨rfl, hb⟩
    | false =>
      have HC := Lib.hid hco
      clear hma hco
      go_enter Tryd.func6, Tryd.ntmps6
      go_wp2_with fail
      refine (hubs_eq a n X _ (HG.out.below hb) (by omega) HX.out).mono ?_
      rintro e w4 ⟨A1, c1, rfl, hs1, hcc1, hb2⟩
      replace hb := below_more hb hb2
      clear hb2 hcc1
      go_wp2_with fail
      refine (hubs_eq b n Y _ (HG.out.below hb) (by omega) HY.out).mono ?_
      rintro e w5 ⟨A2, c2, rfl, hs2, hcc2, hb2⟩
      replace hb := below_more hb hb2
      replace hs1 := hs1.below hb2
      clear hb2 hcc2
      rw [HXL.out] at hs1 ⊢
      rw [HYL.out] at hs2 ⊢
      clear hs1 hs2
      go_wp2_with fail
      refine (tpMatch_eq a b false _ (HG.out.below hb) (by omega) (by omega) HM.out).mono ?_
      rintro e w6 ⟨rfl, hb6⟩
      replace hb := below_more hb hb6
      clear hb6
      go_wp2_with fail
      refine (tpCovers_eq a b false _ (HG.out.below hb) (by omega) (by omega) HC.out).mono ?_
      rintro e w8 ⟨rfl, hb8⟩
      replace hb := below_more hb hb8
      clear hb8
      go_wp2_with fail
      refine (tpFilter_eq a f _ (HG.out.below hb) (by omega) HF.out).mono ?_
      rintro e w6 ⟨rfl, hb6⟩
      replace hb := below_more hb hb6
      clear hb6
      go_wp2_with fail
      refine (awake8_any _ (HG.out.below hb)).mono ?_
      rintro e w1 ⟨rfl, hb1⟩
      replace hb := below_more hb hb1
      clear hb1
      go_wp2_with fail
      go_ret
      exact ⟨rfl, hb⟩
theorem walk (w : World) (hG : Glo w) (a : List UInt8) (ha : a.length ≤ 9223372036854775807) (b : List UInt8) (hb9 : b.length ≤ 9223372036854775807) (n : Int) (hn : (Lit.int .i64 n).wf = true) :
    Calls Tryd.prog 6 #[.string ⟨a.toArray⟩, .string ⟨b.toArray⟩, .int .i64 n] w fun e w' => e = .returned (.bool true) ∧ Below w.heap.size w w' := by
  clear hn
  by_cases h1 : 2000 < a.length
  · have i1 : (2000 : Int) < (a.length : Int) := by omega
    have hb : Below w.heap.size w w := Below.refl _ _
    have HG := Lib.hid hG
    clear hG
    go_enter Tryd.func6, Tryd.ntmps6
    go_wp2_with fail
    refine (awake8_any _ (HG.out.below hb)).mono ?_
    rintro e w1 ⟨rfl, hb1⟩
    replace hb := below_more hb hb1
    clear hb1
    go_wp2_with fail
    go_ret
    exact ⟨rfl, hb⟩
  by_cases h2 : 2000 < b.length
  · have i1 : ¬ (2000 : Int) < (a.length : Int) := by omega
    have i2 : (2000 : Int) < (b.length : Int) := by omega
    have hb : Below w.heap.size w w := Below.refl _ _
    have HG := Lib.hid hG
    clear hG
    go_enter Tryd.func6, Tryd.ntmps6
    go_wp2_with fail
    refine (awake8_any _ (HG.out.below hb)).mono ?_
    rintro e w1 ⟨rfl, hb1⟩
    replace hb := below_more hb hb1
    clear hb1
    go_wp2_with fail
    go_ret
    exact ⟨rfl, hb⟩
  by_cases h3 : n < 1
  · have i1 : ¬ (2000 : Int) < (a.length : Int) := by omega
    have i2 : ¬ (2000 : Int) < (b.length : Int) := by omega
    have hb : Below w.heap.size w w := Below.refl _ _
    have HG := Lib.hid hG
    clear hG
    go_enter Tryd.func6, Tryd.ntmps6
    go_wp2_with fail
    refine (awake8_any _ (HG.out.below hb)).mono ?_
    rintro e w1 ⟨rfl, hb1⟩
    replace hb := below_more hb hb1
    clear hb1
    go_wp2_with fail
    go_ret
    exact ⟨rfl, hb⟩
  by_cases h4 : 64 < n
  · have i1 : ¬ (2000 : Int) < (a.length : Int) := by omega
    have i2 : ¬ (2000 : Int) < (b.length : Int) := by omega
    have hb : Below w.heap.size w w := Below.refl _ _
    have HG := Lib.hid hG
    clear hG
    go_enter Tryd.func6, Tryd.ntmps6
    go_wp2_with fail
    refine (awake8_any _ (HG.out.below hb)).mono ?_
    rintro e w1 ⟨rfl, hb1⟩
    replace hb := below_more hb hb1
    clear hb1
    go_wp2_with fail
    go_ret
    exact ⟨rfl, hb⟩
  exact walkIn w hG a (by omega) b (by omega) n (by omega) (by omega)
set_option maxRecDepth 100000 in
theorem lifted (os : Os) (started : os.Started) (H : Type) (enc : TypeId × Value → H) :
    ReturnsInHanded {} Tryd.checked os 6 .any (fun w args => (Rows.shardTakesSpec.pre enc Tryd.prog Tryd.f6 [] false w args ∧ laidMetH Tryd.prog laidL w) ∧ sizedMet enc Tryd.prog Tryd.f6 (OpenSpec.ofChange Rows.shardTakesSpec) false w args)
      (Rows.shardTakesSpec.post enc Tryd.prog Tryd.f6 false true false false) := by
  refine handed_laid (C := Tryd.checked) (X := fun w _ => laidMetH Tryd.prog laidL w) own_none started (by kernel_rfl) Tryd.func6 (laid_witness os Rows.shardTakesSpec #[.string ByteArray.empty, .string ByteArray.empty, .int .i64 0] (by kernel_rfl) (by kernel_rfl) (by kernel_rfl)) ?_
  intro W base args ds gs before hval0 hW hsh
  have hval : ∀ (j : Nat) t v, Tryd.f6.params[j]? = some t → args[j]? = some v → Value.okWide Tryd.prog W .any base t v := hval0
  have hWk := hW
  obtain ⟨p, q, hA0, hV, hbef, _, _⟩ := hWk
  have hA : DataW.TrodAll enc Tryd.prog W 0 (fun _ => true) true Tryd.f6.params.toList args.toList ds p := hA0
  obtain ⟨rfl, rfl⟩ := trodVars_none hV
  rw [Tryd.params6] at hA hval
  obtain ⟨v0, vs0, d0, ds0, p0, q0, hargs, rfl, hp0, h0, r0⟩ := trodAll_cons hA
  obtain ⟨v1, vs1, d1, ds1, p1, q1, rfl, rfl, hp1, h1, r1⟩ := trodAll_cons r0
  obtain ⟨v2, vs2, d2, ds2, p2, q2, rfl, rfl, hp2, h2, r2⟩ := trodAll_cons r1
  obtain ⟨rfl, rfl, hpn⟩ := trodAll_nil r2
  obtain rfl : args = #[v0, v1, v2] := by cases args; simp_all
  obtain ⟨s0, rfl, rfl, hx0, w0⟩ := open_string Tryd.underlying9 (hval 0 9 v0 rfl rfl) h0
  obtain ⟨a0, rfl, hl0⟩ := str_of s0
  obtain ⟨s1, rfl, rfl, hx1, w1⟩ := open_string Tryd.underlying9 (hval 1 9 v1 rfl rfl) h1
  obtain ⟨a1, rfl, hl1⟩ := str_of s1
  obtain ⟨a2, rfl, rfl, hx2, w2⟩ := open_int Tryd.underlying3 (hval 2 3 v2 rfl rfl) h2
  refine (walk W (glo_of hsh) a0 (by unfold maxLen at w0; omega) a1 (by unfold maxLen at w1; omega) a2 w2).mono fun e W' ⟨he, hg⟩ => ?_
  subst he
  exact ⟨_, rfl, law_post laid_out (by kernel_rfl) rfl (by kernel_rfl) Tryd.underlying4 hW rfl hg⟩

theorem over : Rows.shardTakesRow.holds Tryd.pinned (OpenSpec.ofChange Rows.shardTakesSpec) :=
  OpenClaim.holds_of_wide 6 Tryd.f6 rfl rfl rfl rfl rfl rfl rfl ⟨rfl, rfl, rfl, rfl, rfl⟩ rfl rfl rfl rfl rfl (by kernel_rfl) Tryd.func6 (by kernel_rfl)
    (of_decide_eq_true (by kernel_rfl)) (by unfold Func.isWrapper; first | (rw [if_pos (by decide +kernel)]; kernel_rfl) | (rw [if_neg (by decide +kernel)]; exact ⟨rfl, rfl⟩))
    (fun os started H enc _ => lifted os started H enc)

/-- THE STATEMENT: the card. -/
theorem proved : Rows.ShardTakesCardSaid :=
  Claim7.holds_tied_plain_at .later [] [.data, .pinned] true Rows.shardTakesCard.stood.harness false over (fun _ h => by cases h) (by kernel_rfl) (fun _ h => by cases h) shardTakes_row_tie rfl ⟨rfl, rfl⟩ (by kernel_rfl) rfl
    (fun f fn hf hfn => by
      obtain rfl : f = 6 := Option.some.inj ((show Tryd.prog.funcNamed Rows.shardTakesRow.func = some 6 by kernel_rfl).symm.trans hf) |>.symm
      obtain rfl : fn = Tryd.f6 := (Option.some.inj (Tryd.func6.symm.trans hfn)).symm
      exact ⟨by kernel_rfl, fun j t ht => by
        have hm : t ∈ Tryd.f6.params.toList := by simpa using Array.mem_of_getElem? ht
        have hall : (Tryd.f6.params.toList.all fun u => !Tryd.prog.wantsStandIn u) = true := by kernel_rfl
        exact (show Tryd.prog.wantsStandIn t = false by simpa using List.all_eq_true.1 hall t hm)⟩)
    (by kernel_rfl)
end lawShardTakes
end Go.Proofs.YtiiojdlmbfkkhaaDoor
