/-
  TextNever: a byte that stands in no text makes none; a letter between two texts is one character more.
-/
import Derived.Test.YteanfkgnhjmodaaTextLaw
set_option linter.unusedSimpArgs false
set_option linter.unusedVariables false
namespace Go.Proofs.Yteanfkgnhjmodaa
open Go.RowKit

theorem neverR (p q : List UInt8) (c : UInt8) (h : neverB c = true) : cntR (p ++ c :: q) = -1 := by
  unfold cntR; split
  · rfl
  · exact cntI_none _ (neverT p q c h)
theorem noneR' (l : List UInt8) (h : cntT l = none) : cntR l = -1 := by
  unfold cntR; split
  · rfl
  · exact cntI_none l h
theorem valB_neg (l : List UInt8) (h : cntR l = -1) : valB l = false := by unfold valB; rw [h]; rfl

set_option maxRecDepth 100000 in
theorem textNever_great (l : List UInt8) (at_ : Int) (c : Int) (w : World) (h : 3000 < l.length) :
    Calls Try.prog 8 #[.string ⟨l.toArray⟩, .int .u16 at_, .int .u8 c] w fun e w' => e = .returned (.bool true) ∧ Below w.heap.size w w' := by
  have hb : Below w.heap.size w w := Below.refl _ _
  go_enter Try.func8, Try.ntmps8
  go_wp2_with fail
  refine (tgreat_yes l _ h).mono ?_
  rintro e w1 ⟨rfl, rfl⟩
  go_wp2_with fail
  refine (tawake_any _).mono ?_
  rintro e w1 ⟨rfl, hb1⟩
  replace hb := below_more hb hb1
  clear hb1
  go_wp2_with fail
  go_ret
  exact ⟨rfl, hb⟩

set_option maxRecDepth 100000 in
set_option maxHeartbeats 1000000 in
theorem textNever_go (l : List UInt8) (at_ c : Int) (w : World) (hat : 0 ≤ at_) (hat2 : at_ ≤ 65535) (hc0 : 0 ≤ c) (hc1 : c ≤ 255) (hl : l.length ≤ 3000) :
    Calls Try.prog 8 #[.string ⟨l.toArray⟩, .int .u16 at_, .int .u8 c] w fun e w' => e = .returned (.bool true) ∧ Below w.heap.size w w' := by
  have hb : Below w.heap.size w w := Below.refl _ _
  obtain ⟨k, hk, hkl⟩ : ∃ k : Nat, at_ % ((l.length : Int) + 1) = k ∧ k ≤ l.length := ⟨(at_ % ((l.length : Int) + 1)).toNat, by have := Int.emod_nonneg at_ (show (l.length : Int) + 1 ≠ 0 from by omega); omega, by have := Int.emod_lt_of_pos at_ (show 0 < (l.length : Int) + 1 from by omega); omega⟩
  have HK := Lib.hid hk
  clear hk
  go_enter Try.func8, Try.ntmps8
  go_wp2_with fail
  refine (tgreat_no l _ hl).mono ?_
  rintro e w1 ⟨rfl, rfl⟩
  go_wp2_with fail
  rw [HK.out]
  have hcv := fun W => conv_new1 (P := Try.prog) (S := 9) Try.underlying26 Try.underlying5 Try.underlying9 W c (by omega) (by omega)
  have hcvd := fun W => conv_new1d (P := Try.prog) (S := 9) Try.underlying26 Try.underlying5 Try.underlying9 W c (by omega) (by omega)
  have had1 := fun W => add_str (P := Try.prog) W (l.take k) [toB c] (by simp; omega)
  have had2 := fun W => add_str (P := Try.prog) W (l.take k ++ [toB c]) (l.drop k) (by simp; omega)
  go_region
  clear hcv hcvd had1 had2
  replace hb : Below w.heap.size w (w.alloc (.cells #[.int .u8 c] 5)).drew := (below_alloc hb _).drew
  have HCB : Hid (((toB c).toNat : Int) = c) := toB_toNat c hc0 (by omega)
  by_cases h0 : c = 0
  · subst h0
    go_wp2_with fail
    go_wp2_with fail
    refine (textValid_eq _ false _ (by simp; omega) (valB_neg _ (neverR _ _ _ (by decide)))).mono ?_
    rintro e w1 ⟨rfl, hb1⟩
    replace hb := below_more hb hb1
    clear hb1
    go_wp2_with fail
    refine (textCount_eq _ (-1) _ (by simp; omega) (neverR _ _ _ (by decide))).mono ?_
    rintro e w1 ⟨rfl, hb1⟩
    replace hb := below_more hb hb1
    clear hb1
    go_wp2_with fail
    refine (tawake_any _).mono ?_
    rintro e w1 ⟨rfl, hb1⟩
    replace hb := below_more hb hb1
    clear hb1
    go_wp2_with fail
    go_ret
    exact ⟨rfl, hb⟩
  by_cases h192 : c = 192
  · subst h192
    clear h0
    go_wp2_with fail
    go_wp2_with fail
    refine (textValid_eq _ false _ (by simp; omega) (valB_neg _ (neverR _ _ _ (by decide)))).mono ?_
    rintro e w1 ⟨rfl, hb1⟩
    replace hb := below_more hb hb1
    clear hb1
    go_wp2_with fail
    refine (textCount_eq _ (-1) _ (by simp; omega) (neverR _ _ _ (by decide))).mono ?_
    rintro e w1 ⟨rfl, hb1⟩
    replace hb := below_more hb hb1
    clear hb1
    go_wp2_with fail
    refine (tawake_any _).mono ?_
    rintro e w1 ⟨rfl, hb1⟩
    replace hb := below_more hb hb1
    clear hb1
    go_wp2_with fail
    go_ret
    exact ⟨rfl, hb⟩
  by_cases h193 : c = 193
  · subst h193
    clear h0 h192
    go_wp2_with fail
    go_wp2_with fail
    refine (textValid_eq _ false _ (by simp; omega) (valB_neg _ (neverR _ _ _ (by decide)))).mono ?_
    rintro e w1 ⟨rfl, hb1⟩
    replace hb := below_more hb hb1
    clear hb1
    go_wp2_with fail
    refine (textCount_eq _ (-1) _ (by simp; omega) (neverR _ _ _ (by decide))).mono ?_
    rintro e w1 ⟨rfl, hb1⟩
    replace hb := below_more hb hb1
    clear hb1
    go_wp2_with fail
    refine (tawake_any _).mono ?_
    rintro e w1 ⟨rfl, hb1⟩
    replace hb := below_more hb hb1
    clear hb1
    go_wp2_with fail
    go_ret
    exact ⟨rfl, hb⟩
  have b0 : (c == 0) = false := by simp; omega
  have b1 : (c == 192) = false := by simp; omega
  have b2 : (c == 193) = false := by simp; omega
  have H0 : Hid (c ≠ 0 ∧ c ≠ 192 ∧ c ≠ 193) := ⟨h0, h192, h193⟩
  clear h0 h192 h193
  by_cases h245 : 245 ≤ c
  · have HNB : Hid (neverB (toB c) = true) := by
      show _ = _
      have := HCB.out
      simp [neverB]; omega
    go_wp2_with fail
    go_wp2_with fail
    refine (textValid_eq _ false _ (by simp; omega) (valB_neg _ (neverR _ _ _ HNB.out))).mono ?_
    rintro e w1 ⟨rfl, hb1⟩
    replace hb := below_more hb hb1
    clear hb1
    go_wp2_with fail
    refine (textCount_eq _ (-1) _ (by simp; omega) (neverR _ _ _ HNB.out)).mono ?_
    rintro e w1 ⟨rfl, hb1⟩
    replace hb := below_more hb hb1
    clear hb1
    go_wp2_with fail
    refine (tawake_any _).mono ?_
    rintro e w1 ⟨rfl, hb1⟩
    replace hb := below_more hb hb1
    clear hb1
    go_wp2_with fail
    go_ret
    exact ⟨rfl, hb⟩
  have h245' : c < 245 := by omega
  clear h245
  by_cases h128 : c < 128
  · have HL : Hid ((toB c).toNat < 128 ∧ (toB c).toNat ≠ 0) := by
      have := HCB.out
      have := H0.out.1
      exact ⟨by omega, by omega⟩
    cases hv1 : valB (l.take k) with
    | false =>
      have HN := Lib.hid (noneR' _ (besideT (l.take k) (l.drop k) (toB c) HL.out.1 HL.out.2 (Or.inl (valB_none _ hv1 (by simp; omega)))))
      have HV := Lib.hid hv1
      clear hv1
      go_wp2_with fail
      go_wp2_with fail
      refine (textValid_eq _ false _ (by simp; omega) HV.out).mono ?_
      rintro e w1 ⟨rfl, hb1⟩
      replace hb := below_more hb hb1
      clear hb1
      go_wp2_with fail
      refine (textValid_eq _ false _ (by simp; omega) (valB_neg _ HN.out)).mono ?_
      rintro e w1 ⟨rfl, hb1⟩
      replace hb := below_more hb hb1
      clear hb1
      go_wp2_with fail
      refine (tawake_any _).mono ?_
      rintro e w1 ⟨rfl, hb1⟩
      replace hb := below_more hb hb1
      clear hb1
      go_wp2_with fail
      go_ret
      exact ⟨rfl, hb⟩
    | true =>
      cases hv2 : valB (l.drop k) with
      | false =>
        have HN := Lib.hid (noneR' _ (besideT (l.take k) (l.drop k) (toB c) HL.out.1 HL.out.2 (Or.inr (valB_none _ hv2 (by simp; omega)))))
        have HV := Lib.hid hv1
        have HV2 := Lib.hid hv2
        clear hv1 hv2
        go_wp2_with fail
        go_wp2_with fail
        refine (textValid_eq _ true _ (by simp; omega) HV.out).mono ?_
        rintro e w1 ⟨rfl, hb1⟩
        replace hb := below_more hb hb1
        clear hb1
        go_wp2_with fail
        refine (textValid_eq _ false _ (by simp; omega) HV2.out).mono ?_
        rintro e w1 ⟨rfl, hb1⟩
        replace hb := below_more hb hb1
        clear hb1
        go_wp2_with fail
        refine (textValid_eq _ false _ (by simp; omega) (valB_neg _ HN.out)).mono ?_
        rintro e w1 ⟨rfl, hb1⟩
        replace hb := below_more hb hb1
        clear hb1
        go_wp2_with fail
        refine (tawake_any _).mono ?_
        rintro e w1 ⟨rfl, hb1⟩
        replace hb := below_more hb hb1
        clear hb1
        go_wp2_with fail
        go_ret
        exact ⟨rfl, hb⟩
      | true =>
        obtain ⟨i, hi, _, _⟩ := valB_some _ hv1
        obtain ⟨j, hj, _, _⟩ := valB_some _ hv2
        have hle := cntT_le _ _ _ (Nat.le_refl _) hi
        have hle2 := cntT_le _ _ _ (Nat.le_refl _) hj
        rw [List.length_take] at hle
        rw [List.length_drop] at hle2
        have HT : Hid (cntR (l.take k ++ toB c :: l.drop k) = (i : Int) + j + 1) := by
          show _ = _
          rw [cntR_small _ (by simp; omega), cntI_some _ _ (betweenT _ _ _ HL.out.1 HL.out.2 i j hi hj)]
          simp
        have HS : Hid (cntR l = (i : Int) + j) := by
          show _ = _
          have := sumT _ _ i j hi hj
          rw [List.take_append_drop] at this
          rw [cntR_small _ (by omega), cntI_some _ _ this]
          simp
        have HV := Lib.hid hv1
        have HV2 := Lib.hid hv2
        clear hv1 hv2 hi hj
        have hij : (i : Int) + j ≤ 6000 := by omega
        have hij0 : 0 ≤ (i : Int) + j := by omega
        clear hle hle2
        go_wp2_with fail
        go_wp2_with fail
        refine (textValid_eq _ true _ (by simp; omega) HV.out).mono ?_
        rintro e w1 ⟨rfl, hb1⟩
        replace hb := below_more hb hb1
        clear hb1
        go_wp2_with fail
        refine (textValid_eq _ true _ (by simp; omega) HV2.out).mono ?_
        rintro e w1 ⟨rfl, hb1⟩
        replace hb := below_more hb hb1
        clear hb1
        go_wp2_with fail
        refine (textCount_eq _ _ _ (by simp; omega) HT.out).mono ?_
        rintro e w1 ⟨rfl, hb1⟩
        replace hb := below_more hb hb1
        clear hb1
        go_wp2_with fail
        refine (textCount_eq l _ _ (by omega) HS.out).mono ?_
        rintro e w1 ⟨rfl, hb1⟩
        replace hb := below_more hb hb1
        clear hb1
        go_wp2_with fail
        refine (tawake_any _).mono ?_
        rintro e w1 ⟨rfl, hb1⟩
        replace hb := below_more hb hb1
        clear hb1
        go_wp2_with fail
        go_ret
        exact ⟨rfl, hb⟩
  have h128' : 128 ≤ c := by omega
  clear h128
  by_cases h191 : 191 < c
  · go_wp2_with fail
    go_wp2_with fail
    refine (tawake_any _).mono ?_
    rintro e w1 ⟨rfl, hb1⟩
    replace hb := below_more hb hb1
    clear hb1
    go_wp2_with fail
    go_ret
    exact ⟨rfl, hb⟩
  have h191' : c ≤ 191 := by omega
  clear h191
  by_cases hk0 : 0 < k
  · have hk1 : decide (0 < (k : Int)) = true := by simp; omega
    go_wp2_with fail
    go_wp2_with fail
    refine (tawake_any _).mono ?_
    rintro e w1 ⟨rfl, hb1⟩
    replace hb := below_more hb hb1
    clear hb1
    go_wp2_with fail
    go_ret
    exact ⟨rfl, hb⟩
  · obtain rfl : k = 0 := by omega
    have HC : Hid (contB (toB c) = true) := by
      show _ = _
      have := HCB.out
      rw [cont_iff]; omega
    go_wp2_with fail
    go_wp2_with fail
    refine (textValid_eq _ false _ (by simp; omega) (valB_neg _ (noneR' _ (cntT_cont _ _ HC.out)))).mono ?_
    rintro e w1 ⟨rfl, hb1⟩
    replace hb := below_more hb hb1
    clear hb1
    go_wp2_with fail
    refine (tawake_any _).mono ?_
    rintro e w1 ⟨rfl, hb1⟩
    replace hb := below_more hb hb1
    clear hb1
    go_wp2_with fail
    go_ret
    exact ⟨rfl, hb⟩
end Go.Proofs.Yteanfkgnhjmodaa

namespace Go.Proofs.Yteanfkgnhjmodaa.lawTextNever
open Go.RowKit Go.ChangeShapes Go.WideShapes Go.ChangeAt
open Go.ChangeMaps (open_string shut_string)
theorem walk (w : World) (a : List UInt8) (_ha : a.length ≤ 9223372036854775807) (n : Int) (wf : (Lit.int .u16 n).wf = true) (c : Int) (wf2 : (Lit.int .u8 c).wf = true) :
    Calls Try.prog 8 #[.string ⟨a.toArray⟩, .int .u16 n, .int .u8 c] w fun e w' => e = .returned (.bool true) ∧ Below w.heap.size w w' := by
  by_cases h : 3000 < a.length
  · exact textNever_great a n c w h
  · have hu := u16_bd n wf
    have hu2 := u8_bd c wf2
    exact textNever_go a n c w hu.1 hu.2 hu2.1 hu2.2 (by omega)
set_option maxRecDepth 100000 in
theorem lifted (os : Os) (started : os.Started) (H : Type) (enc : TypeId × Value → H) :
    ReturnsInHanded {} Try.checked os 8 .any (Rows.textNeverSpec.pre6 enc Try.prog Try.f8 Rows.textNeverRow.domain false) (Rows.textNeverSpec.post enc Try.prog Try.f8 false true false false) := by
  refine returnsInHanded_of_change (C := Try.checked) own_none started (by kernel_rfl) Try.func8
    (ChangeSpec.witness6 (enc := enc) (C := Try.checked) false ⟨#[], #[.string ByteArray.empty, .int .u16 0, .int .u8 0], []⟩ 8 (by kernel_rfl) (by kernel_rfl) (by kernel_rfl) (by kernel_rfl)) ?_
  intro W base args ds gs before hval0 hW hcnd _
  have hval : ∀ (j : Nat) t v, Try.f8.params[j]? = some t → args[j]? = some v → Value.okWide Try.prog W .any base t v := hval0
  have hWk := hW
  obtain ⟨p, q, hA0, hV, hbef, _, _⟩ := hWk
  have hA : DataW.TrodAll enc Try.prog W 0 (fun _ => true) true Try.f8.params.toList args.toList ds p := hA0
  obtain ⟨rfl, rfl⟩ := trodVars_none hV
  rw [Try.params8] at hA hval
  obtain ⟨v0, vs0, d0, ds0, p0, q0, hargs, rfl, hp0, h0, r0⟩ := trodAll_cons hA
  obtain ⟨v1, vs1, d1, ds1, p1, q1, rfl, rfl, hp1, h1, r1⟩ := trodAll_cons r0
  obtain ⟨v2, vs2, d2, ds2, p2, q2, rfl, rfl, hp2, h2, r2⟩ := trodAll_cons r1
  obtain ⟨rfl, rfl, hpn⟩ := trodAll_nil r2
  obtain rfl : args = #[v0, v1, v2] := by cases args; simp_all
  obtain ⟨s0, rfl, rfl, hx0, w0⟩ := open_string Try.underlying9 (hval 0 9 v0 rfl rfl) h0
  obtain ⟨a0, rfl, hl0⟩ := str_of s0
  obtain ⟨a1, rfl, rfl, hx1, w1⟩ := open_int Try.underlying40 (hval 1 40 v1 rfl rfl) h1
  obtain ⟨a2, rfl, rfl, hx2, w2⟩ := open_int Try.underlying5 (hval 2 5 v2 rfl rfl) h2
  refine (walk W a0 (by unfold maxLen at w0; omega) a1 w1 a2 w2).mono fun e W' ⟨he, hg⟩ => ?_
  subst he
  exact ⟨_, rfl, law_post laid_out (by kernel_rfl) rfl (by kernel_rfl) Try.underlying4 hW rfl hg⟩

theorem over : Rows.textNeverRow.holds Try.pinned (OpenSpec.ofChange Rows.textNeverSpec) :=
  OpenClaim.holds_of_wide 8 Try.f8 rfl rfl rfl rfl rfl rfl rfl ⟨rfl, rfl, rfl, rfl, rfl⟩ rfl rfl rfl rfl rfl (by kernel_rfl) Try.func8 (by kernel_rfl)
    (of_decide_eq_true (by kernel_rfl)) (by unfold Func.isWrapper; first | (rw [if_pos (by decide +kernel)]; kernel_rfl) | (rw [if_neg (by decide +kernel)]; exact ⟨rfl, rfl⟩))
    (fun os started H enc _ => lifted os started H enc)

/-- THE STATEMENT. -/
theorem proved : Rows.TextNeverSaid :=
  over
end Go.Proofs.Yteanfkgnhjmodaa.lawTextNever
