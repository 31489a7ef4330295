/-
  TextBack: what is put is got again.
-/
import Derived.Test.YteanfkgnhjmodaaTextLaw
set_option linter.unusedSimpArgs false
set_option linter.unusedVariables false
namespace Go.Proofs.Yteanfkgnhjmodaa
open Go.RowKit

theorem put2_no1 (a b : List UInt8) (hv : valB a = false) : putR [a, b] = ([], 5) := put_no [a, b] 0 a rfl hv
theorem put2_no2 (a b : List UInt8) (hv : valB b = false) : putR [a, b] = ([], 5) := put_no [a, b] 1 b rfl hv
theorem put2_yes (a b : List UInt8) (h1 : valB a = true) (h2 : valB b = true) : putR [a, b] = (fieldL a ++ fieldL b, 0) := by
  rw [put_yes [a, b] (by simp [h1, h2])]; simp

set_option maxRecDepth 100000 in
theorem textBack_great (a b r : List UInt8) (at_ : Int) (w : World) (h : 3000 < a.length ∨ 3000 < b.length ∨ 3000 < r.length) :
    Calls Try.prog 6 #[.string ⟨a.toArray⟩, .string ⟨b.toArray⟩, .string ⟨r.toArray⟩, .int .u16 at_] w fun e w' => e = .returned (.bool true) ∧ Below w.heap.size w w' := by
  have hb : Below w.heap.size w w := Below.refl _ _
  by_cases ha : 3000 < a.length
  · clear h
    go_enter Try.func6, Try.ntmps6
    go_wp2_with fail
    refine (tgreat_yes a _ ha).mono ?_
    rintro e w1 ⟨rfl, rfl⟩
    go_wp2_with fail
    refine (tawake_any _).mono ?_
    rintro e w1 ⟨rfl, hb1⟩
    replace hb := below_more hb hb1
    clear hb1
    go_wp2_with fail
    go_ret
    exact ⟨rfl, hb⟩
  · by_cases hbb : 3000 < b.length
    · clear h
      go_enter Try.func6, Try.ntmps6
      go_wp2_with fail
      refine (tgreat_no a _ (by omega)).mono ?_
      rintro e w1 ⟨rfl, rfl⟩
      go_wp2_with fail
      refine (tgreat_yes b _ hbb).mono ?_
      rintro e w1 ⟨rfl, rfl⟩
      go_wp2_with fail
      refine (tawake_any _).mono ?_
      rintro e w1 ⟨rfl, hb1⟩
      replace hb := below_more hb hb1
      clear hb1
      go_wp2_with fail
      go_ret
      exact ⟨rfl, hb⟩
    · have hr : 3000 < r.length := by omega
      clear h
      go_enter Try.func6, Try.ntmps6
      go_wp2_with fail
      refine (tgreat_no a _ (by omega)).mono ?_
      rintro e w1 ⟨rfl, rfl⟩
      go_wp2_with fail
      refine (tgreat_no b _ (by omega)).mono ?_
      rintro e w1 ⟨rfl, rfl⟩
      go_wp2_with fail
      refine (tgreat_yes r _ hr).mono ?_
      rintro e w1 ⟨rfl, rfl⟩
      go_wp2_with fail
      refine (tawake_any _).mono ?_
      rintro e w1 ⟨rfl, hb1⟩
      replace hb := below_more hb hb1
      clear hb1
      go_wp2_with fail
      go_ret
      exact ⟨rfl, hb⟩
set_option maxRecDepth 100000 in
set_option maxHeartbeats 1000000 in
theorem textBack_go (a b r : List UInt8) (at_ : Int) (w : World) (hat : 0 ≤ at_) (hat2 : at_ ≤ 65535) (ha : a.length ≤ 3000) (hbl : b.length ≤ 3000) (hr : r.length ≤ 3000) :
    Calls Try.prog 6 #[.string ⟨a.toArray⟩, .string ⟨b.toArray⟩, .string ⟨r.toArray⟩, .int .u16 at_] w fun e w' => e = .returned (.bool true) ∧ Below w.heap.size w w' := by
  have hb : Below w.heap.size w w := Below.refl _ _
  have hfa := fieldL_len a
  have hfb := Lib.hid (fieldL_len b)
  obtain ⟨k, hk, hkl⟩ : ∃ k : Nat, at_ % ((a.length : Int) + 2) = k ∧ k < a.length + 2 := ⟨(at_ % ((a.length : Int) + 2)).toNat, by have := Int.emod_nonneg at_ (show (a.length : Int) + 2 ≠ 0 from by omega); omega, by have := Int.emod_lt_of_pos at_ (show 0 < (a.length : Int) + 2 from by omega); omega⟩
  have HB := Lib.hid (field_back a r (by omega))
  have HC := Lib.hid (field_cut a k (by omega) hkl)
  have had := fun W => add_str (P := Try.prog) W (fieldL a) r (by rw [hfa]; omega)
  go_enter Try.func6, Try.ntmps6
  go_wp2_with fail
  refine (tgreat_no a _ ha).mono ?_
  rintro e w1 ⟨rfl, rfl⟩
  go_wp2_with fail
  refine (tgreat_no b _ hbl).mono ?_
  rintro e w1 ⟨rfl, rfl⟩
  go_wp2_with fail
  refine (tgreat_no r _ hr).mono ?_
  rintro e w1 ⟨rfl, rfl⟩
  go_wp2_with fail
  refine (putData_yes a _ (by omega)).mono ?_
  rintro e w1 ⟨rfl, hb1⟩
  replace hb := below_more hb hb1
  clear hb1
  go_wp2_with fail
  refine (getData_eq (fieldL a ++ r) a _ 0 _ (by simp; omega) HB.out).mono ?_
  rintro e w1 ⟨rfl, hb1⟩
  replace hb := below_more hb hb1
  clear hb1
  go_wp2_with fail
  refine (getData_eq _ [] 0 2 _ (by simp; omega) HC.out).mono ?_
  rintro e w1 ⟨rfl, hb1⟩
  replace hb := below_more hb hb1
  clear hb1
  cases hva : valB a with
  | false =>
    have HP := Lib.hid (put2_no1 a b hva)
    have HV := Lib.hid hva
    clear hva
    go_wp2_with fail
    refine (textPut_eq _ _ _ [a, b] [] 5 _ (strs_new2 _ _ _ _) (by omega) (Lib.hid (by simp; omega)) HP.out).mono ?_
    rintro e w1 ⟨rfl, hb1⟩
    replace hb := below_more (below_alloc hb _) hb1
    clear hb1
    go_wp2_with fail
    refine (textValid_eq a false _ (by omega) HV.out).mono ?_
    rintro e w1 ⟨rfl, hb1⟩
    replace hb := below_more hb hb1
    clear hb1
    go_wp2_with fail
    refine (tawake_any _).mono ?_
    rintro e w1 ⟨rfl, hb1⟩
    replace hb := below_more hb hb1
    clear hb1
    go_wp2_with fail
    go_ret
    exact ⟨rfl, hb⟩
  | true =>
    cases hvb : valB b with
    | false =>
      have HP := Lib.hid (put2_no2 a b hvb)
      have HV := Lib.hid hva
      have HV2 := Lib.hid hvb
      clear hva hvb
      go_wp2_with fail
      refine (textPut_eq _ _ _ [a, b] [] 5 _ (strs_new2 _ _ _ _) (by omega) (Lib.hid (by simp; omega)) HP.out).mono ?_
      rintro e w1 ⟨rfl, hb1⟩
      replace hb := below_more (below_alloc hb _) hb1
      clear hb1
      go_wp2_with fail
      refine (textValid_eq a true _ (by omega) HV.out).mono ?_
      rintro e w1 ⟨rfl, hb1⟩
      replace hb := below_more hb hb1
      clear hb1
      go_wp2_with fail
      refine (textValid_eq b false _ (by omega) HV2.out).mono ?_
      rintro e w1 ⟨rfl, hb1⟩
      replace hb := below_more hb hb1
      clear hb1
      go_wp2_with fail
      refine (tawake_any _).mono ?_
      rintro e w1 ⟨rfl, hb1⟩
      replace hb := below_more hb hb1
      clear hb1
      go_wp2_with fail
      go_ret
      exact ⟨rfl, hb⟩
    | true =>
      have HP := Lib.hid (put2_yes a b hva hvb)
      have HG1 := Lib.hid (get_back a (fieldL b ++ r) hva)
      have HG2 := Lib.hid (get_back b r hvb)
      have HV := Lib.hid hva
      have HV2 := Lib.hid hvb
      clear hva hvb had
      have hsl : ((fieldL a ++ fieldL b) ++ r).length = a.length + b.length + r.length + 4 := by have := hfb.out; simp; omega
      have hsl2 : (fieldL a ++ fieldL b).length = a.length + b.length + 4 := by have := hfb.out; simp; omega
      have HS : Hid ((fieldL a ++ fieldL b) ++ r = fieldL a ++ (fieldL b ++ r)) := by show _ = _; simp
      have HD : Hid (((fieldL a ++ fieldL b) ++ r).drop (a.length + 2) = fieldL b ++ r) := by show _ = _; rw [List.append_assoc, List.drop_left' hfa]
      have hsb := hfb.out
      clear hfa
      obtain ⟨S, hS⟩ : ∃ S, S = fieldL a ++ fieldL b := ⟨_, rfl⟩
      rw [← hS] at HP hsl hsl2 HS HD
      obtain ⟨T, hT⟩ : ∃ T, T = S ++ r := ⟨_, rfl⟩
      rw [← hT] at hsl HS HD
      have had2 : ∀ W, (Op.stringOp .add ⟨S.toArray⟩ ⟨r.toArray⟩).run Try.prog W = .ok (.string ⟨T.toArray⟩) W := by
        intro W; rw [hT]; exact add_str W S r (by omega)
      have HD2 : Hid ((T.take (a.length + b.length + r.length + 4)).drop (a.length + 2) = fieldL b ++ r) := by
        show _ = _
        rw [List.take_of_length_le (by omega), HD.out]
      clear hS hT
      go_wp2_with fail
      refine (textPut_eq _ _ _ [a, b] S 0 _ (strs_new2 _ _ _ _) (by omega) (Lib.hid (by simp; omega)) HP.out).mono ?_
      rintro e w1 ⟨rfl, hb1⟩
      replace hb := below_more (below_alloc hb _) hb1
      clear hb1
      go_wp2_with fail
      refine (textValid_eq a true _ (by omega) HV.out).mono ?_
      rintro e w1 ⟨rfl, hb1⟩
      replace hb := below_more hb hb1
      clear hb1
      go_wp2_with fail
      refine (textValid_eq b true _ (by omega) HV2.out).mono ?_
      rintro e w1 ⟨rfl, hb1⟩
      replace hb := below_more hb hb1
      clear hb1
      go_wp2_with fail
      refine (get_eq T a _ 0 _ (by omega) (by rw [HS.out]; exact HG1.out)).mono ?_
      rintro e w1 ⟨rfl, hb1⟩
      replace hb := below_more hb hb1
      clear hb1
      go_wp2_with fail
      refine (get_eq _ b _ 0 _ (by simp; omega) (by rw [HD2.out]; exact HG2.out)).mono ?_
      rintro e w1 ⟨rfl, hb1⟩
      replace hb := below_more hb hb1
      clear hb1
      go_wp2_with fail
      all_goals first
        | (refine (tawake_any _).mono ?_
           rintro e w2 ⟨rfl, hb2⟩
           replace hb := below_more hb hb2
           go_wp2_with fail
           go_ret
           exact ⟨rfl, hb⟩)
        | (exfalso; rename_i hx; simp at hx; omega)
end Go.Proofs.Yteanfkgnhjmodaa

namespace Go.Proofs.Yteanfkgnhjmodaa.lawTextBack
open Go.RowKit Go.ChangeShapes Go.WideShapes Go.ChangeAt
open Go.ChangeMaps (open_string shut_string)
theorem walk (w : World) (a : List UInt8) (_ha : a.length ≤ 9223372036854775807) (b : List UInt8) (_hb : b.length ≤ 9223372036854775807) (r : List UInt8) (_hr : r.length ≤ 9223372036854775807) (n : Int) (wf : (Lit.int .u16 n).wf = true) :
    Calls Try.prog 6 #[.string ⟨a.toArray⟩, .string ⟨b.toArray⟩, .string ⟨r.toArray⟩, .int .u16 n] w fun e w' => e = .returned (.bool true) ∧ Below w.heap.size w w' := by
  by_cases h : 3000 < a.length ∨ 3000 < b.length ∨ 3000 < r.length
  · exact textBack_great a b r n w h
  · have := u16_bd n wf
    exact textBack_go a b r n w this.1 this.2 (by omega) (by omega) (by omega)
set_option maxRecDepth 100000 in
theorem lifted (os : Os) (started : os.Started) (H : Type) (enc : TypeId × Value → H) :
    ReturnsInHanded {} Try.checked os 6 .any (Rows.textBackSpec.pre6 enc Try.prog Try.f6 Rows.textBackRow.domain false) (Rows.textBackSpec.post enc Try.prog Try.f6 false true false false) := by
  refine returnsInHanded_of_change (C := Try.checked) own_none started (by kernel_rfl) Try.func6
    (ChangeSpec.witness6 (enc := enc) (C := Try.checked) false ⟨#[], #[.string ByteArray.empty, .string ByteArray.empty, .string ByteArray.empty, .int .u16 0], []⟩ 8 (by kernel_rfl) (by kernel_rfl) (by kernel_rfl) (by kernel_rfl)) ?_
  intro W base args ds gs before hval0 hW hcnd _
  have hval : ∀ (j : Nat) t v, Try.f6.params[j]? = some t → args[j]? = some v → Value.okWide Try.prog W .any base t v := hval0
  have hWk := hW
  obtain ⟨p, q, hA0, hV, hbef, _, _⟩ := hWk
  have hA : DataW.TrodAll enc Try.prog W 0 (fun _ => true) true Try.f6.params.toList args.toList ds p := hA0
  obtain ⟨rfl, rfl⟩ := trodVars_none hV
  rw [Try.params6] at hA hval
  obtain ⟨v0, vs0, d0, ds0, p0, q0, hargs, rfl, hp0, h0, r0⟩ := trodAll_cons hA
  obtain ⟨v1, vs1, d1, ds1, p1, q1, rfl, rfl, hp1, h1, r1⟩ := trodAll_cons r0
  obtain ⟨v2, vs2, d2, ds2, p2, q2, rfl, rfl, hp2, h2, r2⟩ := trodAll_cons r1
  obtain ⟨v3, vs3, d3, ds3, p3, q3, rfl, rfl, hp3, h3, r3⟩ := trodAll_cons r2
  obtain ⟨rfl, rfl, hpn⟩ := trodAll_nil r3
  obtain rfl : args = #[v0, v1, v2, v3] := by cases args; simp_all
  obtain ⟨s0, rfl, rfl, hx0, w0⟩ := open_string Try.underlying9 (hval 0 9 v0 rfl rfl) h0
  obtain ⟨a0, rfl, hl0⟩ := str_of s0
  obtain ⟨s1, rfl, rfl, hx1, w1⟩ := open_string Try.underlying9 (hval 1 9 v1 rfl rfl) h1
  obtain ⟨a1, rfl, hl1⟩ := str_of s1
  obtain ⟨s2, rfl, rfl, hx2, w2⟩ := open_string Try.underlying9 (hval 2 9 v2 rfl rfl) h2
  obtain ⟨a2, rfl, hl2⟩ := str_of s2
  obtain ⟨a3, rfl, rfl, hx3, w3⟩ := open_int Try.underlying40 (hval 3 40 v3 rfl rfl) h3
  refine (walk W a0 (by unfold maxLen at w0; omega) a1 (by unfold maxLen at w1; omega) a2 (by unfold maxLen at w2; omega) a3 w3).mono fun e W' ⟨he, hg⟩ => ?_
  subst he
  exact ⟨_, rfl, law_post laid_out (by kernel_rfl) rfl (by kernel_rfl) Try.underlying4 hW rfl hg⟩

theorem over : Rows.textBackRow.holds Try.pinned (OpenSpec.ofChange Rows.textBackSpec) :=
  OpenClaim.holds_of_wide 6 Try.f6 rfl rfl rfl rfl rfl rfl rfl ⟨rfl, rfl, rfl, rfl, rfl⟩ rfl rfl rfl rfl rfl (by kernel_rfl) Try.func6 (by kernel_rfl)
    (of_decide_eq_true (by kernel_rfl)) (by unfold Func.isWrapper; first | (rw [if_pos (by decide +kernel)]; kernel_rfl) | (rw [if_neg (by decide +kernel)]; exact ⟨rfl, rfl⟩))
    (fun os started H enc _ => lifted os started H enc)

/-- THE STATEMENT. -/
theorem proved : Rows.TextBackSaid :=
  over
end Go.Proofs.Yteanfkgnhjmodaa.lawTextBack
