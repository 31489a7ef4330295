/-
  TextPieces: two texts one behind the other are one; a text that is cut is two, or both pieces are none.
-/
import Derived.Test.YteanfkgnhjmodaaTextLaw
set_option linter.unusedSimpArgs false
set_option linter.unusedVariables false
namespace Go.Proofs.Yteanfkgnhjmodaa
open Go.RowKit

set_option maxRecDepth 100000 in
theorem textPieces_great (a b : List UInt8) (at_ : Int) (w : World) (h : 3000 < a.length ∨ 3000 < b.length) :
    Calls Try.prog 7 #[.string ⟨a.toArray⟩, .string ⟨b.toArray⟩, .int .u16 at_] w fun e w' => e = .returned (.bool true) ∧ Below w.heap.size w w' := by
  have hb : Below w.heap.size w w := Below.refl _ _
  by_cases ha : 3000 < a.length
  · clear h
    go_enter Try.func7, Try.ntmps7
    go_wp2_with fail
    refine (tgreat_yes a _ ha).mono ?_
    rintro e w1 ⟨rfl, rfl⟩
    go_wp2_with fail
    refine (tawake_any _).mono ?_
    rintro e w1 ⟨rfl, hb1⟩
    replace hb := below_more hb hb1
    clear hb1
    go_wp2_with fail
    go_ret
    exact ⟨rfl, hb⟩
  · have hbb : 3000 < b.length := by omega
    clear h
    go_enter Try.func7, Try.ntmps7
    go_wp2_with fail
    refine (tgreat_no a _ (by omega)).mono ?_
    rintro e w1 ⟨rfl, rfl⟩
    go_wp2_with fail
    refine (tgreat_yes b _ hbb).mono ?_
    rintro e w1 ⟨rfl, rfl⟩
    go_wp2_with fail
    refine (tawake_any _).mono ?_
    rintro e w1 ⟨rfl, hb1⟩
    replace hb := below_more hb hb1
    clear hb1
    go_wp2_with fail
    go_ret
    exact ⟨rfl, hb⟩
theorem cntR_of (l : List UInt8) (h : l.length ≤ 65535) : (∃ n : Nat, cntT l = some n ∧ cntR l = n ∧ n ≤ l.length ∧ valB l = true) ∨ (cntT l = none ∧ cntR l = -1 ∧ valB l = false) := by
  cases hc : cntT l with
  | some n =>
    have e : cntR l = n := by rw [cntR_small l h, cntI_some l n hc]
    exact Or.inl ⟨n, rfl, e, cntT_le _ l n (Nat.le_refl _) hc, by unfold valB; rw [e]; simp⟩
  | none =>
    have e : cntR l = -1 := by rw [cntR_small l h, cntI_none l hc]
    exact Or.inr ⟨rfl, e, by unfold valB; rw [e]; rfl⟩
theorem sumR (a b : List UInt8) (i j : Nat) (ha : cntT a = some i) (hb : cntT b = some j) (h : (a ++ b).length ≤ 65535) : cntR (a ++ b) = (i : Int) + j := by
  rw [cntR_small _ h, cntI_some _ _ (sumT a b i j ha hb)]; simp
theorem noneR (l : List UInt8) (h : cntT l = none) : cntR l = -1 := by
  unfold cntR; split
  · rfl
  · exact cntI_none l h

set_option maxRecDepth 100000 in
set_option maxHeartbeats 1000000 in
theorem textPieces_none (a b : List UInt8) (at_ : Int) (w : World) (ha : a.length ≤ 3000) (hbl : b.length ≤ 3000) (hn : cntR a = -1) (hv : valB a = false) :
    Calls Try.prog 7 #[.string ⟨a.toArray⟩, .string ⟨b.toArray⟩, .int .u16 at_] w fun e w' => e = .returned (.bool true) ∧ Below w.heap.size w w' := by
  have hb : Below w.heap.size w w := Below.refl _ _
  have HN := Lib.hid hn
  have HV := Lib.hid hv
  clear hn hv
  go_enter Try.func7, Try.ntmps7
  go_wp2_with fail
  refine (tgreat_no a _ ha).mono ?_
  rintro e w1 ⟨rfl, rfl⟩
  go_wp2_with fail
  refine (tgreat_no b _ hbl).mono ?_
  rintro e w1 ⟨rfl, rfl⟩
  go_wp2_with fail
  refine (textCount_eq a (-1) _ (by omega) HN.out).mono ?_
  rintro e w1 ⟨rfl, hb1⟩
  replace hb := below_more hb hb1
  clear hb1
  go_wp2_with fail
  refine (textCount_any b _ (by omega)).mono ?_
  rintro e w1 ⟨rfl, hb1⟩
  replace hb := below_more hb hb1
  clear hb1
  go_wp2_with fail
  refine (textValid_eq a false _ (by omega) HV.out).mono ?_
  rintro e w1 ⟨rfl, hb1⟩
  replace hb := below_more hb hb1
  clear hb1
  go_wp2_with fail
  refine (tawake_any _).mono ?_
  rintro e w1 ⟨rfl, hb1⟩
  replace hb := below_more hb hb1
  clear hb1
  go_wp2_with fail
  go_ret
  exact ⟨rfl, hb⟩

set_option maxRecDepth 100000 in
set_option maxHeartbeats 1000000 in
theorem textPieces_some (a b : List UInt8) (at_ : Int) (w : World) (hat : 0 ≤ at_) (hat2 : at_ ≤ 65535) (ha : a.length ≤ 3000) (hbl : b.length ≤ 3000) (n : Nat) (hn : cntT a = some n) (hnR : cntR a = n) (hna : n ≤ a.length) (hv : valB a = true) :
    Calls Try.prog 7 #[.string ⟨a.toArray⟩, .string ⟨b.toArray⟩, .int .u16 at_] w fun e w' => e = .returned (.bool true) ∧ Below w.heap.size w w' := by
  have hb : Below w.heap.size w w := Below.refl _ _
  obtain ⟨k, hk, hkl⟩ : ∃ k : Nat, at_ % ((a.length : Int) + 1) = k ∧ k ≤ a.length := ⟨(at_ % ((a.length : Int) + 1)).toNat, by have := Int.emod_nonneg at_ (show (a.length : Int) + 1 ≠ 0 from by omega); omega, by have := Int.emod_lt_of_pos at_ (show 0 < (a.length : Int) + 1 from by omega); omega⟩
  have HP := Lib.hid (piecesT (a.take k) (a.drop k) n (by rw [List.take_append_drop]; exact hn))
  have HC : Hid ((∃ i j : Nat, cntR (a.take k) = i ∧ cntR (a.drop k) = j ∧ i + j = n ∧ (k = 0 → i = 0)) ∨ (cntR (a.take k) = -1 ∧ cntR (a.drop k) = -1 ∧ 0 < k)) := by
    rcases HP.out with ⟨i, j, hi, hj, hij⟩ | ⟨hi, hj⟩
    · refine Or.inl ⟨i, j, by rw [cntR_small _ (by simp; omega), cntI_some _ i hi], by rw [cntR_small _ (by simp; omega), cntI_some _ j hj], hij, fun h => ?_⟩
      subst h
      rw [List.take_zero, cntT_nil] at hi
      cases hi; rfl
    · refine Or.inr ⟨noneR _ hi, noneR _ hj, ?_⟩
      rcases Nat.eq_zero_or_pos k with h | h
      · subst h; rw [List.take_zero, cntT_nil] at hi; cases hi
      · exact h
  clear HP
  have HN := Lib.hid hnR
  have HT := Lib.hid hn
  have HV := Lib.hid hv
  have had := fun W => add_str (P := Try.prog) W a b (by omega)
  clear hn hnR hv
  rcases cntR_of b (by omega) with ⟨m, hm1, hm2, hm3, hm4⟩ | ⟨hm1, hm2, _⟩
  · have HS := Lib.hid (sumR a b n m HT.out hm1 (by simp; omega))
    have HM := Lib.hid hm2
    clear hm1 hm2 hm4
    go_enter Try.func7, Try.ntmps7
    go_wp2_with fail
    refine (tgreat_no a _ ha).mono ?_
    rintro e w1 ⟨rfl, rfl⟩
    go_wp2_with fail
    refine (tgreat_no b _ hbl).mono ?_
    rintro e w1 ⟨rfl, rfl⟩
    go_wp2_with fail
    refine (textCount_eq a n _ (by omega) HN.out).mono ?_
    rintro e w1 ⟨rfl, hb1⟩
    replace hb := below_more hb hb1
    clear hb1
    go_wp2_with fail
    refine (textCount_eq b m _ (by omega) HM.out).mono ?_
    rintro e w1 ⟨rfl, hb1⟩
    replace hb := below_more hb hb1
    clear hb1
    go_wp2_with fail
    refine (textCount_eq (a ++ b) _ _ (by simp; omega) HS.out).mono ?_
    rintro e w1 ⟨rfl, hb1⟩
    replace hb := below_more hb hb1
    clear hb1
    go_wp2_with fail
    refine (textValid_eq a true _ (by omega) HV.out).mono ?_
    rintro e w1 ⟨rfl, hb1⟩
    replace hb := below_more hb hb1
    clear hb1
    go_wp2_with fail
    rw [hk]
    have HK := Lib.hid hk
    clear hk
    rcases HC.out with ⟨i, j, hi, hj, hij, hk0⟩ | ⟨hi, hj, hk0⟩
    · have HIJ := Lib.hid hij
      have e1 : ((i : Int) + j == n) = true := by simp; omega
      have e4 : i ≤ 3000 := by omega
      have e5 : j ≤ 3000 := by omega
      have e2 : decide ((i : Int) < 0) = false := by simp
      have e3 : decide ((j : Int) < 0) = false := by simp
      clear hij
      go_region_with (go_at_call 10; refine (textCount_any _ _ (by simp; omega)).mono ?_; rintro e w6 ⟨rfl, hb6⟩; (first | replace hb := below_drawn hb hb6 | replace hb := below_more hb hb6); clear hb6)
      by_cases hk1 : 0 < k
      · clear hk0
        have hk2 : decide (0 < (k : Int)) = true := by simp; omega
        go_wp2_with fail
        refine (tawake_any _).mono ?_
        rintro e w1 ⟨rfl, hb1⟩
        replace hb := below_more hb hb1
        clear hb1
        go_wp2_with fail
        go_ret
        exact ⟨rfl, hb⟩
      · have hi0 : i = 0 := by omega
        subst hi0
        have e6 : ((j : Int) == n) = true := by have := HIJ.out; simp; omega
        have hk2 : decide (0 < (k : Int)) = false := by simp; omega
        clear hk0
        go_wp2_with fail
        refine (tawake_any _).mono ?_
        rintro e w1 ⟨rfl, hb1⟩
        replace hb := below_more hb hb1
        clear hb1
        go_wp2_with fail
        go_ret
        exact ⟨rfl, hb⟩
    · have hk2 : decide (0 < (k : Int)) = true := by simp; omega
      go_region_with (go_at_call 10; refine (textCount_any _ _ (by simp; omega)).mono ?_; rintro e w6 ⟨rfl, hb6⟩; (first | replace hb := below_drawn hb hb6 | replace hb := below_more hb hb6); clear hb6)
      go_wp2_with fail
      refine (tawake_any _).mono ?_
      rintro e w1 ⟨rfl, hb1⟩
      replace hb := below_more hb hb1
      clear hb1
      go_wp2_with fail
      go_ret
      exact ⟨rfl, hb⟩
  · have HM := Lib.hid hm2
    clear hm1 hm2
    go_enter Try.func7, Try.ntmps7
    go_wp2_with fail
    refine (tgreat_no a _ ha).mono ?_
    rintro e w1 ⟨rfl, rfl⟩
    go_wp2_with fail
    refine (tgreat_no b _ hbl).mono ?_
    rintro e w1 ⟨rfl, rfl⟩
    go_wp2_with fail
    refine (textCount_eq a n _ (by omega) HN.out).mono ?_
    rintro e w1 ⟨rfl, hb1⟩
    replace hb := below_more hb hb1
    clear hb1
    go_wp2_with fail
    refine (textCount_eq b (-1) _ (by omega) HM.out).mono ?_
    rintro e w1 ⟨rfl, hb1⟩
    replace hb := below_more hb hb1
    clear hb1
    go_wp2_with fail
    refine (textValid_eq a true _ (by omega) HV.out).mono ?_
    rintro e w1 ⟨rfl, hb1⟩
    replace hb := below_more hb hb1
    clear hb1
    go_wp2_with fail
    rw [hk]
    have HK := Lib.hid hk
    clear hk
    rcases HC.out with ⟨i, j, hi, hj, hij, hk0⟩ | ⟨hi, hj, hk0⟩
    · have HIJ := Lib.hid hij
      have e1 : ((i : Int) + j == n) = true := by simp; omega
      have e4 : i ≤ 3000 := by omega
      have e5 : j ≤ 3000 := by omega
      have e2 : decide ((i : Int) < 0) = false := by simp
      have e3 : decide ((j : Int) < 0) = false := by simp
      clear hij
      go_region_with (go_at_call 10; refine (textCount_any _ _ (by simp; omega)).mono ?_; rintro e w6 ⟨rfl, hb6⟩; (first | replace hb := below_drawn hb hb6 | replace hb := below_more hb hb6); clear hb6)
      by_cases hk1 : 0 < k
      · clear hk0
        have hk2 : decide (0 < (k : Int)) = true := by simp; omega
        go_wp2_with fail
        refine (tawake_any _).mono ?_
        rintro e w1 ⟨rfl, hb1⟩
        replace hb := below_more hb hb1
        clear hb1
        go_wp2_with fail
        go_ret
        exact ⟨rfl, hb⟩
      · have hi0 : i = 0 := by omega
        subst hi0
        have e6 : ((j : Int) == n) = true := by have := HIJ.out; simp; omega
        have hk2 : decide (0 < (k : Int)) = false := by simp; omega
        clear hk0
        go_wp2_with fail
        refine (tawake_any _).mono ?_
        rintro e w1 ⟨rfl, hb1⟩
        replace hb := below_more hb hb1
        clear hb1
        go_wp2_with fail
        go_ret
        exact ⟨rfl, hb⟩
    · have hk2 : decide (0 < (k : Int)) = true := by simp; omega
      go_region_with (go_at_call 10; refine (textCount_any _ _ (by simp; omega)).mono ?_; rintro e w6 ⟨rfl, hb6⟩; (first | replace hb := below_drawn hb hb6 | replace hb := below_more hb hb6); clear hb6)
      go_wp2_with fail
      refine (tawake_any _).mono ?_
      rintro e w1 ⟨rfl, hb1⟩
      replace hb := below_more hb hb1
      clear hb1
      go_wp2_with fail
      go_ret
      exact ⟨rfl, hb⟩
end Go.Proofs.Yteanfkgnhjmodaa

namespace Go.Proofs.Yteanfkgnhjmodaa.lawTextPieces
open Go.RowKit Go.ChangeShapes Go.WideShapes Go.ChangeAt
open Go.ChangeMaps (open_string shut_string)
theorem walk (w : World) (a : List UInt8) (_ha : a.length ≤ 9223372036854775807) (b : List UInt8) (_hb : b.length ≤ 9223372036854775807) (n : Int) (wf : (Lit.int .u16 n).wf = true) :
    Calls Try.prog 7 #[.string ⟨a.toArray⟩, .string ⟨b.toArray⟩, .int .u16 n] w fun e w' => e = .returned (.bool true) ∧ Below w.heap.size w w' := by
  by_cases h : 3000 < a.length ∨ 3000 < b.length
  · exact textPieces_great a b n w h
  · have hu := u16_bd n wf
    rcases cntR_of a (by omega) with ⟨m, h1, h2, h3, h4⟩ | ⟨h1, h2, h3⟩
    · exact textPieces_some a b n w hu.1 hu.2 (by omega) (by omega) m h1 h2 h3 h4
    · exact textPieces_none a b n w (by omega) (by omega) h2 h3
set_option maxRecDepth 100000 in
theorem lifted (os : Os) (started : os.Started) (H : Type) (enc : TypeId × Value → H) :
    ReturnsInHanded {} Try.checked os 7 .any (Rows.textPiecesSpec.pre6 enc Try.prog Try.f7 Rows.textPiecesRow.domain false) (Rows.textPiecesSpec.post enc Try.prog Try.f7 false true false false) := by
  refine returnsInHanded_of_change (C := Try.checked) own_none started (by kernel_rfl) Try.func7
    (ChangeSpec.witness6 (enc := enc) (C := Try.checked) false ⟨#[], #[.string ByteArray.empty, .string ByteArray.empty, .int .u16 0], []⟩ 8 (by kernel_rfl) (by kernel_rfl) (by kernel_rfl) (by kernel_rfl)) ?_
  intro W base args ds gs before hval0 hW hcnd _
  have hval : ∀ (j : Nat) t v, Try.f7.params[j]? = some t → args[j]? = some v → Value.okWide Try.prog W .any base t v := hval0
  have hWk := hW
  obtain ⟨p, q, hA0, hV, hbef, _, _⟩ := hWk
  have hA : DataW.TrodAll enc Try.prog W 0 (fun _ => true) true Try.f7.params.toList args.toList ds p := hA0
  obtain ⟨rfl, rfl⟩ := trodVars_none hV
  rw [Try.params7] at hA hval
  obtain ⟨v0, vs0, d0, ds0, p0, q0, hargs, rfl, hp0, h0, r0⟩ := trodAll_cons hA
  obtain ⟨v1, vs1, d1, ds1, p1, q1, rfl, rfl, hp1, h1, r1⟩ := trodAll_cons r0
  obtain ⟨v2, vs2, d2, ds2, p2, q2, rfl, rfl, hp2, h2, r2⟩ := trodAll_cons r1
  obtain ⟨rfl, rfl, hpn⟩ := trodAll_nil r2
  obtain rfl : args = #[v0, v1, v2] := by cases args; simp_all
  obtain ⟨s0, rfl, rfl, hx0, w0⟩ := open_string Try.underlying9 (hval 0 9 v0 rfl rfl) h0
  obtain ⟨a0, rfl, hl0⟩ := str_of s0
  obtain ⟨s1, rfl, rfl, hx1, w1⟩ := open_string Try.underlying9 (hval 1 9 v1 rfl rfl) h1
  obtain ⟨a1, rfl, hl1⟩ := str_of s1
  obtain ⟨a2, rfl, rfl, hx2, w2⟩ := open_int Try.underlying40 (hval 2 40 v2 rfl rfl) h2
  refine (walk W a0 (by unfold maxLen at w0; omega) a1 (by unfold maxLen at w1; omega) a2 w2).mono fun e W' ⟨he, hg⟩ => ?_
  subst he
  exact ⟨_, rfl, law_post laid_out (by kernel_rfl) rfl (by kernel_rfl) Try.underlying4 hW rfl hg⟩

theorem over : Rows.textPiecesRow.holds Try.pinned (OpenSpec.ofChange Rows.textPiecesSpec) :=
  OpenClaim.holds_of_wide 7 Try.f7 rfl rfl rfl rfl rfl rfl rfl ⟨rfl, rfl, rfl, rfl, rfl⟩ rfl rfl rfl rfl rfl (by kernel_rfl) Try.func7 (by kernel_rfl)
    (of_decide_eq_true (by kernel_rfl)) (by unfold Func.isWrapper; first | (rw [if_pos (by decide +kernel)]; kernel_rfl) | (rw [if_neg (by decide +kernel)]; exact ⟨rfl, rfl⟩))
    (fun os started H enc _ => lifted os started H enc)

/-- THE STATEMENT. -/
theorem proved : Rows.TextPiecesSaid :=
  over
end Go.Proofs.Yteanfkgnhjmodaa.lawTextPieces
