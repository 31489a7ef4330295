/-
  PacketTopics.
-/
import Derived.Test.YtbbmfhelncedcaaDoorPkJ
import Derived.Test.YtbbmfhelncedcaaDoorPkMath
set_option linter.unusedSimpArgs false
set_option linter.unusedVariables false

namespace Go.Proofs.YtbbmfhelncedcaaDoor
open Go.RowKit
theorem fit_topic (s : List UInt8) (h : s.length ≤ 10000) : Fit ((zPk.s_ty 3).s_topic s) [] := by
  constructor <;> simp [Pk.s_ty, Pk.s_topic, zPk, totB, sumB] <;> omega
theorem fit_filter (s : List UInt8) (h : s.length ≤ 10000) : Fit ((zPk.s_ty 10).s_id 1) [(s, 0)] := by
  constructor <;> simp [Pk.s_ty, Pk.s_id, zPk, totB, sumB] <;> omega
theorem fit_conn (s : List UInt8) (h : s.length ≤ 10000) : Fit (connW s) [] := by
  constructor <;> simp [connW, Pk.s_ty, Pk.s_level, Pk.s_hasWill, Pk.s_will, zPk, totB, sumB] <;> omega
theorem topic_eq (s : List UInt8) (b : Bool) (w : World) (hG : Glo w) (hl : s.length ≤ 10000) (h : nmB s = b) :
    Calls Tryd.prog 21 #[.string ⟨s.toArray⟩] w fun e w' => e = .returned (.bool b) ∧ Below w.heap.size w w' := by
  have hb : Below w.heap.size w w := Below.refl _ _
  have HG := Lib.hid hG
  have HV : Hid (decide (0 ≤ restN ((zPk.s_ty 3).s_topic s) []) = b) := (topic_val s (by omega)).trans h
  clear hG h
  go_enter Tryd.func21, Tryd.ntmps21
  go_wp2_with fail
  refine (right_eq _ none 0 0 [] b _ HG.out (Subs.nil _) (fit_topic s hl) HV.out).mono ?_
  rintro e w1 ⟨rfl, hb1⟩
  go_wp2_with fail
  go_ret
  exact ⟨rfl, hb1⟩
theorem filter_eq (s : List UInt8) (b : Bool) (w : World) (hG : Glo w) (hl : s.length ≤ 10000) (h : flB s = b) :
    Calls Tryd.prog 22 #[.string ⟨s.toArray⟩] w fun e w' => e = .returned (.bool b) ∧ Below w.heap.size w w' := by
  have hK := (Kp.nil w).new (SbC s 0) 31
  have HG := Lib.hid hG
  have HV : Hid (decide (0 ≤ restN ((zPk.s_ty 10).s_id 1) [(s, 0)]) = b) := (filter_val s (by omega)).trans h
  clear hG h
  go_enter Tryd.func22, Tryd.ntmps22
  go_wp2_with fail
  refine (right_eq _ _ 1 1 [(s, 0)] b _ (HG.out.below hK.below) (subs_one hK.row hK.lt) (fit_filter s hl) HV.out).mono ?_
  rintro e w1 ⟨rfl, hb1⟩
  go_wp2_with fail
  go_ret
  exact ⟨rfl, below_more hK.below hb1⟩
theorem awake_b (w : World) (hG : Glo w) : Calls Tryd.prog 10 #[] w fun e w' => e = .returned (.bool true) ∧ Below w.heap.size w w' := awake_any w hG
theorem hasW_take (l : List UInt8) (k : Nat) (h : k < l.length) : hasW (l.drop k) = (isW l[k] || hasW (l.drop (k + 1))) := by
  rw [List.drop_eq_getElem_cons h, hasW_cons]
theorem has35_take (l : List UInt8) (k : Nat) (h : k < l.length) : has35 (l.drop k) = (l[k] == 35 || has35 (l.drop (k + 1))) := by
  rw [List.drop_eq_getElem_cons h]; rfl
namespace lawPacketTopics
set_option maxRecDepth 100000 in
set_option maxHeartbeats 8000000 in
theorem walkIn (w : World) (a b : List UInt8) (hG : Glo w) (ha : a.length ≤ 3000) (hb3 : b.length ≤ 3000) :
    Calls Tryd.prog 7 #[.string ⟨a.toArray⟩, .string ⟨b.toArray⟩] w fun e w' => e = .returned (.bool true) ∧ Below w.heap.size w w' := by
  have hb : Below w.heap.size w w := Below.refl _ _
  have hd1 : decide ((3000 : Int) < (a.length : Int)) = false := by simp; omega
  have hd2 : decide ((3000 : Int) < (b.length : Int)) = false := by simp; omega
  have HG := Lib.hid hG
  have had1 := fun W => add_str (P := Tryd.prog) W a [47] (by simp; omega)
  have had2 := fun W => add_str (P := Tryd.prog) W (a ++ [47]) b (by simp; omega)
  have had3 := fun W => add_str (P := Tryd.prog) W a [120] (by simp; omega)
  clear hG
  go_enter Tryd.func7, Tryd.ntmps7
  go_wp2_with fail
  go_loop [5, 6, 7] (fun s5 s6 s7 => ∃ (k : Nat) (r1 r2 : Bool), s7 = .int .i64 k ∧ k ≤ a.length ∧ s5 = .bool r1 ∧ s6 = .bool r2 ∧ Hid (hasW a = (r1 || hasW (a.drop k))) ∧ Hid (has35 a = (r2 || has35 (a.drop k)))) (fun _ _ s7 => a.length - (intOf s7).toNat)
  case atStart => exact ⟨0, false, false, rfl, by omega, rfl, rfl, by simp [Hid], by simp [Hid]⟩
  case round =>
    obtain ⟨k, r1, r2, rfl, hk, rfl, rfl, hc1, hc2⟩ := hrel
    by_cases hlt : k < a.length
    · have hlt2 : (k : Int) < (a.length : Int) := by omega
      have hx := byte_at a k hlt
      have h1 := hasW_take a k hlt
      have h2 := has35_take a k hlt
      have HC1 : Hid (hasW a = ((r1 || isW a[k]) || hasW (a.drop (k + 1)))) := by show _ = _; rw [hc1.out, h1, Bool.or_assoc]
      have HC2 : Hid (has35 a = ((r2 || a[k] == 35) || has35 (a.drop (k + 1)))) := by show _ = _; rw [hc2.out, h2, Bool.or_assoc]
      clear h1 h2 hc1 hc2
      by_cases h43 : a[k].toNat = 43
      · have e1 : isW a[k] = true := by
          have : a[k] = 43 := UInt8.toNat_inj.1 h43
          rw [this]; rfl
        have e2 : (a[k] == 35) = false := by rw [beq_eq_false_iff_ne]; intro h; rw [h] at h43; revert h43; decide
        rw [e1] at HC1
        rw [e2] at HC2
        have z1 : (a[k].toNat : Int) = 43 := by omega
        clear h43 e1 e2
        cases r1 <;> cases r2
        all_goals
          go_wp2_with fail
          go_round
          case rel => exact ⟨k + 1, _, _, by go_num, by omega, rfl, rfl, HC1, HC2⟩
          case measure => simp [intOf]; omega
      · by_cases h35 : a[k].toNat = 35
        · have e0 : a[k] = 35 := UInt8.toNat_inj.1 h35
          have e1 : isW a[k] = true := by rw [e0]; rfl
          have e2 : (a[k] == 35) = true := by rw [e0]; rfl
          rw [e1] at HC1
          rw [e2] at HC2
          have z1 : (a[k].toNat : Int) = 35 := by omega
          clear h43 h35 e0 e1 e2
          cases r1 <;> cases r2
          all_goals
            go_wp2_with fail
            go_round
            case rel => exact ⟨k + 1, _, _, by go_num, by omega, rfl, rfl, HC1, HC2⟩
            case measure => simp [intOf]; omega
        · have e2 : (a[k] == 35) = false := by rw [beq_eq_false_iff_ne]; intro h; rw [h] at h35; exact h35 rfl
          have e3 : (a[k] == 43) = false := by rw [beq_eq_false_iff_ne]; intro h; rw [h] at h43; exact h43 rfl
          have e1 : isW a[k] = false := by unfold isW; rw [e2, e3]; rfl
          rw [e1] at HC1
          rw [e2] at HC2
          have z1 : ¬ (a[k].toNat : Int) = 35 := by omega
          have z2 : ¬ (a[k].toNat : Int) = 43 := by omega
          have z3 : ((a[k].toNat : Int) == 35) = false := by simpa using z1
          have z4 : ((a[k].toNat : Int) == 43) = false := by simpa using z2
          clear h43 h35 e1 e2 e3
          cases r1 <;> cases r2
          all_goals
            go_wp2_with fail
            go_round
            case rel => exact ⟨k + 1, _, _, by go_num, by omega, rfl, rfl, HC1, HC2⟩
            case measure => simp [intOf]; omega
    · have hge : ¬ (k : Int) < (a.length : Int) := by omega
      have hd : a.drop k = [] := List.drop_eq_nil_of_le (by omega)
      have hr1 : r1 = hasW a := by rw [hc1.out, hd]; simp [hasW_nil]
      have hr2 : r2 = has35 a := by rw [hc2.out, hd]; simp [has35]
      cases hW : hasW a with
      | false =>
        rw [hW] at hr1
        subst hr1
        cases hL : has35 a with
        | false =>
          rw [hL] at hr2
          subst hr2
          cases hF : flB a <;> cases hB : flB b
          · skip
            have HF := Lib.hid hF; have HW := Lib.hid hW; have HL := Lib.hid hL; have HB := Lib.hid hB
            have HT : Hid (nmB a = false) := by show nmB a = _; rw [nm_fl, hF, hW]; rfl
            have HC : Hid (decide (0 ≤ restN (connW a) []) = false) := (conn_val a (by omega)).trans HT.out
            clear hF hW hL hB
            go_wp2_with fail
            refine (topic_eq a false _ (HG.out.below hb) (by omega) HT.out).mono ?_
            rintro e w1 ⟨rfl, hb1⟩
            replace hb := below_more hb hb1
            clear hb1
            go_wp2_with fail
            refine (filter_eq a false _ (HG.out.below hb) (by omega) HF.out).mono ?_
            rintro e w1 ⟨rfl, hb1⟩
            replace hb := below_more hb hb1
            clear hb1
            go_wp2_with fail
            refine (topic_eq a false _ (HG.out.below hb) (by omega) HT.out).mono ?_
            rintro e w1 ⟨rfl, hb1⟩
            replace hb := below_more hb hb1
            clear hb1
            go_wp2_with fail
            refine (right_eq (connW a) none 0 0 [] false _ (HG.out.below hb) (Subs.nil _) (fit_conn a (by omega)) HC.out).mono ?_
            rintro e w1 ⟨rfl, hb1⟩
            replace hb := below_more hb hb1
            clear hb1
            go_wp2_with fail
            refine (filter_eq a false _ (HG.out.below hb) (by omega) HF.out).mono ?_
            rintro e w1 ⟨rfl, hb1⟩
            replace hb := below_more hb hb1
            clear hb1
            go_wp2_with fail
            refine (filter_eq a false _ (HG.out.below hb) (by omega) HF.out).mono ?_
            rintro e w1 ⟨rfl, hb1⟩
            replace hb := below_more hb hb1
            clear hb1
            go_wp2_with fail
            refine (awake_any _ (HG.out.below hb)).mono ?_
            rintro e w1 ⟨rfl, hb1⟩
            replace hb := below_more hb hb1
            clear hb1
            go_wp2_with fail
            go_ret
            exact ⟨rfl, hb⟩
          · skip
            have HF := Lib.hid hF; have HW := Lib.hid hW; have HL := Lib.hid hL; have HB := Lib.hid hB
            have HT : Hid (nmB a = false) := by show nmB a = _; rw [nm_fl, hF, hW]; rfl
            have HC : Hid (decide (0 ≤ restN (connW a) []) = false) := (conn_val a (by omega)).trans HT.out
            clear hF hW hL hB
            go_wp2_with fail
            refine (topic_eq a false _ (HG.out.below hb) (by omega) HT.out).mono ?_
            rintro e w1 ⟨rfl, hb1⟩
            replace hb := below_more hb hb1
            clear hb1
            go_wp2_with fail
            refine (filter_eq a false _ (HG.out.below hb) (by omega) HF.out).mono ?_
            rintro e w1 ⟨rfl, hb1⟩
            replace hb := below_more hb hb1
            clear hb1
            go_wp2_with fail
            refine (topic_eq a false _ (HG.out.below hb) (by omega) HT.out).mono ?_
            rintro e w1 ⟨rfl, hb1⟩
            replace hb := below_more hb hb1
            clear hb1
            go_wp2_with fail
            refine (right_eq (connW a) none 0 0 [] false _ (HG.out.below hb) (Subs.nil _) (fit_conn a (by omega)) HC.out).mono ?_
            rintro e w1 ⟨rfl, hb1⟩
            replace hb := below_more hb hb1
            clear hb1
            go_wp2_with fail
            refine (filter_eq a false _ (HG.out.below hb) (by omega) HF.out).mono ?_
            rintro e w1 ⟨rfl, hb1⟩
            replace hb := below_more hb hb1
            clear hb1
            go_wp2_with fail
            refine (filter_eq a false _ (HG.out.below hb) (by omega) HF.out).mono ?_
            rintro e w1 ⟨rfl, hb1⟩
            replace hb := below_more hb hb1
            clear hb1
            go_wp2_with fail
            refine (awake_any _ (HG.out.below hb)).mono ?_
            rintro e w1 ⟨rfl, hb1⟩
            replace hb := below_more hb hb1
            clear hb1
            go_wp2_with fail
            go_ret
            exact ⟨rfl, hb⟩
          · skip
            have HF := Lib.hid hF; have HW := Lib.hid hW; have HL := Lib.hid hL; have HB := Lib.hid hB
            have HT : Hid (nmB a = true) := by show nmB a = _; rw [nm_fl, hF, hW]; rfl
            have HC : Hid (decide (0 ≤ restN (connW a) []) = true) := (conn_val a (by omega)).trans HT.out
            have HS : Hid (flB (a ++ [47]) = true) := fl_slash a hF hL (by omega)
            clear hF hW hL hB
            go_wp2_with fail
            refine (topic_eq a true _ (HG.out.below hb) (by omega) HT.out).mono ?_
            rintro e w1 ⟨rfl, hb1⟩
            replace hb := below_more hb hb1
            clear hb1
            go_wp2_with fail
            refine (filter_eq a true _ (HG.out.below hb) (by omega) HF.out).mono ?_
            rintro e w1 ⟨rfl, hb1⟩
            replace hb := below_more hb hb1
            clear hb1
            go_wp2_with fail
            refine (topic_eq a true _ (HG.out.below hb) (by omega) HT.out).mono ?_
            rintro e w1 ⟨rfl, hb1⟩
            replace hb := below_more hb hb1
            clear hb1
            go_wp2_with fail
            refine (right_eq (connW a) none 0 0 [] true _ (HG.out.below hb) (Subs.nil _) (fit_conn a (by omega)) HC.out).mono ?_
            rintro e w1 ⟨rfl, hb1⟩
            replace hb := below_more hb hb1
            clear hb1
            go_wp2_with fail
            refine (filter_eq a true _ (HG.out.below hb) (by omega) HF.out).mono ?_
            rintro e w1 ⟨rfl, hb1⟩
            replace hb := below_more hb hb1
            clear hb1
            go_wp2_with fail
            refine (filter_eq b false _ (HG.out.below hb) (by omega) HB.out).mono ?_
            rintro e w1 ⟨rfl, hb1⟩
            replace hb := below_more hb hb1
            clear hb1
            go_wp2_with fail
            refine (filter_eq a true _ (HG.out.below hb) (by omega) HF.out).mono ?_
            rintro e w1 ⟨rfl, hb1⟩
            replace hb := below_more hb hb1
            clear hb1
            go_wp2_with fail
            refine (filter_eq (a ++ [47]) true _ (HG.out.below hb) (by simp; omega) HS.out).mono ?_
            rintro e w1 ⟨rfl, hb1⟩
            replace hb := below_more hb hb1
            clear hb1
            go_wp2_with fail
            refine (awake_any _ (HG.out.below hb)).mono ?_
            rintro e w1 ⟨rfl, hb1⟩
            replace hb := below_more hb hb1
            clear hb1
            go_wp2_with fail
            go_ret
            exact ⟨rfl, hb⟩
          · skip
            have HF := Lib.hid hF; have HW := Lib.hid hW; have HL := Lib.hid hL; have HB := Lib.hid hB
            have HT : Hid (nmB a = true) := by show nmB a = _; rw [nm_fl, hF, hW]; rfl
            have HC : Hid (decide (0 ≤ restN (connW a) []) = true) := (conn_val a (by omega)).trans HT.out
            have HJ : Hid (flB (a ++ 47 :: b) = true) := fl_join a b hF hB hL (by omega)
            have HS : Hid (flB (a ++ [47]) = true) := fl_slash a hF hL (by omega)
            clear hF hW hL hB
            go_wp2_with fail
            refine (topic_eq a true _ (HG.out.below hb) (by omega) HT.out).mono ?_
            rintro e w1 ⟨rfl, hb1⟩
            replace hb := below_more hb hb1
            clear hb1
            go_wp2_with fail
            refine (filter_eq a true _ (HG.out.below hb) (by omega) HF.out).mono ?_
            rintro e w1 ⟨rfl, hb1⟩
            replace hb := below_more hb hb1
            clear hb1
            go_wp2_with fail
            refine (topic_eq a true _ (HG.out.below hb) (by omega) HT.out).mono ?_
            rintro e w1 ⟨rfl, hb1⟩
            replace hb := below_more hb hb1
            clear hb1
            go_wp2_with fail
            refine (right_eq (connW a) none 0 0 [] true _ (HG.out.below hb) (Subs.nil _) (fit_conn a (by omega)) HC.out).mono ?_
            rintro e w1 ⟨rfl, hb1⟩
            replace hb := below_more hb hb1
            clear hb1
            go_wp2_with fail
            refine (filter_eq a true _ (HG.out.below hb) (by omega) HF.out).mono ?_
            rintro e w1 ⟨rfl, hb1⟩
            replace hb := below_more hb hb1
            clear hb1
            go_wp2_with fail
            refine (filter_eq b true _ (HG.out.below hb) (by omega) HB.out).mono ?_
            rintro e w1 ⟨rfl, hb1⟩
            replace hb := below_more hb hb1
            clear hb1
            go_wp2_with fail
            refine (filter_eq (a ++ 47 :: b) true _ (HG.out.below hb) (by simp; omega) HJ.out).mono ?_
            rintro e w1 ⟨rfl, hb1⟩
            replace hb := below_more hb hb1
            clear hb1
            go_wp2_with fail
            refine (filter_eq a true _ (HG.out.below hb) (by omega) HF.out).mono ?_
            rintro e w1 ⟨rfl, hb1⟩
            replace hb := below_more hb hb1
            clear hb1
            go_wp2_with fail
            refine (filter_eq (a ++ [47]) true _ (HG.out.below hb) (by simp; omega) HS.out).mono ?_
            rintro e w1 ⟨rfl, hb1⟩
            replace hb := below_more hb hb1
            clear hb1
            go_wp2_with fail
            refine (awake_any _ (HG.out.below hb)).mono ?_
            rintro e w1 ⟨rfl, hb1⟩
            replace hb := below_more hb hb1
            clear hb1
            go_wp2_with fail
            go_ret
            exact ⟨rfl, hb⟩
        | true =>
          have := has35_W a hL
          rw [hW] at this
          cases this
      | true =>
        rw [hW] at hr1
        subst hr1
        cases hL : has35 a with
        | false =>
          rw [hL] at hr2
          subst hr2
          cases hF : flB a <;> cases hB : flB b
          · skip
            have HF := Lib.hid hF; have HW := Lib.hid hW; have HL := Lib.hid hL; have HB := Lib.hid hB
            have HT : Hid (nmB a = false) := by show nmB a = _; rw [nm_fl, hF, hW]; rfl
            have HC : Hid (decide (0 ≤ restN (connW a) []) = false) := (conn_val a (by omega)).trans HT.out
            clear hF hW hL hB
            go_wp2_with fail
            refine (topic_eq a false _ (HG.out.below hb) (by omega) HT.out).mono ?_
            rintro e w1 ⟨rfl, hb1⟩
            replace hb := below_more hb hb1
            clear hb1
            go_wp2_with fail
            refine (filter_eq a false _ (HG.out.below hb) (by omega) HF.out).mono ?_
            rintro e w1 ⟨rfl, hb1⟩
            replace hb := below_more hb hb1
            clear hb1
            go_wp2_with fail
            refine (topic_eq a false _ (HG.out.below hb) (by omega) HT.out).mono ?_
            rintro e w1 ⟨rfl, hb1⟩
            replace hb := below_more hb hb1
            clear hb1
            go_wp2_with fail
            refine (right_eq (connW a) none 0 0 [] false _ (HG.out.below hb) (Subs.nil _) (fit_conn a (by omega)) HC.out).mono ?_
            rintro e w1 ⟨rfl, hb1⟩
            replace hb := below_more hb hb1
            clear hb1
            go_wp2_with fail
            refine (filter_eq a false _ (HG.out.below hb) (by omega) HF.out).mono ?_
            rintro e w1 ⟨rfl, hb1⟩
            replace hb := below_more hb hb1
            clear hb1
            go_wp2_with fail
            refine (filter_eq a false _ (HG.out.below hb) (by omega) HF.out).mono ?_
            rintro e w1 ⟨rfl, hb1⟩
            replace hb := below_more hb hb1
            clear hb1
            go_wp2_with fail
            refine (awake_any _ (HG.out.below hb)).mono ?_
            rintro e w1 ⟨rfl, hb1⟩
            replace hb := below_more hb hb1
            clear hb1
            go_wp2_with fail
            go_ret
            exact ⟨rfl, hb⟩
          · skip
            have HF := Lib.hid hF; have HW := Lib.hid hW; have HL := Lib.hid hL; have HB := Lib.hid hB
            have HT : Hid (nmB a = false) := by show nmB a = _; rw [nm_fl, hF, hW]; rfl
            have HC : Hid (decide (0 ≤ restN (connW a) []) = false) := (conn_val a (by omega)).trans HT.out
            clear hF hW hL hB
            go_wp2_with fail
            refine (topic_eq a false _ (HG.out.below hb) (by omega) HT.out).mono ?_
            rintro e w1 ⟨rfl, hb1⟩
            replace hb := below_more hb hb1
            clear hb1
            go_wp2_with fail
            refine (filter_eq a false _ (HG.out.below hb) (by omega) HF.out).mono ?_
            rintro e w1 ⟨rfl, hb1⟩
            replace hb := below_more hb hb1
            clear hb1
            go_wp2_with fail
            refine (topic_eq a false _ (HG.out.below hb) (by omega) HT.out).mono ?_
            rintro e w1 ⟨rfl, hb1⟩
            replace hb := below_more hb hb1
            clear hb1
            go_wp2_with fail
            refine (right_eq (connW a) none 0 0 [] false _ (HG.out.below hb) (Subs.nil _) (fit_conn a (by omega)) HC.out).mono ?_
            rintro e w1 ⟨rfl, hb1⟩
            replace hb := below_more hb hb1
            clear hb1
            go_wp2_with fail
            refine (filter_eq a false _ (HG.out.below hb) (by omega) HF.out).mono ?_
            rintro e w1 ⟨rfl, hb1⟩
            replace hb := below_more hb hb1
            clear hb1
            go_wp2_with fail
            refine (filter_eq a false _ (HG.out.below hb) (by omega) HF.out).mono ?_
            rintro e w1 ⟨rfl, hb1⟩
            replace hb := below_more hb hb1
            clear hb1
            go_wp2_with fail
            refine (awake_any _ (HG.out.below hb)).mono ?_
            rintro e w1 ⟨rfl, hb1⟩
            replace hb := below_more hb hb1
            clear hb1
            go_wp2_with fail
            go_ret
            exact ⟨rfl, hb⟩
          · skip
            have HF := Lib.hid hF; have HW := Lib.hid hW; have HL := Lib.hid hL; have HB := Lib.hid hB
            have HT : Hid (nmB a = false) := by show nmB a = _; rw [nm_fl, hF, hW]; rfl
            have HC : Hid (decide (0 ≤ restN (connW a) []) = false) := (conn_val a (by omega)).trans HT.out
            have HS : Hid (flB (a ++ [47]) = true) := fl_slash a hF hL (by omega)
            clear hF hW hL hB
            go_wp2_with fail
            refine (topic_eq a false _ (HG.out.below hb) (by omega) HT.out).mono ?_
            rintro e w1 ⟨rfl, hb1⟩
            replace hb := below_more hb hb1
            clear hb1
            go_wp2_with fail
            refine (filter_eq a true _ (HG.out.below hb) (by omega) HF.out).mono ?_
            rintro e w1 ⟨rfl, hb1⟩
            replace hb := below_more hb hb1
            clear hb1
            go_wp2_with fail
            refine (topic_eq a false _ (HG.out.below hb) (by omega) HT.out).mono ?_
            rintro e w1 ⟨rfl, hb1⟩
            replace hb := below_more hb hb1
            clear hb1
            go_wp2_with fail
            refine (right_eq (connW a) none 0 0 [] false _ (HG.out.below hb) (Subs.nil _) (fit_conn a (by omega)) HC.out).mono ?_
            rintro e w1 ⟨rfl, hb1⟩
            replace hb := below_more hb hb1
            clear hb1
            go_wp2_with fail
            refine (filter_eq a true _ (HG.out.below hb) (by omega) HF.out).mono ?_
            rintro e w1 ⟨rfl, hb1⟩
            replace hb := below_more hb hb1
            clear hb1
            go_wp2_with fail
            refine (filter_eq b false _ (HG.out.below hb) (by omega) HB.out).mono ?_
            rintro e w1 ⟨rfl, hb1⟩
            replace hb := below_more hb hb1
            clear hb1
            go_wp2_with fail
            refine (filter_eq a true _ (HG.out.below hb) (by omega) HF.out).mono ?_
            rintro e w1 ⟨rfl, hb1⟩
            replace hb := below_more hb hb1
            clear hb1
            go_wp2_with fail
            refine (filter_eq (a ++ [47]) true _ (HG.out.below hb) (by simp; omega) HS.out).mono ?_
            rintro e w1 ⟨rfl, hb1⟩
            replace hb := below_more hb hb1
            clear hb1
            go_wp2_with fail
            refine (awake_any _ (HG.out.below hb)).mono ?_
            rintro e w1 ⟨rfl, hb1⟩
            replace hb := below_more hb hb1
            clear hb1
            go_wp2_with fail
            go_ret
            exact ⟨rfl, hb⟩
          · skip
            have HF := Lib.hid hF; have HW := Lib.hid hW; have HL := Lib.hid hL; have HB := Lib.hid hB
            have HT : Hid (nmB a = false) := by show nmB a = _; rw [nm_fl, hF, hW]; rfl
            have HC : Hid (decide (0 ≤ restN (connW a) []) = false) := (conn_val a (by omega)).trans HT.out
            have HJ : Hid (flB (a ++ 47 :: b) = true) := fl_join a b hF hB hL (by omega)
            have HS : Hid (flB (a ++ [47]) = true) := fl_slash a hF hL (by omega)
            clear hF hW hL hB
            go_wp2_with fail
            refine (topic_eq a false _ (HG.out.below hb) (by omega) HT.out).mono ?_
            rintro e w1 ⟨rfl, hb1⟩
            replace hb := below_more hb hb1
            clear hb1
            go_wp2_with fail
            refine (filter_eq a true _ (HG.out.below hb) (by omega) HF.out).mono ?_
            rintro e w1 ⟨rfl, hb1⟩
            replace hb := below_more hb hb1
            clear hb1
            go_wp2_with fail
            refine (topic_eq a false _ (HG.out.below hb) (by omega) HT.out).mono ?_
            rintro e w1 ⟨rfl, hb1⟩
            replace hb := below_more hb hb1
            clear hb1
            go_wp2_with fail
            refine (right_eq (connW a) none 0 0 [] false _ (HG.out.below hb) (Subs.nil _) (fit_conn a (by omega)) HC.out).mono ?_
            rintro e w1 ⟨rfl, hb1⟩
            replace hb := below_more hb hb1
            clear hb1
            go_wp2_with fail
            refine (filter_eq a true _ (HG.out.below hb) (by omega) HF.out).mono ?_
            rintro e w1 ⟨rfl, hb1⟩
            replace hb := below_more hb hb1
            clear hb1
            go_wp2_with fail
            refine (filter_eq b true _ (HG.out.below hb) (by omega) HB.out).mono ?_
            rintro e w1 ⟨rfl, hb1⟩
            replace hb := below_more hb hb1
            clear hb1
            go_wp2_with fail
            refine (filter_eq (a ++ 47 :: b) true _ (HG.out.below hb) (by simp; omega) HJ.out).mono ?_
            rintro e w1 ⟨rfl, hb1⟩
            replace hb := below_more hb hb1
            clear hb1
            go_wp2_with fail
            refine (filter_eq a true _ (HG.out.below hb) (by omega) HF.out).mono ?_
            rintro e w1 ⟨rfl, hb1⟩
            replace hb := below_more hb hb1
            clear hb1
            go_wp2_with fail
            refine (filter_eq (a ++ [47]) true _ (HG.out.below hb) (by simp; omega) HS.out).mono ?_
            rintro e w1 ⟨rfl, hb1⟩
            replace hb := below_more hb hb1
            clear hb1
            go_wp2_with fail
            refine (awake_any _ (HG.out.below hb)).mono ?_
            rintro e w1 ⟨rfl, hb1⟩
            replace hb := below_more hb hb1
            clear hb1
            go_wp2_with fail
            go_ret
            exact ⟨rfl, hb⟩
        | true =>
          rw [hL] at hr2
          subst hr2
          cases hF : flB a <;> cases hB : flB b
          · skip
            have HF := Lib.hid hF; have HW := Lib.hid hW; have HL := Lib.hid hL; have HB := Lib.hid hB
            have HT : Hid (nmB a = false) := by show nmB a = _; rw [nm_fl, hF, hW]; rfl
            have HC : Hid (decide (0 ≤ restN (connW a) []) = false) := (conn_val a (by omega)).trans HT.out
            have HS : Hid (flB (a ++ [47]) = false) := fl_last a [] 47 hL
            have HX : Hid (flB (a ++ [120]) = false) := fl_last a [] 120 hL
            clear hF hW hL hB
            go_wp2_with fail
            refine (topic_eq a false _ (HG.out.below hb) (by omega) HT.out).mono ?_
            rintro e w1 ⟨rfl, hb1⟩
            replace hb := below_more hb hb1
            clear hb1
            go_wp2_with fail
            refine (filter_eq a false _ (HG.out.below hb) (by omega) HF.out).mono ?_
            rintro e w1 ⟨rfl, hb1⟩
            replace hb := below_more hb hb1
            clear hb1
            go_wp2_with fail
            refine (topic_eq a false _ (HG.out.below hb) (by omega) HT.out).mono ?_
            rintro e w1 ⟨rfl, hb1⟩
            replace hb := below_more hb hb1
            clear hb1
            go_wp2_with fail
            refine (right_eq (connW a) none 0 0 [] false _ (HG.out.below hb) (Subs.nil _) (fit_conn a (by omega)) HC.out).mono ?_
            rintro e w1 ⟨rfl, hb1⟩
            replace hb := below_more hb hb1
            clear hb1
            go_wp2_with fail
            refine (filter_eq a false _ (HG.out.below hb) (by omega) HF.out).mono ?_
            rintro e w1 ⟨rfl, hb1⟩
            replace hb := below_more hb hb1
            clear hb1
            go_wp2_with fail
            refine (filter_eq (a ++ [47]) false _ (HG.out.below hb) (by simp; omega) HS.out).mono ?_
            rintro e w1 ⟨rfl, hb1⟩
            replace hb := below_more hb hb1
            clear hb1
            go_wp2_with fail
            refine (filter_eq (a ++ [120]) false _ (HG.out.below hb) (by simp; omega) HX.out).mono ?_
            rintro e w1 ⟨rfl, hb1⟩
            replace hb := below_more hb hb1
            clear hb1
            go_wp2_with fail
            refine (filter_eq a false _ (HG.out.below hb) (by omega) HF.out).mono ?_
            rintro e w1 ⟨rfl, hb1⟩
            replace hb := below_more hb hb1
            clear hb1
            go_wp2_with fail
            refine (awake_any _ (HG.out.below hb)).mono ?_
            rintro e w1 ⟨rfl, hb1⟩
            replace hb := below_more hb hb1
            clear hb1
            go_wp2_with fail
            go_ret
            exact ⟨rfl, hb⟩
          · skip
            have HF := Lib.hid hF; have HW := Lib.hid hW; have HL := Lib.hid hL; have HB := Lib.hid hB
            have HT : Hid (nmB a = false) := by show nmB a = _; rw [nm_fl, hF, hW]; rfl
            have HC : Hid (decide (0 ≤ restN (connW a) []) = false) := (conn_val a (by omega)).trans HT.out
            have HS : Hid (flB (a ++ [47]) = false) := fl_last a [] 47 hL
            have HX : Hid (flB (a ++ [120]) = false) := fl_last a [] 120 hL
            clear hF hW hL hB
            go_wp2_with fail
            refine (topic_eq a false _ (HG.out.below hb) (by omega) HT.out).mono ?_
            rintro e w1 ⟨rfl, hb1⟩
            replace hb := below_more hb hb1
            clear hb1
            go_wp2_with fail
            refine (filter_eq a false _ (HG.out.below hb) (by omega) HF.out).mono ?_
            rintro e w1 ⟨rfl, hb1⟩
            replace hb := below_more hb hb1
            clear hb1
            go_wp2_with fail
            refine (topic_eq a false _ (HG.out.below hb) (by omega) HT.out).mono ?_
            rintro e w1 ⟨rfl, hb1⟩
            replace hb := below_more hb hb1
            clear hb1
            go_wp2_with fail
            refine (right_eq (connW a) none 0 0 [] false _ (HG.out.below hb) (Subs.nil _) (fit_conn a (by omega)) HC.out).mono ?_
            rintro e w1 ⟨rfl, hb1⟩
            replace hb := below_more hb hb1
            clear hb1
            go_wp2_with fail
            refine (filter_eq a false _ (HG.out.below hb) (by omega) HF.out).mono ?_
            rintro e w1 ⟨rfl, hb1⟩
            replace hb := below_more hb hb1
            clear hb1
            go_wp2_with fail
            refine (filter_eq (a ++ [47]) false _ (HG.out.below hb) (by simp; omega) HS.out).mono ?_
            rintro e w1 ⟨rfl, hb1⟩
            replace hb := below_more hb hb1
            clear hb1
            go_wp2_with fail
            refine (filter_eq (a ++ [120]) false _ (HG.out.below hb) (by simp; omega) HX.out).mono ?_
            rintro e w1 ⟨rfl, hb1⟩
            replace hb := below_more hb hb1
            clear hb1
            go_wp2_with fail
            refine (filter_eq a false _ (HG.out.below hb) (by omega) HF.out).mono ?_
            rintro e w1 ⟨rfl, hb1⟩
            replace hb := below_more hb hb1
            clear hb1
            go_wp2_with fail
            refine (awake_any _ (HG.out.below hb)).mono ?_
            rintro e w1 ⟨rfl, hb1⟩
            replace hb := below_more hb hb1
            clear hb1
            go_wp2_with fail
            go_ret
            exact ⟨rfl, hb⟩
          · skip
            have HF := Lib.hid hF; have HW := Lib.hid hW; have HL := Lib.hid hL; have HB := Lib.hid hB
            have HT : Hid (nmB a = false) := by show nmB a = _; rw [nm_fl, hF, hW]; rfl
            have HC : Hid (decide (0 ≤ restN (connW a) []) = false) := (conn_val a (by omega)).trans HT.out
            have HS : Hid (flB (a ++ [47]) = false) := fl_last a [] 47 hL
            have HX : Hid (flB (a ++ [120]) = false) := fl_last a [] 120 hL
            clear hF hW hL hB
            go_wp2_with fail
            refine (topic_eq a false _ (HG.out.below hb) (by omega) HT.out).mono ?_
            rintro e w1 ⟨rfl, hb1⟩
            replace hb := below_more hb hb1
            clear hb1
            go_wp2_with fail
            refine (filter_eq a true _ (HG.out.below hb) (by omega) HF.out).mono ?_
            rintro e w1 ⟨rfl, hb1⟩
            replace hb := below_more hb hb1
            clear hb1
            go_wp2_with fail
            refine (topic_eq a false _ (HG.out.below hb) (by omega) HT.out).mono ?_
            rintro e w1 ⟨rfl, hb1⟩
            replace hb := below_more hb hb1
            clear hb1
            go_wp2_with fail
            refine (right_eq (connW a) none 0 0 [] false _ (HG.out.below hb) (Subs.nil _) (fit_conn a (by omega)) HC.out).mono ?_
            rintro e w1 ⟨rfl, hb1⟩
            replace hb := below_more hb hb1
            clear hb1
            go_wp2_with fail
            refine (filter_eq a true _ (HG.out.below hb) (by omega) HF.out).mono ?_
            rintro e w1 ⟨rfl, hb1⟩
            replace hb := below_more hb hb1
            clear hb1
            go_wp2_with fail
            refine (filter_eq b false _ (HG.out.below hb) (by omega) HB.out).mono ?_
            rintro e w1 ⟨rfl, hb1⟩
            replace hb := below_more hb hb1
            clear hb1
            go_wp2_with fail
            refine (filter_eq (a ++ [47]) false _ (HG.out.below hb) (by simp; omega) HS.out).mono ?_
            rintro e w1 ⟨rfl, hb1⟩
            replace hb := below_more hb hb1
            clear hb1
            go_wp2_with fail
            refine (filter_eq (a ++ [120]) false _ (HG.out.below hb) (by simp; omega) HX.out).mono ?_
            rintro e w1 ⟨rfl, hb1⟩
            replace hb := below_more hb hb1
            clear hb1
            go_wp2_with fail
            refine (filter_eq a true _ (HG.out.below hb) (by omega) HF.out).mono ?_
            rintro e w1 ⟨rfl, hb1⟩
            replace hb := below_more hb hb1
            clear hb1
            go_wp2_with fail
            refine (awake_any _ (HG.out.below hb)).mono ?_
            rintro e w1 ⟨rfl, hb1⟩
            replace hb := below_more hb hb1
            clear hb1
            go_wp2_with fail
            go_ret
            exact ⟨rfl, hb⟩
          · skip
            have HF := Lib.hid hF; have HW := Lib.hid hW; have HL := Lib.hid hL; have HB := Lib.hid hB
            have HT : Hid (nmB a = false) := by show nmB a = _; rw [nm_fl, hF, hW]; rfl
            have HC : Hid (decide (0 ≤ restN (connW a) []) = false) := (conn_val a (by omega)).trans HT.out
            have HJ : Hid (flB (a ++ 47 :: b) = false) := fl_last a b 47 hL
            have HS : Hid (flB (a ++ [47]) = false) := fl_last a [] 47 hL
            have HX : Hid (flB (a ++ [120]) = false) := fl_last a [] 120 hL
            clear hF hW hL hB
            go_wp2_with fail
            refine (topic_eq a false _ (HG.out.below hb) (by omega) HT.out).mono ?_
            rintro e w1 ⟨rfl, hb1⟩
            replace hb := below_more hb hb1
            clear hb1
            go_wp2_with fail
            refine (filter_eq a true _ (HG.out.below hb) (by omega) HF.out).mono ?_
            rintro e w1 ⟨rfl, hb1⟩
            replace hb := below_more hb hb1
            clear hb1
            go_wp2_with fail
            refine (topic_eq a false _ (HG.out.below hb) (by omega) HT.out).mono ?_
            rintro e w1 ⟨rfl, hb1⟩
            replace hb := below_more hb hb1
            clear hb1
            go_wp2_with fail
            refine (right_eq (connW a) none 0 0 [] false _ (HG.out.below hb) (Subs.nil _) (fit_conn a (by omega)) HC.out).mono ?_
            rintro e w1 ⟨rfl, hb1⟩
            replace hb := below_more hb hb1
            clear hb1
            go_wp2_with fail
            refine (filter_eq a true _ (HG.out.below hb) (by omega) HF.out).mono ?_
            rintro e w1 ⟨rfl, hb1⟩
            replace hb := below_more hb hb1
            clear hb1
            go_wp2_with fail
            refine (filter_eq b true _ (HG.out.below hb) (by omega) HB.out).mono ?_
            rintro e w1 ⟨rfl, hb1⟩
            replace hb := below_more hb hb1
            clear hb1
            go_wp2_with fail
            refine (filter_eq (a ++ 47 :: b) false _ (HG.out.below hb) (by simp; omega) HJ.out).mono ?_
            rintro e w1 ⟨rfl, hb1⟩
            replace hb := below_more hb hb1
            clear hb1
            go_wp2_with fail
            refine (filter_eq (a ++ [47]) false _ (HG.out.below hb) (by simp; omega) HS.out).mono ?_
            rintro e w1 ⟨rfl, hb1⟩
            replace hb := below_more hb hb1
            clear hb1
            go_wp2_with fail
            refine (filter_eq (a ++ [120]) false _ (HG.out.below hb) (by simp; omega) HX.out).mono ?_
            rintro e w1 ⟨rfl, hb1⟩
            replace hb := below_more hb hb1
            clear hb1
            go_wp2_with fail
            refine (filter_eq a true _ (HG.out.below hb) (by omega) HF.out).mono ?_
            rintro e w1 ⟨rfl, hb1⟩
            replace hb := below_more hb hb1
            clear hb1
            go_wp2_with fail
            refine (awake_any _ (HG.out.below hb)).mono ?_
            rintro e w1 ⟨rfl, hb1⟩
            replace hb := below_more hb hb1
            clear hb1
            go_wp2_with fail
            go_ret
            exact ⟨rfl, hb⟩
theorem walk (w : World) (hG : Glo w) (a : List UInt8) (ha : a.length ≤ 9223372036854775807) (b : List UInt8) (hb : b.length ≤ 9223372036854775807) :
    Calls Tryd.prog 7 #[.string ⟨a.toArray⟩, .string ⟨b.toArray⟩] w fun e w' => e = .returned (.bool true) ∧ Below w.heap.size w w' := by
  by_cases h1 : a.length ≤ 3000
  · by_cases h2 : b.length ≤ 3000
    · exact walkIn w a b hG h1 h2
    · have hd1 : decide ((3000 : Int) < (a.length : Int)) = false := by simp; omega
      have hd2 : decide ((3000 : Int) < (b.length : Int)) = true := by simp; omega
      have hb' : Below w.heap.size w w := Below.refl _ _
      have HG := Lib.hid hG
      clear hG
      go_enter Tryd.func7, Tryd.ntmps7
      go_wp2_with fail
      refine (awake_any _ HG.out).mono ?_
      rintro e w1 ⟨rfl, hb1⟩
      go_wp2_with fail
      go_ret
      exact ⟨rfl, hb1⟩
  · have hd1 : decide ((3000 : Int) < (a.length : Int)) = true := by simp; omega
    have HG := Lib.hid hG
    clear hG
    go_enter Tryd.func7, Tryd.ntmps7
    go_wp2_with fail
    refine (awake_any _ HG.out).mono ?_
    rintro e w1 ⟨rfl, hb1⟩
    go_wp2_with fail
    go_ret
    exact ⟨rfl, hb1⟩
end lawPacketTopics
end Go.Proofs.YtbbmfhelncedcaaDoor
