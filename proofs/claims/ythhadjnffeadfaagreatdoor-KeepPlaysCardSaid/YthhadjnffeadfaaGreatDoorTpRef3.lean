/-
  topic: the document's own answers: what covers what; levels joined.
-/
import Derived.Test.YthhadjnffeadfaaGreatDoorTpRef2
set_option linter.unusedSimpArgs false
set_option linter.unusedVariables false
namespace Go.Proofs.YthhadjnffeadfaaGreatDoor
open Go.RowKit

set_option maxHeartbeats 4000000 in
set_option maxRecDepth 100000 in
theorem refCovers_in (l m : List UInt8) (L M : List (List UInt8)) (b : Bool) (w : World) (hl : l.length ≤ 100000000) (hm : m.length ≤ 100000000) (hL : levs l = L) (hM : levs m = M) (hf : filB l = true) (hg : filB m = true) (hwd : (wilX l && dolB m) = false) (h : covL L M = b) :
    Calls Tryz.prog 37 #[.string ⟨l.toArray⟩, .string ⟨m.toArray⟩] w fun e w' => e = .returned (.bool b) ∧ Below w.heap.size w w' := by
  have hll := levs_len l
  have hlm := levs_len m
  rw [hL] at hll
  rw [hM] at hlm
  have hMp : 0 < M.length := by rw [← hM]; exact levs_pos m
  obtain ⟨d, t, hd⟩ : ∃ d t, m = d :: t := by
    have := (fil_parts hg).1
    cases m with
    | nil => exact absurd rfl this
    | cons d t => exact ⟨d, t, rfl⟩
  have hat : ∀ h' : 0 < (ByteArray.mk m.toArray).size, (ByteArray.mk m.toArray)[0]'h' = d := by intro h'; subst hd; rfl
  have hsz : (ByteArray.mk m.toArray).size = m.length := by show m.toArray.size = _; simp
  have hml : 0 < m.length := by rw [hd]; simp
  have hs0 : 0 < (ByteArray.mk m.toArray).size := by rw [hsz]; exact hml
  have hdol : ((d.toNat : Int) == 36) = dolB m := by
    rw [hd]
    show _ = (some d == some 36)
    rw [Bool.eq_iff_iff]; simp only [beq_iff_eq, Option.some.injEq]; exact ⟨fun e => UInt8.toNat_inj.1 (by show d.toNat = 36; omega), fun e => by rw [e]; rfl⟩
  have HL := Lib.hid hL
  have HM := Lib.hid hM
  have HF := Lib.hid hf
  have HF2 := Lib.hid hg
  have HC := Lib.hid h
  have hb : Below w.heap.size w w := Below.refl _ _
  clear h hf hg hL hM hd hsz
  cases hw : wilX l with
  | false =>
    have HW := Lib.hid hw
    clear hw hwd hdol
    go_enter Tryz.func37, Tryz.ntmps37
    go_wp2_with fail
    refine (refFilter_eq l true _ (by omega) HF.out).mono ?_
    rintro e w1 ⟨rfl, hb1⟩
    replace hb := below_more hb hb1
    clear hb1
    go_wp2_with fail
    refine (refFilter_eq m true _ (by omega) HF2.out).mono ?_
    rintro e w1 ⟨rfl, hb1⟩
    replace hb := below_more hb hb1
    clear hb1
    go_wp2_with fail
    refine (refWild_eq l false _ (by omega) HW.out).mono ?_
    rintro e w1 ⟨rfl, hb1⟩
    replace hb := below_more hb hb1
    clear hb1
    go_wp2_with fail
    refine (refLevels_eq l L _ hl HL.out).mono ?_
    rintro e w2 ⟨g1, c1, rfl, _, hs1, hb2⟩
    replace hb := below_more hb hb2
    clear hb2
    go_wp2_with fail
    refine (refLevels_eq m M _ hm HM.out).mono ?_
    rintro e w3 ⟨g2, c2, rfl, _, hs2, hb3⟩
    replace hb := below_more hb hb3
    replace hs1 := hs1.below hb3
    clear hb3
    go_wp2_with fail
    go_loopw [7] (fun i wr => ∃ k : Nat, i = .int .i64 k ∧ k ≤ L.length ∧ k ≤ M.length ∧ Below w.heap.size w wr ∧ Strs wr (some ⟨g1, 0, none⟩) L.length L ∧ Strs wr (some ⟨g2, 0, none⟩) M.length M ∧ Hid (covL (L.drop k) (M.drop k) = b)) (fun i _ => L.length - (intOf i).toNat)
    case atStart => exact ⟨0, rfl, by omega, by omega, hb, hs1, hs2, HC.out⟩
    case round =>
      clear hb hs1 hs2
      obtain ⟨k, rfl, hk, hk2, hb, hs1, hs2, hc⟩ := hrel
      by_cases hlt : k < L.length
      · obtain ⟨x, hx, hcx⟩ := hs1.at0 (k := k) hlt
        have hkI : (k : Int) < (L.length : Int) := by omega
        have H1 := Lib.hid hs1
        have H2 := Lib.hid hs2
        by_cases h35 : x = [35]
        · have h35b : (x == [35]) = true := by simpa using h35
          have HN : Hid (b = true) := by show _ = _; rw [← hc.out]; exact cov_dropx L M k x hx h35
          clear hs1 hs2 hx h35
          go_wp2_with fail
          go_ret
          exact ⟨by rw [HN.out]; rfl, hb⟩
        · have h35b : (x == [35]) = false := by simpa using h35
          by_cases hge : M.length ≤ k
          · have hgeI : (M.length : Int) ≤ (k : Int) := by omega
            have HN : Hid (b = false) := by show _ = _; rw [← hc.out]; exact cov_dropb L M k x hx h35 hge
            have hgd : decide ((M.length : Int) ≤ (k : Int)) = true := decide_eq_true hgeI
            clear hs1 hs2 hx h35
            go_wp2_with fail
            go_quiet (fail)
            go_wp2_with fail
            go_ret
            exact ⟨by rw [HN.out]; rfl, below_drewN hb _⟩
          · obtain ⟨y, hy, hcy⟩ := hs2.at0 (k := k) (by omega)
            have hkM : (k : Int) < (M.length : Int) := by omega
            have hkM2 : ¬ (M.length : Int) ≤ (k : Int) := by omega
            have hgd : decide ((M.length : Int) ≤ (k : Int)) = false := decide_eq_false hkM2
            have hcc := cov_dropc L M k x y hx h35 hy
            clear hs1 hs2 hx h35 hy
            cases hl3 : lcB x y with
            | false =>
              have HN : Hid (b = false) := by show _ = _; rw [← hc.out, hcc, hl3]; rfl
              cases hy35 : y == [35] with
              | true =>
                clear hcc hl3
                go_wp2_with fail
                go_quiet (fail)
                go_wp2_with fail
                go_ret
                exact ⟨by rw [HN.out]; rfl, below_drewN hb _⟩
              | false =>
                cases h43 : x == [43] with
                | true =>
                  exfalso
                  have h5 : x = [43] := by simpa using h43
                  rw [h5, lc_43, bne, hy35] at hl3; cases hl3
                | false =>
                  have h43n : (x != [43]) = true := by rw [bne, h43]; rfl
                  have hxy : (x == y) = false := by rw [lc_other x y h43] at hl3; exact hl3
                  clear hcc hl3
                  go_wp2_with fail
                  go_quiet (fail)
                  go_wp2_with fail
                  go_ret
                  exact ⟨by rw [HN.out]; rfl, below_drewN hb _⟩
            | true =>
              have HN : Hid (covL (L.drop (k + 1)) (M.drop (k + 1)) = b) := by show _ = _; rw [← hc.out, hcc, hl3]; rfl
              have hy35 : (y == [35]) = false := by
                have := lc_ne x y (by simpa using h35b) hl3
                simpa using this
              cases h43 : x == [43] with
              | true =>
                have h43n : (x != [43]) = false := by rw [bne, h43]; rfl
                clear hcc hl3
                go_wp2_with fail
                go_quiet (fail)
                have hb9 : Below wr.heap.size wr (wr.drewN nq) := below_drewN (Below.refl _ _) _
                generalize wr.drewN nq = w9 at hb9 ⊢
                go_wp2_with fail
                go_roundw
                case rel => exact ⟨k + 1, by go_num, by omega, by omega, below_more hb hb9, H1.out.below hb9, H2.out.below hb9, HN.out⟩
                case measure => simp [intOf]; omega
              | false =>
                have h43n : (x != [43]) = true := by rw [bne, h43]; rfl
                have hxy : (x == y) = true := by rw [lc_other x y h43] at hl3; exact hl3
                clear hcc hl3
                go_wp2_with fail
                go_quiet (fail)
                have hb9 : Below wr.heap.size wr (wr.drewN nq) := below_drewN (Below.refl _ _) _
                generalize wr.drewN nq = w9 at hb9 ⊢
                go_wp2_with fail
                go_roundw
                case rel => exact ⟨k + 1, by go_num, by omega, by omega, below_more hb hb9, H1.out.below hb9, H2.out.below hb9, HN.out⟩
                case measure => simp [intOf]; omega
      · have HN : Hid (((L.length : Int) == (M.length : Int)) = b) := by
          show _ = _
          rw [← hc.out, cov_dropa L M k (by omega), Bool.eq_iff_iff]; simp; omega
        clear hs1 hs2
        go_wp2_with fail
        go_ret
        exact ⟨by rw [← HN.out]; rfl, hb⟩
  | true =>
    rw [hw, Bool.true_and] at hwd
    rw [hwd] at hdol
    have HW := Lib.hid hw
    clear hw hwd
    go_enter Tryz.func37, Tryz.ntmps37
    go_wp2_with fail
    refine (refFilter_eq l true _ (by omega) HF.out).mono ?_
    rintro e w1 ⟨rfl, hb1⟩
    replace hb := below_more hb hb1
    clear hb1
    go_wp2_with fail
    refine (refFilter_eq m true _ (by omega) HF2.out).mono ?_
    rintro e w1 ⟨rfl, hb1⟩
    replace hb := below_more hb hb1
    clear hb1
    go_wp2_with fail
    refine (refWild_eq l true _ (by omega) HW.out).mono ?_
    rintro e w1 ⟨rfl, hb1⟩
    replace hb := below_more hb hb1
    clear hb1
    go_wp2_with fail
    refine (refLevels_eq l L _ hl HL.out).mono ?_
    rintro e w2 ⟨g1, c1, rfl, _, hs1, hb2⟩
    replace hb := below_more hb hb2
    clear hb2
    go_wp2_with fail
    refine (refLevels_eq m M _ hm HM.out).mono ?_
    rintro e w3 ⟨g2, c2, rfl, _, hs2, hb3⟩
    replace hb := below_more hb hb3
    replace hs1 := hs1.below hb3
    clear hb3
    go_wp2_with fail
    go_loopw [7] (fun i wr => ∃ k : Nat, i = .int .i64 k ∧ k ≤ L.length ∧ k ≤ M.length ∧ Below w.heap.size w wr ∧ Strs wr (some ⟨g1, 0, none⟩) L.length L ∧ Strs wr (some ⟨g2, 0, none⟩) M.length M ∧ Hid (covL (L.drop k) (M.drop k) = b)) (fun i _ => L.length - (intOf i).toNat)
    case atStart => exact ⟨0, rfl, by omega, by omega, hb, hs1, hs2, HC.out⟩
    case round =>
      clear hb hs1 hs2
      obtain ⟨k, rfl, hk, hk2, hb, hs1, hs2, hc⟩ := hrel
      by_cases hlt : k < L.length
      · obtain ⟨x, hx, hcx⟩ := hs1.at0 (k := k) hlt
        have hkI : (k : Int) < (L.length : Int) := by omega
        have H1 := Lib.hid hs1
        have H2 := Lib.hid hs2
        by_cases h35 : x = [35]
        · have h35b : (x == [35]) = true := by simpa using h35
          have HN : Hid (b = true) := by show _ = _; rw [← hc.out]; exact cov_dropx L M k x hx h35
          clear hs1 hs2 hx h35
          go_wp2_with fail
          go_ret
          exact ⟨by rw [HN.out]; rfl, hb⟩
        · have h35b : (x == [35]) = false := by simpa using h35
          by_cases hge : M.length ≤ k
          · have hgeI : (M.length : Int) ≤ (k : Int) := by omega
            have HN : Hid (b = false) := by show _ = _; rw [← hc.out]; exact cov_dropb L M k x hx h35 hge
            have hgd : decide ((M.length : Int) ≤ (k : Int)) = true := decide_eq_true hgeI
            clear hs1 hs2 hx h35
            go_wp2_with fail
            go_quiet (fail)
            go_wp2_with fail
            go_ret
            exact ⟨by rw [HN.out]; rfl, below_drewN hb _⟩
          · obtain ⟨y, hy, hcy⟩ := hs2.at0 (k := k) (by omega)
            have hkM : (k : Int) < (M.length : Int) := by omega
            have hkM2 : ¬ (M.length : Int) ≤ (k : Int) := by omega
            have hgd : decide ((M.length : Int) ≤ (k : Int)) = false := decide_eq_false hkM2
            have hcc := cov_dropc L M k x y hx h35 hy
            clear hs1 hs2 hx h35 hy
            cases hl3 : lcB x y with
            | false =>
              have HN : Hid (b = false) := by show _ = _; rw [← hc.out, hcc, hl3]; rfl
              cases hy35 : y == [35] with
              | true =>
                clear hcc hl3
                go_wp2_with fail
                go_quiet (fail)
                go_wp2_with fail
                go_ret
                exact ⟨by rw [HN.out]; rfl, below_drewN hb _⟩
              | false =>
                cases h43 : x == [43] with
                | true =>
                  exfalso
                  have h5 : x = [43] := by simpa using h43
                  rw [h5, lc_43, bne, hy35] at hl3; cases hl3
                | false =>
                  have h43n : (x != [43]) = true := by rw [bne, h43]; rfl
                  have hxy : (x == y) = false := by rw [lc_other x y h43] at hl3; exact hl3
                  clear hcc hl3
                  go_wp2_with fail
                  go_quiet (fail)
                  go_wp2_with fail
                  go_ret
                  exact ⟨by rw [HN.out]; rfl, below_drewN hb _⟩
            | true =>
              have HN : Hid (covL (L.drop (k + 1)) (M.drop (k + 1)) = b) := by show _ = _; rw [← hc.out, hcc, hl3]; rfl
              have hy35 : (y == [35]) = false := by
                have := lc_ne x y (by simpa using h35b) hl3
                simpa using this
              cases h43 : x == [43] with
              | true =>
                have h43n : (x != [43]) = false := by rw [bne, h43]; rfl
                clear hcc hl3
                go_wp2_with fail
                go_quiet (fail)
                have hb9 : Below wr.heap.size wr (wr.drewN nq) := below_drewN (Below.refl _ _) _
                generalize wr.drewN nq = w9 at hb9 ⊢
                go_wp2_with fail
                go_roundw
                case rel => exact ⟨k + 1, by go_num, by omega, by omega, below_more hb hb9, H1.out.below hb9, H2.out.below hb9, HN.out⟩
                case measure => simp [intOf]; omega
              | false =>
                have h43n : (x != [43]) = true := by rw [bne, h43]; rfl
                have hxy : (x == y) = true := by rw [lc_other x y h43] at hl3; exact hl3
                clear hcc hl3
                go_wp2_with fail
                go_quiet (fail)
                have hb9 : Below wr.heap.size wr (wr.drewN nq) := below_drewN (Below.refl _ _) _
                generalize wr.drewN nq = w9 at hb9 ⊢
                go_wp2_with fail
                go_roundw
                case rel => exact ⟨k + 1, by go_num, by omega, by omega, below_more hb hb9, H1.out.below hb9, H2.out.below hb9, HN.out⟩
                case measure => simp [intOf]; omega
      · have HN : Hid (((L.length : Int) == (M.length : Int)) = b) := by
          show _ = _
          rw [← hc.out, cov_dropa L M k (by omega), Bool.eq_iff_iff]; simp; omega
        clear hs1 hs2
        go_wp2_with fail
        go_ret
        exact ⟨by rw [← HN.out]; rfl, hb⟩

theorem refCovers_eq (l m : List UInt8) (b : Bool) (w : World) (hl : l.length ≤ 100000000) (hm : m.length ≤ 100000000) (h : covB l m = b) :
    Calls Tryz.prog 37 #[.string ⟨l.toArray⟩, .string ⟨m.toArray⟩] w fun e w' => e = .returned (.bool b) ∧ Below w.heap.size w w' := by
  have hb : Below w.heap.size w w := Below.refl _ _
  cases hf : filB l with
  | false =>
    have H : b = false := by rw [← h, covB, hf]; rfl
    subst H
    have HF := Lib.hid hf
    clear h hf
    go_enter Tryz.func37, Tryz.ntmps37
    go_wp2_with fail
    refine (refFilter_eq l false _ (by omega) HF.out).mono ?_
    rintro e w1 ⟨rfl, hb1⟩
    replace hb := below_more hb hb1
    clear hb1
    go_wp2_with fail
    go_ret
    exact ⟨rfl, hb⟩
  | true =>
    cases hg : filB m with
    | false =>
      have H : b = false := by rw [← h, covB, hf, hg]; rfl
      subst H
      have HF := Lib.hid hf
      have HF2 := Lib.hid hg
      clear h hf hg
      go_enter Tryz.func37, Tryz.ntmps37
      go_wp2_with fail
      refine (refFilter_eq l true _ (by omega) HF.out).mono ?_
      rintro e w1 ⟨rfl, hb1⟩
      replace hb := below_more hb hb1
      clear hb1
      go_wp2_with fail
      refine (refFilter_eq m false _ (by omega) HF2.out).mono ?_
      rintro e w1 ⟨rfl, hb1⟩
      replace hb := below_more hb hb1
      clear hb1
      go_wp2_with fail
      go_ret
      exact ⟨rfl, hb⟩
    | true =>
      have hwx : wilX l = wilB l := (fit_head l hf).symm
      cases hwd : (wilX l && dolB m) with
      | false =>
        refine refCovers_in l m _ _ b w hl hm rfl rfl hf hg hwd ?_
        rw [← h, covB, hf, hg, ← hwx, hwd]; rfl
      | true =>
        have H : b = false := by rw [← h, covB, ← hwx, hwd]; simp
        subst H
        rw [Bool.and_eq_true] at hwd
        obtain ⟨d, t, hd⟩ : ∃ d t, m = d :: t := by
          have := (fil_parts hg).1
          cases m with
          | nil => exact absurd rfl this
          | cons d t => exact ⟨d, t, rfl⟩
        have hat : ∀ h' : 0 < (ByteArray.mk m.toArray).size, (ByteArray.mk m.toArray)[0]'h' = d := by intro h'; subst hd; rfl
        have hsz : (ByteArray.mk m.toArray).size = m.length := by show m.toArray.size = _; simp
        have hml : 0 < m.length := by rw [hd]; simp
        have hs0 : 0 < (ByteArray.mk m.toArray).size := by rw [hsz]; exact hml
        have hdol : ((d.toNat : Int) == 36) = true := by
          rw [← hwd.2, hd]
          show _ = (some d == some 36)
          rw [Bool.eq_iff_iff]; simp only [beq_iff_eq, Option.some.injEq]; exact ⟨fun e => UInt8.toNat_inj.1 (by show d.toNat = 36; omega), fun e => by rw [e]; rfl⟩
        have HF := Lib.hid hf
        have HF2 := Lib.hid hg
        have HW := Lib.hid hwd.1
        clear h hf hg hwx hwd hd hsz
        go_enter Tryz.func37, Tryz.ntmps37
        go_wp2_with fail
        refine (refFilter_eq l true _ (by omega) HF.out).mono ?_
        rintro e w1 ⟨rfl, hb1⟩
        replace hb := below_more hb hb1
        clear hb1
        go_wp2_with fail
        refine (refFilter_eq m true _ (by omega) HF2.out).mono ?_
        rintro e w1 ⟨rfl, hb1⟩
        replace hb := below_more hb hb1
        clear hb1
        go_wp2_with fail
        refine (refWild_eq l true _ (by omega) HW.out).mono ?_
        rintro e w1 ⟨rfl, hb1⟩
        replace hb := below_more hb hb1
        clear hb1
        go_wp2_with fail
        go_ret
        exact ⟨rfl, hb⟩
theorem refMatch_eq (l m : List UInt8) (b : Bool) (w : World) (hl : l.length ≤ 100000000) (hm : m.length ≤ 100000000) (h : matB l m = b) :
    Calls Tryz.prog 29 #[.string ⟨l.toArray⟩, .string ⟨m.toArray⟩] w fun e w' => e = .returned (.bool b) ∧ Below w.heap.size w w' := by
  have hb : Below w.heap.size w w := Below.refl _ _
  cases hf : namB m with
  | false =>
    have H : b = false := by rw [← h, matB, hf]; rfl
    subst H
    have HF := Lib.hid hf
    clear h hf
    go_enter Tryz.func29, Tryz.ntmps29
    go_wp2_with fail
    refine (refName_eq m false _ (by omega) HF.out).mono ?_
    rintro e w1 ⟨rfl, hb1⟩
    replace hb := below_more hb hb1
    clear hb1
    go_wp2_with fail
    go_ret
    exact ⟨rfl, hb⟩
  | true =>
    have H : Hid (covB l m = b) := by show _ = _; rw [← h, matB, hf]; rfl
    have HF := Lib.hid hf
    clear h hf
    go_enter Tryz.func29, Tryz.ntmps29
    go_wp2_with fail
    refine (refName_eq m true _ (by omega) HF.out).mono ?_
    rintro e w1 ⟨rfl, hb1⟩
    replace hb := below_more hb hb1
    clear hb1
    go_wp2_with fail
    refine (refCovers_eq l m b _ hl hm H.out).mono ?_
    rintro e w1 ⟨rfl, hb1⟩
    replace hb := below_more hb hb1
    clear hb1
    go_wp2_with fail
    go_ret
    exact ⟨rfl, hb⟩
theorem joinL_app : ∀ (a b : List (List UInt8)), a ≠ [] → b ≠ [] → joinL (a ++ b) = joinL a ++ 47 :: joinL b
  | [], _, h, _ => absurd rfl h
  | [x], b, _, hb => by
    cases b with
    | nil => exact absurd rfl hb
    | cons y r => rw [List.singleton_append, joinL_cons, joinL_one]
  | x :: y :: r, b, _, hb => by
    rw [List.cons_append, List.cons_append, joinL_cons, joinL_cons, ← List.cons_append, joinL_app (y :: r) b (by simp) hb]
    simp
theorem joinL_take (xs : List (List UInt8)) (k : Nat) (x : List UInt8) (hx : xs[k]? = some x) : joinL (xs.take (k + 1)) = if k = 0 then x else joinL (xs.take k) ++ 47 :: x := by
  rw [List.take_add_one, hx]
  obtain ⟨h1, _⟩ := List.getElem?_eq_some_iff.1 hx
  by_cases h0 : k = 0
  · subst h0; rw [if_pos rfl]; exact joinL_one x
  · rw [if_neg h0, Option.toList_some, joinL_app _ _ (by intro h; rw [List.take_eq_nil_iff] at h; rcases h with h | h; exact h0 h; rw [h] at h1; simp at h1) (by simp), joinL_one]
theorem joinL_take_le (xs : List (List UInt8)) (k : Nat) : (joinL (xs.take k)).length ≤ (joinL xs).length := by
  by_cases h0 : xs.take k = []
  · rw [h0, joinL_nil]; simp
  · by_cases h1 : xs.drop k = []
    · have := List.take_append_drop k xs
      rw [h1, List.append_nil] at this
      rw [this]; exact Nat.le_refl _
    · have := joinL_app _ _ h0 h1
      rw [List.take_append_drop] at this
      rw [this]; simp
end Go.Proofs.YthhadjnffeadfaaGreatDoor
