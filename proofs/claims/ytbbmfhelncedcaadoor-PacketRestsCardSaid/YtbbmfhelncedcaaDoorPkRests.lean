/-
  PacketRests.
-/
import Derived.Test.YtbbmfhelncedcaaDoorPkJ
import Derived.Test.YtbbmfhelncedcaaDoorPkGreat
import Derived.Test.YtbbmfhelncedcaaDoorPkRestsM
import Derived.Deep.Cut
set_option linter.unusedSimpArgs false
set_option linter.unusedVariables false
namespace Go.Proofs.YtbbmfhelncedcaaDoor
open Go.RowKit
namespace lawPacketRests
theorem fit_load {p : Pk} {xs : List (List UInt8 × Int)} (h : Fit p xs) (h1 : totB p xs ≤ 10000) (s : List UInt8) (hl : s.length ≤ 1000) : Fit (p.s_load (p.load ++ s)) xs :=
  ⟨h.ty, h.qos, h.id, h.level, h.keep, h.wq, h.code, by simp only [totB, Pk.s_load, List.length_append] at h1 ⊢; omega, h.num, h.sub⟩
theorem fit_up {p : Pk} {xs : List (List UInt8 × Int)} (h : Fit p xs) : Fit ((p.s_qos 2).s_id 1) xs :=
  ⟨h.ty, (by show (0 : Int) ≤ 2 ∧ (2 : Int) ≤ 255; omega), (by show (0 : Int) ≤ 1 ∧ (1 : Int) ≤ 65535; omega), h.level, h.keep, h.wq, h.code, h.tot, h.num, h.sub⟩
theorem fit_down {p : Pk} {xs : List (List UInt8 × Int)} (h : Fit p xs) : Fit (((p.s_qos 0).s_id 0).s_dup false) xs :=
  ⟨h.ty, (by show (0 : Int) ≤ 0 ∧ (0 : Int) ≤ 255; omega), (by show (0 : Int) ≤ 0 ∧ (0 : Int) ≤ 65535; omega), h.level, h.keep, h.wq, h.code, h.tot, h.num, h.sub⟩
theorem fit_pass {p : Pk} {xs : List (List UInt8 × Int)} (h : Fit p xs) (h1 : totB p xs ≤ 10000) (s : List UInt8) (hl : s.length ≤ 1000) : Fit (p.s_pass (p.pass ++ s)) xs :=
  ⟨h.ty, h.qos, h.id, h.level, h.keep, h.wq, h.code, by simp only [totB, Pk.s_pass, List.length_append] at h1 ⊢; omega, h.num, h.sub⟩
theorem fit_pass2 {p : Pk} {xs : List (List UInt8 × Int)} (h : Fit p xs) (h1 : totB p xs ≤ 10000) (s : List UInt8) (hl : s.length ≤ 1000) : Fit ((p.s_hasPass true).s_pass s) xs :=
  ⟨h.ty, h.qos, h.id, h.level, h.keep, h.wq, h.code, by simp only [totB, Pk.s_pass, Pk.s_hasPass] at h1 ⊢; omega, h.num, h.sub⟩
theorem restN_le (p : Pk) (xs : List (List UInt8 × Int)) : restN p xs ≤ 268435455 ∧ (0 ≤ restN p xs → restN p xs = takeB p xs) := by
  unfold restN
  split
  · rename_i h
    simp only [Bool.and_eq_true, decide_eq_true_eq] at h
    exact ⟨h.1.2, fun _ => rfl⟩
  · exact ⟨by omega, fun h => by omega⟩
theorem pub_le {p : Pk} {xs : List (List UInt8 × Int)} {v : Int} (h3 : p.ty = 3) (h : restN p xs = v) (hv : 0 ≤ v) (ht : totB p xs ≤ 10000) : v ≤ 20000 := by
  obtain ⟨_, h2, _, _⟩ := pub_parts h3 h hv
  rw [← h2]
  unfold pubB fldB
  unfold totB at ht
  split <;> omega
theorem con_le {p : Pk} {xs : List (List UInt8 × Int)} {v : Int} (h3 : p.ty = 1) (h : restN p xs = v) (hv : 0 ≤ v) (ht : totB p xs ≤ 10000) : v ≤ 20000 := by
  obtain ⟨_, h2, _, _⟩ := con_parts h3 h hv
  rw [← h2]
  unfold conB fldB
  unfold totB at ht
  split <;> split <;> split <;> omega
set_option maxRecDepth 100000 in
set_option maxHeartbeats 4000000 in
theorem walk (w : World) (hG : Glo w) (p : Pk) (A : Option Addr) (n c : Nat) (xs : List (List UInt8 × Int)) (hs : Subs w A n xs) (hc : A = none → c = 0) (hp : Came p xs) (s : List UInt8) (hs1 : s.length ≤ 9223372036854775807) :
    Calls Tryd.prog 8 #[.agg (PkC p A n c), .string ⟨s.toArray⟩] w fun e w' => e = .returned (.bool true) ∧ Below w.heap.size w w' := by
  have hK0 := (Kp.nil w).new (PkC p A n c) 27
  have HG := Lib.hid hG
  have HS := Lib.hid hs
  have HC := Lib.hid hp
  clear hG hs hp hc
  go_enter Tryd.func8, Tryd.ntmps8
  go_wp2_with fail
  refine (great_any p A n c xs _ (HS.out.below hK0.below) HC.out).mono ?_
  rintro e w6 ⟨g, rfl, hgr, hb6⟩
  have hP := hK0.more hb6
  clear hb6 hK0
  have p1r := hP.row; have p1f := hP.free; have p1c := hP.cell; have p1l := hP.lt; have p1z := hP.froz
  cases g with
  | true =>
    clear hgr
    go_wp2_with fail
    refine (awake_any _ (HG.out.below hP.below)).mono ?_
    rintro e w7 ⟨rfl, hb7⟩
    go_wp2_with fail
    go_ret
    exact ⟨rfl, below_more hP.below hb7⟩
  | false =>
    obtain ⟨g1, g2⟩ := hgr rfl
    have HF := Lib.hid (fit_came HC.out g1 g2)
    clear hgr
    by_cases hl : 1000 < s.length
    · have hd : decide ((1000 : Int) < (s.length : Int)) = true := by simp; omega
      go_wp2_with fail
      refine (awake_any _ (HG.out.below hP.below)).mono ?_
      rintro e w7 ⟨rfl, hb7⟩
      go_wp2_with fail
      go_ret
      exact ⟨rfl, below_more hP.below hb7⟩
    · have hd : decide ((1000 : Int) < (s.length : Int)) = false := by simp; omega
      obtain ⟨v, hv⟩ : ∃ v, restN p xs = v := ⟨_, rfl⟩
      have HV := Lib.hid hv
      clear hv
      go_wp2_with fail
      refine (rest_eq p A n c xs v _ (HG.out.below hP.below) (HS.out.below hP.below) HF.out HV.out).mono ?_
      rintro e w7 ⟨rfl, hb7⟩
      have hQ := hP.more hb7
      clear p1r p1f p1c p1z p1l hb7 hP
      have q1r := hQ.row; have q1f := hQ.free; have q1c := hQ.cell; have q1l := hQ.lt; have q1z := hQ.froz
      have n1 := Nat.ne_of_lt q1l
      have hvl := (restN_le p xs).1
      rw [HV.out] at hvl
      go_upto_region 5 with fail
      obtain ⟨w8, hw8⟩ : ∃ w8 : World, w8 = w7.alloc (.cells (PkC p A n c) 27) := ⟨_, rfl⟩
      have hK8 := hQ.new (PkC p A n c) 27
      rw [← hw8] at hK8 ⊢
      generalize w7.heap.size = h at *
      clear hw8 q1r q1f q1c q1z hQ
      have hdist : ∀ y ∈ [(w.heap.size, PkC p A n c, 27)], y.1 ≠ h := by
        intro y hy; simp at hy; subst hy; exact n1
      have n2 : ¬ h = w.heap.size := fun e => n1 e.symm
      have a1r := hK8.row; have a1f := hK8.free; have a1c := hK8.cell; have a1l := hK8.lt; have a1z := hK8.froz
      have a2r := hK8.tail.row; have a2f := hK8.tail.free; have a2c := hK8.tail.cell; have a2l := hK8.tail.lt; have a2z := hK8.tail.froz
      by_cases hv0 : v < 0
      · have hd1 : decide (v < 0) = true := by simpa using hv0
        go_wp2_with fail
        refine (awake_any _ (HG.out.below hK8.below)).mono ?_
        rintro e w20 ⟨rfl, hb20⟩
        go_wp2_with fail
        go_ret
        exact ⟨rfl, below_more hK8.below hb20⟩
      · have hv1 : 0 ≤ v := by omega
        have hd1 : decide (v < 0) = false := by simpa using hv1
        have hd9 : decide (0 ≤ v) = true := by simpa using hv1
        by_cases h3 : p.ty = 3
        · have hvs := pub_le h3 HV.out hv1 g1
          have had := fun W => add_str (P := Tryd.prog) W p.load s (by have := HC.out.lens; have := g1; unfold totB at this; omega)
          have R1 := Lib.hid (grow_load s h3 HV.out hv1 (by omega))
          have F1 := Lib.hid (fit_load HF.out g1 s (by omega))
          have hw1 : wrap64 (v + (s.length : Int)) = v + (s.length : Int) := IntWalk.wrap64_in _ (by omega)
          have hw2 : IntKind.i64.wrap (v + (s.length : Int)) = v + (s.length : Int) := IntWalk.i64_in _ (by omega)
          have hw3 : wrap64 (v + (s.length : Int) + 2) = v + (s.length : Int) + 2 := IntWalk.wrap64_in _ (by omega)
          have hw4 : wrap64 (v + (s.length : Int) - 2) = v + (s.length : Int) - 2 := IntWalk.wrap64_in _ (by omega)
          go_upto_region 9 with fail
          have hK9 := hK8.set hdist (PkC (p.s_load (p.load ++ s)) A n c)
          obtain ⟨w9, hw9⟩ : ∃ w9 : World, w9 = w8.setRow h (PkC (p.s_load (p.load ++ s)) A n c) := ⟨_, rfl⟩
          rw [← hw9] at hK9 ⊢
          clear hw9 a1r a1f a1c a1z a1l a2r a2f a2c a2z a2l hK8
          have a1r := hK9.row; have a1f := hK9.free; have a1c := hK9.cell; have a1l := hK9.lt; have a1z := hK9.froz
          have a2r := hK9.tail.row; have a2f := hK9.tail.free; have a2c := hK9.tail.cell; have a2l := hK9.tail.lt; have a2z := hK9.tail.froz
          go_wp2_with fail
          refine (rest_eq (p.s_load (p.load ++ s)) A n c xs (v + s.length) _ (HG.out.below hK9.below) (HS.out.below hK9.below) F1.out R1.out).mono ?_
          rintro e w10 ⟨rfl, hb10⟩
          have hK10 := hK9.more hb10
          clear a1r a1f a1c a1z a1l a2r a2f a2c a2z a2l hb10
          clear hK9
          have a1r := hK10.row; have a1f := hK10.free; have a1c := hK10.cell; have a1l := hK10.lt; have a1z := hK10.froz
          have a2r := hK10.tail.row; have a2f := hK10.tail.free; have a2c := hK10.tail.cell; have a2l := hK10.tail.lt; have a2z := hK10.tail.froz
          by_cases hq : p.qos = 0
          · have R2 := Lib.hid (pub_up (p := p.s_load (p.load ++ s)) h3 hq R1.out (by omega) (by omega))
            have F2 := Lib.hid (fit_up F1.out)
            go_upto_region 14 with fail
            have hK9 := hK10.set hdist (PkC (((p.s_load (p.load ++ s)).s_qos 2).s_id 1) A n c)
            obtain ⟨w9, hw9⟩ : ∃ w9 : World, w9 = w10.setRow h (PkC (((p.s_load (p.load ++ s)).s_qos 2).s_id 1) A n c) := ⟨_, rfl⟩
            rw [← hw9] at hK9 ⊢
            clear hw9 a1r a1f a1c a1z a1l a2r a2f a2c a2z a2l hK10
            have a1r := hK9.row; have a1f := hK9.free; have a1c := hK9.cell; have a1l := hK9.lt; have a1z := hK9.froz
            have a2r := hK9.tail.row; have a2f := hK9.tail.free; have a2c := hK9.tail.cell; have a2l := hK9.tail.lt; have a2z := hK9.tail.froz
            go_wp2_with fail
            refine (rest_eq (((p.s_load (p.load ++ s)).s_qos 2).s_id 1) A n c xs (v + s.length + 2) _ (HG.out.below hK9.below) (HS.out.below hK9.below) F2.out R2.out).mono ?_
            rintro e w10 ⟨rfl, hb10⟩
            have hK10 := hK9.more hb10
            clear a1r a1f a1c a1z a1l a2r a2f a2c a2z a2l hb10
            go_wp2_with fail
            refine (awake_any _ (HG.out.below hK10.below)).mono ?_
            rintro e w20 ⟨rfl, hb20⟩
            go_wp2_with fail
            go_ret
            exact ⟨rfl, below_more hK10.below hb20⟩
          · have hq1 : 0 < p.qos := by have := HC.out.qos; omega
            have hq2 : (p.qos == 0) = false := by simpa using hq
            have R2 := Lib.hid (pub_down (p := p.s_load (p.load ++ s)) h3 hq1 R1.out (by omega) (by omega))
            have F2 := Lib.hid (fit_down F1.out)
            go_upto_region 18 with fail
            have hK9 := hK10.set hdist (PkC ((((p.s_load (p.load ++ s)).s_qos 0).s_id 0).s_dup false) A n c)
            obtain ⟨w9, hw9⟩ : ∃ w9 : World, w9 = w10.setRow h (PkC ((((p.s_load (p.load ++ s)).s_qos 0).s_id 0).s_dup false) A n c) := ⟨_, rfl⟩
            rw [← hw9] at hK9 ⊢
            clear hw9 a1r a1f a1c a1z a1l a2r a2f a2c a2z a2l hK10
            have a1r := hK9.row; have a1f := hK9.free; have a1c := hK9.cell; have a1l := hK9.lt; have a1z := hK9.froz
            have a2r := hK9.tail.row; have a2f := hK9.tail.free; have a2c := hK9.tail.cell; have a2l := hK9.tail.lt; have a2z := hK9.tail.froz
            go_wp2_with fail
            refine (rest_eq ((((p.s_load (p.load ++ s)).s_qos 0).s_id 0).s_dup false) A n c xs (v + s.length - 2) _ (HG.out.below hK9.below) (HS.out.below hK9.below) F2.out R2.out).mono ?_
            rintro e w10 ⟨rfl, hb10⟩
            have hK10 := hK9.more hb10
            clear a1r a1f a1c a1z a1l a2r a2f a2c a2z a2l hb10
            go_wp2_with fail
            refine (awake_any _ (HG.out.below hK10.below)).mono ?_
            rintro e w20 ⟨rfl, hb20⟩
            go_wp2_with fail
            go_ret
            exact ⟨rfl, below_more hK10.below hb20⟩
        · have h3' : (p.ty == 3) = false := by simpa using h3
          by_cases h1 : p.ty = 1
          · have hvs := con_le h1 HV.out hv1 g1
            have hw1 : wrap64 (v + (s.length : Int)) = v + (s.length : Int) := IntWalk.wrap64_in _ (by omega)
            have hw3 : wrap64 (v + 2 + (s.length : Int)) = v + 2 + (s.length : Int) := IntWalk.wrap64_in _ (by omega)
            have hw4 : wrap64 (v + 2) = v + 2 := IntWalk.wrap64_in _ (by omega)
            cases hP : p.hasPass with
            | true =>
              have had := fun W => add_str (P := Tryd.prog) W p.pass s (by have := g1; unfold totB at this; omega)
              have R1 := Lib.hid (grow_pass s h1 hP (by have := g1; unfold totB at this; simp; omega) HV.out hv1 (by omega))
              have F1 := Lib.hid (fit_pass HF.out g1 s (by omega))
              go_upto_region 21 with fail
              have hK9 := hK8.set hdist (PkC (p.s_pass (p.pass ++ s)) A n c)
              obtain ⟨w9, hw9⟩ : ∃ w9 : World, w9 = w8.setRow h (PkC (p.s_pass (p.pass ++ s)) A n c) := ⟨_, rfl⟩
              rw [← hw9] at hK9 ⊢
              clear hw9 a1r a1f a1c a1z a1l a2r a2f a2c a2z a2l hK8
              have a1r := hK9.row; have a1f := hK9.free; have a1c := hK9.cell; have a1l := hK9.lt; have a1z := hK9.froz
              have a2r := hK9.tail.row; have a2f := hK9.tail.free; have a2c := hK9.tail.cell; have a2l := hK9.tail.lt; have a2z := hK9.tail.froz
              go_wp2_with fail
              refine (rest_eq (p.s_pass (p.pass ++ s)) A n c xs (v + s.length) _ (HG.out.below hK9.below) (HS.out.below hK9.below) F1.out R1.out).mono ?_
              rintro e w10 ⟨rfl, hb10⟩
              have hK10 := hK9.more hb10
              clear a1r a1f a1c a1z a1l a2r a2f a2c a2z a2l hb10
              go_wp2_with fail
              refine (awake_any _ (HG.out.below hK10.below)).mono ?_
              rintro e w20 ⟨rfl, hb20⟩
              go_wp2_with fail
              go_ret
              exact ⟨rfl, below_more hK10.below hb20⟩
            | false =>
              cases hU : p.hasUser with
              | true =>
                have R1 := Lib.hid (add_pass s h1 hU hP (by omega) HV.out hv1 (by omega))
                have F1 := Lib.hid (fit_pass2 HF.out g1 s (by omega))
                go_upto_region 25 with fail
                have hK9 := hK8.set hdist (PkC ((p.s_hasPass true).s_pass s) A n c)
                obtain ⟨w9, hw9⟩ : ∃ w9 : World, w9 = w8.setRow h (PkC ((p.s_hasPass true).s_pass s) A n c) := ⟨_, rfl⟩
                rw [← hw9] at hK9 ⊢
                clear hw9 a1r a1f a1c a1z a1l a2r a2f a2c a2z a2l hK8
                have a1r := hK9.row; have a1f := hK9.free; have a1c := hK9.cell; have a1l := hK9.lt; have a1z := hK9.froz
                have a2r := hK9.tail.row; have a2f := hK9.tail.free; have a2c := hK9.tail.cell; have a2l := hK9.tail.lt; have a2z := hK9.tail.froz
                go_wp2_with fail
                refine (rest_eq ((p.s_hasPass true).s_pass s) A n c xs (v + 2 + s.length) _ (HG.out.below hK9.below) (HS.out.below hK9.below) F1.out R1.out).mono ?_
                rintro e w10 ⟨rfl, hb10⟩
                have hK10 := hK9.more hb10
                clear a1r a1f a1c a1z a1l a2r a2f a2c a2z a2l hb10
                go_wp2_with fail
                refine (awake_any _ (HG.out.below hK10.below)).mono ?_
                rintro e w20 ⟨rfl, hb20⟩
                go_wp2_with fail
                go_ret
                exact ⟨rfl, below_more hK10.below hb20⟩
              | false =>
                go_wp2_with fail
                refine (awake_any _ (HG.out.below hK8.below)).mono ?_
                rintro e w20 ⟨rfl, hb20⟩
                go_wp2_with fail
                go_ret
                exact ⟨rfl, below_more hK8.below hb20⟩
          · have h1' : (p.ty == 1) = false := by simpa using h1
            go_wp2_with fail
            refine (awake_any _ (HG.out.below hK8.below)).mono ?_
            rintro e w20 ⟨rfl, hb20⟩
            go_wp2_with fail
            go_ret
            exact ⟨rfl, below_more hK8.below hb20⟩
end lawPacketRests
end Go.Proofs.YtbbmfhelncedcaaDoor
