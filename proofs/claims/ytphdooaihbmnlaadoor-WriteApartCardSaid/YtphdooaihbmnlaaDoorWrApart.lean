/-
  WriteApart.
-/
import Derived.Test.YtphdooaihbmnlaaDoorWrLaw
import Derived.Test.YtphdooaihbmnlaaDoorWrInj
import Derived.Test.YtphdooaihbmnlaaDoorPkI
set_option linter.unusedSimpArgs false
set_option linter.unusedVariables false
namespace Go.Proofs.YtphdooaihbmnlaaDoor
open Go.RowKit
set_option maxRecDepth 100000
namespace lawWriteApart
theorem beg_facts {S T : List UInt8} {r : Bool} (h : begB S T = r) : (S.length ≤ T.length ∧ (T.take S.length == S) = r) ∨ (T.length < S.length ∧ r = false) := by
  unfold begB at h
  by_cases hl : S.length ≤ T.length
  · left
    simp only [hl, decide_true, Bool.true_and] at h
    exact ⟨hl, h⟩
  · right
    simp only [hl, decide_false, Bool.false_and] at h
    exact ⟨by omega, h.symm⟩
theorem enc_small {p : Pk} {xs : List (List UInt8 × Int)} (h : Ok p xs) : (encL p xs).length ≤ 268435460 := by
  have h1 := enc_len h
  have h2 := sizeF_bd (restN p xs)
  have h3 := h.hi
  omega
set_option maxHeartbeats 4000000 in
theorem walk (w : World) (hG : Glo w) (p : Pk) (A : Option Addr) (n c : Nat) (xs : List (List UInt8 × Int)) (hs : Subs w A n xs) (hc : A = none → c = 0) (hp : Came p xs)
    (q : Pk) (B : Option Addr) (m d : Nat) (ys : List (List UInt8 × Int)) (ks : Subs w B m ys) (kc : B = none → d = 0) (kp : Came q ys) :
    Calls Tryd.prog 4 #[.agg (PkC p A n c), .agg (PkC q B m d)] w fun e w' => e = .returned (.bool true) ∧ Below w.heap.size w w' := by
  have hK0 := (((Kp.nil w).new (PkC p A n c) 27).new (PkC q B m d) 27).swap
  simp only [World.size_alloc] at hK0
  have hn1 := hs.len
  have hm1 := ks.len
  have HG := Lib.hid hG
  have HS := Lib.hid hs
  have HC := Lib.hid hp
  have HZ := Lib.hid hc
  have KS := Lib.hid ks
  have KC := Lib.hid kp
  have KZ := Lib.hid kc
  clear hG hs hp hc ks kp kc
  go_enter Tryd.func4, Tryd.ntmps4
  go_wp2_with fail
  refine (great_any p A n c xs _ (HS.out.below hK0.below) HC.out).mono ?_
  rintro e w1 ⟨g, rfl, hgr, hb1⟩
  have hK1 := hK0.more hb1
  clear hb1 hK0
  have a1r := hK1.row; have a1f := hK1.free; have a1c := hK1.cell; have a1l := hK1.lt; have a1z := hK1.froz
  have a2r := hK1.tail.row; have a2f := hK1.tail.free; have a2c := hK1.tail.cell; have a2l := hK1.tail.lt; have a2z := hK1.tail.froz
  cases g with
  | true =>
    clear hgr
    go_wp2_with fail
    refine (awake_any _ (HG.out.below hK1.below)).mono ?_
    rintro e w2 ⟨rfl, hb2⟩
    go_wp2_with fail
    go_ret
    exact ⟨rfl, below_more hK1.below hb2⟩
  | false =>
    have hF := fit_came HC.out (hgr rfl).1 (hgr rfl).2
    clear hgr
    have HF := Lib.hid hF
    clear hF
    go_wp2_with fail
    refine (great_any q B m d ys _ (KS.out.below hK1.below) KC.out).mono ?_
    rintro e w2 ⟨g2, rfl, hgr2, hb2⟩
    have hK2 := hK1.more hb2
    clear hb2 hK1 a1r a1f a1c a1l a1z a2r a2f a2c a2l a2z
    have a1r := hK2.row; have a1f := hK2.free; have a1c := hK2.cell; have a1l := hK2.lt; have a1z := hK2.froz
    have a2r := hK2.tail.row; have a2f := hK2.tail.free; have a2c := hK2.tail.cell; have a2l := hK2.tail.lt; have a2z := hK2.tail.froz
    cases g2 with
    | true =>
      clear hgr2
      go_wp2_with fail
      refine (awake_any _ (HG.out.below hK2.below)).mono ?_
      rintro e w3 ⟨rfl, hb3⟩
      go_wp2_with fail
      go_ret
      exact ⟨rfl, below_more hK2.below hb3⟩
    | false =>
      have kF := fit_came KC.out (hgr2 rfl).1 (hgr2 rfl).2
      clear hgr2
      have KF := Lib.hid kF
      clear kF
      have hnn : n ≤ 1000 := by have := HF.out.num; omega
      obtain ⟨r1, hr1⟩ : ∃ r, decide (0 ≤ restN p xs) = r := ⟨_, rfl⟩
      obtain ⟨r2, hr2⟩ : ∃ r, decide (0 ≤ restN q ys) = r := ⟨_, rfl⟩
      have R1 := Lib.hid hr1
      have R2 := Lib.hid hr2
      have E1 : Hid (encR p xs = if r1 then (encL p xs, 0) else ([], 4)) := by
        show _ = _
        unfold encR
        by_cases h : 0 ≤ restN p xs
        · simp only [h, decide_true] at hr1; rw [← hr1]; simp [h]
        · simp only [h, decide_false] at hr1; rw [← hr1]; simp [h]
      have E2 : Hid (encR q ys = if r2 then (encL q ys, 0) else ([], 4)) := by
        show _ = _
        unfold encR
        by_cases h : 0 ≤ restN q ys
        · simp only [h, decide_true] at hr2; rw [← hr2]; simp [h]
        · simp only [h, decide_false] at hr2; rw [← hr2]; simp [h]
      clear hr1 hr2
      obtain ⟨S, hS⟩ : ∃ S, encL p xs = S := ⟨_, rfl⟩
      obtain ⟨T, hT⟩ : ∃ T, encL q ys = T := ⟨_, rfl⟩
      rw [hS] at E1
      rw [hT] at E2
      cases r1 with
      | true =>
        have O1 := Lib.hid (ok_of (of_decide_eq_true R1.out))
        have hS1 : S.length ≤ 268435460 := by rw [← hS]; exact enc_small O1.out
        cases r2 with
        | true =>
          have O2 := Lib.hid (ok_of (of_decide_eq_true R2.out))
          have hT1 : T.length ≤ 268435460 := by rw [← hT]; exact enc_small O2.out
          obtain ⟨r, hr⟩ : ∃ r, (eqPk p q && xs == ys) = r := ⟨_, rfl⟩
          have hbe := beg_enc O1.out O2.out HF.out.num' KF.out.num'
          rw [hS, hT, hr] at hbe
          have HR := Lib.hid hr
          obtain ⟨hb1, hst⟩ := hbe
          have hbf := beg_facts hb1
          clear hb1 hr hS hT
          rcases hbf with ⟨hle, htk⟩ | ⟨hlt, hrf⟩
          · have hle2 : (S.length : Int) ≤ (T.length : Int) := by omega
            go_wp2_with fail
            refine (encode_eq p A n c xs S 0 _ (HG.out.below hK2.below) (HS.out.below hK2.below) HZ.out HF.out E1.out).mono ?_
            rintro e w3 ⟨rfl, hb3⟩
            have hK3 := hK2.more hb3
            clear hb3 hK2 a1r a1f a1c a1l a1z a2r a2f a2c a2l a2z
            have a1r := hK3.row; have a1f := hK3.free; have a1c := hK3.cell; have a1l := hK3.lt; have a1z := hK3.froz
            have a2r := hK3.tail.row; have a2f := hK3.tail.free; have a2c := hK3.tail.cell; have a2l := hK3.tail.lt; have a2z := hK3.tail.froz
            go_wp2_with fail
            refine (encode_eq q B m d ys T 0 _ (HG.out.below hK3.below) (KS.out.below hK3.below) KZ.out KF.out E2.out).mono ?_
            rintro e w4 ⟨rfl, hb4⟩
            have hK4 := hK3.more hb4
            clear hb4 hK3 a1r a1f a1c a1l a1z a2r a2f a2c a2l a2z
            have a1r := hK4.row; have a1f := hK4.free; have a1c := hK4.cell; have a1l := hK4.lt; have a1z := hK4.froz
            have a2r := hK4.tail.row; have a2f := hK4.tail.free; have a2c := hK4.tail.cell; have a2l := hK4.tail.lt; have a2z := hK4.tail.froz
            go_wp2_with fail
            refine (same_eq p q A B n c m d xs ys r _ (HS.out.below hK4.below) (KS.out.below hK4.below) hnn HR.out).mono ?_
            rintro e w5 ⟨rfl, hb5⟩
            have hK5 := hK4.more hb5
            clear hb5 hK4 a1r a1f a1c a1l a1z a2r a2f a2c a2l a2z
            cases r <;> (
              go_wp2_with fail
              refine (awake_any _ (HG.out.below hK5.below)).mono ?_
              rintro e w6 ⟨rfl, hb6⟩
              go_wp2_with fail
              go_ret
              exact ⟨rfl, below_more hK5.below hb6⟩)
          · have hlt2 : ¬ (S.length : Int) ≤ (T.length : Int) := by omega
            subst hrf
            go_wp2_with fail
            refine (encode_eq p A n c xs S 0 _ (HG.out.below hK2.below) (HS.out.below hK2.below) HZ.out HF.out E1.out).mono ?_
            rintro e w3 ⟨rfl, hb3⟩
            have hK3 := hK2.more hb3
            clear hb3 hK2 a1r a1f a1c a1l a1z a2r a2f a2c a2l a2z
            have a1r := hK3.row; have a1f := hK3.free; have a1c := hK3.cell; have a1l := hK3.lt; have a1z := hK3.froz
            have a2r := hK3.tail.row; have a2f := hK3.tail.free; have a2c := hK3.tail.cell; have a2l := hK3.tail.lt; have a2z := hK3.tail.froz
            go_wp2_with fail
            refine (encode_eq q B m d ys T 0 _ (HG.out.below hK3.below) (KS.out.below hK3.below) KZ.out KF.out E2.out).mono ?_
            rintro e w4 ⟨rfl, hb4⟩
            have hK4 := hK3.more hb4
            clear hb4 hK3 a1r a1f a1c a1l a1z a2r a2f a2c a2l a2z
            have a1r := hK4.row; have a1f := hK4.free; have a1c := hK4.cell; have a1l := hK4.lt; have a1z := hK4.froz
            have a2r := hK4.tail.row; have a2f := hK4.tail.free; have a2c := hK4.tail.cell; have a2l := hK4.tail.lt; have a2z := hK4.tail.froz
            go_wp2_with fail
            refine (same_eq p q A B n c m d xs ys false _ (HS.out.below hK4.below) (KS.out.below hK4.below) hnn HR.out).mono ?_
            rintro e w5 ⟨rfl, hb5⟩
            have hK5 := hK4.more hb5
            clear hb5 hK4 a1r a1f a1c a1l a1z a2r a2f a2c a2l a2z
            go_wp2_with fail
            refine (awake_any _ (HG.out.below hK5.below)).mono ?_
            rintro e w6 ⟨rfl, hb6⟩
            go_wp2_with fail
            go_ret
            exact ⟨rfl, below_more hK5.below hb6⟩
        | false =>
          go_wp2_with fail
          refine (encode_eq p A n c xs S 0 _ (HG.out.below hK2.below) (HS.out.below hK2.below) HZ.out HF.out E1.out).mono ?_
          rintro e w3 ⟨rfl, hb3⟩
          have hK3 := hK2.more hb3
          clear hb3 hK2 a1r a1f a1c a1l a1z a2r a2f a2c a2l a2z
          have a1r := hK3.row; have a1f := hK3.free; have a1c := hK3.cell; have a1l := hK3.lt; have a1z := hK3.froz
          have a2r := hK3.tail.row; have a2f := hK3.tail.free; have a2c := hK3.tail.cell; have a2l := hK3.tail.lt; have a2z := hK3.tail.froz
          go_wp2_with fail
          refine (encode_eq q B m d ys [] 4 _ (HG.out.below hK3.below) (KS.out.below hK3.below) KZ.out KF.out E2.out).mono ?_
          rintro e w4 ⟨rfl, hb4⟩
          have hK4 := hK3.more hb4
          clear hb4 hK3 a1r a1f a1c a1l a1z a2r a2f a2c a2l a2z
          have a1r := hK4.row; have a1f := hK4.free; have a1c := hK4.cell; have a1l := hK4.lt; have a1z := hK4.froz
          have a2r := hK4.tail.row; have a2f := hK4.tail.free; have a2c := hK4.tail.cell; have a2l := hK4.tail.lt; have a2z := hK4.tail.froz
          go_wp2_with fail
          refine (right_eq p A n c xs true _ (HG.out.below hK4.below) (HS.out.below hK4.below) HF.out R1.out).mono ?_
          rintro e w5 ⟨rfl, hb5⟩
          have hK5 := hK4.more hb5
          clear hb5 hK4 a1r a1f a1c a1l a1z a2r a2f a2c a2l a2z
          have a1r := hK5.row; have a1f := hK5.free; have a1c := hK5.cell; have a1l := hK5.lt; have a1z := hK5.froz
          have a2r := hK5.tail.row; have a2f := hK5.tail.free; have a2c := hK5.tail.cell; have a2l := hK5.tail.lt; have a2z := hK5.tail.froz
          go_wp2_with fail
          refine (right_eq q B m d ys false _ (HG.out.below hK5.below) (KS.out.below hK5.below) KF.out R2.out).mono ?_
          rintro e w6 ⟨rfl, hb6⟩
          have hK6 := hK5.more hb6
          clear hb6 hK5 a1r a1f a1c a1l a1z a2r a2f a2c a2l a2z
          go_wp2_with fail
          refine (awake_any _ (HG.out.below hK6.below)).mono ?_
          rintro e w7 ⟨rfl, hb7⟩
          go_wp2_with fail
          go_ret
          exact ⟨rfl, below_more hK6.below hb7⟩
      | false =>
        obtain ⟨T0, er, hE⟩ : ∃ T0 er, encR q ys = (T0, er) := ⟨_, _, rfl⟩
        have EE := Lib.hid hE
        have hee : (er == 0) = r2 := by
          have := E2.out
          rw [hE] at this
          cases r2 with
          | true => simp at this; simp [this.2]
          | false => simp at this; simp [this.2]
        clear hE hS hT
        go_wp2_with fail
        refine (encode_eq p A n c xs [] 4 _ (HG.out.below hK2.below) (HS.out.below hK2.below) HZ.out HF.out E1.out).mono ?_
        rintro e w3 ⟨rfl, hb3⟩
        have hK3 := hK2.more hb3
        clear hb3 hK2 a1r a1f a1c a1l a1z a2r a2f a2c a2l a2z
        have a1r := hK3.row; have a1f := hK3.free; have a1c := hK3.cell; have a1l := hK3.lt; have a1z := hK3.froz
        have a2r := hK3.tail.row; have a2f := hK3.tail.free; have a2c := hK3.tail.cell; have a2l := hK3.tail.lt; have a2z := hK3.tail.froz
        go_wp2_with fail
        refine (encode_eq q B m d ys T0 er _ (HG.out.below hK3.below) (KS.out.below hK3.below) KZ.out KF.out EE.out).mono ?_
        rintro e w4 ⟨rfl, hb4⟩
        have hK4 := hK3.more hb4
        clear hb4 hK3 a1r a1f a1c a1l a1z a2r a2f a2c a2l a2z
        have a1r := hK4.row; have a1f := hK4.free; have a1c := hK4.cell; have a1l := hK4.lt; have a1z := hK4.froz
        have a2r := hK4.tail.row; have a2f := hK4.tail.free; have a2c := hK4.tail.cell; have a2l := hK4.tail.lt; have a2z := hK4.tail.froz
        go_wp2_with fail
        refine (right_eq p A n c xs false _ (HG.out.below hK4.below) (HS.out.below hK4.below) HF.out R1.out).mono ?_
        rintro e w5 ⟨rfl, hb5⟩
        have hK5 := hK4.more hb5
        clear hb5 hK4 a1r a1f a1c a1l a1z a2r a2f a2c a2l a2z
        have a1r := hK5.row; have a1f := hK5.free; have a1c := hK5.cell; have a1l := hK5.lt; have a1z := hK5.froz
        have a2r := hK5.tail.row; have a2f := hK5.tail.free; have a2c := hK5.tail.cell; have a2l := hK5.tail.lt; have a2z := hK5.tail.froz
        go_wp2_with fail
        refine (right_eq q B m d ys r2 _ (HG.out.below hK5.below) (KS.out.below hK5.below) KF.out R2.out).mono ?_
        rintro e w6 ⟨rfl, hb6⟩
        have hK6 := hK5.more hb6
        clear hb6 hK5 a1r a1f a1c a1l a1z a2r a2f a2c a2l a2z
        go_wp2_with fail
        refine (awake_any _ (HG.out.below hK6.below)).mono ?_
        rintro e w7 ⟨rfl, hb7⟩
        go_wp2_with fail
        go_ret
        exact ⟨rfl, below_more hK6.below hb7⟩
end lawWriteApart
end Go.Proofs.YtphdooaihbmnlaaDoor
