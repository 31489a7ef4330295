/-
  WriteRow.
-/
import Derived.Test.YtphdooaihbmnlaaDoorWrLaw
import Derived.Test.YtphdooaihbmnlaaDoorWrOpen
import Derived.Test.YtphdooaihbmnlaaDoorWrOwn
set_option linter.unusedSimpArgs false
set_option linter.unusedVariables false
namespace Go.Proofs.YtphdooaihbmnlaaDoor
open Go.RowKit
set_option maxRecDepth 100000
namespace lawWriteRow
theorem all_okB {ps : List PX} {s : List UInt8} (h : allR ps = (s, 0)) : ps.all okB = true ∧ s = ps.flatMap encP := by
  unfold allR at h
  by_cases hh : ps.all okB = true
  · rw [if_pos hh] at h; exact ⟨hh, (congrArg Prod.fst h).symm⟩
  · rw [if_neg hh] at h; cases h
theorem all_app (ps qs : List PX) : allR (ps ++ qs) = if ps.all okB && qs.all okB then (ps.flatMap encP ++ qs.flatMap encP, 0) else ([], 4) := by
  unfold allR; rw [List.all_append, List.flatMap_append]
theorem fit_all {ps : List PX} (hc : ∀ x ∈ ps, Came x.1 x.2) (h : ∀ x ∈ ps, totB x.1 x.2 ≤ 10000 ∧ x.2.length ≤ 100) : ∀ x ∈ ps, Fit x.1 x.2 := fun x hx => fit_came (hc x hx) (h x hx).1 (h x hx).2
theorem enc_of {x : PX} (h : okB x = true) : encR x.1 x.2 = (encP x, 0) ∧ sizR x.1 x.2 = ((encP x).length : Int) := by
  have h0 : 0 ≤ restN x.1 x.2 := by simpa [okB] using h
  have h1 : encR x.1 x.2 = (encP x, 0) := by unfold encR; rw [if_pos h0]; rfl
  exact ⟨h1, (encR_ok h1).2.2⟩
theorem all_three {ps qs : List PX} {S X Y : List UInt8} {e f g : Int} (h1 : allR (ps ++ qs) = (S, e)) (h2 : allR ps = (X, f)) (h3 : allR qs = (Y, g)) :
    (e = 4 ∧ S = [] ∧ (f = 4 ∨ (f = 0 ∧ g = 4))) ∨ (e = 0 ∧ f = 0 ∧ g = 0 ∧ S = X ++ Y ∧ ps.all okB = true ∧ X = ps.flatMap encP) := by
  rw [all_app] at h1
  unfold allR at h2 h3
  cases hp : ps.all okB <;> cases hq : qs.all okB <;> rw [hp] at h1 h2 <;> rw [hq] at h1 h3 <;> simp at h1 h2 h3 <;> obtain ⟨rfl, rfl⟩ := h1 <;> obtain ⟨rfl, rfl⟩ := h2 <;> obtain ⟨rfl, rfl⟩ := h3 <;> simp
set_option maxHeartbeats 8000000 in
theorem walk (w : World) (hG : Glo w) (A : Option Addr) (n c : Nat) (ps : List PX) (hs : Pks w A n ps) (hc : A = none → c = 0) (hn : n ≤ 9223372036854775807) (hp : ∀ x ∈ ps, Came x.1 x.2)
    (B : Option Addr) (m d : Nat) (qs : List PX) (ks : Pks w B m qs) (kc : B = none → d = 0) (kn : m ≤ 9223372036854775807) (kp : ∀ x ∈ qs, Came x.1 x.2) :
    Calls Tryd.prog 6 #[.slice A n c, .slice B m d] w fun e w' => e = .returned (.bool true) ∧ Below w.heap.size w w' := by
  have hb : Below w.heap.size w w := Below.refl _ _
  have hn1 := hs.len
  have hm1 := ks.len
  have HG := Lib.hid hG
  have HS := Lib.hid hs
  have HC := Lib.hid hp
  have HZ := Lib.hid hc
  have KS := Lib.hid ks
  have KC := Lib.hid kp
  have KZ := Lib.hid kc
  clear hG hs hp hc ks kp kc
  go_enter Tryd.func6, Tryd.ntmps6
  go_wp2_with fail
  refine (greats_any A n c ps _ HS.out HC.out hn).mono ?_
  rintro e w1 ⟨g, rfl, hgr, hb1⟩
  replace hb := below_more hb hb1
  clear hb1
  cases g with
  | true =>
    clear hgr
    go_wp2_with fail
    refine (awake_any _ (HG.out.below hb)).mono ?_
    rintro e w2 ⟨rfl, hb2⟩
    go_wp2_with fail
    go_ret
    exact ⟨rfl, below_more hb hb2⟩
  | false =>
    obtain ⟨hn2, hsm⟩ := hgr rfl
    have HF := Lib.hid (fit_all HC.out hsm)
    clear hgr hsm
    go_wp2_with fail
    refine (greats_any B m d qs _ (KS.out.below hb) KC.out kn).mono ?_
    rintro e w2 ⟨g2, rfl, hgr2, hb2⟩
    replace hb := below_more hb hb2
    clear hb2
    cases g2 with
    | true =>
      clear hgr2
      go_wp2_with fail
      refine (awake_any _ (HG.out.below hb)).mono ?_
      rintro e w3 ⟨rfl, hb3⟩
      go_wp2_with fail
      go_ret
      exact ⟨rfl, below_more hb hb3⟩
    | false =>
      obtain ⟨hm2, hsm⟩ := hgr2 rfl
      have KF := Lib.hid (fit_all KC.out hsm)
      clear hgr2 hsm
      have HSr := Lib.hid (HS.out.rd hb)
      have HB0 := Lib.hid hb
      go_wp2_with (at_builtin; first | (refine wpList_papp rfl _ _ rfl rfl (OwnP.nil hb hb.size) A n c ps rfl HSr.out HZ.out (by simp; omega) ?_; intro v1 w3 hO1 hgr1; clear hgr1) | (refine wpList_papp rfl _ _ rfl rfl hO1 B m d qs rfl (KS.out.rd hO1.below) KZ.out (by simp; omega) ?_; intro v2 w4 hO2 hgr2; clear hgr2 hO1))
      rw [List.nil_append] at hO2
      obtain ⟨A3, c3, rfl, hP3, hc3⟩ := hO2.pks
      have hb4 := hO2.below
      have hFa : ∀ x ∈ ps ++ qs, Fit x.1 x.2 := by
        intro x hx
        rcases List.mem_append.1 hx with h | h
        · exact HF.out x h
        · exact KF.out x h
      have hl3 : (ps ++ qs).length ≤ 50 := by rw [List.length_append]; omega
      have HFA := Lib.hid hFa
      clear hFa hO2 hc3 hb
      obtain ⟨S, e, hSe⟩ : ∃ S e, allR (ps ++ qs) = (S, e) := ⟨_, _, rfl⟩
      obtain ⟨X, f, hXf⟩ : ∃ X f, allR ps = (X, f) := ⟨_, _, rfl⟩
      obtain ⟨Y, g, hYg⟩ : ∃ Y g, allR qs = (Y, g) := ⟨_, _, rfl⟩
      have HSE := Lib.hid hSe
      have HXF := Lib.hid hXf
      have HYG := Lib.hid hYg
      have H3 := all_three hSe hXf hYg
      clear hSe hXf hYg
      refine (all_eq A3 _ c3 (ps ++ qs) S e _ (HG.out.below hb4) hP3 hl3 HFA.out HSE.out).mono ?_
      rintro e w5 ⟨rfl, hb5⟩
      have hb := below_more hb4 hb5
      clear hb4 hb5 hP3
      go_wp2_with fail
      refine (all_eq A n c ps X f _ (HG.out.below hb) (HS.out.below hb) (by omega) HF.out HXF.out).mono ?_
      rintro e w5 ⟨rfl, hb5⟩
      replace hb := below_more hb hb5
      clear hb5
      go_wp2_with fail
      refine (all_eq B m d qs Y g _ (HG.out.below hb) (KS.out.below hb) (by omega) KF.out HYG.out).mono ?_
      rintro e w5 ⟨rfl, hb5⟩
      replace hb := below_more hb hb5
      clear hb5
      rcases H3 with ⟨rfl, rfl, hbad⟩ | ⟨rfl, rfl, rfl, hS, hok, hX⟩
      · rcases hbad with hf | ⟨rfl, hg⟩
        · subst hf
          go_wp2_with fail
          refine (awake_any _ (HG.out.below hb)).mono ?_
          rintro e w3 ⟨rfl, hb3⟩
          go_wp2_with fail
          go_ret
          exact ⟨rfl, below_more hb hb3⟩
        · subst hg
          go_wp2_with fail
          refine (awake_any _ (HG.out.below hb)).mono ?_
          rintro e w3 ⟨rfl, hb3⟩
          go_wp2_with fail
          go_ret
          exact ⟨rfl, below_more hb hb3⟩
      · have HOK := Lib.hid hok
        have HX := Lib.hid hX
        have hl1 := encs_len ps hok
        have hl2 : Y.length ≤ 268435460 * 50 := by
          have h2 := all_okB HYG.out
          have h3 := encs_len qs h2.1
          rw [← h2.2] at h3
          omega
        rw [← hX] at hl1
        have had := fun W => add_str (P := Tryd.prog) W X Y (by omega)
        rw [← hS] at had
        clear hS hok hX
        go_wp2_with fail
        go_loopw [12, 13, 14] (fun s j i wr => ∃ k : Nat, i = .int .i64 k ∧ k ≤ n ∧ s = .int .i64 ((((ps.take k).flatMap encP).length : Nat) : Int) ∧ j = .string ⟨((ps.take k).flatMap encP).toArray⟩ ∧ Below w.heap.size w wr) (fun _ _ i _ => n - (intOf i).toNat)
        case atStart => exact ⟨0, rfl, by omega, by simp, by simp, hb⟩
        case round =>
          clear hb
          obtain ⟨k, rfl, hk, rfl, rfl, hb⟩ := hrel
          by_cases hlt : k < n
          · have hlt2 : (k : Int) < (n : Int) := by omega
            obtain ⟨bx, off, x, A', n', c', rfl, hxk, hbx, hrs, hex, hsub, hc'⟩ := (HS.out.below hb).at_ hlt
            have HSUB : Hid (Subs w A' n' x.2) := by
              obtain ⟨b2, off2, x2, A2, n2, c2, e2, hx2, hb2, _, hex2, hsub2, _⟩ := HS.out.at_ hlt
              cases e2
              rw [hxk] at hx2
              cases hx2
              rw [rowAt_below hb hb2] at hex
              rw [hex2] at hex
              have h22 := congrArg (fun a => a[22]?) hex
              simp only [PkC_22, Option.some.injEq, Value.slice.injEq] at h22
              obtain ⟨h1, h2, _⟩ := h22
              subst h1 h2
              exact hsub2
            have hxm := List.mem_of_getElem? hxk
            have HFX := Lib.hid (HF.out x hxm)
            have hokx : okB x = true := List.all_eq_true.1 HOK.out x hxm
            have HE := Lib.hid (enc_of hokx)
            have HSN := Lib.hid (enc_snoc ps k x hxk)
            have hlx := encP_len hokx
            have hlk : ((ps.take k).flatMap encP).length ≤ 268435460 * n := by
              have h1 := encs_len (ps.take k) (by rw [List.all_eq_true]; exact fun y hy => List.all_eq_true.1 HOK.out y (List.mem_of_mem_take hy))
              have h2 : (ps.take k).length ≤ n := by rw [List.length_take]; omega
              have h3 := Nat.mul_le_mul_left 268435460 h2
              omega
            have HC' := Lib.hid hc'
            obtain ⟨T, hT⟩ : ∃ T, (ps.take k).flatMap encP = T := ⟨_, rfl⟩
            obtain ⟨E, hE⟩ : ∃ E, encP x = E := ⟨_, rfl⟩
            rw [hT] at hlk HSN
            rw [hE] at hlx HSN HE
            rw [hT]
            have had2 := fun W => add_str (P := Tryd.prog) W T E (by omega)
            have hw : IntKind.i64.wrap ((T.length : Int) + (E.length : Int)) = (T.length : Int) + (E.length : Int) := IntWalk.i64_in _ (by omega)
            clear hokx hxm hT hE hsub hxk hc'
            go_wp2_with fail
            refine (encode_eq x.1 A' n' c' x.2 E 0 _ (HG.out.below hb) (HSUB.out.below hb) HC'.out HFX.out HE.out.1).mono ?_
            rintro e w6 ⟨rfl, hb6⟩
            have hex2 := hex
            rw [← rowAt_below hb6 hbx] at hex2 hrs
            have hbx2 := Nat.lt_of_lt_of_le hbx hb6.size
            replace hb := below_more hb hb6
            clear hb6 hex hbx
            go_wp2_with fail
            refine (size_eq x.1 A' n' c' x.2 (E.length : Int) _ (HG.out.below hb) (HSUB.out.below hb) HFX.out HE.out.2).mono ?_
            rintro e w6 ⟨rfl, hb6⟩
            replace hb := below_more hb hb6
            clear hb6
            go_wp2_with fail
            go_roundw
            case rel => exact ⟨k + 1, by go_num, by omega, by rw [HSN.out, List.length_append]; simp, by rw [HSN.out], hb⟩
            case measure => simp [intOf]; omega
          · have hge : ¬ (k : Int) < (n : Int) := by omega
            have hke : ps.take k = ps := List.take_of_length_le (by omega)
            rw [hke, ← HX.out]
            clear hke
            go_wp2_with fail
            refine (awake_any _ (HG.out.below hb)).mono ?_
            rintro e w3 ⟨rfl, hb3⟩
            go_wp2_with fail
            go_ret
            exact ⟨rfl, below_more hb hb3⟩
end lawWriteRow
end Go.Proofs.YtphdooaihbmnlaaDoor
