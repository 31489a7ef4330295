/-
  ReadBack.
-/
import Derived.Test.YtangnkhehajikaaGreatDoorRdLaw
import Derived.Test.YtangnkhehajikaaGreatDoorPkI
set_option linter.unusedSimpArgs false
set_option linter.unusedVariables false
namespace Go.Proofs.YtangnkhehajikaaGreatDoor
open Go.RowKit
set_option maxRecDepth 100000
theorem body_le {p : Pk} {xs : List (List UInt8 × Int)} (h : Ok p xs) : restN p xs ≤ (totB p xs : Int) + 3 * xs.length + 24 := by
  rw [← h.bytes]
  have h0 := (sbB_bd 0 (by omega) xs).2
  have h1 := (sbB_bd 1 (by omega) xs).2
  unfold takeB totB
  split
  · unfold conB fldB
    split <;> split <;> split <;> omega
  · split
    · omega
    · split
      · unfold pubB fldB
        split <;> omega
      · split
        · omega
        · split
          · omega
          · split
            · omega
            · split <;> omega
/-- What the walks need of a packet that was written. -/
theorem enc_facts {p : Pk} {xs : List (List UInt8 × Int)} {S : List UInt8} (h : Ok p xs) (hf : Fit p xs) (h1 : totB p xs ≤ 10000) (h2 : xs.length ≤ 100) (hS : encL p xs = S) :
    S.length ≤ 20000 ∧ 2 ≤ S.length ∧ (∀ t, decR (S ++ t) = (p, xs, (S.length : Int), 0) ∧ (cutR (S ++ t)).1.length ≤ 90000) ∧ (∀ k, k < S.length → decR (S.take k) = (zPk, [], 0, 2)) ∧ ∃ b, (∀ h0 : 0 < (ByteArray.mk S.toArray).size, (ByteArray.mk S.toArray)[0]'h0 = b) ∧ firB b.toNat = true := by
  have hb := body_le h
  have he := enc_len h
  have hs := sizeF_bd (restN p xs)
  have hlo := h.lo
  obtain ⟨c0, c1, _, _, c4⟩ := head_bd h hf.num'
  rw [hS] at he
  refine ⟨by omega, by omega, fun t => ⟨?_, ?_⟩, fun k hk => ?_, toB (p.ty * 16 + flagsN p), fun h0 => ?_, ?_⟩
  · rw [← hS]; exact dec_back h hf.num' t
  · have hc := cut_of (p.ty * 16 + flagsN p) (restN p xs) (bodyL p xs) t c0 c1 c4 (body_len h) h.hi
    have hE : S ++ t = toB (p.ty * 16 + flagsN p) :: (lenL 3 (restN p xs) ++ (bodyL p xs ++ t)) := by rw [← hS]; unfold encL; simp
    rw [hE, hc]
    have hl := body_len h
    show (bodyL p xs).length ≤ 90000
    omega
  · rw [← hS] at hk ⊢
    exact dec_short h hf.num' k hk
  · subst hS; rfl
  · rw [toB_toNat _ c0 c1]; exact c4
namespace lawReadBack
set_option maxHeartbeats 4000000 in
theorem walk (w : World) (hG : Glo w) (p : Pk) (A : Option Addr) (n c : Nat) (xs : List (List UInt8 × Int)) (hs : Subs w A n xs) (hc : A = none → c = 0) (hp : Came p xs)
    (b : List UInt8) (hbl : b.length ≤ 9223372036854775807) (at_ : Int) (hat : (Lit.int .u16 at_).wf = true) :
    Calls Tryz.prog 3 #[.agg (PkC p A n c), .string ⟨b.toArray⟩, .int .u16 at_] w fun e w' => e = .returned (.bool true) ∧ Below w.heap.size w w' := by
  have hK0 := (Kp.nil w).new (PkC p A n c) 27
  have hab := u16_bd at_ hat
  have hn1 := hs.len
  have HG := Lib.hid hG
  have HS := Lib.hid hs
  have HC := Lib.hid hp
  have HZ := Lib.hid hc
  have HN := Lib.hid hn1
  clear hG hs hp hc hat hn1
  go_enter Tryz.func3, Tryz.ntmps3
  go_wp2_with fail
  refine (great_any p A n c xs _ (HS.out.below hK0.below) HC.out).mono ?_
  rintro e w1 ⟨g, rfl, hgr, hb1⟩
  have hK1 := hK0.more hb1
  clear hb1 hK0
  have a1r := hK1.row; have a1f := hK1.free; have a1c := hK1.cell; have a1l := hK1.lt; have a1z := hK1.froz
  cases g with
  | true =>
    clear hgr
    go_wp2_with fail
    refine (awake5_any _ (HG.out.below hK1.below)).mono ?_
    rintro e w2 ⟨rfl, hb2⟩
    go_wp2_with fail
    go_ret
    exact ⟨rfl, below_more hK1.below hb2⟩
  | false =>
    have hF := fit_came HC.out (hgr rfl).1 (hgr rfl).2
    have HT := Lib.hid (hgr rfl)
    clear hgr
    have HF := Lib.hid hF
    clear hF
    cases hg : decide (20000 < b.length) with
    | true =>
      have HGB := Lib.hid hg
      clear hg
      go_wp2_with fail
      refine (sgreat_any b true _ hbl HGB.out).mono ?_
      rintro e w2 ⟨rfl, rfl⟩
      go_wp2_with fail
      refine (awake5_any _ (HG.out.below hK1.below)).mono ?_
      rintro e w2 ⟨rfl, hb2⟩
      go_wp2_with fail
      go_ret
      exact ⟨rfl, below_more hK1.below hb2⟩
    | false =>
      have HGB := Lib.hid hg
      have hbl2 : b.length ≤ 20000 := by simpa using hg
      clear hg
      by_cases h0 : 0 ≤ restN p xs
      · have O1 := Lib.hid (ok_of h0)
        obtain ⟨S, hS⟩ : ∃ S, encL p xs = S := ⟨_, rfl⟩
        have E1 : Hid (encR p xs = (S, 0)) := by show _ = _; unfold encR; rw [if_pos h0, hS]
        obtain ⟨hS1, hS2, hS3, hS4, b0, HA, hS5⟩ := enc_facts O1.out HF.out HT.out.1 HT.out.2 hS
        have HS3 := Lib.hid hS3
        have HS4 := Lib.hid hS4
        have hb0 := b0.toNat_lt
        have HS5 := Lib.hid hS5
        clear hS h0 hS3 hS4 hS5
        have had := fun W => add_str (P := Tryz.prog) W S b (by omega)
        obtain ⟨k, hk, hkl⟩ : ∃ k : Nat, at_ % (S.length : Int) = k ∧ k < S.length := ⟨(at_ % (S.length : Int)).toNat, by have := Int.emod_nonneg at_ (show (S.length : Int) ≠ 0 by omega); omega, by have := Int.emod_lt_of_pos at_ (show 0 < (S.length : Int) by omega); omega⟩
        have hk2 : at_.tmod (S.length : Int) = k := by rw [Int.tmod_eq_emod_of_nonneg hab.1]; exact hk
        go_wp2_with fail
        refine (sgreat_any b false _ hbl HGB.out).mono ?_
        rintro e w2 ⟨rfl, rfl⟩
        go_wp2_with fail
        refine (encode_eq p A n c xs S 0 _ (HG.out.below hK1.below) (HS.out.below hK1.below) HZ.out HF.out E1.out).mono ?_
        rintro e w3 ⟨rfl, hb3⟩
        have hK2 := hK1.more hb3
        clear hb3 hK1 a1r a1f a1c a1l a1z
        go_wp2_with fail
        refine (decode_eq (S ++ b) p xs S.length 0 _ (HG.out.below hK2.below) (by simp; omega) (HS3.out b).2 (HS3.out b).1).mono ?_
        rintro e w4 ⟨B, d, rfl, hb4, hS4, _, _⟩
        have hK3 := hK2.more hb4
        have hK4 := hK3.new (PkC p B xs.length d) 27
        have HSB := Lib.hid (hS4.below ((Below.refl _ _).alloc (Nat.le_refl _) (.cells (PkC p B xs.length d) 27)))
        clear hb4 hK2 hS4
        have hgl := hK3.lt
        have a1r := hK3.row; have a1f := hK3.free; have a1c := hK3.cell; have a1l := hK3.lt; have a1z := hK3.froz
        go_wp2_with fail
        have hnn : n ≤ 1000000 := by have := HT.out.2; have := HN.out; omega
        refine (same_eq p p A B n c xs.length d xs xs true _ (HS.out.below hK4.below) HSB.out hnn (by simp [(eqPk_iff p p).2 rfl])).mono ?_
        rintro e w5 ⟨rfl, hb5⟩
        have hK5 := hK4.more hb5
        clear hb5 hK3 hK4 a1r a1f a1c a1l a1z
        go_wp2_with fail
        refine (first_eq b0.toNat true _ (by omega) (by omega) HS5.out).mono ?_
        rintro e w6 ⟨rfl, rfl⟩
        go_wp2_with fail
        refine (fails_yes (S.take k) 2 _ (HG.out.below hK5.below) (by simp; omega) (Nat.le_trans (cut_len _) (by simp; omega)) (HS4.out k hkl)).mono ?_
        rintro e w7 ⟨rfl, hb7⟩
        have hK6 := hK5.more hb7
        clear hb7 hK5
        go_wp2_with fail
        refine (awake5_any _ (HG.out.below hK6.below)).mono ?_
        rintro e w8 ⟨rfl, hb8⟩
        go_wp2_with fail
        go_ret
        exact ⟨rfl, below_more hK6.below hb8⟩
      · have E1 : Hid (encR p xs = ([], 4)) := by show _ = _; unfold encR; rw [if_neg h0]
        clear h0
        go_wp2_with fail
        refine (sgreat_any b false _ hbl HGB.out).mono ?_
        rintro e w2 ⟨rfl, rfl⟩
        go_wp2_with fail
        refine (encode_eq p A n c xs [] 4 _ (HG.out.below hK1.below) (HS.out.below hK1.below) HZ.out HF.out E1.out).mono ?_
        rintro e w3 ⟨rfl, hb3⟩
        have hK2 := hK1.more hb3
        clear hb3 hK1
        go_wp2_with fail
        refine (awake5_any _ (HG.out.below hK2.below)).mono ?_
        rintro e w8 ⟨rfl, hb8⟩
        go_wp2_with fail
        go_ret
        exact ⟨rfl, below_more hK2.below hb8⟩
end lawReadBack
end Go.Proofs.YtangnkhehajikaaGreatDoor
