/-
  The document's own guess at a Connect.
-/
import Derived.Test.YtnaedcennichlaaGreatDoorFpGuess2
set_option linter.unusedSimpArgs false
set_option linter.unusedVariables false
namespace Go.Proofs.YtnaedcennichlaaGreatDoor
open Go.RowKit
set_option maxRecDepth 100000
def gcB (fl : Int) (P : Pk) : Pk := (((((P.s_clean (fl / 2 % 2 == 1)).s_hasWill (fl / 4 % 2 == 1)).s_wq (fl / 8 % 4)).s_wr (fl / 32 % 2 == 1)).s_hasPass (fl / 64 % 2 == 1)).s_hasUser (fl / 128 == 1)
def gcW (b : Bool) (l : List UInt8) (P : Pk) : Pk × List UInt8 := if b then ((P.s_wt (gdV l)).s_wl (gdV (gdL l)), gdL (gdL l)) else (P, l)
def gcU (b : Bool) (l : List UInt8) (P : Pk) : Pk × List UInt8 := if b then (P.s_user (gdV l), gdL l) else (P, l)
def gcS (b : Bool) (l : List UInt8) (P : Pk) : Pk := if b then P.s_pass (gdV l) else P
def gcL (l : List UInt8) : List UInt8 := gdL (gwL (gdL l).tail.tail)
def gcP (l : List UInt8) : Pk := gcB (byV (gdL l).tail) ((((zPk.s_ty 1).s_level (byV (gdL l))).s_keep (woV (gdL l).tail.tail)).s_client (gdV (gwL (gdL l).tail.tail)))
def gCon (l : List UInt8) : Pk :=
  gcS (byV (gdL l).tail / 64 % 2 == 1) (gcU (byV (gdL l).tail / 128 == 1) (gcW (byV (gdL l).tail / 4 % 2 == 1) (gcL l) (gcP l)).2 (gcW (byV (gdL l).tail / 4 % 2 == 1) (gcL l) (gcP l)).1).2
    (gcU (byV (gdL l).tail / 128 == 1) (gcW (byV (gdL l).tail / 4 % 2 == 1) (gcL l) (gcP l)).2 (gcW (byV (gdL l).tail / 4 % 2 == 1) (gcL l) (gcP l)).1).1
set_option maxHeartbeats 16000000 in
theorem guess_1 (c : Int) (l : List UInt8) (w : World) (h0 : 0 ≤ c) (h1 : c ≤ 255) (hl : l.length ≤ 1000000) (hT : c / 16 = 1) :
    Calls Tryz.prog 28 #[.int .u8 c, .string ⟨l.toArray⟩] w fun e w' => GUP w (gCon l) [] e w' := by
  have e1 : c.tdiv 16 = c / 16 := by rw [Int.tdiv_eq_ediv_of_nonneg h0]
  have hw1 : IntKind.u8.wrap (c / 16) = c / 16 := IntWalk.u8_in _ (by omega)
  rw [hT] at e1 hw1
  clear hT
  have q1 := gdL_le l
  obtain ⟨l1, hl1⟩ : ∃ x, x = gdL l := ⟨_, rfl⟩
  obtain ⟨l2, hl2⟩ : ∃ x, x = l1.tail := ⟨_, rfl⟩
  obtain ⟨l3, hl3⟩ : ∃ x, x = l2.tail := ⟨_, rfl⟩
  have q4 := gwL_le l3
  obtain ⟨l4, hl4⟩ : ∃ x, x = gwL l3 := ⟨_, rfl⟩
  have q5 := gdL_le l4
  obtain ⟨l5, hl5⟩ : ∃ x, x = gdL l4 := ⟨_, rfl⟩
  have n1 : l1.length ≤ 1000000 := by rw [hl1]; omega
  have n2 : l2.length ≤ 1000000 := by rw [hl2, List.length_tail]; omega
  have n3 : l3.length ≤ 1000000 := by rw [hl3, List.length_tail]; omega
  have n4 : l4.length ≤ 1000000 := by rw [hl4]; omega
  have n5 : l5.length ≤ 1000000 := by rw [hl5]; omega
  have q6 := gdL_le l5
  have q7 := gdL_le (gdL l5)
  have q8 := gdL_le (gdL (gdL l5))
  obtain ⟨lv, hlv⟩ : ∃ x, x = byV l1 := ⟨_, rfl⟩
  obtain ⟨fl, hfl⟩ : ∃ x, x = byV l2 := ⟨_, rfl⟩
  obtain ⟨kp, hkp⟩ : ∃ x, x = woV l3 := ⟨_, rfl⟩
  obtain ⟨cl, hcl⟩ : ∃ x, x = gdV l4 := ⟨_, rfl⟩
  have b1 := by_bd l1
  have b2 := by_bd l2
  have b3 := wo_bd l3
  rw [← hlv] at b1
  rw [← hfl] at b2
  rw [← hkp] at b3
  have w1 : IntKind.u8.wrap lv = lv := IntWalk.u8_in _ (by omega)
  have w2 : IntKind.u16.wrap kp = kp := IntWalk.u16_in _ (by omega)
  obtain ⟨d2, hd2⟩ : ∃ x, x = fl / 2 := ⟨_, rfl⟩
  obtain ⟨r2, hr2⟩ : ∃ x, x = d2 % 2 := ⟨_, rfl⟩
  have f2 : fl.tdiv 2 = d2 := by rw [Int.tdiv_eq_ediv_of_nonneg b2.1, hd2]
  have m2 : d2.tmod 2 = r2 := by rw [Int.tmod_eq_emod_of_nonneg (by omega), hr2]
  have v2 : IntKind.i64.wrap d2 = d2 := IntWalk.i64_in _ (by omega)
  have u2 : IntKind.i64.wrap r2 = r2 := IntWalk.i64_in _ (by omega)
  obtain ⟨d4, hd4⟩ : ∃ x, x = fl / 4 := ⟨_, rfl⟩
  obtain ⟨r4, hr4⟩ : ∃ x, x = d4 % 2 := ⟨_, rfl⟩
  have f4 : fl.tdiv 4 = d4 := by rw [Int.tdiv_eq_ediv_of_nonneg b2.1, hd4]
  have m4 : d4.tmod 2 = r4 := by rw [Int.tmod_eq_emod_of_nonneg (by omega), hr4]
  have v4 : IntKind.i64.wrap d4 = d4 := IntWalk.i64_in _ (by omega)
  have u4 : IntKind.i64.wrap r4 = r4 := IntWalk.i64_in _ (by omega)
  obtain ⟨d8, hd8⟩ : ∃ x, x = fl / 8 := ⟨_, rfl⟩
  obtain ⟨r8, hr8⟩ : ∃ x, x = d8 % 4 := ⟨_, rfl⟩
  have f8 : fl.tdiv 8 = d8 := by rw [Int.tdiv_eq_ediv_of_nonneg b2.1, hd8]
  have m8 : d8.tmod 4 = r8 := by rw [Int.tmod_eq_emod_of_nonneg (by omega), hr8]
  have v8 : IntKind.i64.wrap d8 = d8 := IntWalk.i64_in _ (by omega)
  have u8 : IntKind.i64.wrap r8 = r8 := IntWalk.i64_in _ (by omega)
  obtain ⟨d32, hd32⟩ : ∃ x, x = fl / 32 := ⟨_, rfl⟩
  obtain ⟨r32, hr32⟩ : ∃ x, x = d32 % 2 := ⟨_, rfl⟩
  have f32 : fl.tdiv 32 = d32 := by rw [Int.tdiv_eq_ediv_of_nonneg b2.1, hd32]
  have m32 : d32.tmod 2 = r32 := by rw [Int.tmod_eq_emod_of_nonneg (by omega), hr32]
  have v32 : IntKind.i64.wrap d32 = d32 := IntWalk.i64_in _ (by omega)
  have u32 : IntKind.i64.wrap r32 = r32 := IntWalk.i64_in _ (by omega)
  obtain ⟨d64, hd64⟩ : ∃ x, x = fl / 64 := ⟨_, rfl⟩
  obtain ⟨r64, hr64⟩ : ∃ x, x = d64 % 2 := ⟨_, rfl⟩
  have f64 : fl.tdiv 64 = d64 := by rw [Int.tdiv_eq_ediv_of_nonneg b2.1, hd64]
  have m64 : d64.tmod 2 = r64 := by rw [Int.tmod_eq_emod_of_nonneg (by omega), hr64]
  have v64 : IntKind.i64.wrap d64 = d64 := IntWalk.i64_in _ (by omega)
  have u64 : IntKind.i64.wrap r64 = r64 := IntWalk.i64_in _ (by omega)
  obtain ⟨d128, hd128⟩ : ∃ x, x = fl / 128 := ⟨_, rfl⟩
  have f128 : fl.tdiv 128 = d128 := by rw [Int.tdiv_eq_ediv_of_nonneg b2.1, hd128]
  have v128 : IntKind.i64.wrap d128 = d128 := IntWalk.i64_in _ (by omega)
  have uq : IntKind.u8.wrap r8 = r8 := IntWalk.u8_in _ (by omega)
  obtain ⟨bc, hbc⟩ : ∃ b, (r2 == 1) = b := ⟨_, rfl⟩
  obtain ⟨bw, hbw⟩ : ∃ b, (r4 == 1) = b := ⟨_, rfl⟩
  obtain ⟨br, hbr⟩ : ∃ b, (r32 == 1) = b := ⟨_, rfl⟩
  obtain ⟨bp, hbp⟩ : ∃ b, (r64 == 1) = b := ⟨_, rfl⟩
  obtain ⟨bu, hbu⟩ : ∃ b, (d128 == 1) = b := ⟨_, rfl⟩
  obtain ⟨P5, hP5⟩ : ∃ P, P = (((zPk.s_ty 1).s_level lv).s_keep kp).s_client cl := ⟨_, rfl⟩
  obtain ⟨P6, hP6⟩ : ∃ P, P = (((((P5.s_clean bc).s_hasWill bw).s_wq r8).s_wr br).s_hasPass bp).s_hasUser bu := ⟨_, rfl⟩
  have HG : Hid (gCon l = gcS bp (gcU bu (gcW bw l5 P6).2 (gcW bw l5 P6).1).2 (gcU bu (gcW bw l5 P6).2 (gcW bw l5 P6).1).1) := by
    show _ = _
    have h1 : gcL l = l5 := by rw [hl5, hl4, hl3, hl2, hl1]; rfl
    have h2 : gcP l = P6 := by
      rw [hP6, hP5, ← hbc, ← hbw, ← hbr, ← hbp, ← hbu, hr2, hd2, hr4, hd4, hr8, hd8, hr32, hd32, hr64, hd64, hd128, hlv, hkp, hcl, hfl, hl4, hl3, hl2, hl1]
      rfl
    have h3 : byV (gdL l).tail = fl := by rw [hfl, hl2, hl1]
    unfold gCon
    rw [h1, h2, h3, ← hd64, ← hr64, hbp, ← hd128, hbu, ← hd4, ← hr4, hbw]
  have HL1 := Lib.hid hl1
  have HL4 := Lib.hid hl4
  have HL5 := Lib.hid hl5
  have HL2 := Lib.hid hl2
  have HL3 := Lib.hid hl3
  have HLV := Lib.hid hlv
  have HFL := Lib.hid hfl
  have HKP := Lib.hid hkp
  have HCL := Lib.hid hcl
  have HP5 := Lib.hid hP5
  have HP6 := Lib.hid hP6
  clear hl1 hl2 hl3 hl4 hl5 hlv hfl hkp hcl hP5 hP6 q1 q4 q5 hd2 hr2 hd4 hr4 hd8 hr8 hd32 hr32 hd64 hr64 hd128
  have t0 : (zPk.s_ty 1).ty = 1 := rfl
  rw [HG.out]
  clear HG
  go_enter Tryz.func28, Tryz.ntmps28
  go_wp2_with (refine wpList_buildE rfl 82 _ rfl (FlC l) (by kernel_rfl) ?_)
  refine (fpData (gnew w l (zPk.s_ty 1)) (gne1 _ _ _ _ _) (by omega)).mono ?_
  rintro e wa ⟨rfl, hKa⟩
  rw [← HL1.out] at hKa
  go_wp2_with fail
  refine (fpByte hKa (gne1 _ _ _ _ _) (by omega)).mono ?_
  rintro e wb ⟨rfl, hKb⟩
  rw [← HLV.out]
  rw [← HL2.out] at hKb
  have a1r := hKb.row; have a1f := hKb.free; have a1c := hKb.cell; have a1l := hKb.lt; have a1z := hKb.froz
  have a2r := hKb.tail.row; have a2f := hKb.tail.free; have a2c := hKb.tail.cell; have a2l := hKb.tail.lt; have a2z := hKb.tail.froz
  have a3r := hKb.tail.tail.row; have a3f := hKb.tail.tail.free; have a3c := hKb.tail.tail.cell; have a3l := hKb.tail.tail.lt; have a3z := hKb.tail.tail.froz
  clear hKa
  go_wp2_with fail
  clear a1r a1f a1c a1l a1z a2r a2f a2c a2l a2z a3r a3f a3c a3l a3z
  refine (fpByte (gset (h := hKb) _ none 0 0) (gne1 _ _ _ _ _) (by omega)).mono ?_
  rintro e wc ⟨rfl, hKc⟩
  rw [← HFL.out]
  rw [← HL3.out] at hKc
  clear hKb
  go_wp2_with fail
  refine (fpWord hKc (gne1 _ _ _ _ _) (by omega)).mono ?_
  rintro e wd ⟨rfl, hKd⟩
  rw [← HKP.out]
  rw [← HL4.out] at hKd
  have a1r := hKd.row; have a1f := hKd.free; have a1c := hKd.cell; have a1l := hKd.lt; have a1z := hKd.froz
  have a2r := hKd.tail.row; have a2f := hKd.tail.free; have a2c := hKd.tail.cell; have a2l := hKd.tail.lt; have a2z := hKd.tail.froz
  have a3r := hKd.tail.tail.row; have a3f := hKd.tail.tail.free; have a3c := hKd.tail.tail.cell; have a3l := hKd.tail.tail.lt; have a3z := hKd.tail.tail.froz
  clear hKc
  go_wp2_with fail
  clear a1r a1f a1c a1l a1z a2r a2f a2c a2l a2z a3r a3f a3c a3l a3z
  refine (fpData (gset (h := hKd) _ none 0 0) (gne1 _ _ _ _ _) (by omega)).mono ?_
  rintro e we ⟨rfl, hKe⟩
  rw [← HCL.out]
  rw [← HL5.out] at hKe
  clear hKd
  have x5 : ((((zPk.s_ty 1).s_level lv).s_keep kp).s_client cl) = P5 := HP5.out.symm
  have x6 : (((((P5.s_clean bc).s_hasWill bw).s_wq r8).s_wr br).s_hasPass bp).s_hasUser bu = P6 := HP6.out.symm
  have y1 : P6.hasWill = bw := by rw [HP6.out]; rfl
  have y2 : P6.hasUser = bu := by rw [HP6.out]; rfl
  have y3 : P6.hasPass = bp := by rw [HP6.out]; rfl
  have a1r := hKe.row; have a1f := hKe.free; have a1c := hKe.cell; have a1l := hKe.lt; have a1z := hKe.froz
  have a2r := hKe.tail.row; have a2f := hKe.tail.free; have a2c := hKe.tail.cell; have a2l := hKe.tail.lt; have a2z := hKe.tail.froz
  have a3r := hKe.tail.tail.row; have a3f := hKe.tail.tail.free; have a3c := hKe.tail.tail.cell; have a3l := hKe.tail.tail.lt; have a3z := hKe.tail.tail.froz
  cases bw with
  | false =>
    cases bu with
    | false =>
      cases bp with
      | false =>
        go_wp2_with fail
        have HKz := Lib.hid (gset (h := hKe) P6 none 0 0)
        refine ret_pk 4 w.heap.size P6 none 0 0 rfl rfl (by go_simp) rfl ?_
        exact gup_no (gfin HKz.out)
      | true =>
        go_wp2_with fail
        clear a1r a1f a1c a1l a1z a2r a2f a2c a2l a2z a3r a3f a3c a3l a3z
        refine (fpData (gset (h := hKe) P6 none 0 0) (gne1 _ _ _ _ _) (by omega)).mono ?_
        rintro e wf ⟨rfl, hKf⟩
        have zfhasUser : (P6.s_pass (gdV l5)).hasUser = false := by rw [HP6.out]; rfl
        have zfhasPass : (P6.s_pass (gdV l5)).hasPass = true := by rw [HP6.out]; rfl
        have a1r := hKf.row; have a1f := hKf.free; have a1c := hKf.cell; have a1l := hKf.lt; have a1z := hKf.froz
        have a2r := hKf.tail.row; have a2f := hKf.tail.free; have a2c := hKf.tail.cell; have a2l := hKf.tail.lt; have a2z := hKf.tail.froz
        have a3r := hKf.tail.tail.row; have a3f := hKf.tail.tail.free; have a3c := hKf.tail.tail.cell; have a3l := hKf.tail.tail.lt; have a3z := hKf.tail.tail.froz
        go_wp2_with fail
        have HKz := Lib.hid (gset (h := hKf) (P6.s_pass (gdV l5)) none 0 0)
        refine ret_pk 4 w.heap.size (P6.s_pass (gdV l5)) none 0 0 rfl rfl (by go_simp) rfl ?_
        exact gup_no (gfin HKz.out)
    | true =>
      cases bp with
      | false =>
        go_wp2_with fail
        clear a1r a1f a1c a1l a1z a2r a2f a2c a2l a2z a3r a3f a3c a3l a3z
        refine (fpData (gset (h := hKe) P6 none 0 0) (gne1 _ _ _ _ _) (by omega)).mono ?_
        rintro e wf ⟨rfl, hKf⟩
        have zfhasUser : (P6.s_user (gdV l5)).hasUser = true := by rw [HP6.out]; rfl
        have zfhasPass : (P6.s_user (gdV l5)).hasPass = false := by rw [HP6.out]; rfl
        have a1r := hKf.row; have a1f := hKf.free; have a1c := hKf.cell; have a1l := hKf.lt; have a1z := hKf.froz
        have a2r := hKf.tail.row; have a2f := hKf.tail.free; have a2c := hKf.tail.cell; have a2l := hKf.tail.lt; have a2z := hKf.tail.froz
        have a3r := hKf.tail.tail.row; have a3f := hKf.tail.tail.free; have a3c := hKf.tail.tail.cell; have a3l := hKf.tail.tail.lt; have a3z := hKf.tail.tail.froz
        go_wp2_with fail
        have HKz := Lib.hid (gset (h := hKf) (P6.s_user (gdV l5)) none 0 0)
        refine ret_pk 4 w.heap.size (P6.s_user (gdV l5)) none 0 0 rfl rfl (by go_simp) rfl ?_
        exact gup_no (gfin HKz.out)
      | true =>
        go_wp2_with fail
        clear a1r a1f a1c a1l a1z a2r a2f a2c a2l a2z a3r a3f a3c a3l a3z
        refine (fpData (gset (h := hKe) P6 none 0 0) (gne1 _ _ _ _ _) (by omega)).mono ?_
        rintro e wf ⟨rfl, hKf⟩
        have zfhasUser : (P6.s_user (gdV l5)).hasUser = true := by rw [HP6.out]; rfl
        have zfhasPass : (P6.s_user (gdV l5)).hasPass = true := by rw [HP6.out]; rfl
        have a1r := hKf.row; have a1f := hKf.free; have a1c := hKf.cell; have a1l := hKf.lt; have a1z := hKf.froz
        have a2r := hKf.tail.row; have a2f := hKf.tail.free; have a2c := hKf.tail.cell; have a2l := hKf.tail.lt; have a2z := hKf.tail.froz
        have a3r := hKf.tail.tail.row; have a3f := hKf.tail.tail.free; have a3c := hKf.tail.tail.cell; have a3l := hKf.tail.tail.lt; have a3z := hKf.tail.tail.froz
        go_wp2_with fail
        clear a1r a1f a1c a1l a1z a2r a2f a2c a2l a2z a3r a3f a3c a3l a3z
        refine (fpData (gset (h := hKf) (P6.s_user (gdV l5)) none 0 0) (gne1 _ _ _ _ _) (by omega)).mono ?_
        rintro e wg ⟨rfl, hKg⟩
        have zghasUser : ((P6.s_user (gdV l5)).s_pass (gdV (gdL l5))).hasUser = true := by rw [HP6.out]; rfl
        have zghasPass : ((P6.s_user (gdV l5)).s_pass (gdV (gdL l5))).hasPass = true := by rw [HP6.out]; rfl
        have a1r := hKg.row; have a1f := hKg.free; have a1c := hKg.cell; have a1l := hKg.lt; have a1z := hKg.froz
        have a2r := hKg.tail.row; have a2f := hKg.tail.free; have a2c := hKg.tail.cell; have a2l := hKg.tail.lt; have a2z := hKg.tail.froz
        have a3r := hKg.tail.tail.row; have a3f := hKg.tail.tail.free; have a3c := hKg.tail.tail.cell; have a3l := hKg.tail.tail.lt; have a3z := hKg.tail.tail.froz
        go_wp2_with fail
        have HKz := Lib.hid (gset (h := hKg) ((P6.s_user (gdV l5)).s_pass (gdV (gdL l5))) none 0 0)
        refine ret_pk 4 w.heap.size ((P6.s_user (gdV l5)).s_pass (gdV (gdL l5))) none 0 0 rfl rfl (by go_simp) rfl ?_
        exact gup_no (gfin HKz.out)
  | true =>
    cases bu with
    | false =>
      cases bp with
      | false =>
        go_wp2_with fail
        clear a1r a1f a1c a1l a1z a2r a2f a2c a2l a2z a3r a3f a3c a3l a3z
        refine (fpData (gset (h := hKe) P6 none 0 0) (gne1 _ _ _ _ _) (by omega)).mono ?_
        rintro e wf ⟨rfl, hKf⟩
        have zfhasUser : (P6.s_wt (gdV l5)).hasUser = false := by rw [HP6.out]; rfl
        have zfhasPass : (P6.s_wt (gdV l5)).hasPass = false := by rw [HP6.out]; rfl
        have a1r := hKf.row; have a1f := hKf.free; have a1c := hKf.cell; have a1l := hKf.lt; have a1z := hKf.froz
        have a2r := hKf.tail.row; have a2f := hKf.tail.free; have a2c := hKf.tail.cell; have a2l := hKf.tail.lt; have a2z := hKf.tail.froz
        have a3r := hKf.tail.tail.row; have a3f := hKf.tail.tail.free; have a3c := hKf.tail.tail.cell; have a3l := hKf.tail.tail.lt; have a3z := hKf.tail.tail.froz
        go_wp2_with fail
        clear a1r a1f a1c a1l a1z a2r a2f a2c a2l a2z a3r a3f a3c a3l a3z
        refine (fpData (gset (h := hKf) (P6.s_wt (gdV l5)) none 0 0) (gne1 _ _ _ _ _) (by omega)).mono ?_
        rintro e wg ⟨rfl, hKg⟩
        have zghasUser : ((P6.s_wt (gdV l5)).s_wl (gdV (gdL l5))).hasUser = false := by rw [HP6.out]; rfl
        have zghasPass : ((P6.s_wt (gdV l5)).s_wl (gdV (gdL l5))).hasPass = false := by rw [HP6.out]; rfl
        have a1r := hKg.row; have a1f := hKg.free; have a1c := hKg.cell; have a1l := hKg.lt; have a1z := hKg.froz
        have a2r := hKg.tail.row; have a2f := hKg.tail.free; have a2c := hKg.tail.cell; have a2l := hKg.tail.lt; have a2z := hKg.tail.froz
        have a3r := hKg.tail.tail.row; have a3f := hKg.tail.tail.free; have a3c := hKg.tail.tail.cell; have a3l := hKg.tail.tail.lt; have a3z := hKg.tail.tail.froz
        go_wp2_with fail
        have HKz := Lib.hid (gset (h := hKg) ((P6.s_wt (gdV l5)).s_wl (gdV (gdL l5))) none 0 0)
        refine ret_pk 4 w.heap.size ((P6.s_wt (gdV l5)).s_wl (gdV (gdL l5))) none 0 0 rfl rfl (by go_simp) rfl ?_
        exact gup_no (gfin HKz.out)
      | true =>
        go_wp2_with fail
        clear a1r a1f a1c a1l a1z a2r a2f a2c a2l a2z a3r a3f a3c a3l a3z
        refine (fpData (gset (h := hKe) P6 none 0 0) (gne1 _ _ _ _ _) (by omega)).mono ?_
        rintro e wf ⟨rfl, hKf⟩
        have zfhasUser : (P6.s_wt (gdV l5)).hasUser = false := by rw [HP6.out]; rfl
        have zfhasPass : (P6.s_wt (gdV l5)).hasPass = true := by rw [HP6.out]; rfl
        have a1r := hKf.row; have a1f := hKf.free; have a1c := hKf.cell; have a1l := hKf.lt; have a1z := hKf.froz
        have a2r := hKf.tail.row; have a2f := hKf.tail.free; have a2c := hKf.tail.cell; have a2l := hKf.tail.lt; have a2z := hKf.tail.froz
        have a3r := hKf.tail.tail.row; have a3f := hKf.tail.tail.free; have a3c := hKf.tail.tail.cell; have a3l := hKf.tail.tail.lt; have a3z := hKf.tail.tail.froz
        go_wp2_with fail
        clear a1r a1f a1c a1l a1z a2r a2f a2c a2l a2z a3r a3f a3c a3l a3z
        refine (fpData (gset (h := hKf) (P6.s_wt (gdV l5)) none 0 0) (gne1 _ _ _ _ _) (by omega)).mono ?_
        rintro e wg ⟨rfl, hKg⟩
        have zghasUser : ((P6.s_wt (gdV l5)).s_wl (gdV (gdL l5))).hasUser = false := by rw [HP6.out]; rfl
        have zghasPass : ((P6.s_wt (gdV l5)).s_wl (gdV (gdL l5))).hasPass = true := by rw [HP6.out]; rfl
        have a1r := hKg.row; have a1f := hKg.free; have a1c := hKg.cell; have a1l := hKg.lt; have a1z := hKg.froz
        have a2r := hKg.tail.row; have a2f := hKg.tail.free; have a2c := hKg.tail.cell; have a2l := hKg.tail.lt; have a2z := hKg.tail.froz
        have a3r := hKg.tail.tail.row; have a3f := hKg.tail.tail.free; have a3c := hKg.tail.tail.cell; have a3l := hKg.tail.tail.lt; have a3z := hKg.tail.tail.froz
        go_wp2_with fail
        clear a1r a1f a1c a1l a1z a2r a2f a2c a2l a2z a3r a3f a3c a3l a3z
        refine (fpData (gset (h := hKg) ((P6.s_wt (gdV l5)).s_wl (gdV (gdL l5))) none 0 0) (gne1 _ _ _ _ _) (by omega)).mono ?_
        rintro e wh ⟨rfl, hKh⟩
        have zhhasUser : (((P6.s_wt (gdV l5)).s_wl (gdV (gdL l5))).s_pass (gdV (gdL (gdL l5)))).hasUser = false := by rw [HP6.out]; rfl
        have zhhasPass : (((P6.s_wt (gdV l5)).s_wl (gdV (gdL l5))).s_pass (gdV (gdL (gdL l5)))).hasPass = true := by rw [HP6.out]; rfl
        have a1r := hKh.row; have a1f := hKh.free; have a1c := hKh.cell; have a1l := hKh.lt; have a1z := hKh.froz
        have a2r := hKh.tail.row; have a2f := hKh.tail.free; have a2c := hKh.tail.cell; have a2l := hKh.tail.lt; have a2z := hKh.tail.froz
        have a3r := hKh.tail.tail.row; have a3f := hKh.tail.tail.free; have a3c := hKh.tail.tail.cell; have a3l := hKh.tail.tail.lt; have a3z := hKh.tail.tail.froz
        go_wp2_with fail
        have HKz := Lib.hid (gset (h := hKh) (((P6.s_wt (gdV l5)).s_wl (gdV (gdL l5))).s_pass (gdV (gdL (gdL l5)))) none 0 0)
        refine ret_pk 4 w.heap.size (((P6.s_wt (gdV l5)).s_wl (gdV (gdL l5))).s_pass (gdV (gdL (gdL l5)))) none 0 0 rfl rfl (by go_simp) rfl ?_
        exact gup_no (gfin HKz.out)
    | true =>
      cases bp with
      | false =>
        go_wp2_with fail
        clear a1r a1f a1c a1l a1z a2r a2f a2c a2l a2z a3r a3f a3c a3l a3z
        refine (fpData (gset (h := hKe) P6 none 0 0) (gne1 _ _ _ _ _) (by omega)).mono ?_
        rintro e wf ⟨rfl, hKf⟩
        have zfhasUser : (P6.s_wt (gdV l5)).hasUser = true := by rw [HP6.out]; rfl
        have zfhasPass : (P6.s_wt (gdV l5)).hasPass = false := by rw [HP6.out]; rfl
        have a1r := hKf.row; have a1f := hKf.free; have a1c := hKf.cell; have a1l := hKf.lt; have a1z := hKf.froz
        have a2r := hKf.tail.row; have a2f := hKf.tail.free; have a2c := hKf.tail.cell; have a2l := hKf.tail.lt; have a2z := hKf.tail.froz
        have a3r := hKf.tail.tail.row; have a3f := hKf.tail.tail.free; have a3c := hKf.tail.tail.cell; have a3l := hKf.tail.tail.lt; have a3z := hKf.tail.tail.froz
        go_wp2_with fail
        clear a1r a1f a1c a1l a1z a2r a2f a2c a2l a2z a3r a3f a3c a3l a3z
        refine (fpData (gset (h := hKf) (P6.s_wt (gdV l5)) none 0 0) (gne1 _ _ _ _ _) (by omega)).mono ?_
        rintro e wg ⟨rfl, hKg⟩
        have zghasUser : ((P6.s_wt (gdV l5)).s_wl (gdV (gdL l5))).hasUser = true := by rw [HP6.out]; rfl
        have zghasPass : ((P6.s_wt (gdV l5)).s_wl (gdV (gdL l5))).hasPass = false := by rw [HP6.out]; rfl
        have a1r := hKg.row; have a1f := hKg.free; have a1c := hKg.cell; have a1l := hKg.lt; have a1z := hKg.froz
        have a2r := hKg.tail.row; have a2f := hKg.tail.free; have a2c := hKg.tail.cell; have a2l := hKg.tail.lt; have a2z := hKg.tail.froz
        have a3r := hKg.tail.tail.row; have a3f := hKg.tail.tail.free; have a3c := hKg.tail.tail.cell; have a3l := hKg.tail.tail.lt; have a3z := hKg.tail.tail.froz
        go_wp2_with fail
        clear a1r a1f a1c a1l a1z a2r a2f a2c a2l a2z a3r a3f a3c a3l a3z
        refine (fpData (gset (h := hKg) ((P6.s_wt (gdV l5)).s_wl (gdV (gdL l5))) none 0 0) (gne1 _ _ _ _ _) (by omega)).mono ?_
        rintro e wh ⟨rfl, hKh⟩
        have zhhasUser : (((P6.s_wt (gdV l5)).s_wl (gdV (gdL l5))).s_user (gdV (gdL (gdL l5)))).hasUser = true := by rw [HP6.out]; rfl
        have zhhasPass : (((P6.s_wt (gdV l5)).s_wl (gdV (gdL l5))).s_user (gdV (gdL (gdL l5)))).hasPass = false := by rw [HP6.out]; rfl
        have a1r := hKh.row; have a1f := hKh.free; have a1c := hKh.cell; have a1l := hKh.lt; have a1z := hKh.froz
        have a2r := hKh.tail.row; have a2f := hKh.tail.free; have a2c := hKh.tail.cell; have a2l := hKh.tail.lt; have a2z := hKh.tail.froz
        have a3r := hKh.tail.tail.row; have a3f := hKh.tail.tail.free; have a3c := hKh.tail.tail.cell; have a3l := hKh.tail.tail.lt; have a3z := hKh.tail.tail.froz
        go_wp2_with fail
        have HKz := Lib.hid (gset (h := hKh) (((P6.s_wt (gdV l5)).s_wl (gdV (gdL l5))).s_user (gdV (gdL (gdL l5)))) none 0 0)
        refine ret_pk 4 w.heap.size (((P6.s_wt (gdV l5)).s_wl (gdV (gdL l5))).s_user (gdV (gdL (gdL l5)))) none 0 0 rfl rfl (by go_simp) rfl ?_
        exact gup_no (gfin HKz.out)
      | true =>
        go_wp2_with fail
        clear a1r a1f a1c a1l a1z a2r a2f a2c a2l a2z a3r a3f a3c a3l a3z
        refine (fpData (gset (h := hKe) P6 none 0 0) (gne1 _ _ _ _ _) (by omega)).mono ?_
        rintro e wf ⟨rfl, hKf⟩
        have zfhasUser : (P6.s_wt (gdV l5)).hasUser = true := by rw [HP6.out]; rfl
        have zfhasPass : (P6.s_wt (gdV l5)).hasPass = true := by rw [HP6.out]; rfl
        have a1r := hKf.row; have a1f := hKf.free; have a1c := hKf.cell; have a1l := hKf.lt; have a1z := hKf.froz
        have a2r := hKf.tail.row; have a2f := hKf.tail.free; have a2c := hKf.tail.cell; have a2l := hKf.tail.lt; have a2z := hKf.tail.froz
        have a3r := hKf.tail.tail.row; have a3f := hKf.tail.tail.free; have a3c := hKf.tail.tail.cell; have a3l := hKf.tail.tail.lt; have a3z := hKf.tail.tail.froz
        go_wp2_with fail
        clear a1r a1f a1c a1l a1z a2r a2f a2c a2l a2z a3r a3f a3c a3l a3z
        refine (fpData (gset (h := hKf) (P6.s_wt (gdV l5)) none 0 0) (gne1 _ _ _ _ _) (by omega)).mono ?_
        rintro e wg ⟨rfl, hKg⟩
        have zghasUser : ((P6.s_wt (gdV l5)).s_wl (gdV (gdL l5))).hasUser = true := by rw [HP6.out]; rfl
        have zghasPass : ((P6.s_wt (gdV l5)).s_wl (gdV (gdL l5))).hasPass = true := by rw [HP6.out]; rfl
        have a1r := hKg.row; have a1f := hKg.free; have a1c := hKg.cell; have a1l := hKg.lt; have a1z := hKg.froz
        have a2r := hKg.tail.row; have a2f := hKg.tail.free; have a2c := hKg.tail.cell; have a2l := hKg.tail.lt; have a2z := hKg.tail.froz
        have a3r := hKg.tail.tail.row; have a3f := hKg.tail.tail.free; have a3c := hKg.tail.tail.cell; have a3l := hKg.tail.tail.lt; have a3z := hKg.tail.tail.froz
        go_wp2_with fail
        clear a1r a1f a1c a1l a1z a2r a2f a2c a2l a2z a3r a3f a3c a3l a3z
        refine (fpData (gset (h := hKg) ((P6.s_wt (gdV l5)).s_wl (gdV (gdL l5))) none 0 0) (gne1 _ _ _ _ _) (by omega)).mono ?_
        rintro e wh ⟨rfl, hKh⟩
        have zhhasUser : (((P6.s_wt (gdV l5)).s_wl (gdV (gdL l5))).s_user (gdV (gdL (gdL l5)))).hasUser = true := by rw [HP6.out]; rfl
        have zhhasPass : (((P6.s_wt (gdV l5)).s_wl (gdV (gdL l5))).s_user (gdV (gdL (gdL l5)))).hasPass = true := by rw [HP6.out]; rfl
        have a1r := hKh.row; have a1f := hKh.free; have a1c := hKh.cell; have a1l := hKh.lt; have a1z := hKh.froz
        have a2r := hKh.tail.row; have a2f := hKh.tail.free; have a2c := hKh.tail.cell; have a2l := hKh.tail.lt; have a2z := hKh.tail.froz
        have a3r := hKh.tail.tail.row; have a3f := hKh.tail.tail.free; have a3c := hKh.tail.tail.cell; have a3l := hKh.tail.tail.lt; have a3z := hKh.tail.tail.froz
        go_wp2_with fail
        clear a1r a1f a1c a1l a1z a2r a2f a2c a2l a2z a3r a3f a3c a3l a3z
        refine (fpData (gset (h := hKh) (((P6.s_wt (gdV l5)).s_wl (gdV (gdL l5))).s_user (gdV (gdL (gdL l5)))) none 0 0) (gne1 _ _ _ _ _) (by omega)).mono ?_
        rintro e wi ⟨rfl, hKi⟩
        have zihasUser : ((((P6.s_wt (gdV l5)).s_wl (gdV (gdL l5))).s_user (gdV (gdL (gdL l5)))).s_pass (gdV (gdL (gdL (gdL l5))))).hasUser = true := by rw [HP6.out]; rfl
        have zihasPass : ((((P6.s_wt (gdV l5)).s_wl (gdV (gdL l5))).s_user (gdV (gdL (gdL l5)))).s_pass (gdV (gdL (gdL (gdL l5))))).hasPass = true := by rw [HP6.out]; rfl
        have a1r := hKi.row; have a1f := hKi.free; have a1c := hKi.cell; have a1l := hKi.lt; have a1z := hKi.froz
        have a2r := hKi.tail.row; have a2f := hKi.tail.free; have a2c := hKi.tail.cell; have a2l := hKi.tail.lt; have a2z := hKi.tail.froz
        have a3r := hKi.tail.tail.row; have a3f := hKi.tail.tail.free; have a3c := hKi.tail.tail.cell; have a3l := hKi.tail.tail.lt; have a3z := hKi.tail.tail.froz
        go_wp2_with fail
        have HKz := Lib.hid (gset (h := hKi) ((((P6.s_wt (gdV l5)).s_wl (gdV (gdL l5))).s_user (gdV (gdL (gdL l5)))).s_pass (gdV (gdL (gdL (gdL l5))))) none 0 0)
        refine ret_pk 4 w.heap.size ((((P6.s_wt (gdV l5)).s_wl (gdV (gdL l5))).s_user (gdV (gdL (gdL l5)))).s_pass (gdV (gdL (gdL (gdL l5))))) none 0 0 rfl rfl (by go_simp) rfl ?_
        exact gup_no (gfin HKz.out)
end Go.Proofs.YtnaedcennichlaaGreatDoor
