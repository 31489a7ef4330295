/-
  The document's own guess at a packet: Connack, Publish, Suback.
-/
import Derived.Test.YtnaedcennichlaaGreatDoorFpGuess
set_option linter.unusedSimpArgs false
set_option linter.unusedVariables false
namespace Go.Proofs.YtnaedcennichlaaGreatDoor
open Go.RowKit
set_option maxRecDepth 100000
theorem gfin {w w1 : World} {l : List UInt8} {P : Pk} (h : Kp w (gL w.heap.size l P none 0 0) w1) : Below w.heap.size w (w1.setRow w.heap.size (PkC P none 0 0)) := (h.swap.tail.swap.set (by intro x hx; simp at hx; subst hx; dsimp only; omega) _).below
theorem gwL_le (l : List UInt8) : (gwL l).length ≤ l.length := by rcases l with _ | ⟨a, _ | ⟨b, r⟩⟩ <;> simp [gwL]; omega
theorem gdL_le (l : List UInt8) : (gdL l).length ≤ l.length := by unfold gdL; rw [List.length_drop]; omega
set_option maxHeartbeats 4000000 in
theorem guess_9 (c : Int) (l : List UInt8) (w : World) (h0 : 0 ≤ c) (h1 : c ≤ 255) (hl : l.length ≤ 1000000) (hT : c / 16 = 9) :
    Calls Tryz.prog 28 #[.int .u8 c, .string ⟨l.toArray⟩] w fun e w' => GUP w (((zPk.s_ty 9).s_id (woV l)).s_codes (gwL l)) [] e w' := by
  have e1 : c.tdiv 16 = c / 16 := by rw [Int.tdiv_eq_ediv_of_nonneg h0]
  have hw1 : IntKind.u8.wrap (c / 16) = c / 16 := IntWalk.u8_in _ (by omega)
  obtain ⟨v, hv⟩ : ∃ v, v = woV l := ⟨_, rfl⟩
  have hvb := wo_bd l
  rw [← hv] at hvb ⊢
  have HV := Lib.hid hv
  have hw2 : IntKind.u16.wrap v = v := IntWalk.u16_in _ (by omega)
  clear hv
  have hgl := gwL_le l
  obtain ⟨l2, hl2⟩ : ∃ l2, l2 = gwL l := ⟨_, rfl⟩
  have HL2 := Lib.hid hl2
  have hl2n : l2.length ≤ 1000000 := by rw [hl2]; omega
  obtain ⟨s2, hs2⟩ : ∃ s2 : Nat, s2 = l2.length + 1 := ⟨_, rfl⟩
  have hsI : (l2.length : Int) + 1 = (s2 : Int) := by omega
  have HSW : Hid (IntKind.i64.wrap (s2 : Int) = s2) := IntWalk.i64_in _ (by omega)
  rw [← hl2]
  clear hl2 hgl hs2
  rw [hT] at e1 hw1
  clear hT
  have t0 : (zPk.s_ty 9).ty = 9 := rfl
  have t1 : ((zPk.s_ty 9).s_id v).ty = 9 := rfl
  have t2 : (((zPk.s_ty 9).s_id v).s_codes l2).ty = 9 := rfl
  go_enter Tryz.func28, Tryz.ntmps28
  go_wp2_with (refine wpList_buildE rfl 82 _ rfl (FlC l) (by kernel_rfl) ?_)
  refine (fpWord (gnew w l (zPk.s_ty 9)) (gne1 _ _ _ _ _) (by omega)).mono ?_
  rintro e w2 ⟨rfl, hK2⟩
  rw [← HV.out]
  rw [← HL2.out] at hK2
  have HK3 := Lib.hid (gset (h := hK2) (((zPk.s_ty 9).s_id v).s_codes l2) none 0 0)
  have hsw := HSW.out
  have a1r := hK2.row; have a1f := hK2.free; have a1c := hK2.cell; have a1l := hK2.lt; have a1z := hK2.froz
  have a2r := hK2.tail.row; have a2f := hK2.tail.free; have a2c := hK2.tail.cell; have a2l := hK2.tail.lt; have a2z := hK2.tail.froz
  have a3r := hK2.tail.tail.row; have a3f := hK2.tail.tail.free; have a3c := hK2.tail.tail.cell; have a3l := hK2.tail.tail.lt; have a3z := hK2.tail.tail.froz
  clear hK2
  go_wp2_with fail
  clear hsw a1r a1f a1c a1l a1z a2r a2f a2c a2l a2z a3r a3f a3c a3l a3z
  obtain ⟨w3, hw3⟩ : ∃ w3, w3 = w2.setRow (w.heap.size + 1 + 1) (PkC (((zPk.s_ty 9).s_id v).s_codes l2) none 0 0) := ⟨_, rfl⟩
  rw [← hw3] at HK3 ⊢
  clear hw3
  go_loopw [8] (fun v8 wr => wr = w3) (fun _ _ => 0)
  case atStart => trivial
  case round =>
    obtain rfl := hrel
    have hK4 := HK3.out
    have a1r := hK4.row; have a1f := hK4.free; have a1c := hK4.cell; have a1l := hK4.lt; have a1z := hK4.froz
    have a2r := hK4.tail.row; have a2f := hK4.tail.free; have a2c := hK4.tail.cell; have a2l := hK4.tail.lt; have a2z := hK4.tail.froz
    have a3r := hK4.tail.tail.row; have a3f := hK4.tail.tail.free; have a3c := hK4.tail.tail.cell; have a3l := hK4.tail.tail.lt; have a3z := hK4.tail.tail.froz
    clear hK4
    go_wp2_with fail
    refine ret_pk 4 w.heap.size _ none 0 0 rfl rfl (by go_simp; rfl) rfl ?_
    exact gup_no (gfin HK3.out)
set_option maxHeartbeats 4000000 in
theorem guess_2 (c : Int) (l : List UInt8) (w : World) (h0 : 0 ≤ c) (h1 : c ≤ 255) (hl : l.length ≤ 1000000) (hT : c / 16 = 2) :
    Calls Tryz.prog 28 #[.int .u8 c, .string ⟨l.toArray⟩] w fun e w' => GUP w (((zPk.s_ty 2).s_present (byV l == 1)).s_code (byV l.tail)) [] e w' := by
  have e1 : c.tdiv 16 = c / 16 := by rw [Int.tdiv_eq_ediv_of_nonneg h0]
  have hw1 : IntKind.u8.wrap (c / 16) = c / 16 := IntWalk.u8_in _ (by omega)
  obtain ⟨v, hv⟩ : ∃ v, v = byV l := ⟨_, rfl⟩
  rw [← hv]
  have HV := Lib.hid hv
  obtain ⟨u, hu⟩ : ∃ u, u = byV l.tail := ⟨_, rfl⟩
  have hub := by_bd l.tail
  rw [← hu] at hub ⊢
  have HU := Lib.hid hu
  have hw2 : IntKind.u8.wrap u = u := IntWalk.u8_in _ (by omega)
  have htl : l.tail.length ≤ 1000000 := by rw [List.length_tail]; omega
  clear hv hu
  rw [hT] at e1 hw1
  clear hT
  have t0 : (zPk.s_ty 2).ty = 2 := rfl
  go_enter Tryz.func28, Tryz.ntmps28
  go_wp2_with (refine wpList_buildE rfl 82 _ rfl (FlC l) (by kernel_rfl) ?_)
  refine (fpByte (gnew w l (zPk.s_ty 2)) (gne1 _ _ _ _ _) (by omega)).mono ?_
  rintro e w2 ⟨rfl, hK2⟩
  rw [← HV.out]
  have hK2s := hK2
  have a1r := hK2s.row; have a1f := hK2s.free; have a1c := hK2s.cell; have a1l := hK2s.lt; have a1z := hK2s.froz
  have a2r := hK2s.tail.row; have a2f := hK2s.tail.free; have a2c := hK2s.tail.cell; have a2l := hK2s.tail.lt; have a2z := hK2s.tail.froz
  have a3r := hK2s.tail.tail.row; have a3f := hK2s.tail.tail.free; have a3c := hK2s.tail.tail.cell; have a3l := hK2s.tail.tail.lt; have a3z := hK2s.tail.tail.froz
  clear hK2s
  go_wp2_with fail
  clear a1r a1f a1c a1l a1z a2r a2f a2c a2l a2z a3r a3f a3c a3l a3z
  refine (fpByte (gset (h := hK2) _ none 0 0) (gne1 _ _ _ _ _) (by omega)).mono ?_
  rintro e w3 ⟨rfl, hK3⟩
  rw [← HU.out]
  have HK3 := Lib.hid (gset (h := hK3) (((zPk.s_ty 2).s_present (v == 1)).s_code u) none 0 0)
  have a1r := hK3.row; have a1f := hK3.free; have a1c := hK3.cell; have a1l := hK3.lt; have a1z := hK3.froz
  have a2r := hK3.tail.row; have a2f := hK3.tail.free; have a2c := hK3.tail.cell; have a2l := hK3.tail.lt; have a2z := hK3.tail.froz
  have a3r := hK3.tail.tail.row; have a3f := hK3.tail.tail.free; have a3c := hK3.tail.tail.cell; have a3l := hK3.tail.tail.lt; have a3z := hK3.tail.tail.froz
  clear hK2
  go_wp2_with fail
  refine ret_pk 4 w.heap.size (((zPk.s_ty 2).s_present (v == 1)).s_code u) none 0 0 rfl rfl (by go_simp) rfl ?_
  exact gup_no (gfin HK3.out)
def gPub (c : Int) : Pk := (((zPk.s_ty 3).s_dup (c / 8 % 2 == 1)).s_qos (c / 2 % 4)).s_ret (c % 2 == 1)
set_option maxHeartbeats 4000000 in
theorem guess_3 (c : Int) (l : List UInt8) (w : World) (h0 : 0 ≤ c) (h1 : c ≤ 255) (hl : l.length ≤ 1000000) (hT : c / 16 = 3) :
    Calls Tryz.prog 28 #[.int .u8 c, .string ⟨l.toArray⟩] w fun e w' => GUP w (if 0 < c / 2 % 4 then (((gPub c).s_topic (gdV l)).s_id (woV (gdL l))).s_load (gwL (gdL l)) else ((gPub c).s_topic (gdV l)).s_load (gdL l)) [] e w' := by
  have e1 : c.tdiv 16 = c / 16 := by rw [Int.tdiv_eq_ediv_of_nonneg h0]
  have hw1 : IntKind.u8.wrap (c / 16) = c / 16 := IntWalk.u8_in _ (by omega)
  obtain ⟨d8, hd8⟩ : ∃ d, d = c / 8 := ⟨_, rfl⟩
  obtain ⟨r8, hr8⟩ : ∃ d, d = d8 % 2 := ⟨_, rfl⟩
  obtain ⟨d2, hd2⟩ : ∃ d, d = c / 2 := ⟨_, rfl⟩
  obtain ⟨q, hq⟩ : ∃ d, d = d2 % 4 := ⟨_, rfl⟩
  obtain ⟨r2, hr2⟩ : ∃ d, d = c % 2 := ⟨_, rfl⟩
  have f1 : c.tdiv 8 = d8 := by rw [Int.tdiv_eq_ediv_of_nonneg h0, hd8]
  have f2 : d8.tmod 2 = r8 := by rw [Int.tmod_eq_emod_of_nonneg (by omega), hr8]
  have f3 : c.tdiv 2 = d2 := by rw [Int.tdiv_eq_ediv_of_nonneg h0, hd2]
  have f4 : d2.tmod 4 = q := by rw [Int.tmod_eq_emod_of_nonneg (by omega), hq]
  have f5 : c.tmod 2 = r2 := by rw [Int.tmod_eq_emod_of_nonneg h0, hr2]
  have g1 : IntKind.u8.wrap d8 = d8 := IntWalk.u8_in _ (by omega)
  have g2 : IntKind.u8.wrap r8 = r8 := IntWalk.u8_in _ (by omega)
  have g3 : IntKind.u8.wrap d2 = d2 := IntWalk.u8_in _ (by omega)
  have g4 : IntKind.u8.wrap q = q := IntWalk.u8_in _ (by omega)
  have g5 : IntKind.u8.wrap r2 = r2 := IntWalk.u8_in _ (by omega)
  have hgP : gPub c = (((zPk.s_ty 3).s_dup (r8 == 1)).s_qos q).s_ret (r2 == 1) := by unfold gPub; rw [hr8, hd8, hq, hd2, hr2]
  rw [show c / 2 % 4 = q by rw [hq, hd2], hgP]
  clear hd8 hr8 hd2 hq hr2 hgP
  have hg1 := gdL_le l
  obtain ⟨x, hx⟩ : ∃ x, x = gdV l := ⟨_, rfl⟩
  obtain ⟨l2, hl2⟩ : ∃ l2, l2 = gdL l := ⟨_, rfl⟩
  rw [← hx, ← hl2]
  have HX := Lib.hid hx
  have HL2 := Lib.hid hl2
  have hl2n : l2.length ≤ 1000000 := by rw [hl2]; omega
  have hvb := wo_bd l2
  obtain ⟨v, hv⟩ : ∃ v, v = woV l2 := ⟨_, rfl⟩
  rw [← hv] at hvb ⊢
  have HV := Lib.hid hv
  have hw2 : IntKind.u16.wrap v = v := IntWalk.u16_in _ (by omega)
  clear hx hl2 hv hg1
  rw [hT] at e1 hw1
  clear hT
  have t0 : (zPk.s_ty 3).ty = 3 := rfl
  have t1 : (((((zPk.s_ty 3).s_dup (r8 == 1)).s_qos q).s_ret (r2 == 1)).s_topic x).qos = q := rfl
  by_cases hq0 : 0 < q
  · rw [if_pos hq0]
    have hqd : decide (0 < q) = true := by simpa using hq0
    go_enter Tryz.func28, Tryz.ntmps28
    go_wp2_with (refine wpList_buildE rfl 82 _ rfl (FlC l) (by kernel_rfl) ?_)
    refine (fpData (gnew w l ((((zPk.s_ty 3).s_dup (r8 == 1)).s_qos q).s_ret (r2 == 1))) (gne1 _ _ _ _ _) (by omega)).mono ?_
    rintro e w2 ⟨rfl, hK2⟩
    rw [← HX.out]
    rw [← HL2.out] at hK2
    have hK2s := hK2
    have a1r := hK2s.row; have a1f := hK2s.free; have a1c := hK2s.cell; have a1l := hK2s.lt; have a1z := hK2s.froz
    have a2r := hK2s.tail.row; have a2f := hK2s.tail.free; have a2c := hK2s.tail.cell; have a2l := hK2s.tail.lt; have a2z := hK2s.tail.froz
    have a3r := hK2s.tail.tail.row; have a3f := hK2s.tail.tail.free; have a3c := hK2s.tail.tail.cell; have a3l := hK2s.tail.tail.lt; have a3z := hK2s.tail.tail.froz
    clear hK2s
    go_wp2_with fail
    clear a1r a1f a1c a1l a1z a2r a2f a2c a2l a2z a3r a3f a3c a3l a3z
    refine (fpWord (gset (h := hK2) _ none 0 0) (gne1 _ _ _ _ _) (by omega)).mono ?_
    rintro e w3 ⟨rfl, hK3⟩
    rw [← HV.out]
    have HK3 := Lib.hid (gset (h := hK3) (((((((zPk.s_ty 3).s_dup (r8 == 1)).s_qos q).s_ret (r2 == 1)).s_topic x).s_id v).s_load (gwL l2)) none 0 0)
    have a1r := hK3.row; have a1f := hK3.free; have a1c := hK3.cell; have a1l := hK3.lt; have a1z := hK3.froz
    have a2r := hK3.tail.row; have a2f := hK3.tail.free; have a2c := hK3.tail.cell; have a2l := hK3.tail.lt; have a2z := hK3.tail.froz
    have a3r := hK3.tail.tail.row; have a3f := hK3.tail.tail.free; have a3c := hK3.tail.tail.cell; have a3l := hK3.tail.tail.lt; have a3z := hK3.tail.tail.froz
    clear hK2
    go_wp2_with fail
    refine ret_pk 4 w.heap.size (((((((zPk.s_ty 3).s_dup (r8 == 1)).s_qos q).s_ret (r2 == 1)).s_topic x).s_id v).s_load (gwL l2)) none 0 0 rfl rfl (by go_simp) rfl ?_
    exact gup_no (gfin HK3.out)
  · rw [if_neg hq0]
    have hqd : decide (0 < q) = false := by simpa using hq0
    go_enter Tryz.func28, Tryz.ntmps28
    go_wp2_with (refine wpList_buildE rfl 82 _ rfl (FlC l) (by kernel_rfl) ?_)
    refine (fpData (gnew w l ((((zPk.s_ty 3).s_dup (r8 == 1)).s_qos q).s_ret (r2 == 1))) (gne1 _ _ _ _ _) (by omega)).mono ?_
    rintro e w2 ⟨rfl, hK2⟩
    rw [← HX.out]
    rw [← HL2.out] at hK2
    have HK3 := Lib.hid (gset (h := hK2) ((((((zPk.s_ty 3).s_dup (r8 == 1)).s_qos q).s_ret (r2 == 1)).s_topic x).s_load l2) none 0 0)
    have a1r := hK2.row; have a1f := hK2.free; have a1c := hK2.cell; have a1l := hK2.lt; have a1z := hK2.froz
    have a2r := hK2.tail.row; have a2f := hK2.tail.free; have a2c := hK2.tail.cell; have a2l := hK2.tail.lt; have a2z := hK2.tail.froz
    have a3r := hK2.tail.tail.row; have a3f := hK2.tail.tail.free; have a3c := hK2.tail.tail.cell; have a3l := hK2.tail.tail.lt; have a3z := hK2.tail.tail.froz
    go_wp2_with fail
    refine ret_pk 4 w.heap.size ((((((zPk.s_ty 3).s_dup (r8 == 1)).s_qos q).s_ret (r2 == 1)).s_topic x).s_load l2) none 0 0 rfl rfl (by go_simp) rfl ?_
    exact gup_no (gfin HK3.out)
end Go.Proofs.YtnaedcennichlaaGreatDoor
