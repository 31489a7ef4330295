/-
  read's statements: what their helpers answer.
-/
import Derived.Test.YtangnkhehajikaaGreatDoorRdDec3
import Derived.Test.YtangnkhehajikaaGreatDoorPkV
import Derived.Test.YtangnkhehajikaaGreatDoorWrLaw
set_option linter.unusedSimpArgs false
set_option linter.unusedVariables false
namespace Go.Proofs.YtangnkhehajikaaGreatDoor
open Go.RowKit
set_option maxRecDepth 100000
theorem decode_eq (s : List UInt8) (p : Pk) (xs : List (List UInt8 × Int)) (n er : Int) (w : World) (hG : Glo w) (hl : s.length ≤ 1000000000) (hr : (cutR s).1.length ≤ 90000) (h : decR s = (p, xs, n, er)) :
    Calls Tryz.prog 11 #[.string ⟨s.toArray⟩] w fun e w' => DEC w p xs n er e w' := by
  have := decode_any s w hG hl hr
  rw [h] at this
  exact this
theorem cut_no (s : List UInt8) (h : (cutR s).2.2 ≠ 0) : (cutR s).1.length ≤ 90000 := by
  rcases cut_er s with h1 | h1 | h1
  · exact absurd h1 h
  · rw [h1]; simp
  · rw [h1]; simp
theorem cut_len (s : List UInt8) : (cutR s).1.length ≤ s.length := by
  by_cases h : (cutR s).2.2 = 0
  · obtain ⟨b, r, n, u, hs, _, _, _, _, _, _, hc, _⟩ := cut_ok h
    rw [hc, hs]
    show ((r.drop u.toNat).take n.toNat).length ≤ (b :: r).length
    rw [List.length_take, List.length_drop, List.length_cons]
    omega
  · rcases cut_er s with h1 | h1 | h1
    · exact absurd h1 h
    · rw [h1]; simp
    · rw [h1]; simp
theorem fails_yes (s : List UInt8) (er : Int) (w : World) (hG : Glo w) (hl : s.length ≤ 1000000000) (hr : (cutR s).1.length ≤ 90000) (h : decR s = (zPk, [], 0, er)) :
    Calls Tryz.prog 14 #[.string ⟨s.toArray⟩, .int .i64 er] w fun e w' => e = .returned (.bool true) ∧ Below w.heap.size w w' := by
  have H := Lib.hid h
  clear h
  go_enter Tryz.func14, Tryz.ntmps14
  go_wp2_with fail
  refine (decode_eq s zPk [] 0 er _ hG hl hr H.out).mono ?_
  rintro e w1 ⟨A, c, rfl, hb, hS, hc, _⟩
  have hK := ((Kp.nil w1).new (PkC zPk A 0 c) 27)
  have hb2 := below_more hb hK.below
  clear hS hc hb hK
  go_wp2_with fail
  refine (refSame_self zPk A none 0 c 0 [] [] _ (Subs.nil _) (Subs.nil _) (by omega)).mono ?_
  rintro e w2 ⟨rfl, hb3⟩
  replace hb2 := below_more hb2 hb3
  clear hb3
  go_wp2_with fail
  go_ret
  exact ⟨rfl, hb2⟩
theorem reads_yes (s : List UInt8) (p : Pk) (A : Option Addr) (n c : Nat) (xs : List (List UInt8 × Int)) (used : Int) (w : World) (hG : Glo w) (hl : s.length ≤ 1000000000) (hr : (cutR s).1.length ≤ 90000) (hs : Subs w A n xs) (hn : n ≤ 1000000) (h : decR s = (p, xs, used, 0)) :
    Calls Tryz.prog 18 #[.string ⟨s.toArray⟩, .agg (PkC p A n c), .int .i64 used] w fun e w' => e = .returned (.bool true) ∧ Below w.heap.size w w' := by
  obtain rfl := hs.len
  have hK0 := (Kp.nil w).new (PkC p A xs.length c) 27
  have HG := Lib.hid hG
  have HS := Lib.hid hs
  have H := Lib.hid h
  clear h hG hs
  go_enter Tryz.func18, Tryz.ntmps18
  go_wp2_with fail
  refine (decode_eq s p xs used 0 _ (HG.out.below hK0.below) hl hr H.out).mono ?_
  rintro e w1 ⟨B, d, rfl, hb, hS, hc, _⟩
  have hK := (hK0.more hb).new (PkC p B xs.length d) 27
  have HS1 := Lib.hid (hS.below ((Below.refl _ _).alloc (Nat.le_refl _) (.cells (PkC p B xs.length d) 27)))
  have hK1 := hK0.more hb
  clear hS hc hb hK0
  have a1r := hK1.row; have a1f := hK1.free; have a1c := hK1.cell; have a1l := hK1.lt; have a1z := hK1.froz
  go_wp2_with fail
  refine (refSame_self p A B xs.length c d xs xs _ (HS.out.below hK.below) HS1.out hn).mono ?_
  rintro e w2 ⟨rfl, hb3⟩
  have hb2 := below_more hK.below hb3
  clear hb3
  go_wp2_with fail
  go_ret
  exact ⟨ret_bool (by simp), hb2⟩
theorem aw1_d : decR [51, 9, 0, 3, 97, 47, 98, 0, 7, 104, 105, 255] = (awP, [], 11, 0) := by
  obtain ⟨h1, h2, _⟩ := encR_ok awP_r
  have h3 := dec_back h1 awP_f.num' [255]
  rw [← h2] at h3
  exact h3
theorem aw2_d : decR [192, 128, 0] = (zPk.s_ty 12, [], 3, 0) := by
  have h1 : cutR [192, 128, 0] = ([], 3, 0) := by decide +kernel
  have h2 : parR 192 [] = (zPk.s_ty 12, [], true) := by
    have h3 : decide (0 ≤ restN (zPk.s_ty 12) []) = true := by decide +kernel
    unfold parR
    rw [show endP 192 [] = ⟨[], false, zPk.s_ty 12⟩ from rfl, show endX 192 [] = [] from rfl, h3]
    rfl
  unfold decR
  rw [h1, show byV [192, 128, 0] = 192 from rfl]
  dsimp only
  rw [show othR 192 [] = (0, false) from rfl, h2]
  rfl
theorem dec_cut {s : List UInt8} {l : List UInt8} {n e : Int} (h : cutR s = (l, n, e)) (he : e ≠ 0) : decR s = (zPk, [], 0, e) := by
  unfold decR
  rw [h, if_neg he]
theorem aw3_d : decR [48, 5, 0] = (zPk, [], 0, 2) := dec_cut (show cutR [48, 5, 0] = ([], 0, 2) by decide +kernel) (by decide)
theorem aw4_d : decR [54] = (zPk, [], 0, 4) := dec_cut (show cutR [54] = ([], 0, 4) by decide +kernel) (by decide)
theorem aw5_d : decR [130, 2, 0, 1] = (zPk, [], 0, 4) := by
  have h1 : cutR [130, 2, 0, 1] = ([0, 1], 4, 0) := by decide +kernel
  have hx : endX 130 [0, 1] = [] := by
    show psXs 8 [0, 1] false = []
    unfold psXs
    rw [if_pos (by decide), show woL [0, 1] = [] from rfl, suT_nil]
  have hp : (endP 130 [0, 1]).p = (zPk.s_ty 8).s_id 1 := rfl
  have h2 : parR 130 [0, 1] = (zPk, [], false) := by
    have h3 : decide (0 ≤ restN ((zPk.s_ty 8).s_id 1) []) = false := by decide +kernel
    unfold parR
    rw [hx, hp, h3, if_pos (by simp)]
  unfold decR
  rw [h1, show byV [130, 2, 0, 1] = 130 from rfl]
  dsimp only
  rw [show othR 130 [0, 1] = (0, false) from rfl, h2]
  rfl
set_option maxHeartbeats 1000000 in
theorem awake5_any (w : World) (hG : Glo w) :
    Calls Tryz.prog 9 #[] w fun e w' => e = .returned (.bool true) ∧ Below w.heap.size w w' := by
  have HG := Lib.hid hG
  clear hG
  have hb : Below w.heap.size w w := Below.refl _ _
  go_enter Tryz.func9, Tryz.ntmps9
  go_wp2_with fail
  refine (reads_yes [51, 9, 0, 3, 97, 47, 98, 0, 7, 104, 105, 255] awP none 0 0 [] 11 _ HG.out (by simp) (Nat.le_trans (cut_len _) (by simp)) (Subs.nil _) (by omega) aw1_d).mono ?_
  rintro e w1 ⟨rfl, hb1⟩
  replace hb := below_more hb hb1
  clear hb1
  go_wp2_with fail
  refine (reads_yes [192, 128, 0] (zPk.s_ty 12) none 0 0 [] 3 _ (HG.out.below hb) (by simp) (Nat.le_trans (cut_len _) (by simp)) (Subs.nil _) (by omega) aw2_d).mono ?_
  rintro e w1 ⟨rfl, hb1⟩
  replace hb := below_more hb hb1
  clear hb1
  go_wp2_with fail
  refine (fails_yes [48, 5, 0] 2 _ (HG.out.below hb) (by simp) (Nat.le_trans (cut_len _) (by simp)) aw3_d).mono ?_
  rintro e w1 ⟨rfl, hb1⟩
  replace hb := below_more hb hb1
  clear hb1
  go_wp2_with fail
  refine (fails_yes [54] 4 _ (HG.out.below hb) (by simp) (Nat.le_trans (cut_len _) (by simp)) aw4_d).mono ?_
  rintro e w1 ⟨rfl, hb1⟩
  replace hb := below_more hb hb1
  clear hb1
  go_wp2_with fail
  refine (fails_yes [130, 2, 0, 1] 4 _ (HG.out.below hb) (by simp) (Nat.le_trans (cut_len _) (by simp)) aw5_d).mono ?_
  rintro e w1 ⟨rfl, hb1⟩
  replace hb := below_more hb hb1
  clear hb1
  go_wp2_with fail
  refine (first_eq 98 true _ (by omega) (by omega) (by decide)).mono ?_
  rintro e w1 ⟨rfl, rfl⟩
  go_wp2_with fail
  refine (first_eq 96 false _ (by omega) (by omega) (by decide)).mono ?_
  rintro e w1 ⟨rfl, rfl⟩
  go_wp2_with fail
  go_ret
  exact ⟨rfl, hb⟩
theorem sgreat_any (s : List UInt8) (b : Bool) (w : World) (hl : s.length ≤ 9223372036854775807) (h : decide (20000 < s.length) = b) :
    Calls Tryz.prog 8 #[.string ⟨s.toArray⟩] w fun e w' => e = .returned (.bool b) ∧ w' = w := by
  have hd : decide ((20000 : Int) < (s.length : Int)) = b := by rw [← h, decide_eq_decide]; omega
  have HD := Lib.hid hd
  clear h hd
  go_enter Tryz.func8, Tryz.ntmps8
  go_wp2_with fail
  go_ret
  exact ⟨ret_bool HD.out, rfl⟩
end Go.Proofs.YtangnkhehajikaaGreatDoor
