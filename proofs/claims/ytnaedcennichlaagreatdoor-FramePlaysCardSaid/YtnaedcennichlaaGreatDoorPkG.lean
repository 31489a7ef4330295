/-
  packet: Rest, Right, Same, Copy.
-/
import Derived.Test.YtnaedcennichlaaGreatDoorPkF
set_option linter.unusedSimpArgs false
set_option linter.unusedVariables false
namespace Go.Proofs.YtnaedcennichlaaGreatDoor
open Go.RowKit
set_option maxRecDepth 100000
theorem isZero_eq (p : Pk) (A : Option Addr) (n c : Nat) (b : Bool) (w : World) (h : (eqPk p zPk && n == 0) = b) :
    Calls Tryz.prog 80 #[.agg (PkC p A n c)] w fun e w' => e = .returned (.bool b) ∧ Below w.heap.size w w' := h ▸ isZero_any p A n c w
set_option maxHeartbeats 1000000 in
theorem rest_any (p : Pk) (A : Option Addr) (n c : Nat) (xs : List (List UInt8 × Int)) (w : World) (hG : Glo w) (hs : Subs w A n xs) (hf : Fit p xs) :
    Calls Tryz.prog 71 #[.agg (PkC p A n c)] w fun e w' => e = .returned (.int .i64 (restN p xs)) ∧ Below w.heap.size w w' := by
  have hK0 := (Kp.nil w).new (PkC p A n c) 36
  have HG := Lib.hid hG
  have HS := Lib.hid hs
  have HF := Lib.hid hf
  have hlen := hs.len
  have hNN : takeN p xs.length = takeN p n := by rw [hlen]
  clear hs hG hf
  cases hr : takeR p xs with
  | false =>
    have HR : Hid (restN p xs = -1) := by show restN p xs = _; unfold restN; rw [hr]; simp
    go_enter Tryz.func71, Tryz.ntmps71
    go_wp2_with fail
    refine (take_any p A n c xs _ (HG.out.below ((Below.refl _ _).alloc (Nat.le_refl _) _)) (HS.out.below ((Below.refl _ _).alloc (Nat.le_refl _) _)) HF.out).mono ?_
    rintro e w6 ⟨A', c', rfl, hb6⟩
    have hP := hK0.more hb6
    clear hb6 hK0
    have p1r := hP.row; have p1f := hP.free; have p1c := hP.cell; have p1l := hP.lt; have p1z := hP.froz
    have hbp := hP.below
    have n1 : ¬ w.heap.size = w6.heap.size := by omega
    rw [hr]
    go_wp2_with fail
    go_ret
    refine ⟨ret_int HR.out.symm, ?_⟩
    repeat (first | exact hbp | refine below_setRow ?_ (by omega) _ | refine Below.alloc ?_ (by omega) _ | refine Below.alloc ?_ (by simp; omega) _)
  | true =>
    by_cases hb : takeB p xs ≤ 268435455
    · cases hz : (eqPk ((takeL p).s_ty 0) zPk && takeN p n == 0) with
      | false =>
        have HR : Hid (restN p xs = -1) := by show restN p xs = _; unfold restN; rw [hr, hNN, hz]; simp
        have HZ := Lib.hid hz
        have hd : decide (268435455 < takeB p xs) = false := by simp; omega
        clear hz
        go_enter Tryz.func71, Tryz.ntmps71
        go_wp2_with fail
        refine (take_any p A n c xs _ (HG.out.below ((Below.refl _ _).alloc (Nat.le_refl _) _)) (HS.out.below ((Below.refl _ _).alloc (Nat.le_refl _) _)) HF.out).mono ?_
        rintro e w6 ⟨A', c', rfl, hb6⟩
        have hP := hK0.more hb6
        clear hb6 hK0
        have p1r := hP.row; have p1f := hP.free; have p1c := hP.cell; have p1l := hP.lt; have p1z := hP.froz
        have hbp := hP.below
        have n1 : ¬ w.heap.size = w6.heap.size := by omega
        rw [hr]
        go_wp2_with fail
        refine (isZero_eq ((takeL p).s_ty 0) A' (takeN p n) c' false _ HZ.out).mono ?_
        rintro e w7 ⟨rfl, hb7⟩
        go_wp2_with fail
        go_ret
        refine ⟨ret_int HR.out.symm, below_more ?_ hb7⟩
        repeat (first | exact hbp | refine below_setRow ?_ (by omega) _ | refine Below.alloc ?_ (by omega) _ | refine Below.alloc ?_ (by simp; omega) _)
      | true =>
        have HR : Hid (restN p xs = takeB p xs) := by show restN p xs = _; unfold restN; rw [hr, hNN, hz]; simp [hb]
        have HZ := Lib.hid hz
        have hd : decide (268435455 < takeB p xs) = false := by simp; omega
        clear hz
        go_enter Tryz.func71, Tryz.ntmps71
        go_wp2_with fail
        refine (take_any p A n c xs _ (HG.out.below ((Below.refl _ _).alloc (Nat.le_refl _) _)) (HS.out.below ((Below.refl _ _).alloc (Nat.le_refl _) _)) HF.out).mono ?_
        rintro e w6 ⟨A', c', rfl, hb6⟩
        have hP := hK0.more hb6
        clear hb6 hK0
        rw [hr]
        go_upto_region 3 with fail
        obtain ⟨w8, hw8⟩ : ∃ w8 : World, w8 = w6.alloc (.cells (TkC true (takeB p xs) ((takeL p).s_ty 0) A' (takeN p n) c') 109) := ⟨_, rfl⟩
        have hK8 := hP.new (TkC true (takeB p xs) ((takeL p).s_ty 0) A' (takeN p n) c') 109
        rw [← hw8] at hK8 ⊢
        clear hw8
        have p1r := hK8.row; have p1f := hK8.free; have p1c := hK8.cell; have p1l := hK8.lt; have p1z := hK8.froz
        have p2r := hK8.tail.row; have p2f := hK8.tail.free; have p2c := hK8.tail.cell; have p2l := hK8.tail.lt; have p2z := hK8.tail.froz
        go_wp2_with fail
        refine (isZero_eq ((takeL p).s_ty 0) A' (takeN p n) c' true _ HZ.out).mono ?_
        rintro e w7 ⟨rfl, hb7⟩
        have hK7 := hK8.more hb7
        clear p1r p1f p1c p1z p2r p2f p2c p2z hb7
        have q1r := hK7.row; have q1f := hK7.free; have q1c := hK7.cell; have q1l := hK7.lt; have q1z := hK7.froz
        have q2r := hK7.tail.row; have q2f := hK7.tail.free; have q2c := hK7.tail.cell; have q2l := hK7.tail.lt; have q2z := hK7.tail.froz
        go_wp2_with fail
        go_ret
        exact ⟨ret_int HR.out.symm, hK7.below⟩
    · have HR : Hid (restN p xs = -1) := by show restN p xs = _; unfold restN; rw [hr]; simp [hb]
      have hd : decide (268435455 < takeB p xs) = true := by simp; omega
      go_enter Tryz.func71, Tryz.ntmps71
      go_wp2_with fail
      refine (take_any p A n c xs _ (HG.out.below ((Below.refl _ _).alloc (Nat.le_refl _) _)) (HS.out.below ((Below.refl _ _).alloc (Nat.le_refl _) _)) HF.out).mono ?_
      rintro e w6 ⟨A', c', rfl, hb6⟩
      have hP := hK0.more hb6
      clear hb6 hK0
      have p1r := hP.row; have p1f := hP.free; have p1c := hP.cell; have p1l := hP.lt; have p1z := hP.froz
      have hbp := hP.below
      have n1 : ¬ w.heap.size = w6.heap.size := by omega
      rw [hr]
      go_wp2_with fail
      go_ret
      refine ⟨ret_int HR.out.symm, ?_⟩
      repeat (first | exact hbp | refine below_setRow ?_ (by omega) _ | refine Below.alloc ?_ (by omega) _ | refine Below.alloc ?_ (by simp; omega) _)
theorem right_any (p : Pk) (A : Option Addr) (n c : Nat) (xs : List (List UInt8 × Int)) (w : World) (hG : Glo w) (hs : Subs w A n xs) (hf : Fit p xs) :
    Calls Tryz.prog 54 #[.agg (PkC p A n c)] w fun e w' => e = .returned (.bool (decide (0 ≤ restN p xs))) ∧ Below w.heap.size w w' := by
  have hb : Below w.heap.size w w := Below.refl _ _
  have HG := Lib.hid hG
  have HS := Lib.hid hs
  have HF := Lib.hid hf
  clear hG hs hf
  go_enter Tryz.func54, Tryz.ntmps54
  go_wp2_with fail
  refine (rest_any p A n c xs _ (HG.out.below ((Below.refl _ _).alloc (Nat.le_refl _) _)) (HS.out.below ((Below.refl _ _).alloc (Nat.le_refl _) _)) HF.out).mono ?_
  rintro e w1 ⟨rfl, hb1⟩
  replace hb := below_more (below_alloc hb _) hb1
  clear hb1
  go_wp2_with fail
  go_ret
  exact ⟨rfl, hb⟩
theorem right_eq (p : Pk) (A : Option Addr) (n c : Nat) (xs : List (List UInt8 × Int)) (b : Bool) (w : World) (hG : Glo w) (hs : Subs w A n xs) (hf : Fit p xs) (h : decide (0 ≤ restN p xs) = b) :
    Calls Tryz.prog 54 #[.agg (PkC p A n c)] w fun e w' => e = .returned (.bool b) ∧ Below w.heap.size w w' := h ▸ right_any p A n c xs w hG hs hf
end Go.Proofs.YtnaedcennichlaaGreatDoor
