/-
  packet: take, Rest, Right.
-/
import Derived.Test.YtnaedcennichlaaGreatDoorPkC
import Derived.Test.YtnaedcennichlaaGreatDoorPkD
import Derived.Test.YtnaedcennichlaaGreatDoorPkE
set_option linter.unusedSimpArgs false
set_option linter.unusedVariables false
namespace Go.Proofs.YtnaedcennichlaaGreatDoor
open Go.RowKit
set_option maxRecDepth 100000
theorem Fit.lens {p : Pk} {xs : List (List UInt8 × Int)} (h : Fit p xs) : p.topic.length ≤ 100000 ∧ p.load.length ≤ 100000 ∧ p.client.length ≤ 100000 ∧ p.wt.length ≤ 100000 ∧ p.wl.length ≤ 100000 ∧ p.user.length ≤ 100000 ∧ p.pass.length ≤ 100000 ∧ p.codes.length ≤ 100000 ∧ sumB xs ≤ 100000 := by
  have := h.tot
  unfold totB at this
  omega
set_option maxHeartbeats 1000000 in
theorem take_1 (p : Pk) (A : Option Addr) (n c : Nat) (xs : List (List UInt8 × Int)) (w : World) (hG : Glo w) (hs : Subs w A n xs) (hf : Fit p xs) (hty : p.ty = 1) :
    Calls Tryz.prog 79 #[.agg (PkC p A n c)] w fun e w' => ∃ A' c', e = .returned (.agg (TkC (takeR p xs) (takeB p xs) (takeL p) A' (takeN p n) c')) ∧ Below w.heap.size w w' := by
  have hK0 := (((Kp.nil w).new (PkC p A n c) 36).new (TkC false 0 zPk none 0 0) 109).swap
  simp only [World.size_alloc] at hK0
  obtain ⟨l1, l2, l3, l4, l5, l6, l7, l8, l9⟩ := hf.lens
  have hnum : n ≤ 1000000 := by have := hf.num; have := hs.len; omega
  have HR : Hid (takeR p xs = conR p) := by show takeR p xs = _; simp [takeR, hty]
  have HB : Hid (takeB p xs = conB p) := by show takeB p xs = _; simp [takeB, hty]
  have HL : Hid (takeL p = conL p) := by show takeL p = _; simp [takeL, hty]
  have HN : Hid (takeN p n = n) := by show takeN p n = _; simp [takeN, hty]
  have HG := Lib.hid hG
  have HS := Lib.hid hs
  clear hs hG hf
  go_enter Tryz.func79, Tryz.ntmps79
  go_wp2_with fail
  refine (takeConnect_any p A n c _ l3 l4 l5 l6 l7).mono ?_
  rintro e w6 ⟨rfl, hb6⟩
  have hP := hK0.more hb6
  clear hb6 hK0
  have p1r := hP.row; have p1f := hP.free; have p1c := hP.cell; have p1l := hP.lt; have p1z := hP.froz
  have p2r := hP.tail.row; have p2f := hP.tail.free; have p2c := hP.tail.cell; have p2l := hP.tail.lt; have p2z := hP.tail.froz
  have hbp := hP.below
  have n1 : ¬ w.heap.size = w6.heap.size := by omega
  have n2 : ¬ w.heap.size + 1 = w6.heap.size := by omega
  go_wp2_with fail
  refine ret_tk 2 _ _ (takeR p xs) _ (takeB p xs) _ (takeL p) A n c rfl rfl (by go_simp; rfl) rfl (by rw [HR.out]) (by rw [HB.out]) (by rw [HL.out]) ⟨A, c, by rw [HN.out], ?_⟩
  repeat (first | exact hbp | refine below_setRow ?_ (by omega) _ | refine Below.alloc ?_ (by simp) _ | refine Below.alloc ?_ (by simp; omega) _)
set_option maxHeartbeats 1000000 in
theorem take_2 (p : Pk) (A : Option Addr) (n c : Nat) (xs : List (List UInt8 × Int)) (w : World) (hG : Glo w) (hs : Subs w A n xs) (hf : Fit p xs) (hty : p.ty = 2) :
    Calls Tryz.prog 79 #[.agg (PkC p A n c)] w fun e w' => ∃ A' c', e = .returned (.agg (TkC (takeR p xs) (takeB p xs) (takeL p) A' (takeN p n) c')) ∧ Below w.heap.size w w' := by
  have hK0 := (((Kp.nil w).new (PkC p A n c) 36).new (TkC false 0 zPk none 0 0) 109).swap
  simp only [World.size_alloc] at hK0
  obtain ⟨l1, l2, l3, l4, l5, l6, l7, l8, l9⟩ := hf.lens
  have hnum : n ≤ 1000000 := by have := hf.num; have := hs.len; omega
  have HR : Hid (takeR p xs = ackR p) := by show takeR p xs = _; simp [takeR, hty]
  have HB : Hid (takeB p xs = 2) := by show takeB p xs = _; simp [takeB, hty]
  have HL : Hid (takeL p = ackL p) := by show takeL p = _; simp [takeL, hty]
  have HN : Hid (takeN p n = n) := by show takeN p n = _; simp [takeN, hty]
  have HG := Lib.hid hG
  have HS := Lib.hid hs
  clear hs hG hf
  go_enter Tryz.func79, Tryz.ntmps79
  go_wp2_with fail
  refine (takeConnack_any p A n c _).mono ?_
  rintro e w6 ⟨rfl, hb6⟩
  have hP := hK0.more hb6
  clear hb6 hK0
  have p1r := hP.row; have p1f := hP.free; have p1c := hP.cell; have p1l := hP.lt; have p1z := hP.froz
  have p2r := hP.tail.row; have p2f := hP.tail.free; have p2c := hP.tail.cell; have p2l := hP.tail.lt; have p2z := hP.tail.froz
  have hbp := hP.below
  have n1 : ¬ w.heap.size = w6.heap.size := by omega
  have n2 : ¬ w.heap.size + 1 = w6.heap.size := by omega
  go_wp2_with fail
  refine ret_tk 2 _ _ (takeR p xs) _ (takeB p xs) _ (takeL p) A n c rfl rfl (by go_simp; rfl) rfl (by rw [HR.out]) (by rw [HB.out]) (by rw [HL.out]) ⟨A, c, by rw [HN.out], ?_⟩
  repeat (first | exact hbp | refine below_setRow ?_ (by omega) _ | refine Below.alloc ?_ (by simp) _ | refine Below.alloc ?_ (by simp; omega) _)
set_option maxHeartbeats 1000000 in
theorem take_3 (p : Pk) (A : Option Addr) (n c : Nat) (xs : List (List UInt8 × Int)) (w : World) (hG : Glo w) (hs : Subs w A n xs) (hf : Fit p xs) (hty : p.ty = 3) :
    Calls Tryz.prog 79 #[.agg (PkC p A n c)] w fun e w' => ∃ A' c', e = .returned (.agg (TkC (takeR p xs) (takeB p xs) (takeL p) A' (takeN p n) c')) ∧ Below w.heap.size w w' := by
  have hK0 := (((Kp.nil w).new (PkC p A n c) 36).new (TkC false 0 zPk none 0 0) 109).swap
  simp only [World.size_alloc] at hK0
  obtain ⟨l1, l2, l3, l4, l5, l6, l7, l8, l9⟩ := hf.lens
  have hnum : n ≤ 1000000 := by have := hf.num; have := hs.len; omega
  have HR : Hid (takeR p xs = pubR p) := by show takeR p xs = _; simp [takeR, hty]
  have HB : Hid (takeB p xs = pubB p) := by show takeB p xs = _; simp [takeB, hty]
  have HL : Hid (takeL p = pubL p) := by show takeL p = _; simp [takeL, hty]
  have HN : Hid (takeN p n = n) := by show takeN p n = _; simp [takeN, hty]
  have HG := Lib.hid hG
  have HS := Lib.hid hs
  clear hs hG hf
  go_enter Tryz.func79, Tryz.ntmps79
  go_wp2_with fail
  refine (takePublish_any p A n c _ l1 l2).mono ?_
  rintro e w6 ⟨rfl, hb6⟩
  have hP := hK0.more hb6
  clear hb6 hK0
  have p1r := hP.row; have p1f := hP.free; have p1c := hP.cell; have p1l := hP.lt; have p1z := hP.froz
  have p2r := hP.tail.row; have p2f := hP.tail.free; have p2c := hP.tail.cell; have p2l := hP.tail.lt; have p2z := hP.tail.froz
  have hbp := hP.below
  have n1 : ¬ w.heap.size = w6.heap.size := by omega
  have n2 : ¬ w.heap.size + 1 = w6.heap.size := by omega
  go_wp2_with fail
  refine ret_tk 2 _ _ (takeR p xs) _ (takeB p xs) _ (takeL p) A n c rfl rfl (by go_simp; rfl) rfl (by rw [HR.out]) (by rw [HB.out]) (by rw [HL.out]) ⟨A, c, by rw [HN.out], ?_⟩
  repeat (first | exact hbp | refine below_setRow ?_ (by omega) _ | refine Below.alloc ?_ (by simp) _ | refine Below.alloc ?_ (by simp; omega) _)
set_option maxHeartbeats 1000000 in
theorem take_4 (p : Pk) (A : Option Addr) (n c : Nat) (xs : List (List UInt8 × Int)) (w : World) (hG : Glo w) (hs : Subs w A n xs) (hf : Fit p xs) (hty : p.ty = 4) :
    Calls Tryz.prog 79 #[.agg (PkC p A n c)] w fun e w' => ∃ A' c', e = .returned (.agg (TkC (takeR p xs) (takeB p xs) (takeL p) A' (takeN p n) c')) ∧ Below w.heap.size w w' := by
  have hK0 := (((Kp.nil w).new (PkC p A n c) 36).new (TkC false 0 zPk none 0 0) 109).swap
  simp only [World.size_alloc] at hK0
  obtain ⟨l1, l2, l3, l4, l5, l6, l7, l8, l9⟩ := hf.lens
  have hnum : n ≤ 1000000 := by have := hf.num; have := hs.len; omega
  have HR : Hid (takeR p xs = decide (0 < p.id)) := by show takeR p xs = _; simp [takeR, hty]
  have HB : Hid (takeB p xs = 2) := by show takeB p xs = _; simp [takeB, hty]
  have HL : Hid (takeL p = p.s_id 0) := by show takeL p = _; simp [takeL, hty]
  have HN : Hid (takeN p n = n) := by show takeN p n = _; simp [takeN, hty]
  have HG := Lib.hid hG
  have HS := Lib.hid hs
  clear hs hG hf
  go_enter Tryz.func79, Tryz.ntmps79
  go_wp2_with fail
  refine (takeId_any p A n c _).mono ?_
  rintro e w6 ⟨rfl, hb6⟩
  have hP := hK0.more hb6
  clear hb6 hK0
  have p1r := hP.row; have p1f := hP.free; have p1c := hP.cell; have p1l := hP.lt; have p1z := hP.froz
  have p2r := hP.tail.row; have p2f := hP.tail.free; have p2c := hP.tail.cell; have p2l := hP.tail.lt; have p2z := hP.tail.froz
  have hbp := hP.below
  have n1 : ¬ w.heap.size = w6.heap.size := by omega
  have n2 : ¬ w.heap.size + 1 = w6.heap.size := by omega
  go_wp2_with fail
  refine ret_tk 2 _ _ (takeR p xs) _ (takeB p xs) _ (takeL p) A n c rfl rfl (by go_simp; rfl) rfl (by rw [HR.out]) (by rw [HB.out]) (by rw [HL.out]) ⟨A, c, by rw [HN.out], ?_⟩
  repeat (first | exact hbp | refine below_setRow ?_ (by omega) _ | refine Below.alloc ?_ (by simp) _ | refine Below.alloc ?_ (by simp; omega) _)
set_option maxHeartbeats 1000000 in
theorem take_5 (p : Pk) (A : Option Addr) (n c : Nat) (xs : List (List UInt8 × Int)) (w : World) (hG : Glo w) (hs : Subs w A n xs) (hf : Fit p xs) (hty : p.ty = 5) :
    Calls Tryz.prog 79 #[.agg (PkC p A n c)] w fun e w' => ∃ A' c', e = .returned (.agg (TkC (takeR p xs) (takeB p xs) (takeL p) A' (takeN p n) c')) ∧ Below w.heap.size w w' := by
  have hK0 := (((Kp.nil w).new (PkC p A n c) 36).new (TkC false 0 zPk none 0 0) 109).swap
  simp only [World.size_alloc] at hK0
  obtain ⟨l1, l2, l3, l4, l5, l6, l7, l8, l9⟩ := hf.lens
  have hnum : n ≤ 1000000 := by have := hf.num; have := hs.len; omega
  have HR : Hid (takeR p xs = decide (0 < p.id)) := by show takeR p xs = _; simp [takeR, hty]
  have HB : Hid (takeB p xs = 2) := by show takeB p xs = _; simp [takeB, hty]
  have HL : Hid (takeL p = p.s_id 0) := by show takeL p = _; simp [takeL, hty]
  have HN : Hid (takeN p n = n) := by show takeN p n = _; simp [takeN, hty]
  have HG := Lib.hid hG
  have HS := Lib.hid hs
  clear hs hG hf
  go_enter Tryz.func79, Tryz.ntmps79
  go_wp2_with fail
  refine (takeId_any p A n c _).mono ?_
  rintro e w6 ⟨rfl, hb6⟩
  have hP := hK0.more hb6
  clear hb6 hK0
  have p1r := hP.row; have p1f := hP.free; have p1c := hP.cell; have p1l := hP.lt; have p1z := hP.froz
  have p2r := hP.tail.row; have p2f := hP.tail.free; have p2c := hP.tail.cell; have p2l := hP.tail.lt; have p2z := hP.tail.froz
  have hbp := hP.below
  have n1 : ¬ w.heap.size = w6.heap.size := by omega
  have n2 : ¬ w.heap.size + 1 = w6.heap.size := by omega
  go_wp2_with fail
  refine ret_tk 2 _ _ (takeR p xs) _ (takeB p xs) _ (takeL p) A n c rfl rfl (by go_simp; rfl) rfl (by rw [HR.out]) (by rw [HB.out]) (by rw [HL.out]) ⟨A, c, by rw [HN.out], ?_⟩
  repeat (first | exact hbp | refine below_setRow ?_ (by omega) _ | refine Below.alloc ?_ (by simp) _ | refine Below.alloc ?_ (by simp; omega) _)
set_option maxHeartbeats 1000000 in
theorem take_6 (p : Pk) (A : Option Addr) (n c : Nat) (xs : List (List UInt8 × Int)) (w : World) (hG : Glo w) (hs : Subs w A n xs) (hf : Fit p xs) (hty : p.ty = 6) :
    Calls Tryz.prog 79 #[.agg (PkC p A n c)] w fun e w' => ∃ A' c', e = .returned (.agg (TkC (takeR p xs) (takeB p xs) (takeL p) A' (takeN p n) c')) ∧ Below w.heap.size w w' := by
  have hK0 := (((Kp.nil w).new (PkC p A n c) 36).new (TkC false 0 zPk none 0 0) 109).swap
  simp only [World.size_alloc] at hK0
  obtain ⟨l1, l2, l3, l4, l5, l6, l7, l8, l9⟩ := hf.lens
  have hnum : n ≤ 1000000 := by have := hf.num; have := hs.len; omega
  have HR : Hid (takeR p xs = decide (0 < p.id)) := by show takeR p xs = _; simp [takeR, hty]
  have HB : Hid (takeB p xs = 2) := by show takeB p xs = _; simp [takeB, hty]
  have HL : Hid (takeL p = p.s_id 0) := by show takeL p = _; simp [takeL, hty]
  have HN : Hid (takeN p n = n) := by show takeN p n = _; simp [takeN, hty]
  have HG := Lib.hid hG
  have HS := Lib.hid hs
  clear hs hG hf
  go_enter Tryz.func79, Tryz.ntmps79
  go_wp2_with fail
  refine (takeId_any p A n c _).mono ?_
  rintro e w6 ⟨rfl, hb6⟩
  have hP := hK0.more hb6
  clear hb6 hK0
  have p1r := hP.row; have p1f := hP.free; have p1c := hP.cell; have p1l := hP.lt; have p1z := hP.froz
  have p2r := hP.tail.row; have p2f := hP.tail.free; have p2c := hP.tail.cell; have p2l := hP.tail.lt; have p2z := hP.tail.froz
  have hbp := hP.below
  have n1 : ¬ w.heap.size = w6.heap.size := by omega
  have n2 : ¬ w.heap.size + 1 = w6.heap.size := by omega
  go_wp2_with fail
  refine ret_tk 2 _ _ (takeR p xs) _ (takeB p xs) _ (takeL p) A n c rfl rfl (by go_simp; rfl) rfl (by rw [HR.out]) (by rw [HB.out]) (by rw [HL.out]) ⟨A, c, by rw [HN.out], ?_⟩
  repeat (first | exact hbp | refine below_setRow ?_ (by omega) _ | refine Below.alloc ?_ (by simp) _ | refine Below.alloc ?_ (by simp; omega) _)
set_option maxHeartbeats 1000000 in
theorem take_7 (p : Pk) (A : Option Addr) (n c : Nat) (xs : List (List UInt8 × Int)) (w : World) (hG : Glo w) (hs : Subs w A n xs) (hf : Fit p xs) (hty : p.ty = 7) :
    Calls Tryz.prog 79 #[.agg (PkC p A n c)] w fun e w' => ∃ A' c', e = .returned (.agg (TkC (takeR p xs) (takeB p xs) (takeL p) A' (takeN p n) c')) ∧ Below w.heap.size w w' := by
  have hK0 := (((Kp.nil w).new (PkC p A n c) 36).new (TkC false 0 zPk none 0 0) 109).swap
  simp only [World.size_alloc] at hK0
  obtain ⟨l1, l2, l3, l4, l5, l6, l7, l8, l9⟩ := hf.lens
  have hnum : n ≤ 1000000 := by have := hf.num; have := hs.len; omega
  have HR : Hid (takeR p xs = decide (0 < p.id)) := by show takeR p xs = _; simp [takeR, hty]
  have HB : Hid (takeB p xs = 2) := by show takeB p xs = _; simp [takeB, hty]
  have HL : Hid (takeL p = p.s_id 0) := by show takeL p = _; simp [takeL, hty]
  have HN : Hid (takeN p n = n) := by show takeN p n = _; simp [takeN, hty]
  have HG := Lib.hid hG
  have HS := Lib.hid hs
  clear hs hG hf
  go_enter Tryz.func79, Tryz.ntmps79
  go_wp2_with fail
  refine (takeId_any p A n c _).mono ?_
  rintro e w6 ⟨rfl, hb6⟩
  have hP := hK0.more hb6
  clear hb6 hK0
  have p1r := hP.row; have p1f := hP.free; have p1c := hP.cell; have p1l := hP.lt; have p1z := hP.froz
  have p2r := hP.tail.row; have p2f := hP.tail.free; have p2c := hP.tail.cell; have p2l := hP.tail.lt; have p2z := hP.tail.froz
  have hbp := hP.below
  have n1 : ¬ w.heap.size = w6.heap.size := by omega
  have n2 : ¬ w.heap.size + 1 = w6.heap.size := by omega
  go_wp2_with fail
  refine ret_tk 2 _ _ (takeR p xs) _ (takeB p xs) _ (takeL p) A n c rfl rfl (by go_simp; rfl) rfl (by rw [HR.out]) (by rw [HB.out]) (by rw [HL.out]) ⟨A, c, by rw [HN.out], ?_⟩
  repeat (first | exact hbp | refine below_setRow ?_ (by omega) _ | refine Below.alloc ?_ (by simp) _ | refine Below.alloc ?_ (by simp; omega) _)
set_option maxHeartbeats 1000000 in
theorem take_11 (p : Pk) (A : Option Addr) (n c : Nat) (xs : List (List UInt8 × Int)) (w : World) (hG : Glo w) (hs : Subs w A n xs) (hf : Fit p xs) (hty : p.ty = 11) :
    Calls Tryz.prog 79 #[.agg (PkC p A n c)] w fun e w' => ∃ A' c', e = .returned (.agg (TkC (takeR p xs) (takeB p xs) (takeL p) A' (takeN p n) c')) ∧ Below w.heap.size w w' := by
  have hK0 := (((Kp.nil w).new (PkC p A n c) 36).new (TkC false 0 zPk none 0 0) 109).swap
  simp only [World.size_alloc] at hK0
  obtain ⟨l1, l2, l3, l4, l5, l6, l7, l8, l9⟩ := hf.lens
  have hnum : n ≤ 1000000 := by have := hf.num; have := hs.len; omega
  have HR : Hid (takeR p xs = decide (0 < p.id)) := by show takeR p xs = _; simp [takeR, hty]
  have HB : Hid (takeB p xs = 2) := by show takeB p xs = _; simp [takeB, hty]
  have HL : Hid (takeL p = p.s_id 0) := by show takeL p = _; simp [takeL, hty]
  have HN : Hid (takeN p n = n) := by show takeN p n = _; simp [takeN, hty]
  have HG := Lib.hid hG
  have HS := Lib.hid hs
  clear hs hG hf
  go_enter Tryz.func79, Tryz.ntmps79
  go_wp2_with fail
  refine (takeId_any p A n c _).mono ?_
  rintro e w6 ⟨rfl, hb6⟩
  have hP := hK0.more hb6
  clear hb6 hK0
  have p1r := hP.row; have p1f := hP.free; have p1c := hP.cell; have p1l := hP.lt; have p1z := hP.froz
  have p2r := hP.tail.row; have p2f := hP.tail.free; have p2c := hP.tail.cell; have p2l := hP.tail.lt; have p2z := hP.tail.froz
  have hbp := hP.below
  have n1 : ¬ w.heap.size = w6.heap.size := by omega
  have n2 : ¬ w.heap.size + 1 = w6.heap.size := by omega
  go_wp2_with fail
  refine ret_tk 2 _ _ (takeR p xs) _ (takeB p xs) _ (takeL p) A n c rfl rfl (by go_simp; rfl) rfl (by rw [HR.out]) (by rw [HB.out]) (by rw [HL.out]) ⟨A, c, by rw [HN.out], ?_⟩
  repeat (first | exact hbp | refine below_setRow ?_ (by omega) _ | refine Below.alloc ?_ (by simp) _ | refine Below.alloc ?_ (by simp; omega) _)
set_option maxHeartbeats 1000000 in
theorem take_8 (p : Pk) (A : Option Addr) (n c : Nat) (xs : List (List UInt8 × Int)) (w : World) (hG : Glo w) (hs : Subs w A n xs) (hf : Fit p xs) (hty : p.ty = 8) :
    Calls Tryz.prog 79 #[.agg (PkC p A n c)] w fun e w' => ∃ A' c', e = .returned (.agg (TkC (takeR p xs) (takeB p xs) (takeL p) A' (takeN p n) c')) ∧ Below w.heap.size w w' := by
  have hK0 := (((Kp.nil w).new (PkC p A n c) 36).new (TkC false 0 zPk none 0 0) 109).swap
  simp only [World.size_alloc] at hK0
  obtain ⟨l1, l2, l3, l4, l5, l6, l7, l8, l9⟩ := hf.lens
  have hnum : n ≤ 1000000 := by have := hf.num; have := hs.len; omega
  have HR : Hid (takeR p xs = (decide (0 < p.id) && sbR 2 xs)) := by show takeR p xs = _; simp [takeR, hty]
  have HB : Hid (takeB p xs = 2 + sbB 1 xs) := by show takeB p xs = _; simp [takeB, hty]
  have HL : Hid (takeL p = p.s_id 0) := by show takeL p = _; simp [takeL, hty]
  have HN : Hid (takeN p n = 0) := by show takeN p n = _; simp [takeN, hty]
  have HG := Lib.hid hG
  have HS := Lib.hid hs
  clear hs hG hf
  go_enter Tryz.func79, Tryz.ntmps79
  go_wp2_with fail
  refine (takeSubs_any p A n c xs 2 1 _ (HG.out.below (((Below.refl _ _).alloc (Nat.le_refl _) _).alloc (by simp) _)) (HS.out.below (((Below.refl _ _).alloc (Nat.le_refl _) _).alloc (by simp) _)) (by omega) l9 hnum).mono ?_
  rintro e w6 ⟨rfl, hb6⟩
  have hP := hK0.more hb6
  clear hb6 hK0
  have p1r := hP.row; have p1f := hP.free; have p1c := hP.cell; have p1l := hP.lt; have p1z := hP.froz
  have p2r := hP.tail.row; have p2f := hP.tail.free; have p2c := hP.tail.cell; have p2l := hP.tail.lt; have p2z := hP.tail.froz
  have hbp := hP.below
  have n1 : ¬ w.heap.size = w6.heap.size := by omega
  have n2 : ¬ w.heap.size + 1 = w6.heap.size := by omega
  go_wp2_with fail
  refine ret_tk 2 _ _ (takeR p xs) _ (takeB p xs) _ (takeL p) none 0 0 rfl rfl (by go_simp; rfl) rfl (by rw [HR.out]) (by rw [HB.out]) (by rw [HL.out]) ⟨none, 0, by rw [HN.out], ?_⟩
  repeat (first | exact hbp | refine below_setRow ?_ (by omega) _ | refine Below.alloc ?_ (by simp) _ | refine Below.alloc ?_ (by simp; omega) _)
set_option maxHeartbeats 1000000 in
theorem take_9 (p : Pk) (A : Option Addr) (n c : Nat) (xs : List (List UInt8 × Int)) (w : World) (hG : Glo w) (hs : Subs w A n xs) (hf : Fit p xs) (hty : p.ty = 9) :
    Calls Tryz.prog 79 #[.agg (PkC p A n c)] w fun e w' => ∃ A' c', e = .returned (.agg (TkC (takeR p xs) (takeB p xs) (takeL p) A' (takeN p n) c')) ∧ Below w.heap.size w w' := by
  have hK0 := (((Kp.nil w).new (PkC p A n c) 36).new (TkC false 0 zPk none 0 0) 109).swap
  simp only [World.size_alloc] at hK0
  obtain ⟨l1, l2, l3, l4, l5, l6, l7, l8, l9⟩ := hf.lens
  have hnum : n ≤ 1000000 := by have := hf.num; have := hs.len; omega
  have HR : Hid (takeR p xs = (decide (0 < p.id) && cdB p.codes)) := by show takeR p xs = _; simp [takeR, hty]
  have HB : Hid (takeB p xs = 2 + p.codes.length) := by show takeB p xs = _; simp [takeB, hty]
  have HL : Hid (takeL p = (p.s_id 0).s_codes []) := by show takeL p = _; simp [takeL, hty]
  have HN : Hid (takeN p n = n) := by show takeN p n = _; simp [takeN, hty]
  have HG := Lib.hid hG
  have HS := Lib.hid hs
  clear hs hG hf
  go_enter Tryz.func79, Tryz.ntmps79
  go_wp2_with fail
  refine (takeCodes_any p A n c _ l8).mono ?_
  rintro e w6 ⟨rfl, hb6⟩
  have hP := hK0.more hb6
  clear hb6 hK0
  have p1r := hP.row; have p1f := hP.free; have p1c := hP.cell; have p1l := hP.lt; have p1z := hP.froz
  have p2r := hP.tail.row; have p2f := hP.tail.free; have p2c := hP.tail.cell; have p2l := hP.tail.lt; have p2z := hP.tail.froz
  have hbp := hP.below
  have n1 : ¬ w.heap.size = w6.heap.size := by omega
  have n2 : ¬ w.heap.size + 1 = w6.heap.size := by omega
  go_wp2_with fail
  refine ret_tk 2 _ _ (takeR p xs) _ (takeB p xs) _ (takeL p) A n c rfl rfl (by go_simp; rfl) rfl (by rw [HR.out]) (by rw [HB.out]) (by rw [HL.out]) ⟨A, c, by rw [HN.out], ?_⟩
  repeat (first | exact hbp | refine below_setRow ?_ (by omega) _ | refine Below.alloc ?_ (by simp) _ | refine Below.alloc ?_ (by simp; omega) _)
set_option maxHeartbeats 1000000 in
theorem take_10 (p : Pk) (A : Option Addr) (n c : Nat) (xs : List (List UInt8 × Int)) (w : World) (hG : Glo w) (hs : Subs w A n xs) (hf : Fit p xs) (hty : p.ty = 10) :
    Calls Tryz.prog 79 #[.agg (PkC p A n c)] w fun e w' => ∃ A' c', e = .returned (.agg (TkC (takeR p xs) (takeB p xs) (takeL p) A' (takeN p n) c')) ∧ Below w.heap.size w w' := by
  have hK0 := (((Kp.nil w).new (PkC p A n c) 36).new (TkC false 0 zPk none 0 0) 109).swap
  simp only [World.size_alloc] at hK0
  obtain ⟨l1, l2, l3, l4, l5, l6, l7, l8, l9⟩ := hf.lens
  have hnum : n ≤ 1000000 := by have := hf.num; have := hs.len; omega
  have HR : Hid (takeR p xs = (decide (0 < p.id) && sbR 0 xs)) := by show takeR p xs = _; simp [takeR, hty]
  have HB : Hid (takeB p xs = 2 + sbB 0 xs) := by show takeB p xs = _; simp [takeB, hty]
  have HL : Hid (takeL p = p.s_id 0) := by show takeL p = _; simp [takeL, hty]
  have HN : Hid (takeN p n = 0) := by show takeN p n = _; simp [takeN, hty]
  have HG := Lib.hid hG
  have HS := Lib.hid hs
  clear hs hG hf
  go_enter Tryz.func79, Tryz.ntmps79
  go_wp2_with fail
  refine (takeSubs_any p A n c xs 0 0 _ (HG.out.below (((Below.refl _ _).alloc (Nat.le_refl _) _).alloc (by simp) _)) (HS.out.below (((Below.refl _ _).alloc (Nat.le_refl _) _).alloc (by simp) _)) (by omega) l9 hnum).mono ?_
  rintro e w6 ⟨rfl, hb6⟩
  have hP := hK0.more hb6
  clear hb6 hK0
  have p1r := hP.row; have p1f := hP.free; have p1c := hP.cell; have p1l := hP.lt; have p1z := hP.froz
  have p2r := hP.tail.row; have p2f := hP.tail.free; have p2c := hP.tail.cell; have p2l := hP.tail.lt; have p2z := hP.tail.froz
  have hbp := hP.below
  have n1 : ¬ w.heap.size = w6.heap.size := by omega
  have n2 : ¬ w.heap.size + 1 = w6.heap.size := by omega
  go_wp2_with fail
  refine ret_tk 2 _ _ (takeR p xs) _ (takeB p xs) _ (takeL p) none 0 0 rfl rfl (by go_simp; rfl) rfl (by rw [HR.out]) (by rw [HB.out]) (by rw [HL.out]) ⟨none, 0, by rw [HN.out], ?_⟩
  repeat (first | exact hbp | refine below_setRow ?_ (by omega) _ | refine Below.alloc ?_ (by simp) _ | refine Below.alloc ?_ (by simp; omega) _)
set_option maxHeartbeats 1000000 in
theorem take_12 (p : Pk) (A : Option Addr) (n c : Nat) (xs : List (List UInt8 × Int)) (w : World) (hG : Glo w) (hs : Subs w A n xs) (hf : Fit p xs) (hty : p.ty = 12) :
    Calls Tryz.prog 79 #[.agg (PkC p A n c)] w fun e w' => ∃ A' c', e = .returned (.agg (TkC (takeR p xs) (takeB p xs) (takeL p) A' (takeN p n) c')) ∧ Below w.heap.size w w' := by
  have hK0 := (((Kp.nil w).new (PkC p A n c) 36).new (TkC false 0 zPk none 0 0) 109).swap
  simp only [World.size_alloc] at hK0
  obtain ⟨l1, l2, l3, l4, l5, l6, l7, l8, l9⟩ := hf.lens
  have hnum : n ≤ 1000000 := by have := hf.num; have := hs.len; omega
  have HR : Hid (takeR p xs = true) := by show takeR p xs = _; simp [takeR, hty]
  have HB : Hid (takeB p xs = 0) := by show takeB p xs = _; simp [takeB, hty]
  have HL : Hid (takeL p = p) := by show takeL p = _; simp [takeL, hty]
  have HN : Hid (takeN p n = n) := by show takeN p n = _; simp [takeN, hty]
  have HG := Lib.hid hG
  have HS := Lib.hid hs
  clear hs hG hf
  go_enter Tryz.func79, Tryz.ntmps79
  have hbp : Below w.heap.size w w := Below.refl _ _
  clear hK0
  go_wp2_with (refine wpList_buildE rfl _ _ rfl (TkC true 0 p A n c) (by kernel_rfl) ?_)
  refine ret_tk 2 _ _ (takeR p xs) _ (takeB p xs) _ (takeL p) A n c rfl rfl (by go_simp; rfl) rfl (by rw [HR.out]) (by rw [HB.out]) (by rw [HL.out]) ⟨A, c, by rw [HN.out], ?_⟩
  repeat (first | exact hbp | refine below_setRow ?_ (by omega) _ | refine Below.alloc ?_ (by simp) _ | refine Below.alloc ?_ (by simp; omega) _)
set_option maxHeartbeats 1000000 in
theorem take_13 (p : Pk) (A : Option Addr) (n c : Nat) (xs : List (List UInt8 × Int)) (w : World) (hG : Glo w) (hs : Subs w A n xs) (hf : Fit p xs) (hty : p.ty = 13) :
    Calls Tryz.prog 79 #[.agg (PkC p A n c)] w fun e w' => ∃ A' c', e = .returned (.agg (TkC (takeR p xs) (takeB p xs) (takeL p) A' (takeN p n) c')) ∧ Below w.heap.size w w' := by
  have hK0 := (((Kp.nil w).new (PkC p A n c) 36).new (TkC false 0 zPk none 0 0) 109).swap
  simp only [World.size_alloc] at hK0
  obtain ⟨l1, l2, l3, l4, l5, l6, l7, l8, l9⟩ := hf.lens
  have hnum : n ≤ 1000000 := by have := hf.num; have := hs.len; omega
  have HR : Hid (takeR p xs = true) := by show takeR p xs = _; simp [takeR, hty]
  have HB : Hid (takeB p xs = 0) := by show takeB p xs = _; simp [takeB, hty]
  have HL : Hid (takeL p = p) := by show takeL p = _; simp [takeL, hty]
  have HN : Hid (takeN p n = n) := by show takeN p n = _; simp [takeN, hty]
  have HG := Lib.hid hG
  have HS := Lib.hid hs
  clear hs hG hf
  go_enter Tryz.func79, Tryz.ntmps79
  have hbp : Below w.heap.size w w := Below.refl _ _
  clear hK0
  go_wp2_with (refine wpList_buildE rfl _ _ rfl (TkC true 0 p A n c) (by kernel_rfl) ?_)
  refine ret_tk 2 _ _ (takeR p xs) _ (takeB p xs) _ (takeL p) A n c rfl rfl (by go_simp; rfl) rfl (by rw [HR.out]) (by rw [HB.out]) (by rw [HL.out]) ⟨A, c, by rw [HN.out], ?_⟩
  repeat (first | exact hbp | refine below_setRow ?_ (by omega) _ | refine Below.alloc ?_ (by simp) _ | refine Below.alloc ?_ (by simp; omega) _)
set_option maxHeartbeats 1000000 in
theorem take_14 (p : Pk) (A : Option Addr) (n c : Nat) (xs : List (List UInt8 × Int)) (w : World) (hG : Glo w) (hs : Subs w A n xs) (hf : Fit p xs) (hty : p.ty = 14) :
    Calls Tryz.prog 79 #[.agg (PkC p A n c)] w fun e w' => ∃ A' c', e = .returned (.agg (TkC (takeR p xs) (takeB p xs) (takeL p) A' (takeN p n) c')) ∧ Below w.heap.size w w' := by
  have hK0 := (((Kp.nil w).new (PkC p A n c) 36).new (TkC false 0 zPk none 0 0) 109).swap
  simp only [World.size_alloc] at hK0
  obtain ⟨l1, l2, l3, l4, l5, l6, l7, l8, l9⟩ := hf.lens
  have hnum : n ≤ 1000000 := by have := hf.num; have := hs.len; omega
  have HR : Hid (takeR p xs = true) := by show takeR p xs = _; simp [takeR, hty]
  have HB : Hid (takeB p xs = 0) := by show takeB p xs = _; simp [takeB, hty]
  have HL : Hid (takeL p = p) := by show takeL p = _; simp [takeL, hty]
  have HN : Hid (takeN p n = n) := by show takeN p n = _; simp [takeN, hty]
  have HG := Lib.hid hG
  have HS := Lib.hid hs
  clear hs hG hf
  go_enter Tryz.func79, Tryz.ntmps79
  have hbp : Below w.heap.size w w := Below.refl _ _
  clear hK0
  go_wp2_with (refine wpList_buildE rfl _ _ rfl (TkC true 0 p A n c) (by kernel_rfl) ?_)
  refine ret_tk 2 _ _ (takeR p xs) _ (takeB p xs) _ (takeL p) A n c rfl rfl (by go_simp; rfl) rfl (by rw [HR.out]) (by rw [HB.out]) (by rw [HL.out]) ⟨A, c, by rw [HN.out], ?_⟩
  repeat (first | exact hbp | refine below_setRow ?_ (by omega) _ | refine Below.alloc ?_ (by simp) _ | refine Below.alloc ?_ (by simp; omega) _)
set_option maxHeartbeats 1000000 in
theorem take_x (p : Pk) (A : Option Addr) (n c : Nat) (xs : List (List UInt8 × Int)) (w : World) (hG : Glo w) (hs : Subs w A n xs) (hf : Fit p xs) (hty : (p.ty == 1) = false ∧ (p.ty == 2) = false ∧ (p.ty == 3) = false ∧ (p.ty == 4) = false ∧ (p.ty == 5) = false ∧ (p.ty == 6) = false ∧ (p.ty == 7) = false ∧ (p.ty == 8) = false ∧ (p.ty == 9) = false ∧ (p.ty == 10) = false ∧ (p.ty == 11) = false ∧ (p.ty == 12) = false ∧ (p.ty == 13) = false ∧ (p.ty == 14) = false) :
    Calls Tryz.prog 79 #[.agg (PkC p A n c)] w fun e w' => ∃ A' c', e = .returned (.agg (TkC (takeR p xs) (takeB p xs) (takeL p) A' (takeN p n) c')) ∧ Below w.heap.size w w' := by
  have hK0 := (((Kp.nil w).new (PkC p A n c) 36).new (TkC false 0 zPk none 0 0) 109).swap
  simp only [World.size_alloc] at hK0
  obtain ⟨l1, l2, l3, l4, l5, l6, l7, l8, l9⟩ := hf.lens
  have hnum : n ≤ 1000000 := by have := hf.num; have := hs.len; omega
  have HR : Hid (takeR p xs = false) := by show takeR p xs = _; obtain ⟨h1, h2, h3, h4, h5, h6, h7, h8, h9, h10, h11, h12, h13, h14⟩ := hty; simp at h1 h2 h3 h4 h5 h6 h7 h8 h9 h10 h11 h12 h13 h14; simp [takeR, *]
  have HB : Hid (takeB p xs = 0) := by show takeB p xs = _; obtain ⟨h1, h2, h3, h4, h5, h6, h7, h8, h9, h10, h11, h12, h13, h14⟩ := hty; simp at h1 h2 h3 h4 h5 h6 h7 h8 h9 h10 h11 h12 h13 h14; simp [takeB, *]
  have HL : Hid (takeL p = p) := by show takeL p = _; obtain ⟨h1, h2, h3, h4, h5, h6, h7, h8, h9, h10, h11, h12, h13, h14⟩ := hty; simp at h1 h2 h3 h4 h5 h6 h7 h8 h9 h10 h11 h12 h13 h14; simp [takeL, *]
  have HN : Hid (takeN p n = n) := by show takeN p n = _; obtain ⟨h1, h2, h3, h4, h5, h6, h7, h8, h9, h10, h11, h12, h13, h14⟩ := hty; simp at h1 h2 h3 h4 h5 h6 h7 h8 h9 h10 h11 h12 h13 h14; simp [takeN, *]
  have HG := Lib.hid hG
  have HS := Lib.hid hs
  clear hs hG hf
  obtain ⟨h1, h2, h3, h4, h5, h6, h7, h8, h9, h10, h11, h12, h13, h14⟩ := hty
  go_enter Tryz.func79, Tryz.ntmps79
  have hbp : Below w.heap.size w w := Below.refl _ _
  clear hK0
  go_wp2_with (refine wpList_buildE rfl _ _ rfl (TkC false 0 p A n c) (by kernel_rfl) ?_)
  refine ret_tk 2 _ _ (takeR p xs) _ (takeB p xs) _ (takeL p) A n c rfl rfl (by go_simp; rfl) rfl (by rw [HR.out]) (by rw [HB.out]) (by rw [HL.out]) ⟨A, c, by rw [HN.out], ?_⟩
  repeat (first | exact hbp | refine below_setRow ?_ (by omega) _ | refine Below.alloc ?_ (by simp) _ | refine Below.alloc ?_ (by simp; omega) _)
theorem take_any (p : Pk) (A : Option Addr) (n c : Nat) (xs : List (List UInt8 × Int)) (w : World) (hG : Glo w) (hs : Subs w A n xs) (hf : Fit p xs) :
    Calls Tryz.prog 79 #[.agg (PkC p A n c)] w fun e w' => ∃ A' c', e = .returned (.agg (TkC (takeR p xs) (takeB p xs) (takeL p) A' (takeN p n) c')) ∧ Below w.heap.size w w' := by
  by_cases h1 : p.ty = 1
  · exact take_1 p A n c xs w hG hs hf h1
  by_cases h2 : p.ty = 2
  · exact take_2 p A n c xs w hG hs hf h2
  by_cases h3 : p.ty = 3
  · exact take_3 p A n c xs w hG hs hf h3
  by_cases h4 : p.ty = 4
  · exact take_4 p A n c xs w hG hs hf h4
  by_cases h5 : p.ty = 5
  · exact take_5 p A n c xs w hG hs hf h5
  by_cases h6 : p.ty = 6
  · exact take_6 p A n c xs w hG hs hf h6
  by_cases h7 : p.ty = 7
  · exact take_7 p A n c xs w hG hs hf h7
  by_cases h8 : p.ty = 8
  · exact take_8 p A n c xs w hG hs hf h8
  by_cases h9 : p.ty = 9
  · exact take_9 p A n c xs w hG hs hf h9
  by_cases h10 : p.ty = 10
  · exact take_10 p A n c xs w hG hs hf h10
  by_cases h11 : p.ty = 11
  · exact take_11 p A n c xs w hG hs hf h11
  by_cases h12 : p.ty = 12
  · exact take_12 p A n c xs w hG hs hf h12
  by_cases h13 : p.ty = 13
  · exact take_13 p A n c xs w hG hs hf h13
  by_cases h14 : p.ty = 14
  · exact take_14 p A n c xs w hG hs hf h14
  exact take_x p A n c xs w hG hs hf (by simp [*])
end Go.Proofs.YtnaedcennichlaaGreatDoor
