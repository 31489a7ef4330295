/-
  The document's own encodings: the first byte, a packet, packets. (By tools/genwre.py.)
-/
import Derived.Test.YtnaedcennichlaaGreatDoorWrRest
set_option linter.unusedSimpArgs false
set_option linter.unusedVariables false
namespace Go.Proofs.YtnaedcennichlaaGreatDoor
open Go.RowKit
set_option maxRecDepth 100000
section
variable {w : World}
theorem refFirst_1 (p : Pk) (A : Option Addr) (n c : Nat) (e : p.ty = 1) :
    Calls Tryz.prog 27 #[.agg (PkC p A n c)] w fun e w' => e = .returned (.int .i64 (p.ty * 16 + flagsN p)) ∧ Below w.heap.size w w' := by
  have HF : Hid (p.ty * 16 + flagsN p = 16) := by show _ = _; unfold flagsN; simp [e]
  have hK := ((Kp.nil w).new (PkC p A n c) 36).new #[.int .i64 0, .int .i64 0, .int .i64 0, .int .i64 0, .int .i64 0, .int .i64 0, .int .i64 2, .int .i64 0, .int .i64 2, .int .i64 0, .int .i64 2, .int .i64 0, .int .i64 0, .int .i64 0, .int .i64 0] 3
  go_enter Tryz.func27, Tryz.ntmps27
  go_wp2_with fail
  go_ret
  exact ⟨by rw [HF.out]; rfl, hK.below⟩
theorem refFirst_2 (p : Pk) (A : Option Addr) (n c : Nat) (e : p.ty = 2) :
    Calls Tryz.prog 27 #[.agg (PkC p A n c)] w fun e w' => e = .returned (.int .i64 (p.ty * 16 + flagsN p)) ∧ Below w.heap.size w w' := by
  have HF : Hid (p.ty * 16 + flagsN p = 32) := by show _ = _; unfold flagsN; simp [e]
  have hK := ((Kp.nil w).new (PkC p A n c) 36).new #[.int .i64 0, .int .i64 0, .int .i64 0, .int .i64 0, .int .i64 0, .int .i64 0, .int .i64 2, .int .i64 0, .int .i64 2, .int .i64 0, .int .i64 2, .int .i64 0, .int .i64 0, .int .i64 0, .int .i64 0] 3
  go_enter Tryz.func27, Tryz.ntmps27
  go_wp2_with fail
  go_ret
  exact ⟨by rw [HF.out]; rfl, hK.below⟩
theorem refFirst_4 (p : Pk) (A : Option Addr) (n c : Nat) (e : p.ty = 4) :
    Calls Tryz.prog 27 #[.agg (PkC p A n c)] w fun e w' => e = .returned (.int .i64 (p.ty * 16 + flagsN p)) ∧ Below w.heap.size w w' := by
  have HF : Hid (p.ty * 16 + flagsN p = 64) := by show _ = _; unfold flagsN; simp [e]
  have hK := ((Kp.nil w).new (PkC p A n c) 36).new #[.int .i64 0, .int .i64 0, .int .i64 0, .int .i64 0, .int .i64 0, .int .i64 0, .int .i64 2, .int .i64 0, .int .i64 2, .int .i64 0, .int .i64 2, .int .i64 0, .int .i64 0, .int .i64 0, .int .i64 0] 3
  go_enter Tryz.func27, Tryz.ntmps27
  go_wp2_with fail
  go_ret
  exact ⟨by rw [HF.out]; rfl, hK.below⟩
theorem refFirst_5 (p : Pk) (A : Option Addr) (n c : Nat) (e : p.ty = 5) :
    Calls Tryz.prog 27 #[.agg (PkC p A n c)] w fun e w' => e = .returned (.int .i64 (p.ty * 16 + flagsN p)) ∧ Below w.heap.size w w' := by
  have HF : Hid (p.ty * 16 + flagsN p = 80) := by show _ = _; unfold flagsN; simp [e]
  have hK := ((Kp.nil w).new (PkC p A n c) 36).new #[.int .i64 0, .int .i64 0, .int .i64 0, .int .i64 0, .int .i64 0, .int .i64 0, .int .i64 2, .int .i64 0, .int .i64 2, .int .i64 0, .int .i64 2, .int .i64 0, .int .i64 0, .int .i64 0, .int .i64 0] 3
  go_enter Tryz.func27, Tryz.ntmps27
  go_wp2_with fail
  go_ret
  exact ⟨by rw [HF.out]; rfl, hK.below⟩
theorem refFirst_6 (p : Pk) (A : Option Addr) (n c : Nat) (e : p.ty = 6) :
    Calls Tryz.prog 27 #[.agg (PkC p A n c)] w fun e w' => e = .returned (.int .i64 (p.ty * 16 + flagsN p)) ∧ Below w.heap.size w w' := by
  have HF : Hid (p.ty * 16 + flagsN p = 98) := by show _ = _; unfold flagsN; simp [e]
  have hK := ((Kp.nil w).new (PkC p A n c) 36).new #[.int .i64 0, .int .i64 0, .int .i64 0, .int .i64 0, .int .i64 0, .int .i64 0, .int .i64 2, .int .i64 0, .int .i64 2, .int .i64 0, .int .i64 2, .int .i64 0, .int .i64 0, .int .i64 0, .int .i64 0] 3
  go_enter Tryz.func27, Tryz.ntmps27
  go_wp2_with fail
  go_ret
  exact ⟨by rw [HF.out]; rfl, hK.below⟩
theorem refFirst_7 (p : Pk) (A : Option Addr) (n c : Nat) (e : p.ty = 7) :
    Calls Tryz.prog 27 #[.agg (PkC p A n c)] w fun e w' => e = .returned (.int .i64 (p.ty * 16 + flagsN p)) ∧ Below w.heap.size w w' := by
  have HF : Hid (p.ty * 16 + flagsN p = 112) := by show _ = _; unfold flagsN; simp [e]
  have hK := ((Kp.nil w).new (PkC p A n c) 36).new #[.int .i64 0, .int .i64 0, .int .i64 0, .int .i64 0, .int .i64 0, .int .i64 0, .int .i64 2, .int .i64 0, .int .i64 2, .int .i64 0, .int .i64 2, .int .i64 0, .int .i64 0, .int .i64 0, .int .i64 0] 3
  go_enter Tryz.func27, Tryz.ntmps27
  go_wp2_with fail
  go_ret
  exact ⟨by rw [HF.out]; rfl, hK.below⟩
theorem refFirst_8 (p : Pk) (A : Option Addr) (n c : Nat) (e : p.ty = 8) :
    Calls Tryz.prog 27 #[.agg (PkC p A n c)] w fun e w' => e = .returned (.int .i64 (p.ty * 16 + flagsN p)) ∧ Below w.heap.size w w' := by
  have HF : Hid (p.ty * 16 + flagsN p = 130) := by show _ = _; unfold flagsN; simp [e]
  have hK := ((Kp.nil w).new (PkC p A n c) 36).new #[.int .i64 0, .int .i64 0, .int .i64 0, .int .i64 0, .int .i64 0, .int .i64 0, .int .i64 2, .int .i64 0, .int .i64 2, .int .i64 0, .int .i64 2, .int .i64 0, .int .i64 0, .int .i64 0, .int .i64 0] 3
  go_enter Tryz.func27, Tryz.ntmps27
  go_wp2_with fail
  go_ret
  exact ⟨by rw [HF.out]; rfl, hK.below⟩
theorem refFirst_9 (p : Pk) (A : Option Addr) (n c : Nat) (e : p.ty = 9) :
    Calls Tryz.prog 27 #[.agg (PkC p A n c)] w fun e w' => e = .returned (.int .i64 (p.ty * 16 + flagsN p)) ∧ Below w.heap.size w w' := by
  have HF : Hid (p.ty * 16 + flagsN p = 144) := by show _ = _; unfold flagsN; simp [e]
  have hK := ((Kp.nil w).new (PkC p A n c) 36).new #[.int .i64 0, .int .i64 0, .int .i64 0, .int .i64 0, .int .i64 0, .int .i64 0, .int .i64 2, .int .i64 0, .int .i64 2, .int .i64 0, .int .i64 2, .int .i64 0, .int .i64 0, .int .i64 0, .int .i64 0] 3
  go_enter Tryz.func27, Tryz.ntmps27
  go_wp2_with fail
  go_ret
  exact ⟨by rw [HF.out]; rfl, hK.below⟩
theorem refFirst_10 (p : Pk) (A : Option Addr) (n c : Nat) (e : p.ty = 10) :
    Calls Tryz.prog 27 #[.agg (PkC p A n c)] w fun e w' => e = .returned (.int .i64 (p.ty * 16 + flagsN p)) ∧ Below w.heap.size w w' := by
  have HF : Hid (p.ty * 16 + flagsN p = 162) := by show _ = _; unfold flagsN; simp [e]
  have hK := ((Kp.nil w).new (PkC p A n c) 36).new #[.int .i64 0, .int .i64 0, .int .i64 0, .int .i64 0, .int .i64 0, .int .i64 0, .int .i64 2, .int .i64 0, .int .i64 2, .int .i64 0, .int .i64 2, .int .i64 0, .int .i64 0, .int .i64 0, .int .i64 0] 3
  go_enter Tryz.func27, Tryz.ntmps27
  go_wp2_with fail
  go_ret
  exact ⟨by rw [HF.out]; rfl, hK.below⟩
theorem refFirst_11 (p : Pk) (A : Option Addr) (n c : Nat) (e : p.ty = 11) :
    Calls Tryz.prog 27 #[.agg (PkC p A n c)] w fun e w' => e = .returned (.int .i64 (p.ty * 16 + flagsN p)) ∧ Below w.heap.size w w' := by
  have HF : Hid (p.ty * 16 + flagsN p = 176) := by show _ = _; unfold flagsN; simp [e]
  have hK := ((Kp.nil w).new (PkC p A n c) 36).new #[.int .i64 0, .int .i64 0, .int .i64 0, .int .i64 0, .int .i64 0, .int .i64 0, .int .i64 2, .int .i64 0, .int .i64 2, .int .i64 0, .int .i64 2, .int .i64 0, .int .i64 0, .int .i64 0, .int .i64 0] 3
  go_enter Tryz.func27, Tryz.ntmps27
  go_wp2_with fail
  go_ret
  exact ⟨by rw [HF.out]; rfl, hK.below⟩
theorem refFirst_12 (p : Pk) (A : Option Addr) (n c : Nat) (e : p.ty = 12) :
    Calls Tryz.prog 27 #[.agg (PkC p A n c)] w fun e w' => e = .returned (.int .i64 (p.ty * 16 + flagsN p)) ∧ Below w.heap.size w w' := by
  have HF : Hid (p.ty * 16 + flagsN p = 192) := by show _ = _; unfold flagsN; simp [e]
  have hK := ((Kp.nil w).new (PkC p A n c) 36).new #[.int .i64 0, .int .i64 0, .int .i64 0, .int .i64 0, .int .i64 0, .int .i64 0, .int .i64 2, .int .i64 0, .int .i64 2, .int .i64 0, .int .i64 2, .int .i64 0, .int .i64 0, .int .i64 0, .int .i64 0] 3
  go_enter Tryz.func27, Tryz.ntmps27
  go_wp2_with fail
  go_ret
  exact ⟨by rw [HF.out]; rfl, hK.below⟩
theorem refFirst_13 (p : Pk) (A : Option Addr) (n c : Nat) (e : p.ty = 13) :
    Calls Tryz.prog 27 #[.agg (PkC p A n c)] w fun e w' => e = .returned (.int .i64 (p.ty * 16 + flagsN p)) ∧ Below w.heap.size w w' := by
  have HF : Hid (p.ty * 16 + flagsN p = 208) := by show _ = _; unfold flagsN; simp [e]
  have hK := ((Kp.nil w).new (PkC p A n c) 36).new #[.int .i64 0, .int .i64 0, .int .i64 0, .int .i64 0, .int .i64 0, .int .i64 0, .int .i64 2, .int .i64 0, .int .i64 2, .int .i64 0, .int .i64 2, .int .i64 0, .int .i64 0, .int .i64 0, .int .i64 0] 3
  go_enter Tryz.func27, Tryz.ntmps27
  go_wp2_with fail
  go_ret
  exact ⟨by rw [HF.out]; rfl, hK.below⟩
theorem refFirst_14 (p : Pk) (A : Option Addr) (n c : Nat) (e : p.ty = 14) :
    Calls Tryz.prog 27 #[.agg (PkC p A n c)] w fun e w' => e = .returned (.int .i64 (p.ty * 16 + flagsN p)) ∧ Below w.heap.size w w' := by
  have HF : Hid (p.ty * 16 + flagsN p = 224) := by show _ = _; unfold flagsN; simp [e]
  have hK := ((Kp.nil w).new (PkC p A n c) 36).new #[.int .i64 0, .int .i64 0, .int .i64 0, .int .i64 0, .int .i64 0, .int .i64 0, .int .i64 2, .int .i64 0, .int .i64 2, .int .i64 0, .int .i64 2, .int .i64 0, .int .i64 0, .int .i64 0, .int .i64 0] 3
  go_enter Tryz.func27, Tryz.ntmps27
  go_wp2_with fail
  go_ret
  exact ⟨by rw [HF.out]; rfl, hK.below⟩
theorem refFirst_3 (p : Pk) (A : Option Addr) (n c : Nat) (e : p.ty = 3) (q0 : 0 ≤ p.qos) (q1 : p.qos ≤ 2) :
    Calls Tryz.prog 27 #[.agg (PkC p A n c)] w fun e w' => e = .returned (.int .i64 (p.ty * 16 + flagsN p)) ∧ Below w.heap.size w w' := by
  have b1 := yes_bd p.dup 8 (by omega)
  have b2 := yes_bd p.ret 1 (by omega)
  have HF : Hid (p.ty * 16 + flagsN p = 48 + (yesI p.dup 8 + 2 * p.qos + yesI p.ret 1)) := by show _ = _; unfold flagsN; rw [if_pos e, e]; omega
  have hK := ((Kp.nil w).new (PkC p A n c) 36).new #[.int .i64 0, .int .i64 0, .int .i64 0, .int .i64 0, .int .i64 0, .int .i64 0, .int .i64 2, .int .i64 0, .int .i64 2, .int .i64 0, .int .i64 2, .int .i64 0, .int .i64 0, .int .i64 0, .int .i64 0] 3
  have w1 : IntKind.i64.wrap p.qos = p.qos := IntWalk.i64_in _ (by omega)
  have w2 : IntKind.i64.wrap (2 * p.qos) = 2 * p.qos := IntWalk.i64_in _ (by omega)
  have w3 : IntKind.i64.wrap (yesI p.dup 8 + 2 * p.qos) = yesI p.dup 8 + 2 * p.qos := IntWalk.i64_in _ (by omega)
  have w4 : IntKind.i64.wrap (yesI p.dup 8 + 2 * p.qos + yesI p.ret 1) = yesI p.dup 8 + 2 * p.qos + yesI p.ret 1 := IntWalk.i64_in _ (by omega)
  have w5 : IntKind.i64.wrap (48 + (yesI p.dup 8 + 2 * p.qos + yesI p.ret 1)) = 48 + (yesI p.dup 8 + 2 * p.qos + yesI p.ret 1) := IntWalk.i64_in _ (by omega)
  clear b1 b2 q0 q1
  go_enter Tryz.func27, Tryz.ntmps27
  go_upto_region 3 with fail
  go_quiet ((go_at_call 36; first | exact quiet_left (refYes_any _ _ _) | exact quiet_more (refYes_any _ _ _)))
  go_wp2_with fail
  go_ret
  exact ⟨by rw [HF.out]; rfl, below_drewN hK.below _⟩
theorem refFirst_any (p : Pk) (A : Option Addr) (n c : Nat) (xs : List (List UInt8 × Int)) (hf : Fit p xs) (ho : Ok p xs) :
    Calls Tryz.prog 27 #[.agg (PkC p A n c)] w fun e w' => e = .returned (.int .i64 (p.ty * 16 + flagsN p)) ∧ Below w.heap.size w w' := by
  rcases ho.ty with e | e | e | e | e | e | e | e | e | e | e | e | e | e
  · exact refFirst_1 p A n c e
  · exact refFirst_2 p A n c e
  · exact refFirst_3 p A n c e hf.qos.1 (pub_qos ho e).1
  · exact refFirst_4 p A n c e
  · exact refFirst_5 p A n c e
  · exact refFirst_6 p A n c e
  · exact refFirst_7 p A n c e
  · exact refFirst_8 p A n c e
  · exact refFirst_9 p A n c e
  · exact refFirst_10 p A n c e
  · exact refFirst_11 p A n c e
  · exact refFirst_12 p A n c e
  · exact refFirst_13 p A n c e
  · exact refFirst_14 p A n c e
theorem refFirst_eq (p : Pk) (A : Option Addr) (n c : Nat) (xs : List (List UInt8 × Int)) (v : Int) (hf : Fit p xs) (ho : Ok p xs) (h : p.ty * 16 + flagsN p = v) :
    Calls Tryz.prog 27 #[.agg (PkC p A n c)] w fun e w' => e = .returned (.int .i64 v) ∧ Below w.heap.size w w' := h ▸ refFirst_any p A n c xs hf ho
theorem refRestW_eq (p : Pk) (A : Option Addr) (n c : Nat) (xs : List (List UInt8 × Int)) (B : List UInt8) (hs : Subs w A n xs) (hf : Fit p xs) (ho : Ok p xs) (h : bodyL p xs = B) :
    Calls Tryz.prog 30 #[.agg (PkC p A n c)] w fun e w' => e = .returned (.string ⟨B.toArray⟩) ∧ Below w.heap.size w w' := h ▸ refRestW_any p A n c xs hs hf ho
end
end Go.Proofs.YtnaedcennichlaaGreatDoor
