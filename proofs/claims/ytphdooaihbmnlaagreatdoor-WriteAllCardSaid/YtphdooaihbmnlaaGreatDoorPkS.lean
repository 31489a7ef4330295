/-
  The document's own Same: packets whose scalars differ.
-/
import Derived.Test.YtphdooaihbmnlaaGreatDoorPkI
set_option linter.unusedSimpArgs false
set_option linter.unusedVariables false
namespace Go.Proofs.YtphdooaihbmnlaaGreatDoor
open Go.RowKit
theorem ne_b {x y : Int} (h : ¬ x = y) : (x != y) = true := by simpa using h
theorem ne_s {x y : List UInt8} (h : ¬ x = y) : (x != y) = true := by simpa using h
theorem ne_t {x y : Bool} (h : ¬ x = y) : (x != y) = true := by simpa using h
set_option maxRecDepth 100000 in
set_option maxHeartbeats 16000000 in
theorem refSame_ne_ty (p q : Pk) (A B : Option Addr) (n c m d : Nat) (w : World)  (h0 : ¬ p.ty = q.ty) :
    Calls Tryz.prog 27 #[.agg (PkC p A n c), .agg (PkC q B m d)] w fun e w' => e = .returned (.bool false) ∧ Below w.heap.size w w' := by
  have hK0 := (((Kp.nil w).new (PkC p A n c) 27).new (PkC q B m d) 27).swap
  simp only [World.size_alloc] at hK0
  have h := ne_b h0
  go_enter Tryz.func27, Tryz.ntmps27
  go_wp2_with fail
  go_ret
  exact ⟨rfl, hK0.below⟩
set_option maxRecDepth 100000 in
set_option maxHeartbeats 16000000 in
theorem refSame_ne_dup (p q : Pk) (A B : Option Addr) (n c m d : Nat) (w : World) (e0 : p.ty = q.ty) (h0 : ¬ p.dup = q.dup) :
    Calls Tryz.prog 27 #[.agg (PkC p A n c), .agg (PkC q B m d)] w fun e w' => e = .returned (.bool false) ∧ Below w.heap.size w w' := by
  have hK0 := (((Kp.nil w).new (PkC p A n c) 27).new (PkC q B m d) 27).swap
  simp only [World.size_alloc] at hK0
  have h := ne_t h0
  go_enter Tryz.func27, Tryz.ntmps27
  go_wp2_with fail
  go_ret
  exact ⟨rfl, hK0.below⟩
set_option maxRecDepth 100000 in
set_option maxHeartbeats 16000000 in
theorem refSame_ne_qos (p q : Pk) (A B : Option Addr) (n c m d : Nat) (w : World) (e0 : p.ty = q.ty) (e1 : p.dup = q.dup) (h0 : ¬ p.qos = q.qos) :
    Calls Tryz.prog 27 #[.agg (PkC p A n c), .agg (PkC q B m d)] w fun e w' => e = .returned (.bool false) ∧ Below w.heap.size w w' := by
  have hK0 := (((Kp.nil w).new (PkC p A n c) 27).new (PkC q B m d) 27).swap
  simp only [World.size_alloc] at hK0
  have h := ne_b h0
  go_enter Tryz.func27, Tryz.ntmps27
  go_wp2_with fail
  go_ret
  exact ⟨rfl, hK0.below⟩
set_option maxRecDepth 100000 in
set_option maxHeartbeats 16000000 in
theorem refSame_ne_ret (p q : Pk) (A B : Option Addr) (n c m d : Nat) (w : World) (e0 : p.ty = q.ty) (e1 : p.dup = q.dup) (e2 : p.qos = q.qos) (h0 : ¬ p.ret = q.ret) :
    Calls Tryz.prog 27 #[.agg (PkC p A n c), .agg (PkC q B m d)] w fun e w' => e = .returned (.bool false) ∧ Below w.heap.size w w' := by
  have hK0 := (((Kp.nil w).new (PkC p A n c) 27).new (PkC q B m d) 27).swap
  simp only [World.size_alloc] at hK0
  have h := ne_t h0
  go_enter Tryz.func27, Tryz.ntmps27
  go_wp2_with fail
  go_ret
  exact ⟨rfl, hK0.below⟩
set_option maxRecDepth 100000 in
set_option maxHeartbeats 16000000 in
theorem refSame_ne_id (p q : Pk) (A B : Option Addr) (n c m d : Nat) (w : World) (e0 : p.ty = q.ty) (e1 : p.dup = q.dup) (e2 : p.qos = q.qos) (e3 : p.ret = q.ret) (h0 : ¬ p.id = q.id) :
    Calls Tryz.prog 27 #[.agg (PkC p A n c), .agg (PkC q B m d)] w fun e w' => e = .returned (.bool false) ∧ Below w.heap.size w w' := by
  have hK0 := (((Kp.nil w).new (PkC p A n c) 27).new (PkC q B m d) 27).swap
  simp only [World.size_alloc] at hK0
  have h := ne_b h0
  go_enter Tryz.func27, Tryz.ntmps27
  go_wp2_with fail
  go_ret
  exact ⟨rfl, hK0.below⟩
set_option maxRecDepth 100000 in
set_option maxHeartbeats 16000000 in
theorem refSame_ne_topic (p q : Pk) (A B : Option Addr) (n c m d : Nat) (w : World) (e0 : p.ty = q.ty) (e1 : p.dup = q.dup) (e2 : p.qos = q.qos) (e3 : p.ret = q.ret) (e4 : p.id = q.id) (h0 : ¬ p.topic = q.topic) :
    Calls Tryz.prog 27 #[.agg (PkC p A n c), .agg (PkC q B m d)] w fun e w' => e = .returned (.bool false) ∧ Below w.heap.size w w' := by
  have hK0 := (((Kp.nil w).new (PkC p A n c) 27).new (PkC q B m d) 27).swap
  simp only [World.size_alloc] at hK0
  have h := ne_s h0
  go_enter Tryz.func27, Tryz.ntmps27
  go_wp2_with fail
  go_ret
  exact ⟨rfl, hK0.below⟩
set_option maxRecDepth 100000 in
set_option maxHeartbeats 16000000 in
theorem refSame_ne_load (p q : Pk) (A B : Option Addr) (n c m d : Nat) (w : World) (e0 : p.ty = q.ty) (e1 : p.dup = q.dup) (e2 : p.qos = q.qos) (e3 : p.ret = q.ret) (e4 : p.id = q.id) (e5 : p.topic = q.topic) (h0 : ¬ p.load = q.load) :
    Calls Tryz.prog 27 #[.agg (PkC p A n c), .agg (PkC q B m d)] w fun e w' => e = .returned (.bool false) ∧ Below w.heap.size w w' := by
  have hK0 := (((Kp.nil w).new (PkC p A n c) 27).new (PkC q B m d) 27).swap
  simp only [World.size_alloc] at hK0
  have h := ne_s h0
  go_enter Tryz.func27, Tryz.ntmps27
  go_wp2_with fail
  go_ret
  exact ⟨rfl, hK0.below⟩
set_option maxRecDepth 100000 in
set_option maxHeartbeats 16000000 in
theorem refSame_ne_level (p q : Pk) (A B : Option Addr) (n c m d : Nat) (w : World) (e0 : p.ty = q.ty) (e1 : p.dup = q.dup) (e2 : p.qos = q.qos) (e3 : p.ret = q.ret) (e4 : p.id = q.id) (e5 : p.topic = q.topic) (e6 : p.load = q.load) (h0 : ¬ p.level = q.level) :
    Calls Tryz.prog 27 #[.agg (PkC p A n c), .agg (PkC q B m d)] w fun e w' => e = .returned (.bool false) ∧ Below w.heap.size w w' := by
  have hK0 := (((Kp.nil w).new (PkC p A n c) 27).new (PkC q B m d) 27).swap
  simp only [World.size_alloc] at hK0
  have h := ne_b h0
  go_enter Tryz.func27, Tryz.ntmps27
  go_wp2_with fail
  go_ret
  exact ⟨rfl, hK0.below⟩
set_option maxRecDepth 100000 in
set_option maxHeartbeats 16000000 in
theorem refSame_ne_clean (p q : Pk) (A B : Option Addr) (n c m d : Nat) (w : World) (e0 : p.ty = q.ty) (e1 : p.dup = q.dup) (e2 : p.qos = q.qos) (e3 : p.ret = q.ret) (e4 : p.id = q.id) (e5 : p.topic = q.topic) (e6 : p.load = q.load) (e7 : p.level = q.level) (h0 : ¬ p.clean = q.clean) :
    Calls Tryz.prog 27 #[.agg (PkC p A n c), .agg (PkC q B m d)] w fun e w' => e = .returned (.bool false) ∧ Below w.heap.size w w' := by
  have hK0 := (((Kp.nil w).new (PkC p A n c) 27).new (PkC q B m d) 27).swap
  simp only [World.size_alloc] at hK0
  have h := ne_t h0
  go_enter Tryz.func27, Tryz.ntmps27
  go_wp2_with fail
  go_ret
  exact ⟨rfl, hK0.below⟩
set_option maxRecDepth 100000 in
set_option maxHeartbeats 16000000 in
theorem refSame_ne_keep (p q : Pk) (A B : Option Addr) (n c m d : Nat) (w : World) (e0 : p.ty = q.ty) (e1 : p.dup = q.dup) (e2 : p.qos = q.qos) (e3 : p.ret = q.ret) (e4 : p.id = q.id) (e5 : p.topic = q.topic) (e6 : p.load = q.load) (e7 : p.level = q.level) (e8 : p.clean = q.clean) (h0 : ¬ p.keep = q.keep) :
    Calls Tryz.prog 27 #[.agg (PkC p A n c), .agg (PkC q B m d)] w fun e w' => e = .returned (.bool false) ∧ Below w.heap.size w w' := by
  have hK0 := (((Kp.nil w).new (PkC p A n c) 27).new (PkC q B m d) 27).swap
  simp only [World.size_alloc] at hK0
  have h := ne_b h0
  go_enter Tryz.func27, Tryz.ntmps27
  go_wp2_with fail
  go_ret
  exact ⟨rfl, hK0.below⟩
end Go.Proofs.YtphdooaihbmnlaaGreatDoor
