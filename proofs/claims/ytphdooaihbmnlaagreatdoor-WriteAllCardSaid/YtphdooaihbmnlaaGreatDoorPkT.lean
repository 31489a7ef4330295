/-
  The document's own Same: packets whose scalars differ.
-/
import Derived.Test.YtphdooaihbmnlaaGreatDoorPkI
set_option linter.unusedSimpArgs false
set_option linter.unusedVariables false
namespace Go.Proofs.YtphdooaihbmnlaaGreatDoor
open Go.RowKit
theorem ne2_b {x y : Int} (h : ¬ x = y) : (x != y) = true := by simpa using h
theorem ne2_s {x y : List UInt8} (h : ¬ x = y) : (x != y) = true := by simpa using h
theorem ne2_t {x y : Bool} (h : ¬ x = y) : (x != y) = true := by simpa using h
set_option maxRecDepth 100000 in
set_option maxHeartbeats 16000000 in
theorem refSame_ne_hasWill (p q : Pk) (A B : Option Addr) (n c m d : Nat) (w : World) (e0 : p.ty = q.ty) (e1 : p.dup = q.dup) (e2 : p.qos = q.qos) (e3 : p.ret = q.ret) (e4 : p.id = q.id) (e5 : p.topic = q.topic) (e6 : p.load = q.load) (e7 : p.level = q.level) (e8 : p.clean = q.clean) (e9 : p.keep = q.keep) (e10 : p.client = q.client) (h0 : ¬ p.hasWill = q.hasWill) :
    Calls Tryz.prog 27 #[.agg (PkC p A n c), .agg (PkC q B m d)] w fun e w' => e = .returned (.bool false) ∧ Below w.heap.size w w' := by
  have hK0 := (((Kp.nil w).new (PkC p A n c) 27).new (PkC q B m d) 27).swap
  simp only [World.size_alloc] at hK0
  have h := ne2_t h0
  go_enter Tryz.func27, Tryz.ntmps27
  go_wp2_with fail
  go_ret
  exact ⟨rfl, hK0.below⟩
set_option maxRecDepth 100000 in
set_option maxHeartbeats 16000000 in
theorem refSame_ne_WILL (p q : Pk) (A B : Option Addr) (n c m d : Nat) (w : World) (e0 : p.ty = q.ty) (e1 : p.dup = q.dup) (e2 : p.qos = q.qos) (e3 : p.ret = q.ret) (e4 : p.id = q.id) (e5 : p.topic = q.topic) (e6 : p.load = q.load) (e7 : p.level = q.level) (e8 : p.clean = q.clean) (e9 : p.keep = q.keep) (e10 : p.client = q.client) (e11 : p.hasWill = q.hasWill) (h0 : eqMs p.wt p.wl p.wq p.wr q.wt q.wl q.wq q.wr = false) :
    Calls Tryz.prog 27 #[.agg (PkC p A n c), .agg (PkC q B m d)] w fun e w' => e = .returned (.bool false) ∧ Below w.heap.size w w' := by
  have hK0 := (((Kp.nil w).new (PkC p A n c) 27).new (PkC q B m d) 27).swap
  simp only [World.size_alloc] at hK0
  have h := h0
  go_enter Tryz.func27, Tryz.ntmps27
  go_wp2_with fail
  go_ret
  exact ⟨rfl, hK0.below⟩
set_option maxRecDepth 100000 in
set_option maxHeartbeats 16000000 in
theorem refSame_ne_hasUser (p q : Pk) (A B : Option Addr) (n c m d : Nat) (w : World) (e0 : p.ty = q.ty) (e1 : p.dup = q.dup) (e2 : p.qos = q.qos) (e3 : p.ret = q.ret) (e4 : p.id = q.id) (e5 : p.topic = q.topic) (e6 : p.load = q.load) (e7 : p.level = q.level) (e8 : p.clean = q.clean) (e9 : p.keep = q.keep) (e10 : p.client = q.client) (e11 : p.hasWill = q.hasWill) (e12 : eqMs p.wt p.wl p.wq p.wr q.wt q.wl q.wq q.wr = true) (h0 : ¬ p.hasUser = q.hasUser) :
    Calls Tryz.prog 27 #[.agg (PkC p A n c), .agg (PkC q B m d)] w fun e w' => e = .returned (.bool false) ∧ Below w.heap.size w w' := by
  have hK0 := (((Kp.nil w).new (PkC p A n c) 27).new (PkC q B m d) 27).swap
  simp only [World.size_alloc] at hK0
  have h := ne2_t h0
  go_enter Tryz.func27, Tryz.ntmps27
  go_wp2_with fail
  go_ret
  exact ⟨rfl, hK0.below⟩
set_option maxRecDepth 100000 in
set_option maxHeartbeats 16000000 in
theorem refSame_ne_hasPass (p q : Pk) (A B : Option Addr) (n c m d : Nat) (w : World) (e0 : p.ty = q.ty) (e1 : p.dup = q.dup) (e2 : p.qos = q.qos) (e3 : p.ret = q.ret) (e4 : p.id = q.id) (e5 : p.topic = q.topic) (e6 : p.load = q.load) (e7 : p.level = q.level) (e8 : p.clean = q.clean) (e9 : p.keep = q.keep) (e10 : p.client = q.client) (e11 : p.hasWill = q.hasWill) (e12 : eqMs p.wt p.wl p.wq p.wr q.wt q.wl q.wq q.wr = true) (e13 : p.hasUser = q.hasUser) (h0 : ¬ p.hasPass = q.hasPass) :
    Calls Tryz.prog 27 #[.agg (PkC p A n c), .agg (PkC q B m d)] w fun e w' => e = .returned (.bool false) ∧ Below w.heap.size w w' := by
  have hK0 := (((Kp.nil w).new (PkC p A n c) 27).new (PkC q B m d) 27).swap
  simp only [World.size_alloc] at hK0
  have h := ne2_t h0
  go_enter Tryz.func27, Tryz.ntmps27
  go_wp2_with fail
  go_ret
  exact ⟨rfl, hK0.below⟩
set_option maxRecDepth 100000 in
set_option maxHeartbeats 16000000 in
theorem refSame_ne_user (p q : Pk) (A B : Option Addr) (n c m d : Nat) (w : World) (e0 : p.ty = q.ty) (e1 : p.dup = q.dup) (e2 : p.qos = q.qos) (e3 : p.ret = q.ret) (e4 : p.id = q.id) (e5 : p.topic = q.topic) (e6 : p.load = q.load) (e7 : p.level = q.level) (e8 : p.clean = q.clean) (e9 : p.keep = q.keep) (e10 : p.client = q.client) (e11 : p.hasWill = q.hasWill) (e12 : eqMs p.wt p.wl p.wq p.wr q.wt q.wl q.wq q.wr = true) (e13 : p.hasUser = q.hasUser) (e14 : p.hasPass = q.hasPass) (h0 : ¬ p.user = q.user) :
    Calls Tryz.prog 27 #[.agg (PkC p A n c), .agg (PkC q B m d)] w fun e w' => e = .returned (.bool false) ∧ Below w.heap.size w w' := by
  have hK0 := (((Kp.nil w).new (PkC p A n c) 27).new (PkC q B m d) 27).swap
  simp only [World.size_alloc] at hK0
  have h := ne2_s h0
  go_enter Tryz.func27, Tryz.ntmps27
  go_wp2_with fail
  go_ret
  exact ⟨rfl, hK0.below⟩
end Go.Proofs.YtphdooaihbmnlaaGreatDoor
