/-
  PkS, PkS2, PkT, PkU, PkX in one. (By tools/cmerge.py.)
-/
import Derived.Test.YtnaedcennichlaaGreatDoorPkI
import Derived.Test.YtnaedcennichlaaGreatDoorPkV
set_option linter.unusedSimpArgs false
set_option linter.unusedVariables false
/-
  The document's own Same: packets whose scalars differ.
-/
namespace Go.Proofs.YtnaedcennichlaaGreatDoor
open Go.RowKit
theorem ne_b {x y : Int} (h : ¬ x = y) : (x != y) = true := by simpa using h
theorem ne_s {x y : List UInt8} (h : ¬ x = y) : (x != y) = true := by simpa using h
theorem ne_t {x y : Bool} (h : ¬ x = y) : (x != y) = true := by simpa using h
set_option maxRecDepth 100000 in
set_option maxHeartbeats 16000000 in
theorem refSame_ne_ty (p q : Pk) (A B : Option Addr) (n c m d : Nat) (w : World)  (h0 : ¬ p.ty = q.ty) :
    Calls Tryz.prog 12 #[.agg (PkC p A n c), .agg (PkC q B m d)] w fun e w' => e = .returned (.bool false) ∧ Below w.heap.size w w' := by
  have hK0 := (((Kp.nil w).new (PkC p A n c) 36).new (PkC q B m d) 36).swap
  simp only [World.size_alloc] at hK0
  have h := ne_b h0
  go_enter Tryz.func12, Tryz.ntmps12
  go_wp2_with fail
  go_ret
  exact ⟨rfl, hK0.below⟩
set_option maxRecDepth 100000 in
set_option maxHeartbeats 16000000 in
theorem refSame_ne_dup (p q : Pk) (A B : Option Addr) (n c m d : Nat) (w : World) (e0 : p.ty = q.ty) (h0 : ¬ p.dup = q.dup) :
    Calls Tryz.prog 12 #[.agg (PkC p A n c), .agg (PkC q B m d)] w fun e w' => e = .returned (.bool false) ∧ Below w.heap.size w w' := by
  have hK0 := (((Kp.nil w).new (PkC p A n c) 36).new (PkC q B m d) 36).swap
  simp only [World.size_alloc] at hK0
  have h := ne_t h0
  go_enter Tryz.func12, Tryz.ntmps12
  go_wp2_with fail
  go_ret
  exact ⟨rfl, hK0.below⟩
set_option maxRecDepth 100000 in
set_option maxHeartbeats 16000000 in
theorem refSame_ne_qos (p q : Pk) (A B : Option Addr) (n c m d : Nat) (w : World) (e0 : p.ty = q.ty) (e1 : p.dup = q.dup) (h0 : ¬ p.qos = q.qos) :
    Calls Tryz.prog 12 #[.agg (PkC p A n c), .agg (PkC q B m d)] w fun e w' => e = .returned (.bool false) ∧ Below w.heap.size w w' := by
  have hK0 := (((Kp.nil w).new (PkC p A n c) 36).new (PkC q B m d) 36).swap
  simp only [World.size_alloc] at hK0
  have h := ne_b h0
  go_enter Tryz.func12, Tryz.ntmps12
  go_wp2_with fail
  go_ret
  exact ⟨rfl, hK0.below⟩
set_option maxRecDepth 100000 in
set_option maxHeartbeats 16000000 in
theorem refSame_ne_ret (p q : Pk) (A B : Option Addr) (n c m d : Nat) (w : World) (e0 : p.ty = q.ty) (e1 : p.dup = q.dup) (e2 : p.qos = q.qos) (h0 : ¬ p.ret = q.ret) :
    Calls Tryz.prog 12 #[.agg (PkC p A n c), .agg (PkC q B m d)] w fun e w' => e = .returned (.bool false) ∧ Below w.heap.size w w' := by
  have hK0 := (((Kp.nil w).new (PkC p A n c) 36).new (PkC q B m d) 36).swap
  simp only [World.size_alloc] at hK0
  have h := ne_t h0
  go_enter Tryz.func12, Tryz.ntmps12
  go_wp2_with fail
  go_ret
  exact ⟨rfl, hK0.below⟩
set_option maxRecDepth 100000 in
set_option maxHeartbeats 16000000 in
theorem refSame_ne_id (p q : Pk) (A B : Option Addr) (n c m d : Nat) (w : World) (e0 : p.ty = q.ty) (e1 : p.dup = q.dup) (e2 : p.qos = q.qos) (e3 : p.ret = q.ret) (h0 : ¬ p.id = q.id) :
    Calls Tryz.prog 12 #[.agg (PkC p A n c), .agg (PkC q B m d)] w fun e w' => e = .returned (.bool false) ∧ Below w.heap.size w w' := by
  have hK0 := (((Kp.nil w).new (PkC p A n c) 36).new (PkC q B m d) 36).swap
  simp only [World.size_alloc] at hK0
  have h := ne_b h0
  go_enter Tryz.func12, Tryz.ntmps12
  go_wp2_with fail
  go_ret
  exact ⟨rfl, hK0.below⟩
set_option maxRecDepth 100000 in
set_option maxHeartbeats 16000000 in
theorem refSame_ne_topic (p q : Pk) (A B : Option Addr) (n c m d : Nat) (w : World) (e0 : p.ty = q.ty) (e1 : p.dup = q.dup) (e2 : p.qos = q.qos) (e3 : p.ret = q.ret) (e4 : p.id = q.id) (h0 : ¬ p.topic = q.topic) :
    Calls Tryz.prog 12 #[.agg (PkC p A n c), .agg (PkC q B m d)] w fun e w' => e = .returned (.bool false) ∧ Below w.heap.size w w' := by
  have hK0 := (((Kp.nil w).new (PkC p A n c) 36).new (PkC q B m d) 36).swap
  simp only [World.size_alloc] at hK0
  have h := ne_s h0
  go_enter Tryz.func12, Tryz.ntmps12
  go_wp2_with fail
  go_ret
  exact ⟨rfl, hK0.below⟩
set_option maxRecDepth 100000 in
set_option maxHeartbeats 16000000 in
theorem refSame_ne_load (p q : Pk) (A B : Option Addr) (n c m d : Nat) (w : World) (e0 : p.ty = q.ty) (e1 : p.dup = q.dup) (e2 : p.qos = q.qos) (e3 : p.ret = q.ret) (e4 : p.id = q.id) (e5 : p.topic = q.topic) (h0 : ¬ p.load = q.load) :
    Calls Tryz.prog 12 #[.agg (PkC p A n c), .agg (PkC q B m d)] w fun e w' => e = .returned (.bool false) ∧ Below w.heap.size w w' := by
  have hK0 := (((Kp.nil w).new (PkC p A n c) 36).new (PkC q B m d) 36).swap
  simp only [World.size_alloc] at hK0
  have h := ne_s h0
  go_enter Tryz.func12, Tryz.ntmps12
  go_wp2_with fail
  go_ret
  exact ⟨rfl, hK0.below⟩
set_option maxRecDepth 100000 in
set_option maxHeartbeats 16000000 in
theorem refSame_ne_level (p q : Pk) (A B : Option Addr) (n c m d : Nat) (w : World) (e0 : p.ty = q.ty) (e1 : p.dup = q.dup) (e2 : p.qos = q.qos) (e3 : p.ret = q.ret) (e4 : p.id = q.id) (e5 : p.topic = q.topic) (e6 : p.load = q.load) (h0 : ¬ p.level = q.level) :
    Calls Tryz.prog 12 #[.agg (PkC p A n c), .agg (PkC q B m d)] w fun e w' => e = .returned (.bool false) ∧ Below w.heap.size w w' := by
  have hK0 := (((Kp.nil w).new (PkC p A n c) 36).new (PkC q B m d) 36).swap
  simp only [World.size_alloc] at hK0
  have h := ne_b h0
  go_enter Tryz.func12, Tryz.ntmps12
  go_wp2_with fail
  go_ret
  exact ⟨rfl, hK0.below⟩
set_option maxRecDepth 100000 in
set_option maxHeartbeats 16000000 in
theorem refSame_ne_clean (p q : Pk) (A B : Option Addr) (n c m d : Nat) (w : World) (e0 : p.ty = q.ty) (e1 : p.dup = q.dup) (e2 : p.qos = q.qos) (e3 : p.ret = q.ret) (e4 : p.id = q.id) (e5 : p.topic = q.topic) (e6 : p.load = q.load) (e7 : p.level = q.level) (h0 : ¬ p.clean = q.clean) :
    Calls Tryz.prog 12 #[.agg (PkC p A n c), .agg (PkC q B m d)] w fun e w' => e = .returned (.bool false) ∧ Below w.heap.size w w' := by
  have hK0 := (((Kp.nil w).new (PkC p A n c) 36).new (PkC q B m d) 36).swap
  simp only [World.size_alloc] at hK0
  have h := ne_t h0
  go_enter Tryz.func12, Tryz.ntmps12
  go_wp2_with fail
  go_ret
  exact ⟨rfl, hK0.below⟩
set_option maxRecDepth 100000 in
set_option maxHeartbeats 16000000 in
theorem refSame_ne_keep (p q : Pk) (A B : Option Addr) (n c m d : Nat) (w : World) (e0 : p.ty = q.ty) (e1 : p.dup = q.dup) (e2 : p.qos = q.qos) (e3 : p.ret = q.ret) (e4 : p.id = q.id) (e5 : p.topic = q.topic) (e6 : p.load = q.load) (e7 : p.level = q.level) (e8 : p.clean = q.clean) (h0 : ¬ p.keep = q.keep) :
    Calls Tryz.prog 12 #[.agg (PkC p A n c), .agg (PkC q B m d)] w fun e w' => e = .returned (.bool false) ∧ Below w.heap.size w w' := by
  have hK0 := (((Kp.nil w).new (PkC p A n c) 36).new (PkC q B m d) 36).swap
  simp only [World.size_alloc] at hK0
  have h := ne_b h0
  go_enter Tryz.func12, Tryz.ntmps12
  go_wp2_with fail
  go_ret
  exact ⟨rfl, hK0.below⟩
end Go.Proofs.YtnaedcennichlaaGreatDoor

/-
  The document's own Same: packets whose scalars differ.
-/
namespace Go.Proofs.YtnaedcennichlaaGreatDoor
open Go.RowKit
theorem ne4_s {x y : List UInt8} (h : ¬ x = y) : (x != y) = true := by simpa using h
set_option maxRecDepth 100000 in
set_option maxHeartbeats 16000000 in
theorem refSame_ne_client (p q : Pk) (A B : Option Addr) (n c m d : Nat) (w : World) (e0 : p.ty = q.ty) (e1 : p.dup = q.dup) (e2 : p.qos = q.qos) (e3 : p.ret = q.ret) (e4 : p.id = q.id) (e5 : p.topic = q.topic) (e6 : p.load = q.load) (e7 : p.level = q.level) (e8 : p.clean = q.clean) (e9 : p.keep = q.keep) (h0 : ¬ p.client = q.client) :
    Calls Tryz.prog 12 #[.agg (PkC p A n c), .agg (PkC q B m d)] w fun e w' => e = .returned (.bool false) ∧ Below w.heap.size w w' := by
  have hK0 := (((Kp.nil w).new (PkC p A n c) 36).new (PkC q B m d) 36).swap
  simp only [World.size_alloc] at hK0
  have h := ne4_s h0
  have h2 : (p.client == q.client) = false := by simpa using h0
  go_enter Tryz.func12, Tryz.ntmps12
  go_wp2_with fail
  go_ret
  exact ⟨rfl, hK0.below⟩
end Go.Proofs.YtnaedcennichlaaGreatDoor

/-
  The document's own Same: packets whose scalars differ.
-/
namespace Go.Proofs.YtnaedcennichlaaGreatDoor
open Go.RowKit
theorem ne2_s {x y : List UInt8} (h : ¬ x = y) : (x != y) = true := by simpa using h
theorem ne2_t {x y : Bool} (h : ¬ x = y) : (x != y) = true := by simpa using h
set_option maxRecDepth 100000 in
set_option maxHeartbeats 16000000 in
theorem refSame_ne_hasWill (p q : Pk) (A B : Option Addr) (n c m d : Nat) (w : World) (e0 : p.ty = q.ty) (e1 : p.dup = q.dup) (e2 : p.qos = q.qos) (e3 : p.ret = q.ret) (e4 : p.id = q.id) (e5 : p.topic = q.topic) (e6 : p.load = q.load) (e7 : p.level = q.level) (e8 : p.clean = q.clean) (e9 : p.keep = q.keep) (e10 : p.client = q.client) (h0 : ¬ p.hasWill = q.hasWill) :
    Calls Tryz.prog 12 #[.agg (PkC p A n c), .agg (PkC q B m d)] w fun e w' => e = .returned (.bool false) ∧ Below w.heap.size w w' := by
  have hK0 := (((Kp.nil w).new (PkC p A n c) 36).new (PkC q B m d) 36).swap
  simp only [World.size_alloc] at hK0
  have h := ne2_t h0
  go_enter Tryz.func12, Tryz.ntmps12
  go_wp2_with fail
  go_ret
  exact ⟨rfl, hK0.below⟩
set_option maxRecDepth 100000 in
set_option maxHeartbeats 16000000 in
theorem refSame_ne_WILL (p q : Pk) (A B : Option Addr) (n c m d : Nat) (w : World) (e0 : p.ty = q.ty) (e1 : p.dup = q.dup) (e2 : p.qos = q.qos) (e3 : p.ret = q.ret) (e4 : p.id = q.id) (e5 : p.topic = q.topic) (e6 : p.load = q.load) (e7 : p.level = q.level) (e8 : p.clean = q.clean) (e9 : p.keep = q.keep) (e10 : p.client = q.client) (e11 : p.hasWill = q.hasWill) (h0 : eqMs p.wt p.wl p.wq p.wr q.wt q.wl q.wq q.wr = false) :
    Calls Tryz.prog 12 #[.agg (PkC p A n c), .agg (PkC q B m d)] w fun e w' => e = .returned (.bool false) ∧ Below w.heap.size w w' := by
  have hK0 := (((Kp.nil w).new (PkC p A n c) 36).new (PkC q B m d) 36).swap
  simp only [World.size_alloc] at hK0
  have h := h0
  go_enter Tryz.func12, Tryz.ntmps12
  go_wp2_with fail
  go_ret
  exact ⟨rfl, hK0.below⟩
set_option maxRecDepth 100000 in
set_option maxHeartbeats 16000000 in
theorem refSame_ne_hasUser (p q : Pk) (A B : Option Addr) (n c m d : Nat) (w : World) (e0 : p.ty = q.ty) (e1 : p.dup = q.dup) (e2 : p.qos = q.qos) (e3 : p.ret = q.ret) (e4 : p.id = q.id) (e5 : p.topic = q.topic) (e6 : p.load = q.load) (e7 : p.level = q.level) (e8 : p.clean = q.clean) (e9 : p.keep = q.keep) (e10 : p.client = q.client) (e11 : p.hasWill = q.hasWill) (e12 : eqMs p.wt p.wl p.wq p.wr q.wt q.wl q.wq q.wr = true) (h0 : ¬ p.hasUser = q.hasUser) :
    Calls Tryz.prog 12 #[.agg (PkC p A n c), .agg (PkC q B m d)] w fun e w' => e = .returned (.bool false) ∧ Below w.heap.size w w' := by
  have hK0 := (((Kp.nil w).new (PkC p A n c) 36).new (PkC q B m d) 36).swap
  simp only [World.size_alloc] at hK0
  have h := ne2_t h0
  go_enter Tryz.func12, Tryz.ntmps12
  go_wp2_with fail
  go_ret
  exact ⟨rfl, hK0.below⟩
set_option maxRecDepth 100000 in
set_option maxHeartbeats 16000000 in
theorem refSame_ne_hasPass (p q : Pk) (A B : Option Addr) (n c m d : Nat) (w : World) (e0 : p.ty = q.ty) (e1 : p.dup = q.dup) (e2 : p.qos = q.qos) (e3 : p.ret = q.ret) (e4 : p.id = q.id) (e5 : p.topic = q.topic) (e6 : p.load = q.load) (e7 : p.level = q.level) (e8 : p.clean = q.clean) (e9 : p.keep = q.keep) (e10 : p.client = q.client) (e11 : p.hasWill = q.hasWill) (e12 : eqMs p.wt p.wl p.wq p.wr q.wt q.wl q.wq q.wr = true) (e13 : p.hasUser = q.hasUser) (h0 : ¬ p.hasPass = q.hasPass) :
    Calls Tryz.prog 12 #[.agg (PkC p A n c), .agg (PkC q B m d)] w fun e w' => e = .returned (.bool false) ∧ Below w.heap.size w w' := by
  have hK0 := (((Kp.nil w).new (PkC p A n c) 36).new (PkC q B m d) 36).swap
  simp only [World.size_alloc] at hK0
  have h := ne2_t h0
  go_enter Tryz.func12, Tryz.ntmps12
  go_wp2_with fail
  go_ret
  exact ⟨rfl, hK0.below⟩
set_option maxRecDepth 100000 in
set_option maxHeartbeats 16000000 in
theorem refSame_ne_user (p q : Pk) (A B : Option Addr) (n c m d : Nat) (w : World) (e0 : p.ty = q.ty) (e1 : p.dup = q.dup) (e2 : p.qos = q.qos) (e3 : p.ret = q.ret) (e4 : p.id = q.id) (e5 : p.topic = q.topic) (e6 : p.load = q.load) (e7 : p.level = q.level) (e8 : p.clean = q.clean) (e9 : p.keep = q.keep) (e10 : p.client = q.client) (e11 : p.hasWill = q.hasWill) (e12 : eqMs p.wt p.wl p.wq p.wr q.wt q.wl q.wq q.wr = true) (e13 : p.hasUser = q.hasUser) (e14 : p.hasPass = q.hasPass) (h0 : ¬ p.user = q.user) :
    Calls Tryz.prog 12 #[.agg (PkC p A n c), .agg (PkC q B m d)] w fun e w' => e = .returned (.bool false) ∧ Below w.heap.size w w' := by
  have hK0 := (((Kp.nil w).new (PkC p A n c) 36).new (PkC q B m d) 36).swap
  simp only [World.size_alloc] at hK0
  have h := ne2_s h0
  go_enter Tryz.func12, Tryz.ntmps12
  go_wp2_with fail
  go_ret
  exact ⟨rfl, hK0.below⟩
end Go.Proofs.YtnaedcennichlaaGreatDoor

/-
  The document's own Same: packets whose scalars differ.
-/
namespace Go.Proofs.YtnaedcennichlaaGreatDoor
open Go.RowKit
theorem ne3_b {x y : Int} (h : ¬ x = y) : (x != y) = true := by simpa using h
theorem ne3_s {x y : List UInt8} (h : ¬ x = y) : (x != y) = true := by simpa using h
theorem ne3_t {x y : Bool} (h : ¬ x = y) : (x != y) = true := by simpa using h
set_option maxRecDepth 100000 in
set_option maxHeartbeats 16000000 in
theorem refSame_ne_pass (p q : Pk) (A B : Option Addr) (n c m d : Nat) (w : World) (e0 : p.ty = q.ty) (e1 : p.dup = q.dup) (e2 : p.qos = q.qos) (e3 : p.ret = q.ret) (e4 : p.id = q.id) (e5 : p.topic = q.topic) (e6 : p.load = q.load) (e7 : p.level = q.level) (e8 : p.clean = q.clean) (e9 : p.keep = q.keep) (e10 : p.client = q.client) (e11 : p.hasWill = q.hasWill) (e12 : eqMs p.wt p.wl p.wq p.wr q.wt q.wl q.wq q.wr = true) (e13 : p.hasUser = q.hasUser) (e14 : p.hasPass = q.hasPass) (e15 : p.user = q.user) (h0 : ¬ p.pass = q.pass) :
    Calls Tryz.prog 12 #[.agg (PkC p A n c), .agg (PkC q B m d)] w fun e w' => e = .returned (.bool false) ∧ Below w.heap.size w w' := by
  have hK0 := (((Kp.nil w).new (PkC p A n c) 36).new (PkC q B m d) 36).swap
  simp only [World.size_alloc] at hK0
  have h := ne3_s h0
  go_enter Tryz.func12, Tryz.ntmps12
  go_wp2_with fail
  go_ret
  exact ⟨rfl, hK0.below⟩
set_option maxRecDepth 100000 in
set_option maxHeartbeats 16000000 in
theorem refSame_ne_present (p q : Pk) (A B : Option Addr) (n c m d : Nat) (w : World) (e0 : p.ty = q.ty) (e1 : p.dup = q.dup) (e2 : p.qos = q.qos) (e3 : p.ret = q.ret) (e4 : p.id = q.id) (e5 : p.topic = q.topic) (e6 : p.load = q.load) (e7 : p.level = q.level) (e8 : p.clean = q.clean) (e9 : p.keep = q.keep) (e10 : p.client = q.client) (e11 : p.hasWill = q.hasWill) (e12 : eqMs p.wt p.wl p.wq p.wr q.wt q.wl q.wq q.wr = true) (e13 : p.hasUser = q.hasUser) (e14 : p.hasPass = q.hasPass) (e15 : p.user = q.user) (e16 : p.pass = q.pass) (h0 : ¬ p.present = q.present) :
    Calls Tryz.prog 12 #[.agg (PkC p A n c), .agg (PkC q B m d)] w fun e w' => e = .returned (.bool false) ∧ Below w.heap.size w w' := by
  have hK0 := (((Kp.nil w).new (PkC p A n c) 36).new (PkC q B m d) 36).swap
  simp only [World.size_alloc] at hK0
  have h := ne3_t h0
  go_enter Tryz.func12, Tryz.ntmps12
  go_wp2_with fail
  go_ret
  exact ⟨rfl, hK0.below⟩
set_option maxRecDepth 100000 in
set_option maxHeartbeats 16000000 in
theorem refSame_ne_code (p q : Pk) (A B : Option Addr) (n c m d : Nat) (w : World) (e0 : p.ty = q.ty) (e1 : p.dup = q.dup) (e2 : p.qos = q.qos) (e3 : p.ret = q.ret) (e4 : p.id = q.id) (e5 : p.topic = q.topic) (e6 : p.load = q.load) (e7 : p.level = q.level) (e8 : p.clean = q.clean) (e9 : p.keep = q.keep) (e10 : p.client = q.client) (e11 : p.hasWill = q.hasWill) (e12 : eqMs p.wt p.wl p.wq p.wr q.wt q.wl q.wq q.wr = true) (e13 : p.hasUser = q.hasUser) (e14 : p.hasPass = q.hasPass) (e15 : p.user = q.user) (e16 : p.pass = q.pass) (e17 : p.present = q.present) (h0 : ¬ p.code = q.code) :
    Calls Tryz.prog 12 #[.agg (PkC p A n c), .agg (PkC q B m d)] w fun e w' => e = .returned (.bool false) ∧ Below w.heap.size w w' := by
  have hK0 := (((Kp.nil w).new (PkC p A n c) 36).new (PkC q B m d) 36).swap
  simp only [World.size_alloc] at hK0
  have h := ne3_b h0
  go_enter Tryz.func12, Tryz.ntmps12
  go_wp2_with fail
  go_ret
  exact ⟨rfl, hK0.below⟩
set_option maxRecDepth 100000 in
set_option maxHeartbeats 16000000 in
theorem refSame_ne_codes (p q : Pk) (A B : Option Addr) (n c m d : Nat) (w : World) (e0 : p.ty = q.ty) (e1 : p.dup = q.dup) (e2 : p.qos = q.qos) (e3 : p.ret = q.ret) (e4 : p.id = q.id) (e5 : p.topic = q.topic) (e6 : p.load = q.load) (e7 : p.level = q.level) (e8 : p.clean = q.clean) (e9 : p.keep = q.keep) (e10 : p.client = q.client) (e11 : p.hasWill = q.hasWill) (e12 : eqMs p.wt p.wl p.wq p.wr q.wt q.wl q.wq q.wr = true) (e13 : p.hasUser = q.hasUser) (e14 : p.hasPass = q.hasPass) (e15 : p.user = q.user) (e16 : p.pass = q.pass) (e17 : p.present = q.present) (e18 : p.code = q.code) (h0 : ¬ p.codes = q.codes) :
    Calls Tryz.prog 12 #[.agg (PkC p A n c), .agg (PkC q B m d)] w fun e w' => e = .returned (.bool false) ∧ Below w.heap.size w w' := by
  have hK0 := (((Kp.nil w).new (PkC p A n c) 36).new (PkC q B m d) 36).swap
  simp only [World.size_alloc] at hK0
  have h := ne3_s h0
  go_enter Tryz.func12, Tryz.ntmps12
  go_wp2_with fail
  go_ret
  exact ⟨rfl, hK0.below⟩
set_option maxRecDepth 100000 in
set_option maxHeartbeats 16000000 in
theorem refSame_ne_LEN (p q : Pk) (A B : Option Addr) (n c m d : Nat) (w : World) (e0 : p.ty = q.ty) (e1 : p.dup = q.dup) (e2 : p.qos = q.qos) (e3 : p.ret = q.ret) (e4 : p.id = q.id) (e5 : p.topic = q.topic) (e6 : p.load = q.load) (e7 : p.level = q.level) (e8 : p.clean = q.clean) (e9 : p.keep = q.keep) (e10 : p.client = q.client) (e11 : p.hasWill = q.hasWill) (e12 : eqMs p.wt p.wl p.wq p.wr q.wt q.wl q.wq q.wr = true) (e13 : p.hasUser = q.hasUser) (e14 : p.hasPass = q.hasPass) (e15 : p.user = q.user) (e16 : p.pass = q.pass) (e17 : p.present = q.present) (e18 : p.code = q.code) (e19 : p.codes = q.codes) (h0 : ¬ n = m) :
    Calls Tryz.prog 12 #[.agg (PkC p A n c), .agg (PkC q B m d)] w fun e w' => e = .returned (.bool false) ∧ Below w.heap.size w w' := by
  have hK0 := (((Kp.nil w).new (PkC p A n c) 36).new (PkC q B m d) 36).swap
  simp only [World.size_alloc] at hK0
  have h : ((n : Int) != (m : Int)) = true := by simpa using (by omega : ¬ (n : Int) = (m : Int))
  go_enter Tryz.func12, Tryz.ntmps12
  go_wp2_with fail
  go_ret
  exact ⟨rfl, hK0.below⟩
end Go.Proofs.YtnaedcennichlaaGreatDoor

/-
  The document's own Same: when two packets are one.
-/
namespace Go.Proofs.YtnaedcennichlaaGreatDoor
open Go.RowKit
theorem same_no {p q : Pk} {xs ys : List (List UInt8 × Int)} (h : p = q → False) : (eqPk p q && xs == ys) = false := by
  have : eqPk p q = false := by
    cases he : eqPk p q with
    | false => rfl
    | true => exact (h ((eqPk_iff p q).1 he)).elim
  rw [this, Bool.false_and]
theorem refSame_any (p q : Pk) (A B : Option Addr) (n c m d : Nat) (xs ys : List (List UInt8 × Int)) (w : World) (hx : Subs w A n xs) (hy : Subs w B m ys) (hn : n ≤ 1000000) :
    Calls Tryz.prog 12 #[.agg (PkC p A n c), .agg (PkC q B m d)] w fun e w' => e = .returned (.bool (eqPk p q && xs == ys)) ∧ Below w.heap.size w w' := by
  by_cases e0 : p.ty = q.ty
  rotate_left
  · rw [same_no (fun h => e0 (by rw [h]))]; exact refSame_ne_ty p q A B n c m d w  e0
  by_cases e1 : p.dup = q.dup
  rotate_left
  · rw [same_no (fun h => e1 (by rw [h]))]; exact refSame_ne_dup p q A B n c m d w e0 e1
  by_cases e2 : p.qos = q.qos
  rotate_left
  · rw [same_no (fun h => e2 (by rw [h]))]; exact refSame_ne_qos p q A B n c m d w e0 e1 e2
  by_cases e3 : p.ret = q.ret
  rotate_left
  · rw [same_no (fun h => e3 (by rw [h]))]; exact refSame_ne_ret p q A B n c m d w e0 e1 e2 e3
  by_cases e4 : p.id = q.id
  rotate_left
  · rw [same_no (fun h => e4 (by rw [h]))]; exact refSame_ne_id p q A B n c m d w e0 e1 e2 e3 e4
  by_cases e5 : p.topic = q.topic
  rotate_left
  · rw [same_no (fun h => e5 (by rw [h]))]; exact refSame_ne_topic p q A B n c m d w e0 e1 e2 e3 e4 e5
  by_cases e6 : p.load = q.load
  rotate_left
  · rw [same_no (fun h => e6 (by rw [h]))]; exact refSame_ne_load p q A B n c m d w e0 e1 e2 e3 e4 e5 e6
  by_cases e7 : p.level = q.level
  rotate_left
  · rw [same_no (fun h => e7 (by rw [h]))]; exact refSame_ne_level p q A B n c m d w e0 e1 e2 e3 e4 e5 e6 e7
  by_cases e8 : p.clean = q.clean
  rotate_left
  · rw [same_no (fun h => e8 (by rw [h]))]; exact refSame_ne_clean p q A B n c m d w e0 e1 e2 e3 e4 e5 e6 e7 e8
  by_cases e9 : p.keep = q.keep
  rotate_left
  · rw [same_no (fun h => e9 (by rw [h]))]; exact refSame_ne_keep p q A B n c m d w e0 e1 e2 e3 e4 e5 e6 e7 e8 e9
  by_cases e10 : p.client = q.client
  rotate_left
  · rw [same_no (fun h => e10 (by rw [h]))]; exact refSame_ne_client p q A B n c m d w e0 e1 e2 e3 e4 e5 e6 e7 e8 e9 e10
  by_cases e11 : p.hasWill = q.hasWill
  rotate_left
  · rw [same_no (fun h => e11 (by rw [h]))]; exact refSame_ne_hasWill p q A B n c m d w e0 e1 e2 e3 e4 e5 e6 e7 e8 e9 e10 e11
  cases e12 : eqMs p.wt p.wl p.wq p.wr q.wt q.wl q.wq q.wr with
  | false => rw [same_no (fun h => by subst h; simp [eqMs] at e12)]; exact refSame_ne_WILL p q A B n c m d w e0 e1 e2 e3 e4 e5 e6 e7 e8 e9 e10 e11 e12
  | true =>
  by_cases e13 : p.hasUser = q.hasUser
  rotate_left
  · rw [same_no (fun h => e13 (by rw [h]))]; exact refSame_ne_hasUser p q A B n c m d w e0 e1 e2 e3 e4 e5 e6 e7 e8 e9 e10 e11 e12 e13
  by_cases e14 : p.hasPass = q.hasPass
  rotate_left
  · rw [same_no (fun h => e14 (by rw [h]))]; exact refSame_ne_hasPass p q A B n c m d w e0 e1 e2 e3 e4 e5 e6 e7 e8 e9 e10 e11 e12 e13 e14
  by_cases e15 : p.user = q.user
  rotate_left
  · rw [same_no (fun h => e15 (by rw [h]))]; exact refSame_ne_user p q A B n c m d w e0 e1 e2 e3 e4 e5 e6 e7 e8 e9 e10 e11 e12 e13 e14 e15
  by_cases e16 : p.pass = q.pass
  rotate_left
  · rw [same_no (fun h => e16 (by rw [h]))]; exact refSame_ne_pass p q A B n c m d w e0 e1 e2 e3 e4 e5 e6 e7 e8 e9 e10 e11 e12 e13 e14 e15 e16
  by_cases e17 : p.present = q.present
  rotate_left
  · rw [same_no (fun h => e17 (by rw [h]))]; exact refSame_ne_present p q A B n c m d w e0 e1 e2 e3 e4 e5 e6 e7 e8 e9 e10 e11 e12 e13 e14 e15 e16 e17
  by_cases e18 : p.code = q.code
  rotate_left
  · rw [same_no (fun h => e18 (by rw [h]))]; exact refSame_ne_code p q A B n c m d w e0 e1 e2 e3 e4 e5 e6 e7 e8 e9 e10 e11 e12 e13 e14 e15 e16 e17 e18
  by_cases e19 : p.codes = q.codes
  rotate_left
  · rw [same_no (fun h => e19 (by rw [h]))]; exact refSame_ne_codes p q A B n c m d w e0 e1 e2 e3 e4 e5 e6 e7 e8 e9 e10 e11 e12 e13 e14 e15 e16 e17 e18 e19
  by_cases e20 : n = m
  · subst e20
    have hpq : p = q := (eqPk_iff p q).1 (by unfold eqPk; rw [e12, e0, e1, e2, e3, e4, e5, e6, e7, e8, e9, e10, e11, e13, e14, e15, e16, e17, e18, e19]; simp)
    subst hpq
    rw [(eqPk_iff p p).2 rfl, Bool.true_and]
    exact refSame_self p A B n c d xs ys w hx hy hn
  · have hf : (xs == ys) = false := by
      rw [beq_eq_false_iff_ne]
      rintro rfl
      have := hx.len; have := hy.len; omega
    rw [hf, Bool.and_false]
    exact refSame_ne_LEN p q A B n c m d w e0 e1 e2 e3 e4 e5 e6 e7 e8 e9 e10 e11 e12 e13 e14 e15 e16 e17 e18 e19 e20
theorem refSame_eq (p q : Pk) (A B : Option Addr) (n c m d : Nat) (xs ys : List (List UInt8 × Int)) (r : Bool) (w : World) (hx : Subs w A n xs) (hy : Subs w B m ys) (hn : n ≤ 1000000) (h : (eqPk p q && xs == ys) = r) :
    Calls Tryz.prog 12 #[.agg (PkC p A n c), .agg (PkC q B m d)] w fun e w' => e = .returned (.bool r) ∧ Below w.heap.size w w' := h ▸ refSame_any p q A B n c m d xs ys w hx hy hn
end Go.Proofs.YtnaedcennichlaaGreatDoor
