/-
  The document's own Same: packets whose scalars differ.
-/
import Derived.Test.YtphdooaihbmnlaaGreatDoorPkI
set_option linter.unusedSimpArgs false
set_option linter.unusedVariables false
namespace Go.Proofs.YtphdooaihbmnlaaGreatDoor
open Go.RowKit
theorem ne4_b {x y : Int} (h : ¬ x = y) : (x != y) = true := by simpa using h
theorem ne4_s {x y : List UInt8} (h : ¬ x = y) : (x != y) = true := by simpa using h
theorem ne4_t {x y : Bool} (h : ¬ x = y) : (x != y) = true := by simpa using h
set_option maxRecDepth 100000 in
set_option maxHeartbeats 16000000 in
theorem refSame_ne_client (p q : Pk) (A B : Option Addr) (n c m d : Nat) (w : World) (e0 : p.ty = q.ty) (e1 : p.dup = q.dup) (e2 : p.qos = q.qos) (e3 : p.ret = q.ret) (e4 : p.id = q.id) (e5 : p.topic = q.topic) (e6 : p.load = q.load) (e7 : p.level = q.level) (e8 : p.clean = q.clean) (e9 : p.keep = q.keep) (h0 : ¬ p.client = q.client) :
    Calls Tryz.prog 27 #[.agg (PkC p A n c), .agg (PkC q B m d)] w fun e w' => e = .returned (.bool false) ∧ Below w.heap.size w w' := by
  have hK0 := (((Kp.nil w).new (PkC p A n c) 27).new (PkC q B m d) 27).swap
  simp only [World.size_alloc] at hK0
  have h := ne4_s h0
  have h2 : (p.client == q.client) = false := by simpa using h0
  go_enter Tryz.func27, Tryz.ntmps27
  go_wp2_with fail
  go_ret
  exact ⟨rfl, hK0.below⟩
end Go.Proofs.YtphdooaihbmnlaaGreatDoor
