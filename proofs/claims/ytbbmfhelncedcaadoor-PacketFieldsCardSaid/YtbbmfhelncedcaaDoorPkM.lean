/-
  PacketFields: what its helper 'more' answers: a packet with one field another one.
-/
import Derived.Test.YtbbmfhelncedcaaDoorPkJ
set_option linter.unusedSimpArgs false
set_option linter.unusedVariables false
namespace Go.Proofs.YtbbmfhelncedcaaDoor
open Go.RowKit
namespace lawPacketFields
/-- One more, of a byte; of a word. -/
def inc8 (x : Int) : Int := if x = 255 then 0 else x + 1
def inc16 (x : Int) : Int := if x = 65535 then 0 else x + 1
theorem inc8_w (x : Int) (h : 0 ≤ x ∧ x ≤ 255) : IntKind.u8.wrap (x + 1) = inc8 x := by
  unfold inc8
  split
  · rename_i e; subst e; decide
  · exact IntWalk.u8_in _ (by omega)
theorem inc16_w (x : Int) (h : 0 ≤ x ∧ x ≤ 65535) : IntKind.u16.wrap (x + 1) = inc16 x := by
  unfold inc16
  split
  · rename_i e; subst e; decide
  · exact IntWalk.u16_in _ (by omega)
theorem inc8_in (x : Int) (h : 0 ≤ x ∧ x ≤ 255) : 0 ≤ inc8 x ∧ inc8 x ≤ 255 := by unfold inc8; split <;> omega
theorem inc16_in (x : Int) (h : 0 ≤ x ∧ x ≤ 65535) : 0 ≤ inc16 x ∧ inc16 x ≤ 65535 := by unfold inc16; split <;> omega
def moreP (p : Pk) : Nat → Pk
  | 0 => p.s_dup (!p.dup)
  | 1 => p.s_qos (inc8 p.qos)
  | 2 => p.s_ret (!p.ret)
  | 3 => p.s_id (inc16 p.id)
  | 4 => p.s_topic (p.topic ++ [116])
  | 5 => p.s_load (p.load ++ [112])
  | 6 => p.s_level (inc8 p.level)
  | 7 => p.s_clean (!p.clean)
  | 8 => p.s_keep (inc16 p.keep)
  | 9 => p.s_client (p.client ++ [99])
  | 10 => p.s_hasWill (!p.hasWill)
  | 11 => p.s_wr (!p.wr)
  | 12 => p.s_user (p.user ++ [117])
  | 13 => p.s_hasUser (!p.hasUser)
  | 14 => p.s_pass (p.pass ++ [115])
  | 15 => p.s_present (!p.present)
  | 16 => p.s_code (inc8 p.code)
  | _ => p.s_codes (p.codes ++ [0])
/-- The types that have the field. -/
def moreS : Nat → List UInt8
  | 0 => [51]
  | 1 => [51]
  | 2 => [51]
  | 3 => [51, 52, 53, 54, 55, 56, 57, 97, 98]
  | 4 => [51]
  | 5 => [51]
  | 6 => [49]
  | 7 => [49]
  | 8 => [49]
  | 9 => [49]
  | 10 => [49]
  | 11 => [49]
  | 12 => [49]
  | 13 => [49]
  | 14 => [49]
  | 15 => [50]
  | 16 => [50]
  | _ => [57]
theorem ret_rowtmp {P : Program} {fn : Func} {R : Ending → World → Prop} {a : Act} {w : World} (s u : Tmp) (t : TypeId) (k g : Nat) (xs : Array Value) (v : Value) (hres : fn.results = #[.cell s t, .tmp u]) (hr : (P.underlying t).map (fun d => d.isRow) = some true) (hi : (P.info? t).map (·.size) = some k)
    (hs : a.tmps.getD s undef = .pointer (some ⟨g, 0, none⟩)) (hu : a.tmps.getD u undef = v) (hrow : rowAt w g = xs) (hx : xs.size = k) (hk : 0 < k) (hd : a.defers = []) (hR : R (.returned (.tuple #[.agg xs, v])) w) : bodyPost P fn R .ret a w := by
  refine bodyPost_ret (v := .tuple #[.agg xs, v]) ?_ hd hR
  have h := loadVar_row (w := w) hr hi hk g 0 (by rw [hrow]; omega)
  rw [hrow, Nat.zero_add, ← hx, Array.extract_size] at h
  simp only [results, hres, hs, hu, List.mapM_toArray, List.mapM_cons, List.mapM_nil, Sem.run_bind, asAddr, Sem.run_pure, Result.andThen_ok, h]
  simp [h, hu]
theorem str_lit (l : List UInt8) (d : Array UInt8) (h : l.toArray = d) : (Value.string ⟨d⟩ : Value) = .string ⟨l.toArray⟩ := by rw [h]
set_option maxRecDepth 100000 in
set_option maxHeartbeats 2000000 in
theorem more_0 (p : Pk) (A : Option Addr) (n c : Nat) (w : World)  :
    Calls Tryd.prog 20 #[.agg (PkC p A n c), .int .i64 0] w fun e w' => e = .returned (.tuple #[.agg (PkC (moreP p 0) A n c), .string ⟨(moreS 0).toArray⟩]) ∧ Below w.heap.size w w' := by
  have hK0 := (((Kp.nil w).new (PkC p A n c) 27).new (PkC zPk none 0 0) 27).swap
  simp only [World.size_alloc] at hK0
  go_enter Tryd.func20, Tryd.ntmps20
  go_wp2_with fail
  refine ret_rowtmp 4 5 27 24 (w.heap.size + 1) (PkC (moreP p 0) A n c) (.string ⟨(moreS 0).toArray⟩) rfl (by kernel_rfl) (by kernel_rfl) rfl rfl (by go_simp; rfl) PkC_size (by omega) rfl ⟨rfl, ?_⟩
  exact ((Below.refl _ _).alloc (Nat.le_refl _) _).alloc (by simp) _
set_option maxRecDepth 100000 in
set_option maxHeartbeats 2000000 in
theorem more_1 (p : Pk) (A : Option Addr) (n c : Nat) (w : World) (h : 0 ≤ p.qos ∧ p.qos ≤ 255) :
    Calls Tryd.prog 20 #[.agg (PkC p A n c), .int .i64 1] w fun e w' => e = .returned (.tuple #[.agg (PkC (moreP p 1) A n c), .string ⟨(moreS 1).toArray⟩]) ∧ Below w.heap.size w w' := by
  have hK0 := (((Kp.nil w).new (PkC p A n c) 27).new (PkC zPk none 0 0) 27).swap
  simp only [World.size_alloc] at hK0
  have hw := inc8_w p.qos h
  go_enter Tryd.func20, Tryd.ntmps20
  go_wp2_with fail
  refine ret_rowtmp 4 5 27 24 (w.heap.size + 1) (PkC (moreP p 1) A n c) (.string ⟨(moreS 1).toArray⟩) rfl (by kernel_rfl) (by kernel_rfl) rfl rfl (by go_simp; rfl) PkC_size (by omega) rfl ⟨rfl, ?_⟩
  exact ((Below.refl _ _).alloc (Nat.le_refl _) _).alloc (by simp) _
set_option maxRecDepth 100000 in
set_option maxHeartbeats 2000000 in
theorem more_2 (p : Pk) (A : Option Addr) (n c : Nat) (w : World)  :
    Calls Tryd.prog 20 #[.agg (PkC p A n c), .int .i64 2] w fun e w' => e = .returned (.tuple #[.agg (PkC (moreP p 2) A n c), .string ⟨(moreS 2).toArray⟩]) ∧ Below w.heap.size w w' := by
  have hK0 := (((Kp.nil w).new (PkC p A n c) 27).new (PkC zPk none 0 0) 27).swap
  simp only [World.size_alloc] at hK0
  go_enter Tryd.func20, Tryd.ntmps20
  go_wp2_with fail
  refine ret_rowtmp 4 5 27 24 (w.heap.size + 1) (PkC (moreP p 2) A n c) (.string ⟨(moreS 2).toArray⟩) rfl (by kernel_rfl) (by kernel_rfl) rfl rfl (by go_simp; rfl) PkC_size (by omega) rfl ⟨rfl, ?_⟩
  exact ((Below.refl _ _).alloc (Nat.le_refl _) _).alloc (by simp) _
set_option maxRecDepth 100000 in
set_option maxHeartbeats 2000000 in
theorem more_3 (p : Pk) (A : Option Addr) (n c : Nat) (w : World) (h : 0 ≤ p.id ∧ p.id ≤ 65535) :
    Calls Tryd.prog 20 #[.agg (PkC p A n c), .int .i64 3] w fun e w' => e = .returned (.tuple #[.agg (PkC (moreP p 3) A n c), .string ⟨(moreS 3).toArray⟩]) ∧ Below w.heap.size w w' := by
  have hK0 := (((Kp.nil w).new (PkC p A n c) 27).new (PkC zPk none 0 0) 27).swap
  simp only [World.size_alloc] at hK0
  have hw := inc16_w p.id h
  go_enter Tryd.func20, Tryd.ntmps20
  go_wp2_with fail
  refine ret_rowtmp 4 5 27 24 (w.heap.size + 1) (PkC (moreP p 3) A n c) (.string ⟨(moreS 3).toArray⟩) rfl (by kernel_rfl) (by kernel_rfl) rfl rfl (by go_simp; rfl) PkC_size (by omega) rfl ⟨rfl, ?_⟩
  exact ((Below.refl _ _).alloc (Nat.le_refl _) _).alloc (by simp) _
set_option maxRecDepth 100000 in
set_option maxHeartbeats 2000000 in
theorem more_4 (p : Pk) (A : Option Addr) (n c : Nat) (w : World) (h : p.topic.length ≤ 100000) :
    Calls Tryd.prog 20 #[.agg (PkC p A n c), .int .i64 4] w fun e w' => e = .returned (.tuple #[.agg (PkC (moreP p 4) A n c), .string ⟨(moreS 4).toArray⟩]) ∧ Below w.heap.size w w' := by
  have hK0 := (((Kp.nil w).new (PkC p A n c) 27).new (PkC zPk none 0 0) 27).swap
  simp only [World.size_alloc] at hK0
  have had := fun W => add_str (P := Tryd.prog) W p.topic [116] (by simp; omega)
  go_enter Tryd.func20, Tryd.ntmps20
  go_wp2_with fail
  refine ret_rowtmp 4 5 27 24 (w.heap.size + 1) (PkC (moreP p 4) A n c) (.string ⟨(moreS 4).toArray⟩) rfl (by kernel_rfl) (by kernel_rfl) rfl rfl (by go_simp; rfl) PkC_size (by omega) rfl ⟨rfl, ?_⟩
  exact ((Below.refl _ _).alloc (Nat.le_refl _) _).alloc (by simp) _
set_option maxRecDepth 100000 in
set_option maxHeartbeats 2000000 in
theorem more_5 (p : Pk) (A : Option Addr) (n c : Nat) (w : World) (h : p.load.length ≤ 100000) :
    Calls Tryd.prog 20 #[.agg (PkC p A n c), .int .i64 5] w fun e w' => e = .returned (.tuple #[.agg (PkC (moreP p 5) A n c), .string ⟨(moreS 5).toArray⟩]) ∧ Below w.heap.size w w' := by
  have hK0 := (((Kp.nil w).new (PkC p A n c) 27).new (PkC zPk none 0 0) 27).swap
  simp only [World.size_alloc] at hK0
  have had := fun W => add_str (P := Tryd.prog) W p.load [112] (by simp; omega)
  go_enter Tryd.func20, Tryd.ntmps20
  go_wp2_with fail
  refine ret_rowtmp 4 5 27 24 (w.heap.size + 1) (PkC (moreP p 5) A n c) (.string ⟨(moreS 5).toArray⟩) rfl (by kernel_rfl) (by kernel_rfl) rfl rfl (by go_simp; rfl) PkC_size (by omega) rfl ⟨rfl, ?_⟩
  exact ((Below.refl _ _).alloc (Nat.le_refl _) _).alloc (by simp) _
set_option maxRecDepth 100000 in
set_option maxHeartbeats 2000000 in
theorem more_6 (p : Pk) (A : Option Addr) (n c : Nat) (w : World) (h : 0 ≤ p.level ∧ p.level ≤ 255) :
    Calls Tryd.prog 20 #[.agg (PkC p A n c), .int .i64 6] w fun e w' => e = .returned (.tuple #[.agg (PkC (moreP p 6) A n c), .string ⟨(moreS 6).toArray⟩]) ∧ Below w.heap.size w w' := by
  have hK0 := (((Kp.nil w).new (PkC p A n c) 27).new (PkC zPk none 0 0) 27).swap
  simp only [World.size_alloc] at hK0
  have hw := inc8_w p.level h
  go_enter Tryd.func20, Tryd.ntmps20
  go_wp2_with fail
  refine ret_rowtmp 4 5 27 24 (w.heap.size + 1) (PkC (moreP p 6) A n c) (.string ⟨(moreS 6).toArray⟩) rfl (by kernel_rfl) (by kernel_rfl) rfl rfl (by go_simp; rfl) PkC_size (by omega) rfl ⟨rfl, ?_⟩
  exact ((Below.refl _ _).alloc (Nat.le_refl _) _).alloc (by simp) _
set_option maxRecDepth 100000 in
set_option maxHeartbeats 2000000 in
theorem more_7 (p : Pk) (A : Option Addr) (n c : Nat) (w : World)  :
    Calls Tryd.prog 20 #[.agg (PkC p A n c), .int .i64 7] w fun e w' => e = .returned (.tuple #[.agg (PkC (moreP p 7) A n c), .string ⟨(moreS 7).toArray⟩]) ∧ Below w.heap.size w w' := by
  have hK0 := (((Kp.nil w).new (PkC p A n c) 27).new (PkC zPk none 0 0) 27).swap
  simp only [World.size_alloc] at hK0
  go_enter Tryd.func20, Tryd.ntmps20
  go_wp2_with fail
  refine ret_rowtmp 4 5 27 24 (w.heap.size + 1) (PkC (moreP p 7) A n c) (.string ⟨(moreS 7).toArray⟩) rfl (by kernel_rfl) (by kernel_rfl) rfl rfl (by go_simp; rfl) PkC_size (by omega) rfl ⟨rfl, ?_⟩
  exact ((Below.refl _ _).alloc (Nat.le_refl _) _).alloc (by simp) _
set_option maxRecDepth 100000 in
set_option maxHeartbeats 2000000 in
theorem more_8 (p : Pk) (A : Option Addr) (n c : Nat) (w : World) (h : 0 ≤ p.keep ∧ p.keep ≤ 65535) :
    Calls Tryd.prog 20 #[.agg (PkC p A n c), .int .i64 8] w fun e w' => e = .returned (.tuple #[.agg (PkC (moreP p 8) A n c), .string ⟨(moreS 8).toArray⟩]) ∧ Below w.heap.size w w' := by
  have hK0 := (((Kp.nil w).new (PkC p A n c) 27).new (PkC zPk none 0 0) 27).swap
  simp only [World.size_alloc] at hK0
  have hw := inc16_w p.keep h
  go_enter Tryd.func20, Tryd.ntmps20
  go_wp2_with fail
  refine ret_rowtmp 4 5 27 24 (w.heap.size + 1) (PkC (moreP p 8) A n c) (.string ⟨(moreS 8).toArray⟩) rfl (by kernel_rfl) (by kernel_rfl) rfl rfl (by go_simp; rfl) PkC_size (by omega) rfl ⟨rfl, ?_⟩
  exact ((Below.refl _ _).alloc (Nat.le_refl _) _).alloc (by simp) _
set_option maxRecDepth 100000 in
set_option maxHeartbeats 2000000 in
theorem more_9 (p : Pk) (A : Option Addr) (n c : Nat) (w : World) (h : p.client.length ≤ 100000) :
    Calls Tryd.prog 20 #[.agg (PkC p A n c), .int .i64 9] w fun e w' => e = .returned (.tuple #[.agg (PkC (moreP p 9) A n c), .string ⟨(moreS 9).toArray⟩]) ∧ Below w.heap.size w w' := by
  have hK0 := (((Kp.nil w).new (PkC p A n c) 27).new (PkC zPk none 0 0) 27).swap
  simp only [World.size_alloc] at hK0
  have had := fun W => add_str (P := Tryd.prog) W p.client [99] (by simp; omega)
  go_enter Tryd.func20, Tryd.ntmps20
  go_wp2_with fail
  refine ret_rowtmp 4 5 27 24 (w.heap.size + 1) (PkC (moreP p 9) A n c) (.string ⟨(moreS 9).toArray⟩) rfl (by kernel_rfl) (by kernel_rfl) rfl rfl (by go_simp; rfl) PkC_size (by omega) rfl ⟨rfl, ?_⟩
  exact ((Below.refl _ _).alloc (Nat.le_refl _) _).alloc (by simp) _
set_option maxRecDepth 100000 in
set_option maxHeartbeats 2000000 in
theorem more_10 (p : Pk) (A : Option Addr) (n c : Nat) (w : World)  :
    Calls Tryd.prog 20 #[.agg (PkC p A n c), .int .i64 10] w fun e w' => e = .returned (.tuple #[.agg (PkC (moreP p 10) A n c), .string ⟨(moreS 10).toArray⟩]) ∧ Below w.heap.size w w' := by
  have hK0 := (((Kp.nil w).new (PkC p A n c) 27).new (PkC zPk none 0 0) 27).swap
  simp only [World.size_alloc] at hK0
  go_enter Tryd.func20, Tryd.ntmps20
  go_wp2_with fail
  refine ret_rowtmp 4 5 27 24 (w.heap.size + 1) (PkC (moreP p 10) A n c) (.string ⟨(moreS 10).toArray⟩) rfl (by kernel_rfl) (by kernel_rfl) rfl rfl (by go_simp; rfl) PkC_size (by omega) rfl ⟨rfl, ?_⟩
  exact ((Below.refl _ _).alloc (Nat.le_refl _) _).alloc (by simp) _
set_option maxRecDepth 100000 in
set_option maxHeartbeats 2000000 in
theorem more_11 (p : Pk) (A : Option Addr) (n c : Nat) (w : World)  :
    Calls Tryd.prog 20 #[.agg (PkC p A n c), .int .i64 11] w fun e w' => e = .returned (.tuple #[.agg (PkC (moreP p 11) A n c), .string ⟨(moreS 11).toArray⟩]) ∧ Below w.heap.size w w' := by
  have hK0 := (((Kp.nil w).new (PkC p A n c) 27).new (PkC zPk none 0 0) 27).swap
  simp only [World.size_alloc] at hK0
  go_enter Tryd.func20, Tryd.ntmps20
  go_wp2_with fail
  refine ret_rowtmp 4 5 27 24 (w.heap.size + 1) (PkC (moreP p 11) A n c) (.string ⟨(moreS 11).toArray⟩) rfl (by kernel_rfl) (by kernel_rfl) rfl rfl (by go_simp; rfl) PkC_size (by omega) rfl ⟨rfl, ?_⟩
  exact ((Below.refl _ _).alloc (Nat.le_refl _) _).alloc (by simp) _
set_option maxRecDepth 100000 in
set_option maxHeartbeats 2000000 in
theorem more_12 (p : Pk) (A : Option Addr) (n c : Nat) (w : World) (h : p.user.length ≤ 100000) :
    Calls Tryd.prog 20 #[.agg (PkC p A n c), .int .i64 12] w fun e w' => e = .returned (.tuple #[.agg (PkC (moreP p 12) A n c), .string ⟨(moreS 12).toArray⟩]) ∧ Below w.heap.size w w' := by
  have hK0 := (((Kp.nil w).new (PkC p A n c) 27).new (PkC zPk none 0 0) 27).swap
  simp only [World.size_alloc] at hK0
  have had := fun W => add_str (P := Tryd.prog) W p.user [117] (by simp; omega)
  go_enter Tryd.func20, Tryd.ntmps20
  go_wp2_with fail
  refine ret_rowtmp 4 5 27 24 (w.heap.size + 1) (PkC (moreP p 12) A n c) (.string ⟨(moreS 12).toArray⟩) rfl (by kernel_rfl) (by kernel_rfl) rfl rfl (by go_simp; rfl) PkC_size (by omega) rfl ⟨rfl, ?_⟩
  exact ((Below.refl _ _).alloc (Nat.le_refl _) _).alloc (by simp) _
set_option maxRecDepth 100000 in
set_option maxHeartbeats 2000000 in
theorem more_13 (p : Pk) (A : Option Addr) (n c : Nat) (w : World)  :
    Calls Tryd.prog 20 #[.agg (PkC p A n c), .int .i64 13] w fun e w' => e = .returned (.tuple #[.agg (PkC (moreP p 13) A n c), .string ⟨(moreS 13).toArray⟩]) ∧ Below w.heap.size w w' := by
  have hK0 := (((Kp.nil w).new (PkC p A n c) 27).new (PkC zPk none 0 0) 27).swap
  simp only [World.size_alloc] at hK0
  go_enter Tryd.func20, Tryd.ntmps20
  go_wp2_with fail
  refine ret_rowtmp 4 5 27 24 (w.heap.size + 1) (PkC (moreP p 13) A n c) (.string ⟨(moreS 13).toArray⟩) rfl (by kernel_rfl) (by kernel_rfl) rfl rfl (by go_simp; rfl) PkC_size (by omega) rfl ⟨rfl, ?_⟩
  exact ((Below.refl _ _).alloc (Nat.le_refl _) _).alloc (by simp) _
set_option maxRecDepth 100000 in
set_option maxHeartbeats 2000000 in
theorem more_14 (p : Pk) (A : Option Addr) (n c : Nat) (w : World) (h : p.pass.length ≤ 100000) :
    Calls Tryd.prog 20 #[.agg (PkC p A n c), .int .i64 14] w fun e w' => e = .returned (.tuple #[.agg (PkC (moreP p 14) A n c), .string ⟨(moreS 14).toArray⟩]) ∧ Below w.heap.size w w' := by
  have hK0 := (((Kp.nil w).new (PkC p A n c) 27).new (PkC zPk none 0 0) 27).swap
  simp only [World.size_alloc] at hK0
  have had := fun W => add_str (P := Tryd.prog) W p.pass [115] (by simp; omega)
  go_enter Tryd.func20, Tryd.ntmps20
  go_wp2_with fail
  refine ret_rowtmp 4 5 27 24 (w.heap.size + 1) (PkC (moreP p 14) A n c) (.string ⟨(moreS 14).toArray⟩) rfl (by kernel_rfl) (by kernel_rfl) rfl rfl (by go_simp; rfl) PkC_size (by omega) rfl ⟨rfl, ?_⟩
  exact ((Below.refl _ _).alloc (Nat.le_refl _) _).alloc (by simp) _
set_option maxRecDepth 100000 in
set_option maxHeartbeats 2000000 in
theorem more_15 (p : Pk) (A : Option Addr) (n c : Nat) (w : World)  :
    Calls Tryd.prog 20 #[.agg (PkC p A n c), .int .i64 15] w fun e w' => e = .returned (.tuple #[.agg (PkC (moreP p 15) A n c), .string ⟨(moreS 15).toArray⟩]) ∧ Below w.heap.size w w' := by
  have hK0 := (((Kp.nil w).new (PkC p A n c) 27).new (PkC zPk none 0 0) 27).swap
  simp only [World.size_alloc] at hK0
  go_enter Tryd.func20, Tryd.ntmps20
  go_wp2_with fail
  refine ret_rowtmp 4 5 27 24 (w.heap.size + 1) (PkC (moreP p 15) A n c) (.string ⟨(moreS 15).toArray⟩) rfl (by kernel_rfl) (by kernel_rfl) rfl rfl (by go_simp; rfl) PkC_size (by omega) rfl ⟨rfl, ?_⟩
  exact ((Below.refl _ _).alloc (Nat.le_refl _) _).alloc (by simp) _
set_option maxRecDepth 100000 in
set_option maxHeartbeats 2000000 in
theorem more_16 (p : Pk) (A : Option Addr) (n c : Nat) (w : World) (h : 0 ≤ p.code ∧ p.code ≤ 255) :
    Calls Tryd.prog 20 #[.agg (PkC p A n c), .int .i64 16] w fun e w' => e = .returned (.tuple #[.agg (PkC (moreP p 16) A n c), .string ⟨(moreS 16).toArray⟩]) ∧ Below w.heap.size w w' := by
  have hK0 := (((Kp.nil w).new (PkC p A n c) 27).new (PkC zPk none 0 0) 27).swap
  simp only [World.size_alloc] at hK0
  have hw := inc8_w p.code h
  go_enter Tryd.func20, Tryd.ntmps20
  go_wp2_with fail
  refine ret_rowtmp 4 5 27 24 (w.heap.size + 1) (PkC (moreP p 16) A n c) (.string ⟨(moreS 16).toArray⟩) rfl (by kernel_rfl) (by kernel_rfl) rfl rfl (by go_simp; rfl) PkC_size (by omega) rfl ⟨rfl, ?_⟩
  exact ((Below.refl _ _).alloc (Nat.le_refl _) _).alloc (by simp) _
set_option maxRecDepth 100000 in
set_option maxHeartbeats 2000000 in
theorem more_17 (p : Pk) (A : Option Addr) (n c : Nat) (w : World) (h : p.codes.length ≤ 100000) :
    Calls Tryd.prog 20 #[.agg (PkC p A n c), .int .i64 17] w fun e w' => e = .returned (.tuple #[.agg (PkC (moreP p 17) A n c), .string ⟨(moreS 17).toArray⟩]) ∧ Below w.heap.size w w' := by
  have hK0 := (((Kp.nil w).new (PkC p A n c) 27).new (PkC zPk none 0 0) 27).swap
  simp only [World.size_alloc] at hK0
  have had := fun W => add_str (P := Tryd.prog) W p.codes [0] (by simp; omega)
  go_enter Tryd.func20, Tryd.ntmps20
  go_wp2_with fail
  refine ret_rowtmp 4 5 27 24 (w.heap.size + 1) (PkC (moreP p 17) A n c) (.string ⟨(moreS 17).toArray⟩) rfl (by kernel_rfl) (by kernel_rfl) rfl rfl (by go_simp; rfl) PkC_size (by omega) rfl ⟨rfl, ?_⟩
  exact ((Below.refl _ _).alloc (Nat.le_refl _) _).alloc (by simp) _
end lawPacketFields
end Go.Proofs.YtbbmfhelncedcaaDoor
