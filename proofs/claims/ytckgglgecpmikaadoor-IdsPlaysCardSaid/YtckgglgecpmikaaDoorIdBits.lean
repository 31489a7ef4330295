/-
  ids: the lowest bit of a word, where an id's bit stands.
-/
import Derived.Test.YtckgglgecpmikaaDoorIdMath
import Derived.Shelf.Spec.TrailingZeros
set_option linter.unusedSimpArgs false
set_option linter.unusedVariables false
namespace Go.Proofs.YtckgglgecpmikaaDoor
section
open Go.RowKit
def oIdBits1 : Oper := ({ dst := some 8, op := Go.Op.move (Go.Operand.tmp 4), type := 3, pos := "ids.go:102", after := #[], guard := none } : Oper)
def oIdBits2 : Oper := ({ dst := some 9, op := Go.Op.binOp Go.BinOp.quo 3 (Go.Operand.tmp 8) (Go.Operand.const (Go.Value.int Go.IntKind.i64 64)) 3, type := 3, pos := "ids.go:102", after := #[{ on := 0, ground := Go.Ground.data }], guard := none } : Oper)
def oIdBits3 : Oper := ({ dst := some 10, op := Go.Op.move (Go.Operand.tmp 4), type := 3, pos := "ids.go:102", after := #[{ on := 5, ground := Go.Ground.gcOnly Go.Departure.lateStores }], guard := none } : Oper)
def oIdBits4 : Oper := ({ dst := some 11, op := Go.Op.binOp Go.BinOp.rem 3 (Go.Operand.tmp 10) (Go.Operand.const (Go.Value.int Go.IntKind.i64 64)) 3, type := 3, pos := "ids.go:102", after := #[{ on := 2, ground := Go.Ground.data }, { on := 5, ground := Go.Ground.gcOnly Go.Departure.lateStores }], guard := none } : Oper)
def oIdBits5 : Oper := ({ dst := some 12, op := Go.Op.binOp Go.BinOp.shl 53 (Go.Operand.const (Go.Value.int Go.IntKind.u64 1)) (Go.Operand.tmp 11) 3, type := 53, pos := "ids.go:102", after := #[{ on := 3, ground := Go.Ground.data }, { on := 5, ground := Go.Ground.gcOnly Go.Departure.lateStores }], guard := none } : Oper)
def oIdBits6 : Oper := ({ dst := some 2, op := Go.Op.assign (Go.Operand.tmp 9), type := 3, pos := "ids.go:102", after := #[{ on := 1, ground := Go.Ground.data }, { on := 0, ground := Go.Ground.phase }, { on := 1, ground := Go.Ground.phase }, { on := 2, ground := Go.Ground.textOnly Go.Departure.lateStores }, { on := 3, ground := Go.Ground.textOnly Go.Departure.lateStores }, { on := 4, ground := Go.Ground.textOnly Go.Departure.lateStores }], guard := none } : Oper)
def oIdBits7 : Oper := ({ dst := some 3, op := Go.Op.assign (Go.Operand.tmp 12), type := 53, pos := "ids.go:102", after := #[{ on := 4, ground := Go.Ground.data }, { on := 5, ground := Go.Ground.chain }, { on := 0, ground := Go.Ground.phase }, { on := 1, ground := Go.Ground.phase }, { on := 2, ground := Go.Ground.phase }, { on := 3, ground := Go.Ground.phase }, { on := 4, ground := Go.Ground.phase }, { on := 5, ground := Go.Ground.phase }], guard := none } : Oper)
end
open Go.RowKit

/-- The library's table in its variable. -/
def GloT (w : World) : Prop := TabAt 0 Lib.deBruijn64tab w
theorem GloT.below {w w' : World} (h : GloT w) (hb : Below w.heap.size w w') : GloT w' := fun j hj => (hb.cell (World.block_lt_of_cell? _ _ (h j hj))).trans (h j hj)
theorem tz_core (x k idx : Nat) (w : World) (hx0 : ((x : Int) == 0) = false)
    (key : IntKind.u64.wrap (bits BinOp.and IntKind.u64 (x : Int) (IntKind.u64.wrap (-(x : Int))) * 285870213051353865) / 288230376151711744 = (idx : Int))
    (hi : idx < 64) (hk : k < 64) (hcell : w.cell? ⟨0, idx, none⟩ = some (.int .u8 k)) :
    Calls Tryd.prog 29 #[.int .u64 x] w fun e w' => e = .returned (.int .i64 k) ∧ w = w' := by
  go_enter Tryd.func29, Tryd.ntmps29
  go_wp2_with (simp only [key])
  go_ret
  exact ⟨rfl, rfl⟩
theorem tz_eq (x c : Nat) (w : World) (hG : GloT w) (h0 : x ≠ 0) (hx : x < 18446744073709551616) (hc : Lib.ctz 64 x = c) :
    Calls Tryd.prog 29 #[.int .u64 x] w fun e w' => e = .returned (.int .i64 (c : Nat)) ∧ w = w' := by
  subst hc
  obtain ⟨hlow, hk⟩ := Lib.lowest_bit 64 x h0 hx
  obtain ⟨hi, htab⟩ := Lib.deBruijn64_at _ hk
  have hcell := hG _ hi
  rw [htab] at hcell
  exact tz_core x _ _ w (by simp; omega) (tz64_key x _ hx h0 hlow) hi hk hcell
theorem low_eq (k x c : Nat) (w : World) (hG : GloT w) (h0 : x ≠ 0) (hx : x < 18446744073709551616) (hc : Lib.ctz 64 x = c) (hb : 64 * k + c + 1 ≤ 65535) :
    Calls Tryd.prog 28 #[.int .i64 (k : Nat), .int .u64 x] w fun e w' => e = .returned (.int .u16 ((64 * k + c + 1 : Nat) : Int)) ∧ w = w' := by
  have HG := Lib.hid hG
  have HC := Lib.hid hc
  clear hG hc
  go_enter Tryd.func28, Tryd.ntmps28
  go_wp2_with fail
  refine (tz_eq x c w HG.out h0 hx HC.out).mono ?_
  rintro e w1 ⟨rfl, rfl⟩
  go_wp2_with fail
  go_ret
  exact ⟨by show Ending.returned (.int .u16 ((k : Int) * 64 + c + 1)) = _; refine ret_int ?_; omega, rfl⟩
theorem place_any (id p k b m : Nat) (w : World) (hid : id ≤ 65535) (hp : (id + 65535) % 65536 = p) (hk : p / 64 = k) (hb : p % 64 = b) (hm : 2 ^ b = m) :
    Calls Tryd.prog 24 #[.int .u16 (id : Nat)] w fun e w' => e = .returned (.tuple #[.int .i64 (k : Nat), .int .u64 (m : Nat)]) ∧ Below w.heap.size w w' := by
  have hv : wrap64 (IntKind.u16.wrap ((id : Int) - 1)) = (p : Int) := by simp [IntKind.wrap, IntKind.signed, IntKind.bits, wrap64]; omega
  have hq : IntKind.i64.wrap ((p : Int) / 64) = (k : Int) := by simp [IntKind.wrap, IntKind.signed, IntKind.bits]; omega
  have hr : (p : Int).tmod 64 = (b : Int) := by rw [Int.tmod_eq_emod_of_nonneg (by omega)]; omega
  have hb64 : (b : Int) < 64 := by omega
  have hs : IntKind.u64.wrap ((2 : Int) ^ b) = (m : Int) := by
    have h1 : ((2 : Int) ^ b) = ((2 ^ b : Nat) : Int) := by simp
    have h2 : 2 ^ b < 18446744073709551616 := Nat.pow_lt_pow_right (m := b) (n := 64) (by decide) (by omega)
    rw [h1, IntKind.wrap_u64, hm]
    omega
  go_enter Tryd.func24, Tryd.ntmps24
  go_wp2_with fail
  refine wp_region_held_drew (S := (fun w' => Below w.heap.size w w')) (by kernel_rfl) ((Below.refl _ _).drew) (fun hHeld => ?_)
  refine tkY 0 oIdBits1 ?vv1_1_0 rfl (by kernel_rfl) (by kernel_rfl) (by kernel_rfl) (fun _ _ _ h => h) (by rfl) ?hy1_1_0 (by assumption) ?rest1_1_0
  case hy1_1_0 => (intro w hSw; unfold oIdBits1; (try dsimp only at hSw); (try go_split_ands); go_simp; all_goals with_reducible rfl)
  try simp only [oIdBits1, Act.put, sA, sB, sC]
  refine tkY 1 oIdBits2 ?vv1_1_1 rfl (by kernel_rfl) (by kernel_rfl) (by kernel_rfl) (fun _ _ _ h => h) (by rfl) ?hy1_1_1 (by assumption) ?rest1_1_1
  case hy1_1_1 => (intro w hSw; unfold oIdBits2; (try dsimp only at hSw); (try go_split_ands); go_simp; all_goals with_reducible rfl)
  try simp only [oIdBits2, Act.put, sA, sB, sC]
  refine tkY 2 oIdBits3 ?vv1_1_2 rfl (by kernel_rfl) (by kernel_rfl) (by kernel_rfl) (fun _ _ _ h => h) (by rfl) ?hy1_1_2 (by assumption) ?rest1_1_2
  case hy1_1_2 => (intro w hSw; unfold oIdBits3; (try dsimp only at hSw); (try go_split_ands); go_simp; all_goals with_reducible rfl)
  try simp only [oIdBits3, Act.put, sA, sB, sC]
  refine tkY 3 oIdBits4 ?vv1_1_3 rfl (by kernel_rfl) (by kernel_rfl) (by kernel_rfl) (fun _ _ _ h => h) (by rfl) ?hy1_1_3 (by assumption) ?rest1_1_3
  case hy1_1_3 => (intro w hSw; unfold oIdBits4; (try dsimp only at hSw); (try go_split_ands); go_simp; all_goals with_reducible rfl)
  try simp only [oIdBits4, Act.put, sA, sB, sC]
  refine tkY 4 oIdBits5 ?vv1_1_4 rfl (by kernel_rfl) (by kernel_rfl) (by kernel_rfl) (fun _ _ _ h => h) (by rfl) ?hy1_1_4 (by assumption) ?rest1_1_4
  case hy1_1_4 => (intro w hSw; unfold oIdBits5; (try dsimp only at hSw); (try go_split_ands); go_simp; all_goals with_reducible rfl)
  try simp only [oIdBits5, Act.put, sA, sB, sC]
  refine tkY 5 oIdBits6 ?vv1_1_5 rfl (by kernel_rfl) (by kernel_rfl) (by kernel_rfl) (fun _ _ _ h => h) (by rfl) ?hy1_1_5 (by assumption) ?rest1_1_5
  case hy1_1_5 => (intro w hSw; unfold oIdBits6; (try dsimp only at hSw); (try go_split_ands); go_simp; all_goals with_reducible rfl)
  try simp only [oIdBits6, Act.put, sA, sB, sC]
  refine tkY 6 oIdBits7 ?vv1_1_6 rfl (by kernel_rfl) (by kernel_rfl) (by kernel_rfl) (fun _ _ _ h => h) (by rfl) ?hy1_1_6 (by assumption) ?rest1_1_6
  case hy1_1_6 => (intro w hSw; unfold oIdBits7; (try dsimp only at hSw); (try go_split_ands); go_simp; all_goals with_reducible rfl)
  try simp only [oIdBits7, Act.put, sA, sB, sC]
  refine wpAnyH_done (by kernel_rfl) ?_ _
  go_wp2_with fail
  go_ret2
  exact ⟨rfl, hHeld⟩
end Go.Proofs.YtckgglgecpmikaaDoor
