/-
  packet: what takes a packet apart.
-/
import Derived.Test.YtncgkkhpcgdcaaaDoorPkLib
import Derived.Test.YtncgkkhpcgdcaaaDoorPkSpec
set_option linter.unusedSimpArgs false
set_option linter.unusedVariables false
namespace Go.Proofs.YtncgkkhpcgdcaaaDoor
open Go.RowKit

theorem ret_tk {fn : Func} {R : Ending → World → Prop} {a : Act} {w : World} (s : Tmp) (g : Nat) (r r' : Bool) (b b' : Int) (p p' : Pk) (A : Option Addr) (n c : Nat) (hres : fn.results = #[.cell s 63])
    (hs : a.tmps.getD s undef = .pointer (some ⟨g, 0, none⟩)) (hrow : rowAt w g = TkC r b p A n c) (hd : a.defers = []) (e1 : r = r') (e2 : b = b') (e3 : p = p') (hR : R (.returned (.agg (TkC r' b' p' A n c))) w) : bodyPost Tryd.prog fn R .ret a w := by
  subst e1 e2 e3
  exact ret_row s _ 26 g _ hres (by kernel_rfl) (by kernel_rfl) hs hrow TkC_size (by omega) hd hR
theorem scalars_any (p : Pk) (A : Option Addr) (n c : Nat) (w : World) :
    Calls Tryd.prog 38 #[.agg (PkC p A n c)] w fun e w' => e = .returned (.agg (ScC p)) ∧ Below w.heap.size w w' := by
  go_enter Tryd.func38, Tryd.ntmps38
  go_wp2_with (refine wpList_buildE rfl _ _ rfl (ScC p) (by kernel_rfl) ?_)
  exact ret_row 2 77 23 _ _ rfl (by kernel_rfl) (by kernel_rfl) rfl (by go_simp) (ScC_size) (by omega) rfl ⟨rfl, ((Below.refl _ _).alloc (Nat.le_refl _) _).alloc (by simp) _⟩
theorem isZero_any (p : Pk) (A : Option Addr) (n c : Nat) (w : World) :
    Calls Tryd.prog 25 #[.agg (PkC p A n c)] w fun e w' => e = .returned (.bool (eqPk p zPk && n == 0)) ∧ Below w.heap.size w w' := by
  have hb : Below w.heap.size w w := Below.refl _ _
  cases hz : eqPk p zPk with
  | false =>
    go_enter Tryd.func25, Tryd.ntmps25
    go_wp2_with fail
    refine (scalars_any _ _ _ _ _).mono ?_
    rintro e w1 ⟨rfl, hb1⟩
    replace hb := below_more (below_alloc hb _) hb1
    clear hb1
    go_wp2_with fail
    go_ret
    exact ⟨rfl, hb⟩
  | true =>
    go_enter Tryd.func25, Tryd.ntmps25
    go_wp2_with fail
    refine (scalars_any p A n c _).mono ?_
    rintro e w1 ⟨rfl, hb1⟩
    have hcell : w1.cell? ⟨w.heap.size, 22, none⟩ = some (.slice A n c) := by
      rw [hb1.cell (p := ⟨w.heap.size, 22, none⟩) (by simp), World.cell?_alloc_new]; exact PkC_22
    replace hb := below_more (below_alloc hb _) hb1
    clear hb1
    go_wp2_with fail
    go_ret
    exact ⟨ret_bool (by rw [Bool.true_and, Bool.eq_iff_iff]; simp), hb⟩
theorem fieldLen_any (l : List UInt8) (w : World) (hl : l.length ≤ 1000000000) :
    Calls Tryd.prog 48 #[.string ⟨l.toArray⟩] w fun e w' => e = .returned (.int .i64 (fldB l)) ∧ w = w' := by
  go_enter Tryd.func48, Tryd.ntmps48
  go_wp2_with fail
  go_ret
  exact ⟨ret_int (by unfold fldB; omega), rfl⟩
set_option maxHeartbeats 400000 in
theorem takeId_any (p : Pk) (A : Option Addr) (n c : Nat) (w : World) :
    Calls Tryd.prog 35 #[.agg (PkC p A n c)] w fun e w' => e = .returned (.agg (TkC (decide (0 < p.id)) 2 (p.s_id 0) A n c)) ∧ Below w.heap.size w w' := by
  go_enter Tryd.func35, Tryd.ntmps35
  go_wp2
  exact ret_row 2 63 26 _ _ rfl (by kernel_rfl) (by kernel_rfl) rfl (by go_simp) (TkC_size) (by omega) rfl ⟨rfl, (((Below.refl _ _).alloc (Nat.le_refl _) _).alloc (by simp) _).alloc (by simp; omega) _⟩
theorem takeConnack_any (p : Pk) (A : Option Addr) (n c : Nat) (w : World) :
    Calls Tryd.prog 33 #[.agg (PkC p A n c)] w fun e w' => e = .returned (.agg (TkC (ackR p) 2 (ackL p) A n c)) ∧ Below w.heap.size w w' := by
  go_enter Tryd.func33, Tryd.ntmps33
  go_wp2
  all_goals
    refine ret_tk 2 _ _ (ackR p) _ 2 _ (ackL p) A n c rfl rfl (by go_simp; rfl) rfl ?_ rfl rfl ⟨rfl, (((Below.refl _ _).alloc (Nat.le_refl _) _).alloc (by simp) _).alloc (by simp; omega) _⟩
    unfold ackR
    simp [*]
    try (intro h; omega)
end Go.Proofs.YtncgkkhpcgdcaaaDoor
