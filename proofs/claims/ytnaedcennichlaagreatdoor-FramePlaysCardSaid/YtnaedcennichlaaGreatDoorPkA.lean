/-
  packet: what takes a packet apart.
-/
import Derived.Test.YtnaedcennichlaaGreatDoorPkLib
import Derived.Test.YtnaedcennichlaaGreatDoorMa
set_option linter.unusedSimpArgs false
set_option linter.unusedVariables false
namespace Go.Proofs.YtnaedcennichlaaGreatDoor
open Go.RowKit

theorem ret_tk {fn : Func} {R : Ending → World → Prop} {a : Act} {w : World} (s : Tmp) (g : Nat) (r r' : Bool) (b b' : Int) (p p' : Pk) (A : Option Addr) (n c : Nat) (hres : fn.results = #[.cell s 109])
    (hs : a.tmps.getD s undef = .pointer (some ⟨g, 0, none⟩)) (hrow : rowAt w g = TkC r b p A n c) (hd : a.defers = []) (e1 : r = r') (e2 : b = b') (e3 : p = p') (hR : R (.returned (.agg (TkC r' b' p' A n c))) w) : bodyPost Tryz.prog fn R .ret a w := by
  subst e1 e2 e3
  exact ret_row s _ 26 g _ hres (by kernel_rfl) (by kernel_rfl) hs hrow TkC_size (by omega) hd hR
theorem scalars_any (p : Pk) (A : Option Addr) (n c : Nat) (w : World) :
    Calls Tryz.prog 91 #[.agg (PkC p A n c)] w fun e w' => e = .returned (.agg (ScC p)) ∧ Below w.heap.size w w' := by
  go_enter Tryz.func91, Tryz.ntmps91
  go_wp2_with (refine wpList_buildE rfl _ _ rfl (ScC p) (by kernel_rfl) ?_)
  exact ret_row 2 116 23 _ _ rfl (by kernel_rfl) (by kernel_rfl) rfl (by go_simp) (ScC_size) (by omega) rfl ⟨rfl, ((Below.refl _ _).alloc (Nat.le_refl _) _).alloc (by simp) _⟩
theorem isZero_any (p : Pk) (A : Option Addr) (n c : Nat) (w : World) :
    Calls Tryz.prog 80 #[.agg (PkC p A n c)] w fun e w' => e = .returned (.bool (eqPk p zPk && n == 0)) ∧ Below w.heap.size w w' := by
  have hb : Below w.heap.size w w := Below.refl _ _
  cases hz : eqPk p zPk with
  | false =>
    go_enter Tryz.func80, Tryz.ntmps80
    go_wp2_with fail
    refine (scalars_any _ _ _ _ _).mono ?_
    rintro e w1 ⟨rfl, hb1⟩
    replace hb := below_more (below_alloc hb _) hb1
    clear hb1
    go_wp2_with fail
    go_ret
    exact ⟨rfl, hb⟩
  | true =>
    go_enter Tryz.func80, Tryz.ntmps80
    go_wp2_with fail
    refine (scalars_any p A n c _).mono ?_
    rintro e w1 ⟨rfl, hb1⟩
    have hcell : w1.cell? ⟨w.heap.size, 22, none⟩ = some (.slice A n c) := by
      rw [hb1.cell (p := ⟨w.heap.size, 22, none⟩) (by simp), World.cell?_alloc_new]; exact PkC_22
    replace hb := below_more (below_alloc hb _) hb1
    clear hb1
    go_wp2_with fail
    go_ret
    exact ⟨ret_bool (by rw [Bool.true_and, Bool.eq_iff_iff]; simp), hb⟩
theorem fieldLen_any (l : List UInt8) (w : World) (hl : l.length ≤ 1000000000) :
    Calls Tryz.prog 97 #[.string ⟨l.toArray⟩] w fun e w' => e = .returned (.int .i64 (fldB l)) ∧ w = w' := by
  go_enter Tryz.func97, Tryz.ntmps97
  go_wp2_with fail
  go_ret
  exact ⟨ret_int (by unfold fldB; omega), rfl⟩
set_option maxHeartbeats 400000 in
theorem takeId_any (p : Pk) (A : Option Addr) (n c : Nat) (w : World) :
    Calls Tryz.prog 88 #[.agg (PkC p A n c)] w fun e w' => e = .returned (.agg (TkC (decide (0 < p.id)) 2 (p.s_id 0) A n c)) ∧ Below w.heap.size w w' := by
  go_enter Tryz.func88, Tryz.ntmps88
  go_wp2
  exact ret_row 2 109 26 _ _ rfl (by kernel_rfl) (by kernel_rfl) rfl (by go_simp) (TkC_size) (by omega) rfl ⟨rfl, (((Below.refl _ _).alloc (Nat.le_refl _) _).alloc (by simp) _).alloc (by simp; omega) _⟩
theorem takeConnack_any (p : Pk) (A : Option Addr) (n c : Nat) (w : World) :
    Calls Tryz.prog 86 #[.agg (PkC p A n c)] w fun e w' => e = .returned (.agg (TkC (ackR p) 2 (ackL p) A n c)) ∧ Below w.heap.size w w' := by
  go_enter Tryz.func86, Tryz.ntmps86
  go_wp2
  all_goals
    refine ret_tk 2 _ _ (ackR p) _ 2 _ (ackL p) A n c rfl rfl (by go_simp; rfl) rfl ?_ rfl rfl ⟨rfl, (((Below.refl _ _).alloc (Nat.le_refl _) _).alloc (by simp) _).alloc (by simp; omega) _⟩
    unfold ackR
    simp [*]
    try (intro h; omega)
end Go.Proofs.YtnaedcennichlaaGreatDoor
