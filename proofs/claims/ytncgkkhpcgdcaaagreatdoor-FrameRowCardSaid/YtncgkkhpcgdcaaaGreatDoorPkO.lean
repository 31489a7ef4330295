/-
  packet.Copy: its list is its own.
-/
import Derived.Test.YtncgkkhpcgdcaaaGreatDoorPkW
set_option linter.unusedSimpArgs false
set_option linter.unusedVariables false
namespace Go.Proofs.YtncgkkhpcgdcaaaGreatDoor
open Go.RowKit
theorem copyOwn_any (p : Pk) (A : Option Addr) (n c : Nat) (xs : List (List UInt8 × Int)) (w : World) (hx : Subs w A n xs) (hc : A = none → c = 0) (hn : n ≤ 1000000) :
    Calls Tryz.prog 17 #[.agg (PkC p A n c)] w fun e w' => ∃ A' c', e = .returned (.agg (PkC p A' n c')) ∧ Below w.heap.size w w' ∧ NewRow w' w.heap.size A' n c' xs := by
  have hK0 := (((Kp.nil w).new (PkC p A n c) 36).new (PkC zPk none 0 0) 36).swap
  simp only [World.size_alloc] at hK0
  obtain rfl := hx.len
  have HX := Lib.hid hx
  have HC := Lib.hid hc
  clear hx hc
  have hb2 : Below w.heap.size w ((w.alloc (.cells (PkC p A xs.length c) 36)).alloc (.cells (PkC zPk none 0 0) 36)) := ((Below.refl _ _).alloc (Nat.le_refl _) _).alloc (by simp) _
  go_enter Tryz.func17, Tryz.ntmps17
  go_wp2_with (at_builtin; refine wpList_sapp rfl _ _ rfl rfl (OwnS.nil (Below.refl _ _) (Nat.le_refl _)) A xs.length c xs rfl (HX.out.below hb2) HC.out (by simp; omega) ?_; intro v1 w1 hown hgr; have hP := hK0.more (grown_below hgr rfl); clear hgr; obtain ⟨A', c', rfl, hS, hc', hlo⟩ := subs_of_own hown.1; rw [List.nil_append] at hS hown ⊢; have HOWN : Hid (NewRow w1 (w.heap.size + 2) A' xs.length c' xs) := (by have hq := hown.1; simp only [World.size_alloc] at hq; exact hq); clear hown hS hc' hK0 hlo; have p1r := hP.row; have p1f := hP.free; have p1c := hP.cell; have p1z := hP.froz; have p1l := hP.lt; have p2r := hP.tail.row; have p2f := hP.tail.free; have p2c := hP.tail.cell; have p2z := hP.tail.froz; have p2l := hP.tail.lt; have hbp := hP.below)
  refine ret_pk 2 _ p A' xs.length c' rfl rfl (by go_simp) rfl ⟨A', c', rfl, ?_, ?_⟩
  · repeat (first | exact hbp | refine below_setRow ?_ (by omega) _)
  · exact ((HOWN.out.set (by omega) _).set (by omega) _).base (by omega)
end Go.Proofs.YtncgkkhpcgdcaaaGreatDoor
