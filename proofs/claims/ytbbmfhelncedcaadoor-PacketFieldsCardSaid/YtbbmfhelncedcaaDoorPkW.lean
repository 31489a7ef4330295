/-
  The document's own Copy.
-/
import Derived.Test.YtbbmfhelncedcaaDoorPkI
set_option linter.unusedSimpArgs false
set_option linter.unusedVariables false
namespace Go.Proofs.YtbbmfhelncedcaaDoor
open Go.RowKit
/-- The call's own row of subs, from the block B on. -/
def NewRow (w : World) (B : Nat) (A : Option Addr) (n c : Nat) (xs : List (List UInt8 × Int)) : Prop := w.ownsRow B 31 2 (.slice A n c) n (flatS xs)
theorem NewRow.set {w : World} {B n c k : Nat} {A : Option Addr} {xs : List (List UInt8 × Int)} (h : NewRow w B A n c xs) (hk : k < B) (cs : Array Value) : NewRow (w.setRow k cs) B A n c xs := by
  refine ⟨h.1, ?_⟩
  rcases h.2 with hn | ⟨g, cap, cur, e, hb, hg, rest⟩
  · exact .inl hn
  · exact .inr ⟨g, cap, cur, e, hb, (setRow_other w k g cs (by omega)).trans hg, rest⟩
theorem NewRow.base {w : World} {B B' n c : Nat} {A : Option Addr} {xs : List (List UInt8 × Int)} (h : NewRow w B A n c xs) (hB : B' ≤ B) : NewRow w B' A n c xs := by
  refine ⟨h.1, ?_⟩
  rcases h.2 with hn | ⟨g, cap, cur, e, hb, rest⟩
  · exact .inl hn
  · exact .inr ⟨g, cap, cur, e, Nat.le_trans hB hb, rest⟩
theorem NewRow.subs {w : World} {B n c : Nat} {A : Option Addr} {xs : List (List UInt8 × Int)} (h : NewRow w B A n c xs) : Subs w A n xs ∧ (A = none → c = 0) ∧ (∀ b o, A = some ⟨b, o, none⟩ → B ≤ b) := by
  have hn : xs.length = n := by have := h.1; rw [flatS_len] at this; omega
  subst hn
  obtain ⟨A', c', e, h1, h2, h3⟩ := subs_of_own h
  cases e
  exact ⟨h1, h2, h3⟩
/-- Where the row lies, if there is one. -/
theorem NewRow.blk {w : World} {B n c : Nat} {A : Option Addr} {xs : List (List UInt8 × Int)} (h : NewRow w B A n c xs) : (A = none ∧ n = 0) ∨ ∃ g cur, A = some ⟨g, 0, none⟩ ∧ B ≤ g ∧ w.heap[g]? = some (.cells cur 31 (0, 0)) ∧ n * 2 ≤ cur.size := by
  rcases h.2 with ⟨e, hn⟩ | ⟨g, cap, cur, e, hb, hg, h1, h2, h3, h4⟩
  · cases e; exact .inl ⟨rfl, rfl⟩
  · cases e; exact .inr ⟨g, cur, rfl, hb, hg, by omega⟩
theorem refCopy_any (p : Pk) (A : Option Addr) (n c : Nat) (xs : List (List UInt8 × Int)) (w : World) (hx : Subs w A n xs) (hc : A = none → c = 0) (hn : n ≤ 1000) :
    Calls Tryd.prog 16 #[.agg (PkC p A n c)] w fun e w' => ∃ A' c', e = .returned (.agg (PkC p A' n c')) ∧ Below w.heap.size w w' ∧ NewRow w' w.heap.size A' n c' xs := by
  have hK0 := (((Kp.nil w).new (PkC p A n c) 27).new (PkC zPk none 0 0) 27).swap
  simp only [World.size_alloc] at hK0
  obtain rfl := hx.len
  have HX := Lib.hid hx
  have HC := Lib.hid hc
  clear hx hc
  have hb2 : Below w.heap.size w ((w.alloc (.cells (PkC p A xs.length c) 27)).alloc (.cells (PkC zPk none 0 0) 27)) := ((Below.refl _ _).alloc (Nat.le_refl _) _).alloc (by simp) _
  go_enter Tryd.func16, Tryd.ntmps16
  go_wp2_with (at_builtin; refine wpList_sapp rfl _ _ rfl rfl (OwnS.nil (Below.refl _ _) (Nat.le_refl _)) A xs.length c xs rfl (HX.out.below hb2) HC.out (by simp; omega) ?_; intro v1 w1 hown hgr; have hP := hK0.more (grown_below hgr rfl); clear hgr; obtain ⟨A', c', rfl, hS, hc', hlo⟩ := subs_of_own hown.1; rw [List.nil_append] at hS hown ⊢; have HOWN : Hid (NewRow w1 (w.heap.size + 2) A' xs.length c' xs) := (by have hq := hown.1; simp only [World.size_alloc] at hq; exact hq); clear hown hS hc' hK0 hlo; have p1r := hP.row; have p1f := hP.free; have p1c := hP.cell; have p1z := hP.froz; have p1l := hP.lt; have p2r := hP.tail.row; have p2f := hP.tail.free; have p2c := hP.tail.cell; have p2z := hP.tail.froz; have p2l := hP.tail.lt; have hbp := hP.below)
  refine ret_pk 2 _ p A' xs.length c' rfl rfl (by go_simp) rfl ⟨A', c', rfl, ?_, ?_⟩
  · repeat (first | exact hbp | refine below_setRow ?_ (by omega) _)
  · exact ((HOWN.out.set (by omega) _).set (by omega) _).base (by omega)
end Go.Proofs.YtbbmfhelncedcaaDoor
