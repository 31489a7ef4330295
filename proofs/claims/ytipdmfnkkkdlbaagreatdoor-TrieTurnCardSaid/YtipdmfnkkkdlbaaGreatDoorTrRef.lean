/-
  trie: the document's own answers, in the world.
-/
import Derived.Test.YtipdmfnkkkdlbaaGreatDoorTpRef3
import Derived.Test.YtipdmfnkkkdlbaaGreatDoorTrOwn
set_option linter.unusedSimpArgs false
set_option linter.unusedVariables false
namespace Go.Proofs.YtipdmfnkkkdlbaaGreatDoor
open Go.RowKit

/-- A hint as a value. -/
def HtA (h : Hn) : Array Value := #[.string ⟨h.1.toArray⟩, .string ⟨h.2.toArray⟩]
theorem ahead_eq (x y : Hn) (r : Bool) (w : World) (h : ahB x y = r) :
    Calls Tryz.prog 56 #[.agg #[.string ⟨x.1.toArray⟩, .string ⟨x.2.toArray⟩], .agg #[.string ⟨y.1.toArray⟩, .string ⟨y.2.toArray⟩]] w fun e w' => e = .returned (.bool r) ∧ Below w.heap.size w w' := by
  obtain ⟨a, b⟩ := x
  obtain ⟨c, d⟩ := y
  have hb : ∀ (o o2 : Obj), Below w.heap.size w ((w.alloc o).alloc o2) := fun o o2 => below_alloc (below_alloc (Below.refl _ _) o) o2
  unfold ahB ltB at h
  dsimp only at h
  cases h1 : Op.bytesLess a c with
  | true =>
    rw [h1] at h
    have hr : r = true := h.symm
    subst hr
    clear h
    go_enter Tryz.func56, Tryz.ntmps56
    go_wp2_with fail
    go_ret
    exact ⟨rfl, hb _ _⟩
  | false =>
    rw [h1, Bool.false_or] at h
    cases h2 : a == c with
    | false =>
      rw [h2] at h
      have hr : r = false := h.symm
      subst hr
      clear h
      go_enter Tryz.func56, Tryz.ntmps56
      go_wp2_with fail
      go_ret
      exact ⟨rfl, hb _ _⟩
    | true =>
      rw [h2, Bool.true_and] at h
      go_enter Tryz.func56, Tryz.ntmps56
      go_wp2_with fail
      go_ret
      exact ⟨by rw [← h]; rfl, hb _ _⟩
/-- The document's trie at g: its hints are L. -/
def RT (w : World) (g : Nat) (A : Option Addr) (n c : Nat) (L : List Hn) : Prop := (∃ T : TypeId, w.heap[g]? = some (.cells #[.slice A n c] T (0, 0))) ∧ Hnts w A n L ∧ (A = none ∧ c = 0 ∨ ∃ b, A = some ⟨b, 0, none⟩) ∧ n ≤ c
section
variable {w w' : World} {g n c : Nat} {A : Option Addr} {L : List Hn}
theorem RT.lt (h : RT w g A n c L) : g < w.heap.size := by
  obtain ⟨T, h1⟩ := h.1
  exact (Array.getElem?_eq_some_iff.1 h1).1
theorem RT.below (h : RT w g A n c L) (hb : Below w.heap.size w w') : RT w' g A n c L := ⟨h.1.imp fun T h1 => (hb.block g h.lt).trans h1, h.2.1.below hb, h.2.2⟩
theorem RT.cell (h : RT w g A n c L) : w.cell? ⟨g, 0, none⟩ = some (.slice A n c) := by
  obtain ⟨T, h1⟩ := h.1
  exact cell_of_row w g 0 _ _ (0, 0) h1
theorem RT.cap (h : RT w g A n c L) : n ≤ c := h.2.2.2
theorem RT.len (h : RT w g A n c L) : L.length = n := h.2.1.len
theorem has_eq (h : Hn) (r : Bool) (hT : RT w g A n c L) (hn : n ≤ 1000000) (hr : L.contains h = r) :
    Calls Tryz.prog 55 #[.pointer (some ⟨g, 0, none⟩), .agg #[.string ⟨h.1.toArray⟩, .string ⟨h.2.toArray⟩]] w fun e w' => e = .returned (.bool r) ∧ Below w.heap.size w w' := by
  have HB0 : Hid (∀ (k : Nat) (x : Hn), L[k]? = some x → x = h → r = true) := by
    intro k x hx e
    subst e
    rw [← hr, List.contains_iff_mem]
    exact List.mem_of_getElem? hx
  have l1 := Lib.hid hT.len
  have HB1 : Hid ((∀ (k : Nat) (x : Hn), k < n → L[k]? = some x → x ≠ h) → r = false) := by
    intro he
    rw [← hr, Bool.eq_false_iff]
    intro hc
    rw [List.contains_iff_mem] at hc
    obtain ⟨i, hi, e⟩ := List.mem_iff_getElem.1 hc
    exact he i h (by rw [← l1.out]; exact hi) (by rw [List.getElem?_eq_getElem hi, e]) rfl
  clear hr
  obtain ⟨h1, h2⟩ := h
  obtain ⟨W, hW⟩ : ∃ W, W = w.alloc (.cells #[.string ⟨h1.toArray⟩, .string ⟨h2.toArray⟩] 40) := ⟨_, rfl⟩
  have hbW : Below w.heap.size w W := by rw [hW]; exact below_alloc (Below.refl _ _) _
  have HT := Lib.hid (hT.below hbW)
  have k1 : Hid (W.cell? ⟨w.heap.size, 0, none⟩ = some (.string ⟨h1.toArray⟩)) := by show _ = _; rw [hW, World.cell?_alloc_new]; rfl
  have k2 : Hid (W.cell? ⟨w.heap.size, 1, none⟩ = some (.string ⟨h2.toArray⟩)) := by show _ = _; rw [hW, World.cell?_alloc_new]; rfl
  clear hT
  go_enter Tryz.func55, Tryz.ntmps55
  go_wp2_with fail
  rw [← hW]
  go_loopw [5] (fun i wr => ∃ k : Nat, i = .int .i64 k ∧ k ≤ n ∧ Below W.heap.size W wr ∧ Hid (∀ (j : Nat) (x : Hn), j < k → L[j]? = some x → x ≠ (h1, h2))) (fun i _ => n - (intOf i).toNat)
  case atStart => exact ⟨0, rfl, by omega, Below.refl _ _, fun j x hj => by omega⟩
  case round =>
    obtain ⟨k, rfl, hk, hb, hc⟩ := hrel
    have hcell := (HT.out.below hb).cell
    by_cases hlt : k < n
    · obtain ⟨b1, o1, x, rfl, hx, hc1, hc2⟩ := (HT.out.below hb).2.1.at_ hlt
      have m1 := (hb.cell (World.block_lt_of_cell? _ _ k1.out)).trans k1.out
      have m2 := (hb.cell (World.block_lt_of_cell? _ _ k2.out)).trans k2.out
      obtain ⟨x1, x2⟩ := x
      have hb5 : ∀ N, Below W.heap.size W (wr.drewN N) := fun N => below_drewN hb N
      cases he : (x1 == h1 && x2 == h2) with
      | true =>
        have HN : Hid (r = true) := HB0.out k _ hx (by simp at he; rw [he.1, he.2])
        clear hx
        go_wp2_with fail
        go_quiet (fail)
        go_wp2_with fail
        go_ret
        exact ⟨by rw [HN.out]; rfl, hbW.trans ((hb5 _).mono hbW.size)⟩
      | false =>
        have HN : Hid (∀ (j : Nat) (y : Hn), j < k + 1 → L[j]? = some y → y ≠ (h1, h2)) := by
          intro j y hj hy
          by_cases hjk : j = k
          · subst hjk; rw [hx] at hy; cases hy
            intro e; cases e; simp at he
          · exact hc.out j y (by omega) hy
        clear hx
        go_wp2_with fail
        go_quiet (fail)
        have hb9 := hb5 nq
        generalize wr.drewN nq = w9 at hb9 ⊢
        clear hb5
        go_wp2_with fail
        go_roundw
        case rel => exact ⟨k + 1, by go_num, by omega, hb9, HN.out⟩
        case measure => simp [intOf]; omega
    · have HN : Hid (r = false) := HB1.out (fun j x hj => hc.out j x (by omega))
      go_wp2_with fail
      go_ret
      exact ⟨by rw [HN.out]; rfl, hbW.trans (hb.mono hbW.size)⟩
end
end Go.Proofs.YtipdmfnkkkdlbaaGreatDoor
