/-
  A slice of strings that a call makes itself.
-/
import Derived.Test.YthhadjnffeadfaaGreatDoorKit
import Derived.OneCell
import Derived.Laws.Rows
set_option linter.unusedSimpArgs false
set_option linter.unusedVariables false
namespace Go.Proofs.YthhadjnffeadfaaGreatDoor
open Go.RowKit

def strV (x : List UInt8) : Value := .string ⟨x.toArray⟩
/-- The call's own row of strings. -/
def OwnS (E : TypeId) (B : Nat) (w0 wr : World) (v : Value) (xs : List (List UInt8)) : Prop :=
  wr.ownsRow B E 1 v xs.length (xs.map strV) ∧ Below B w0 wr ∧ B ≤ wr.heap.size
section
variable {E : TypeId} {B : Nat} {w0 wr : World} {v : Value} {xs : List (List UInt8)}
theorem OwnS.below (h : OwnS E B w0 wr v xs) : Below B w0 wr := h.2.1
theorem OwnS.size (h : OwnS E B w0 wr v xs) : B ≤ wr.heap.size := h.2.2
theorem OwnS.nil (h : Below B w0 wr) (hB : B ≤ wr.heap.size) : OwnS E B w0 wr (.slice none 0 0) [] := ⟨World.ownsRow_nil _ _ _ _, h, hB⟩
theorem OwnS.alloc (h : OwnS E B w0 wr v xs) (o : Obj) : OwnS E B w0 (wr.alloc o) v xs := ⟨h.1.alloc o, h.2.1.alloc h.2.2 o, Nat.le_trans h.2.2 (by simp)⟩
theorem OwnS.drew (h : OwnS E B w0 wr v xs) : OwnS E B w0 wr.drew v xs := ⟨h.1, h.2.1.drew, h.2.2⟩
theorem OwnS.drewN (h : OwnS E B w0 wr v xs) (n : Nat) : OwnS E B w0 (wr.drewN n) v xs := ⟨h.1, below_drewN h.2.1 n, h.2.2⟩
theorem OwnS.more {w' : World} (h : OwnS E B w0 wr v xs) (hb : Below wr.heap.size wr w') : OwnS E B w0 w' v xs :=
  ⟨own_below h.1 hb, h.2.1.trans (hb.mono h.2.2), Nat.le_trans h.2.2 hb.size⟩
theorem OwnS.lit1 (h : Below B w0 wr) (hB : B ≤ wr.heap.size) (x : List UInt8) : OwnS E B w0 (wr.alloc (.cells #[.string ⟨x.toArray⟩] E)) (.slice (some ⟨wr.heap.size, 0, none⟩) 1 1) [x] :=
  ⟨World.ownsRow_lit wr #[.string ⟨x.toArray⟩] 1 hB (by unfold maxLen; omega) rfl, h.alloc hB _, Nat.le_trans hB (by simp)⟩
theorem OwnS.form (h : OwnS E B w0 wr v xs) : ∃ A c, v = .slice A xs.length c ∧ xs.length ≤ c ∧ Strs wr A xs.length xs ∧ (A = none → c = 0) := by
  rcases h.1.2 with ⟨rfl, hn⟩ | ⟨g, cap, cur, rfl, _, hh, hc, _, _, _⟩
  · exact ⟨none, 0, by rw [hn], by omega, ⟨rfl, fun h => by omega⟩, fun _ => rfl⟩
  · refine ⟨_, _, rfl, hc, ⟨rfl, fun _ => ⟨g, 0, rfl, fun j x hx => ?_⟩⟩, fun h => by cases h⟩
    have := h.1.cells (g := g) rfl j (strV x) (by simp [hx])
    have hadd : (⟨g, 0, none⟩ : Addr).add j = ⟨g, 0 + j, none⟩ := by unfold Addr.add; split <;> simp_all
    rw [hadd] at this
    exact this
/-- Of a row that is not empty: where it lies. -/
theorem OwnS.form1 (h : OwnS E B w0 wr v xs) (hne : xs ≠ []) : ∃ g c, v = .slice (some ⟨g, 0, none⟩) xs.length c ∧ B ≤ g ∧ g < wr.heap.size ∧ xs.length ≤ c ∧ Strs wr (some ⟨g, 0, none⟩) xs.length xs ∧ ∀ i, wr.frozen? ⟨g, i, none⟩ = false := by
  rcases h.1.2 with ⟨rfl, hn⟩ | ⟨g, cap, cur, rfl, hg, hh, hc, _, _, _⟩
  · exact absurd (List.eq_nil_of_length_eq_zero hn) hne
  · refine ⟨g, cap, rfl, hg, lt_of_block hh, hc, ⟨rfl, fun _ => ⟨g, 0, rfl, fun j x hx => ?_⟩⟩, fun i => by simp [World.frozen?, hh]⟩
    have := h.1.cells (g := g) rfl j (strV x) (by simp [hx])
    have hadd : (⟨g, 0, none⟩ : Addr).add j = ⟨g, 0 + j, none⟩ := by unfold Addr.add; split <;> simp_all
    rw [hadd] at this
    exact this
theorem OwnS.set {g c n : Nat} (h : OwnS E B w0 wr (.slice (some ⟨g, 0, none⟩) n c) xs) (hn : n = xs.length) (j : Nat) (hj : j < n) (x : List UInt8) : OwnS E B w0 (wr.setCell ⟨g, j, none⟩ (.string ⟨x.toArray⟩)) (.slice (some ⟨g, 0, none⟩) n c) (xs.set j x) := by
  subst hn
  obtain ⟨⟨h1, h2⟩, h3, h4⟩ := h
  rcases h2 with ⟨h2, _⟩ | ⟨g', cap', cur, hv, hg, hh, hc, hm, hs, ht⟩
  · cases h2
  · injection hv with hv1 hv2 hv3
    injection hv1 with hv1
    injection hv1 with hv1
    subst hv1 hv3
    refine ⟨⟨by simp, Or.inr ⟨g, c, cur.setIfInBounds j (strV x), by simp, hg, heap_setCell_same wr g j cur E _ hh, by simpa using hc, hm, by simpa using hs, ?_⟩⟩, ?_, ?_⟩
    · rw [List.length_set, Array.toList_setIfInBounds, List.take_set, ht, ← List.map_set]
    · exact h3.setCell (by exact hg) _
    · simpa [World.setCell] using h4
theorem wpList_sapp {P : Program} {ops : Array Oper} {rest : List Oper} {o : Oper} {a : Act} {Q : Exit → Act → World → Prop} (hgd : o.guard = none) (s x : Operand) (T : TypeId)
    (ho : o.op = .call { callee := .builtin .append, args := #[s, x], argTypes := #[T, T] })
    (hT : P.underlying T = some (.slice E)) (hE : (P.info? E).map (fun i => (i.zero, i.size, i.bytes)) = some (some (.string ByteArray.empty), 1, 16))
    (hs : a.eval s = v) (hb : OwnS E B w0 wr v xs) (A : Option Addr) (n c : Nat) (ys : List (List UInt8)) (hx : a.eval x = .slice A n c) (hI : Strs wr A n ys) (hc0 : A = none → c = 0)
    (hl : xs.length + n ≤ 1000000000)
    (h : ∀ v' w', OwnS E B w0 w' v' (xs ++ ys) → wpList P ops Q rest (a.put o.dst v') w') : wpList P ops Q (o :: rest) a wr := by
  obtain ⟨i, hi, hz0, hz1, hz2⟩ := info_parts hE
  obtain ⟨hown, hbel, hB⟩ := hb
  have hyl := hI.len
  rcases A with _ | ad
  · have hn : n = 0 := by
      rcases Nat.eq_zero_or_pos n with h0 | h0
      · exact h0
      · obtain ⟨_, _, e, _⟩ := hI.2 h0
        cases e
    subst hn
    obtain rfl : ys = [] := List.eq_nil_of_length_eq_zero hyl
    obtain rfl := hc0 rfl
    exact wpList_append_own_none hgd s x T ho B E i 1 hT hi v xs.length _ hs hown hx (h v wr ⟨by simpa using hown, hbel, hB⟩)
  · subst hyl
    refine wpList_append_own wr hgd s x T ho B E i (.string ByteArray.empty) 1 16 hT hi hz0 hz1 hz2 rfl (by decide) v xs.length _ hs hown ad ys.length c (ys.map strV) hx (by simp) ?_ ?_ (by unfold maxLen; omega) (by omega) hB ?_
    · intro j u hu
      simp only [List.getElem?_map, Option.map_eq_some_iff] at hu
      obtain ⟨y, hy, rfl⟩ := hu
      have hlt := (List.getElem?_eq_some_iff.1 hy).1
      obtain ⟨b, off, e, hcc⟩ := hI.2 (by omega)
      cases e
      have hadd : (⟨b, off, none⟩ : Addr).add j = ⟨b, off + j, none⟩ := by unfold Addr.add; split <;> simp_all
      rw [hadd]
      exact hcc j y hy
    · intro u hu
      simp only [List.mem_map] at hu
      obtain ⟨y, _, rfl⟩ := hu
      rfl
    · intro v' w' hown' hgr _
      refine h v' w' ⟨?_, ?_, ?_⟩
      · rw [List.length_append, List.map_append]; exact hown'
      · exact hbel.grown hgr hB (fun k hk => (hown.lt k hk).1)
      · exact Nat.le_trans hB hgr.size
end
theorem infoS : (Tryz.prog.info? 9).map (fun i => (i.zero, i.size, i.bytes)) = some (some (.string ByteArray.empty), 1, 16) := by kernel_rfl
end Go.Proofs.YthhadjnffeadfaaGreatDoor
