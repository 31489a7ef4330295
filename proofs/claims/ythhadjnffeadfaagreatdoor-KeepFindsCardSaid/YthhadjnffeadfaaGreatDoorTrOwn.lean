/-
  trie: a slice of hints in the world; one that a call makes itself.
-/
import Derived.Test.YthhadjnffeadfaaGreatDoorTrMath
import Derived.Test.YthhadjnffeadfaaGreatDoorTpOwn
import Derived.Deep.AppendLies
import Derived.Laws.StructEq
set_option linter.unusedSimpArgs false
set_option linter.unusedVariables false
namespace Go.Proofs.YthhadjnffeadfaaGreatDoor
open Go.RowKit

def htV (h : Hn) : List Value := [.string ⟨h.1.toArray⟩, .string ⟨h.2.toArray⟩]
def flatH (L : List Hn) : List Value := L.flatMap htV
theorem flatH_len (L : List Hn) : (flatH L).length = L.length * 2 := by
  induction L with
  | nil => rfl
  | cons a r ih => unfold flatH at *; rw [List.flatMap_cons, List.length_append, ih, List.length_cons, Nat.succ_mul, Nat.add_comm]; rfl
theorem flatH_app (a b : List Hn) : flatH (a ++ b) = flatH a ++ flatH b := List.flatMap_append
theorem flatH_one (L : List Hn) : ∀ u ∈ flatH L, u.oneCell' = true := by
  intro u hu
  unfold flatH at hu
  rw [List.mem_flatMap] at hu
  obtain ⟨h, _, hu⟩ := hu
  simp only [htV, List.mem_cons, List.not_mem_nil, or_false] at hu
  rcases hu with rfl | rfl <;> rfl
theorem flatH_at : ∀ (L : List Hn) (j : Nat) (h : Hn), L[j]? = some h → (flatH L)[j * 2]? = some (.string ⟨h.1.toArray⟩) ∧ (flatH L)[j * 2 + 1]? = some (.string ⟨h.2.toArray⟩)
  | [], j, h, e => by simp at e
  | a :: r, 0, h, e => by
    simp at e; subst e
    exact ⟨rfl, rfl⟩
  | a :: r, j + 1, h, e => by
    have := flatH_at r j h (by simpa using e)
    have h1 : flatH (a :: r) = .string ⟨a.1.toArray⟩ :: .string ⟨a.2.toArray⟩ :: flatH r := rfl
    rw [h1, show (j + 1) * 2 = j * 2 + 1 + 1 by omega, List.getElem?_cons_succ, List.getElem?_cons_succ, show j * 2 + 1 + 1 + 1 = (j * 2 + 1) + 1 + 1 by omega, List.getElem?_cons_succ, List.getElem?_cons_succ]
    exact this
/-- A slice of hints reads as L. -/
def Hnts (w : World) (A : Option Addr) (n : Nat) (L : List Hn) : Prop :=
  L.length = n ∧ (0 < n → ∃ b off, A = some ⟨b, off, none⟩ ∧ ∀ j u, (flatH L)[j]? = some u → w.cell? ⟨b, off + j, none⟩ = some u)
section
variable {w w' : World} {A : Option Addr} {n : Nat} {L : List Hn}
theorem Hnts.len (h : Hnts w A n L) : L.length = n := h.1
theorem Hnts.below (h : Hnts w A n L) (hb : Below w.heap.size w w') : Hnts w' A n L :=
  ⟨h.1, fun hn => by
    obtain ⟨b, off, e, hc⟩ := h.2 hn
    exact ⟨b, off, e, fun j x hx => (hb.cell (World.block_lt_of_cell? _ _ (hc j x hx))).trans (hc j x hx)⟩⟩
theorem Hnts.at_ (h : Hnts w A n L) {k : Nat} (hk : k < n) : ∃ b off x, A = some ⟨b, off, none⟩ ∧ L[k]? = some x ∧ w.cell? ⟨b, off + k * 2, none⟩ = some (.string ⟨x.1.toArray⟩) ∧ w.cell? ⟨b, off + k * 2 + 1, none⟩ = some (.string ⟨x.2.toArray⟩) := by
  obtain ⟨hl, h⟩ := h
  obtain ⟨b, off, rfl, hc⟩ := h (by omega)
  have hlt : k < L.length := by omega
  have hx : L[k]? = some L[k] := List.getElem?_eq_getElem hlt
  obtain ⟨h1, h2⟩ := flatH_at L k L[k] hx
  exact ⟨b, off, L[k], rfl, hx, hc _ _ h1, by rw [Nat.add_assoc]; exact hc _ _ h2⟩
theorem Hnts.nil (A : Option Addr) : Hnts w A 0 [] := ⟨rfl, fun h => by omega⟩
/-- A piece of it. -/
theorem Hnts.take (h : Hnts w A n L) (k : Nat) (hk : k ≤ n) : Hnts w A k (L.take k) := by
  have hl := h.len
  refine ⟨by rw [List.length_take]; omega, fun hk0 => ?_⟩
  obtain ⟨b, off, rfl, hc⟩ := h.2 (by omega)
  refine ⟨b, off, rfl, fun j u hu => hc j u ?_⟩
  have : flatH L = flatH (L.take k) ++ flatH (L.drop k) := by rw [← flatH_app, List.take_append_drop]
  have hlt := (List.getElem?_eq_some_iff.1 hu).1
  rw [this, List.getElem?_append_left hlt]
  exact hu
theorem Hnts.dropAt {b off : Nat} (h : Hnts w (some ⟨b, off, none⟩) n L) (k m : Nat) (hk : k ≤ n) (hm : m = n - k) : Hnts w (some ⟨b, off + k * 2, none⟩) m (L.drop k) := by
  have hl := h.len
  subst hm
  refine ⟨by rw [List.length_drop]; omega, fun hk0 => ?_⟩
  obtain ⟨b, off, e, hc⟩ := h.2 (by omega)
  cases e
  refine ⟨_, _, rfl, fun j u hu => ?_⟩
  have h1 : flatH L = flatH (L.take k) ++ flatH (L.drop k) := by rw [← flatH_app, List.take_append_drop]
  have h2 : (flatH (L.take k)).length = k * 2 := by rw [flatH_len, List.length_take]; congr 1; omega
  rw [Nat.add_assoc]
  refine hc _ u ?_
  rw [h1, List.getElem?_append_right (by omega), h2, Nat.add_sub_cancel_left]
  exact hu
theorem hnts_one {w : World} {g : Nat} {h : Hn} {o : Nat} (h1 : w.cell? ⟨g, o, none⟩ = some (.string ⟨h.1.toArray⟩)) (h2 : w.cell? ⟨g, o + 1, none⟩ = some (.string ⟨h.2.toArray⟩)) : Hnts w (some ⟨g, o, none⟩) 1 [h] := by
  refine ⟨rfl, fun _ => ⟨_, _, rfl, fun j u hu => ?_⟩⟩
  match j, hu with
  | 0, hu => simp [flatH, htV] at hu; subst hu; exact h1
  | 1, hu => simp [flatH, htV] at hu; subst hu; exact h2
  | j + 2, hu => simp [flatH, htV] at hu
end
section
variable {B : Nat} {w0 wr : World} {v : Value} {L : List Hn}
end
theorem step_sapp {P : Program} {ops : Array Oper} {o : Oper} {a : Act} {K : Act → World → Prop} {Q : Exit → Act → World → Prop} {E' : Prop} {E : TypeId} {B : Nat} {w0 wr : World} {v : Value} {xs : List (List UInt8)} (hgd : o.guard = none) (s x : Operand) (T : TypeId)
    (ho : o.op = .call { callee := .builtin .append, args := #[s, x], argTypes := #[T, T] })
    (hT : P.underlying T = some (.slice E)) (hE : (P.info? E).map (fun i => (i.zero, i.size, i.bytes)) = some (some (.string ByteArray.empty), 1, 16))
    (hs : a.eval s = v) (hb : OwnS E B w0 wr v xs) (A : Option Addr) (n c : Nat) (ys : List (List UInt8)) (hx : a.eval x = .slice A n c) (hI : Strs wr A n ys) (hc0 : A = none → c = 0)
    (hl : xs.length + n ≤ 1000000000)
    (h : ∀ v' w', OwnS E B w0 w' v' (xs ++ ys) → wr.grownBy w' v.ownBlock → K (a.put o.dst v') w') : if Region.wanted o (yielded ops a.tmps) = true then Oper.wp P o a wr K Q else E' := by
  have hw : Region.wanted o (yielded ops a.tmps) = true := by simp [Region.wanted, hgd]
  rw [if_pos hw]
  obtain ⟨i, hi, hz0, hz1, hz2⟩ := info_parts hE
  obtain ⟨hown, hbel, hB⟩ := hb
  have hyl := hI.len
  rcases A with _ | ad
  · have hn : n = 0 := by
      rcases Nat.eq_zero_or_pos n with h0 | h0
      · exact h0
      · obtain ⟨_, _, e, _⟩ := hI.2 h0
        cases e
    subst hn
    obtain rfl : ys = [] := List.eq_nil_of_length_eq_zero hyl
    obtain rfl := hc0 rfl
    have hrun := run_append_owned_none (P := P) (w := wr) B T o.type E i 1 hT hi v xs.length _ hown
    unfold Oper.wp
    simp [execOp, ho, resolve, invoke, builtin, hs, hx, hrun, Result.andThen]
    exact h _ _ ⟨by simpa using hown, hbel, hB⟩ (World.grownBy.refl wr _)
  · subst hyl
    refine wp_append_own wr s x T ho B E i (.string ByteArray.empty) 1 16 hT hi hz0 hz1 hz2 rfl (by decide) v xs.length _ hs hown ad ys.length c (ys.map strV) hx (by simp) ?_ ?_ (by unfold maxLen; omega) (by omega) hB ?_
    · intro j u hu
      simp only [List.getElem?_map, Option.map_eq_some_iff] at hu
      obtain ⟨y, hy, rfl⟩ := hu
      have hlt := (List.getElem?_eq_some_iff.1 hy).1
      obtain ⟨b, off, e, hcc⟩ := hI.2 (by omega)
      cases e
      have hadd : (⟨b, off, none⟩ : Addr).add j = ⟨b, off + j, none⟩ := by unfold Addr.add; split <;> simp_all
      rw [hadd]
      exact hcc j y hy
    · intro u hu
      simp only [List.mem_map] at hu
      obtain ⟨y, _, rfl⟩ := hu
      rfl
    · intro v' w' hown' hgr _
      refine h v' w' ⟨?_, ?_, ?_⟩ hgr
      · rw [List.length_append, List.map_append]; exact hown'
      · exact hbel.grown hgr hB (fun k hk => (hown.lt k hk).1)
      · exact Nat.le_trans hB hgr.size
theorem Strs.take {w : World} {A : Option Addr} {n : Nat} {L : List (List UInt8)} (h : Strs w A n L) (k : Nat) (hk : k ≤ n) : Strs w A k (L.take k) := by
  have hl := h.len
  refine ⟨by rw [List.length_take]; omega, fun hk0 => ?_⟩
  obtain ⟨b, off, rfl, hc⟩ := h.2 (by omega)
  refine ⟨b, off, rfl, fun j u hu => hc j u ?_⟩
  rw [List.getElem?_take] at hu
  split at hu
  · exact hu
  · cases hu
theorem Strs.dropAt {w : World} {n b off : Nat} {L : List (List UInt8)} (h : Strs w (some ⟨b, off, none⟩) n L) (k m : Nat) (hk : k ≤ n) (hm : m = n - k) : Strs w (some ⟨b, off + k, none⟩) m (L.drop k) := by
  have hl := h.len
  subst hm
  refine ⟨by rw [List.length_drop]; omega, fun hk0 => ?_⟩
  obtain ⟨b, off, e, hc⟩ := h.2 (by omega)
  cases e
  refine ⟨_, _, rfl, fun j u hu => ?_⟩
  rw [List.getElem?_drop] at hu
  rw [Nat.add_assoc]
  exact hc _ u hu
theorem Strs.grown {w w' : World} {A : Option Addr} {n : Nat} {L : List (List UInt8)} {row : Option Nat} (h : Strs w A n L) (hg : w.grownBy w' row) (hne : ∀ b o, A = some ⟨b, o, none⟩ → some b ≠ row) : Strs w' A n L :=
  ⟨h.1, fun hn => by
    obtain ⟨b, off, e, hc⟩ := h.2 hn
    exact ⟨b, off, e, fun j x hx => (hg.cell_far _ (World.block_lt_of_cell? _ _ (hc j x hx)) (hne b off e)).trans (hc j x hx)⟩⟩
theorem Hnts.grown {w w' : World} {A : Option Addr} {n : Nat} {L : List Hn} {row : Option Nat} (h : Hnts w A n L) (hg : w.grownBy w' row) (hne : ∀ b o, A = some ⟨b, o, none⟩ → some b ≠ row) : Hnts w' A n L :=
  ⟨h.1, fun hn => by
    obtain ⟨b, off, e, hc⟩ := h.2 hn
    exact ⟨b, off, e, fun j x hx => (hg.cell_far _ (World.block_lt_of_cell? _ _ (hc j x hx)) (hne b off e)).trans (hc j x hx)⟩⟩
theorem OwnS.lit0 {E : TypeId} {B : Nat} {w0 wr : World} (h : Below B w0 wr) (hB : B ≤ wr.heap.size) : OwnS E B w0 (wr.alloc (.cells #[] E)) (.slice (some ⟨wr.heap.size, 0, none⟩) 0 0) [] :=
  ⟨World.ownsRow_lit wr #[] 0 hB (by unfold maxLen; omega) rfl, h.alloc hB _, Nat.le_trans hB (by simp)⟩
/-- What a call may have changed among what was there: the blocks of F alone. -/
structure Outs (w w' : World) (F : Nat → Prop) : Prop where
  os : w'.os = w.os
  tape : w'.tape = w.tape
  output : w'.output = w.output
  size : w.heap.size ≤ w'.heap.size
  block : ∀ b, b < w.heap.size → ¬ F b → w'.heap[b]? = w.heap[b]?
section
variable {w w1 w2 : World} {F G : Nat → Prop} {B : Nat}
theorem Outs.refl (w : World) (F : Nat → Prop) : Outs w w F := ⟨rfl, rfl, rfl, Nat.le_refl _, fun _ _ _ => rfl⟩
theorem Outs.of_below (h : Below w.heap.size w w1) : Outs w w1 F := ⟨h.os, h.tape, h.output, h.size, fun b hb _ => h.block b hb⟩
theorem Outs.trans (h : Outs w w1 F) (k : Outs w1 w2 G) (hF : ∀ b, b < w.heap.size → G b → F b) : Outs w w2 F :=
  ⟨k.os.trans h.os, k.tape.trans h.tape, k.output.trans h.output, Nat.le_trans h.size k.size, fun b hb hn => (k.block b (Nat.lt_of_lt_of_le hb h.size) (fun hg => hn (hF b hb hg))).trans (h.block b hb hn)⟩
theorem Outs.more (h : Outs w w1 F) (k : Below w1.heap.size w1 w2) : Outs w w2 F := h.trans (Outs.of_below (F := F) k) (fun _ _ h => h)
theorem Outs.setCell (h : Outs w w1 F) (g i : Nat) (hg : F g) (v : Value) : Outs w (w1.setCell ⟨g, i, none⟩ v) F :=
  ⟨h.os, h.tape, h.output, by simpa [World.setCell] using h.size, fun b hb hn => by
    have hne : g ≠ b := fun e => hn (e ▸ hg)
    refine Eq.trans ?_ (h.block b hb hn)
    simp [World.setCell, Array.getElem?_modify, hne]⟩
theorem Outs.below (h : Outs w w1 F) (hF : ∀ b, b < w.heap.size → F b → B ≤ b) (hB : B ≤ w.heap.size) : Below B w w1 :=
  ⟨h.os, h.tape, h.output, h.size, fun b hb => h.block b (Nat.lt_of_lt_of_le hb hB) (fun hf => by have := hF b (Nat.lt_of_lt_of_le hb hB) hf; omega)⟩
theorem Outs.cell (h : Outs w w1 F) (p : Addr) (v : Value) (hp : w.cell? p = some v) (hn : ¬ F p.block) : w1.cell? p = some v :=
  (World.cell?_of_block (h.block p.block (World.block_lt_of_cell? _ _ hp) hn)).trans hp
end
end Go.Proofs.YthhadjnffeadfaaGreatDoor
namespace Go.Proofs.YthhadjnffeadfaaGreatDoor
open Go.RowKit

end Go.Proofs.YthhadjnffeadfaaGreatDoor
