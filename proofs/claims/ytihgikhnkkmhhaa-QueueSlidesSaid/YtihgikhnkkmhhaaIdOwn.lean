/-
  Slices of plain values (one cell each): read, taken in pieces; rows that a call makes itself, what an append leaves.
-/
import Derived.Test.YtihgikhnkkmhhaaOuts
import Derived.OneCell
import Derived.Laws.Rows
import Derived.Deep.AppendLies
import Derived.Maps.AppendAt
import Derived.RangeFuncCalls
import Derived.OwnWalkIn
set_option linter.unusedSimpArgs false
set_option linter.unusedVariables false
namespace Go.Proofs.Ytihgikhnkkmhhaa
open Go.RowKit

/-- A slice of plain values reads as xs. -/
def Vals (w : World) (A : Option Addr) (n : Nat) (xs : List Value) : Prop :=
  xs.length = n ∧ (0 < n → ∃ b off, A = some ⟨b, off, none⟩ ∧ ∀ j x, xs[j]? = some x → w.cell? ⟨b, off + j, none⟩ = some x)
section
variable {w w' : World} {A : Option Addr} {n : Nat} {xs : List Value}
theorem Vals.len (h : Vals w A n xs) : xs.length = n := h.1
theorem Vals.below (h : Vals w A n xs) (hb : Below w.heap.size w w') : Vals w' A n xs :=
  ⟨h.1, fun hn => by
    obtain ⟨b, off, e, hc⟩ := h.2 hn
    exact ⟨b, off, e, fun j x hx => (hb.cell (World.block_lt_of_cell? _ _ (hc j x hx))).trans (hc j x hx)⟩⟩
theorem Vals.keep (h : Vals w A n xs) (hk : ∀ b o, 0 < n → A = some ⟨b, o, none⟩ → b < w.heap.size → w'.heap[b]? = w.heap[b]?) : Vals w' A n xs :=
  ⟨h.1, fun hn => by
    obtain ⟨b, off, e, hc⟩ := h.2 hn
    exact ⟨b, off, e, fun j x hx => (World.cell?_of_block (hk b off hn e (World.block_lt_of_cell? _ _ (hc j x hx)))).trans (hc j x hx)⟩⟩
theorem Vals.outs {F : Nat → Prop} (h : Vals w A n xs) (hU : Outs w w' F) (hF : ∀ b o, 0 < n → A = some ⟨b, o, none⟩ → ¬ F b) : Vals w' A n xs :=
  h.keep fun b o hn e hl => hU.block b hl (hF b o hn e)
theorem Vals.at_ (h : Vals w A n xs) {k : Nat} (hk : k < n) : ∃ b off x, A = some ⟨b, off, none⟩ ∧ xs[k]? = some x ∧ w.cell? ⟨b, off + k, none⟩ = some x := by
  obtain ⟨hl, h⟩ := h
  obtain ⟨b, off, rfl, hc⟩ := h (by omega)
  have hx : xs[k]? = some xs[k] := List.getElem?_eq_getElem (by omega)
  exact ⟨b, off, xs[k], rfl, hx, hc _ _ hx⟩
theorem Vals.lt (h : Vals w A n xs) (hn : 0 < n) {b o : Nat} (e : A = some ⟨b, o, none⟩) : b < w.heap.size := by
  obtain ⟨b1, o1, x, e1, _, hc⟩ := h.at_ hn
  rw [e] at e1; cases e1
  exact World.block_lt_of_cell? _ _ hc
theorem Vals.nil (A : Option Addr) : Vals w A 0 [] := ⟨rfl, fun h => by omega⟩
theorem Vals.one {b o : Nat} {x : Value} (h : w.cell? ⟨b, o, none⟩ = some x) : Vals w (some ⟨b, o, none⟩) 1 [x] :=
  ⟨rfl, fun _ => ⟨b, o, rfl, fun j y hy => by
    match j, hy with
    | 0, hy => simp at hy; subst hy; exact h
    | j + 1, hy => simp at hy⟩⟩
theorem Vals.take (h : Vals w A n xs) (k : Nat) (hk : k ≤ n) : Vals w A k (xs.take k) := by
  have hl := h.len
  refine ⟨by rw [List.length_take]; omega, fun hk0 => ?_⟩
  obtain ⟨b, off, rfl, hc⟩ := h.2 (by omega)
  refine ⟨b, off, rfl, fun j u hu => hc j u ?_⟩
  rw [List.getElem?_take] at hu
  split at hu
  · exact hu
  · cases hu
theorem Vals.dropAt {b off : Nat} (h : Vals w (some ⟨b, off, none⟩) n xs) (k m : Nat) (hk : k ≤ n) (hm : m = n - k) : Vals w (some ⟨b, off + k, none⟩) m (xs.drop k) := by
  have hl := h.len
  subst hm
  refine ⟨by rw [List.length_drop]; omega, fun hk0 => ?_⟩
  obtain ⟨b, off, e, hc⟩ := h.2 (by omega)
  cases e
  refine ⟨_, _, rfl, fun j u hu => ?_⟩
  rw [List.getElem?_drop] at hu
  rw [Nat.add_assoc]
  exact hc _ u hu
end
section
variable {w w' : World} {B : Nat} {E : TypeId} {v : Value} {xs : List Value}
theorem vrow_keep {sz n : Nat} (h : w.ownsRow B E sz v n xs) (e : ∀ b, v.ownBlock = some b → w'.heap[b]? = w.heap[b]?) : w'.ownsRow B E sz v n xs := by
  refine ⟨h.1, ?_⟩
  rcases h.2 with h2 | ⟨g, cap, cur, rfl, hB, hg, r⟩
  · exact Or.inl h2
  · exact Or.inr ⟨g, cap, cur, rfl, hB, (e g rfl).trans hg, r⟩
theorem vrow_len {n : Nat} (h : w.ownsRow B E 1 v n xs) : xs.length = n := by have := h.1; omega
/-- Its form. -/
theorem vrow_form {N : Nat} (h : w.ownsRow B E 1 v N xs) : ∃ A c, v = .slice A N c ∧ N ≤ c ∧ Vals w A N xs ∧ (A = none → c = 0) ∧ ∀ b, v.ownBlock = some b ↔ A = some ⟨b, 0, none⟩ := by
  obtain rfl := vrow_len h
  rcases h.2 with ⟨rfl, hn⟩ | ⟨g, cap, cur, rfl, hB, hh, hc, _, _, _⟩
  · exact ⟨none, 0, by rw [hn], by omega, ⟨rfl, fun h => by omega⟩, fun _ => rfl, fun b => by simp [Value.ownBlock]⟩
  · refine ⟨_, _, rfl, hc, ⟨rfl, fun _ => ⟨g, 0, rfl, fun j x hx => ?_⟩⟩, fun h => (by cases h), fun b => by simp [Value.ownBlock]⟩
    have := h.cells (g := g) rfl j x hx
    have hadd : (⟨g, 0, none⟩ : Addr).add j = ⟨g, 0 + j, none⟩ := by unfold Addr.add; split <;> simp_all
    rw [hadd] at this
    exact this
theorem vrow_form1 {N : Nat} (h : w.ownsRow B E 1 v N xs) (hne : 0 < N) : ∃ g c, v = .slice (some ⟨g, 0, none⟩) N c ∧ B ≤ g ∧ g < w.heap.size ∧ N ≤ c ∧ (∀ (j : Nat) (x : Value), xs[j]? = some x → w.cell? ⟨g, j, none⟩ = some x) ∧ (∀ i, w.frozen? ⟨g, i, none⟩ = false) ∧ ∃ cur, w.heap[g]? = some (.cells cur E (0, 0)) := by
  rcases h.2 with ⟨rfl, hn⟩ | ⟨g, cap, cur, rfl, hg, hh, hc, _, _, _⟩
  · omega
  · refine ⟨g, cap, rfl, hg, lt_of_block hh, hc, fun j x hx => ?_, fun i => by simp [World.frozen?, hh], cur, hh⟩
    have := h.cells (g := g) rfl j x hx
    have hadd : (⟨g, 0, none⟩ : Addr).add j = ⟨g, 0 + j, none⟩ := by unfold Addr.add; split <;> simp_all
    rw [hadd, Nat.zero_add] at this
    exact this
/-- What an append leaves. -/
theorem v_append {N : Nat} {P : Program} {T ty : TypeId} {z : Value} {bytes : Nat} (h : w.ownsRow B E 1 v N xs) (hB : B ≤ w.heap.size) (hT : P.underlying T = some (.slice E)) (hE : (P.info? E).map (fun i => (i.zero, i.size, i.bytes)) = some (some z, 1, bytes)) (hz : z.cells.size = 1) (hbytes : bytes ≤ 16)
    (A : Option Addr) (n c : Nat) (ys : List Value) (hV : Vals w A n ys) (hone : ∀ u ∈ ys, u.oneCell' = true) (hc0 : A = none → c = 0) (hl : N + n ≤ 1000000000) :
    ∃ A' c' w', (Builtin.append_ #[T, T] ty #[v, .slice A n c]).run P w = .ok (.slice A' (N + n) c') w' ∧ w'.ownsRow B E 1 (.slice A' (N + n) c') (N + n) (xs ++ ys) ∧ w.grownBy w' v.ownBlock ∧ ((Value.slice A' (N + n) c').ownBlock = v.ownBlock ∨ (Value.slice A' (N + n) c').ownBlock = some w.heap.size) := by
  obtain ⟨i, hi, hz0, hz1, hz2⟩ := info_parts hE
  have hyl := hV.len
  rcases A with _ | ad
  · have hn : n = 0 := by
      rcases Nat.eq_zero_or_pos n with h0 | h0
      · exact h0
      · obtain ⟨_, _, e, _⟩ := hV.2 h0
        cases e
    subst hn
    obtain rfl : ys = [] := List.eq_nil_of_length_eq_zero hyl
    obtain rfl := hc0 rfl
    obtain ⟨A', c', rfl, _⟩ := vrow_form h
    refine ⟨A', c', w, run_append_owned_none (P := P) (w := w) B T ty E i 1 hT hi _ N _ h, ?_, World.grownBy.refl _ _, Or.inl rfl⟩
    rw [List.append_nil]; exact h
  · subst hyl
    obtain ⟨v', w', hr, ho, hg, _, hat⟩ := run_append_own_at (P := P) w B T ty E i z 1 bytes hT hi hz0 hz1 hz2 hz (by decide) v N _ h ad ys.length c ys (by omega) (fun j u hu => by
      have hlt : j < ys.length := (List.getElem?_eq_some_iff.1 hu).1
      obtain ⟨b, off, e, hc⟩ := hV.2 (by omega)
      cases e
      have hadd : (⟨b, off, none⟩ : Addr).add j = ⟨b, off + j, none⟩ := by unfold Addr.add; split <;> simp_all
      rw [hadd]
      exact hc j u hu) hone (by unfold maxLen; omega) (by
      have : (N + ys.length) * bytes ≤ 1000000000 * 16 := Nat.mul_le_mul hl hbytes
      omega) hB
    obtain ⟨A', c', rfl, _⟩ := vrow_form ho
    exact ⟨A', c', w', hr, ho, hg, hat⟩
end
section
variable {P : Program} {ops : Array Oper} {rest : List Oper} {o : Oper} {a : Act} {K : Act → World → Prop} {Q : Exit → Act → World → Prop} {E : Prop} {w w' : World}
theorem step_vapp (hgd : o.guard = none) (t : TypeId) (s x : Operand) (ho : o.op = .call { callee := .builtin .append, args := #[s, x], argTypes := #[t, t] }) {sv xv v' : Value} (hs : a.eval s = sv) (hx : a.eval x = xv)
    (hrun : (Builtin.append_ #[t, t] o.type #[sv, xv]).run P w = .ok v' w') (h : K (a.put o.dst v') w') : if Region.wanted o (yielded ops a.tmps) = true then Oper.wp P o a w K Q else E := by
  have hw : Region.wanted o (yielded ops a.tmps) = true := by simp [Region.wanted, hgd]
  rw [if_pos hw]
  unfold Oper.wp
  simp [execOp, ho, resolve, invoke, builtin, hs, hx, hrun, Result.andThen]
  exact h
theorem wpList_vapp (hgd : o.guard = none) (t : TypeId) (s x : Operand) (ho : o.op = .call { callee := .builtin .append, args := #[s, x], argTypes := #[t, t] }) {sv xv v' : Value} (hs : a.eval s = sv) (hx : a.eval x = xv)
    (hrun : (Builtin.append_ #[t, t] o.type #[sv, xv]).run P w = .ok v' w') (h : wpList P ops Q rest (a.put o.dst v') w') : wpList P ops Q (o :: rest) a w := by
  refine wpList_plain hgd fun K' hK' => ?_
  unfold Oper.wp
  simp [execOp, ho, resolve, invoke, builtin, hs, hx, hrun, Result.andThen]
  exact hK' _ _ h
theorem wpListIn_vapp {F : Fence} {n : Nat} (hg : o.guard = none) (t : TypeId) (s x : Operand)
    (hop : o.op = Op.call { callee := Callee.builtin Builtin.append, args := #[s, x], argTypes := #[t, t] }) {sv xv v' : Value} (hs : a.eval s = sv) (hx : a.eval x = xv) (hrun : (Builtin.append_ #[t, t] o.type #[sv, xv]).run P w = .ok v' w') (hK : wpListIn F n P ops Q rest (a.put o.dst v') w') :
    wpListIn F n P ops Q (o :: rest) a w := by
  refine wpListIn_plain hg fun K hK' => ?_
  unfold Oper.wpIn
  refine ⟨?_, ?_⟩
  · simp [Oper.about, hop, resolve, Target.leads, Sem.run_pure]
  · rw [Oper.semAt_plain F _ _ (by rw [hop]; intro c hc'; cases hc')]
    simp [execOp, hop, resolve, invoke, builtin, hs, hx, hrun, Result.andThen]
    exact hK' _ _ hK
end
/-- What may be changed of what is there: a row that grows. -/
theorem Outs.grown {w w' : World} {F : Nat → Prop} {row : Option Nat} (hg : w.grownBy w' row) (hF : ∀ b, row = some b → F b) : Outs w w' F :=
  ⟨hg.os, hg.tape, hg.output, hg.size, fun b hb hn => hg.block b hb (fun e => hn (hF b e.symm))⟩
theorem outs_setCell (w : World) (p : Addr) (v : Value) (F : Nat → Prop) (hF : F p.block) : Outs w (w.setCell p v) F := by
  obtain ⟨b, o, s⟩ := p
  exact ⟨rfl, rfl, rfl, by simp [World.setCell], fun k _ hn => heap_setCell_other w _ k v (fun e => hn (e ▸ hF))⟩
end Go.Proofs.Ytihgikhnkkmhhaa
