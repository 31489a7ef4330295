/-
  queue: rows of messages: what an append, a copy within a row, a clear leave; the program's queue in the world.
-/
import Derived.Test.YtihgikhnkkmhhaaMsg
import Derived.Test.YtihgikhnkkmhhaaIdOwn
import Derived.Laws.IdiomCopy
set_option linter.unusedSimpArgs false
set_option linter.unusedVariables false
namespace Go.Proofs.Ytihgikhnkkmhhaa
open Go.RowKit

section
variable {w w' : World} {B : Nat} {v : Value} {L : List Ms}
theorem mrow_len {N : Nat} (h : w.ownsRow B 28 4 v N (flatM L)) : L.length = N := by
  have := h.1
  rw [flatM_len] at this
  omega
/-- The form of a row of messages. -/
theorem mrow_form {N : Nat} (h : w.ownsRow B 28 4 v N (flatM L)) : ∃ A c, v = .slice A N c ∧ N ≤ c ∧ Msgs w A N L ∧ (A = none → c = 0) ∧ ∀ b, v.ownBlock = some b ↔ A = some ⟨b, 0, none⟩ := by
  obtain rfl := mrow_len h
  rcases h.2 with ⟨rfl, hn⟩ | ⟨g, cap, cur, rfl, hB, hh, hc, _, _, _⟩
  · exact ⟨none, 0, by rw [hn], by omega, ⟨rfl, fun h => by omega⟩, fun _ => rfl, fun b => by simp [Value.ownBlock]⟩
  · refine ⟨_, _, rfl, hc, ⟨rfl, fun _ => ⟨g, 0, rfl, fun j x hx => ?_⟩⟩, fun h => (by cases h), fun b => by simp [Value.ownBlock]⟩
    have := h.cells (g := g) rfl j x hx
    have hadd : (⟨g, 0, none⟩ : Addr).add j = ⟨g, 0 + j, none⟩ := by unfold Addr.add; split <;> simp_all
    rw [hadd] at this
    exact this
theorem mrow_form1 {N : Nat} (h : w.ownsRow B 28 4 v N (flatM L)) (hne : 0 < N) : ∃ g c cur, v = .slice (some ⟨g, 0, none⟩) N c ∧ g < w.heap.size ∧ N ≤ c ∧ w.heap[g]? = some (.cells cur 28 (0, 0)) ∧ cur.size = c * 4 ∧ cur.toList.take (N * 4) = flatM L ∧ B ≤ g ∧ c ≤ maxLen := by
  rcases h.2 with ⟨rfl, hn⟩ | ⟨g, cap, cur, rfl, hg, hh, hc, hm, hs, ht⟩
  · omega
  · exact ⟨g, cap, cur, rfl, lt_of_block hh, hc, hh, hs, ht, hg, hm⟩
/-- What an append leaves. -/
theorem m_append {N : Nat} {ty : TypeId} (h : w.ownsRow B 28 4 v N (flatM L)) (hB : B ≤ w.heap.size)
    (A : Option Addr) (n c : Nat) (ys : List Ms) (hV : Msgs w A n ys) (hc0 : A = none → c = 0) (hl : N + n ≤ 10000000) :
    ∃ A' c' w', (Builtin.append_ #[30, 30] ty #[v, .slice A n c]).run Try.prog w = .ok (.slice A' (N + n) c') w' ∧ w'.ownsRow B 28 4 (.slice A' (N + n) c') (N + n) (flatM (L ++ ys)) ∧ w.grownBy w' v.ownBlock ∧ ((Value.slice A' (N + n) c').ownBlock = v.ownBlock ∨ (Value.slice A' (N + n) c').ownBlock = some w.heap.size) := by
  obtain ⟨i, hi, hz0, hz1, hz2⟩ := info_parts ms_info
  have hyl := hV.len
  rcases A with _ | ad
  · have hn : n = 0 := by
      rcases Nat.eq_zero_or_pos n with h0 | h0
      · exact h0
      · obtain ⟨_, _, e, _⟩ := hV.2 h0
        cases e
    subst hn
    obtain rfl : ys = [] := List.eq_nil_of_length_eq_zero hyl
    obtain rfl := hc0 rfl
    obtain ⟨A', c', rfl, _⟩ := mrow_form h
    refine ⟨A', c', w, run_append_owned_none (P := Try.prog) (w := w) B _ ty _ i 4 Try.underlying30 hi _ N _ h, ?_, World.grownBy.refl _ _, Or.inl rfl⟩
    rw [List.append_nil]; exact h
  · subst hyl
    obtain ⟨v', w', hr, ho, hg, _, hat⟩ := run_append_own_at (P := Try.prog) w B _ ty _ i _ 4 40 Try.underlying30 hi hz0 hz1 hz2 rfl (by decide) v N _ h ad ys.length c (flatM ys) (flatM_len ys) (fun j u hu => by
      have hlt : j < (flatM ys).length := (List.getElem?_eq_some_iff.1 hu).1
      rw [flatM_len] at hlt
      obtain ⟨b, off, e, hc⟩ := hV.2 (by omega)
      cases e
      have hadd : (⟨b, off, none⟩ : Addr).add j = ⟨b, off + j, none⟩ := by unfold Addr.add; split <;> simp_all
      rw [hadd]
      exact hc j u hu) (flatM_one ys) (by unfold maxLen; omega) (by omega) hB
    rw [← flatM_app] at ho
    obtain ⟨A', c', rfl, _⟩ := mrow_form ho
    exact ⟨A', c', w', hr, ho, hg, hat⟩
/-- A row whose block holds other cells, of which the first are these. -/
theorem mrow_set {g N c n : Nat} {cur cur2 : Array Value} {M : List Ms} (h : w.ownsRow B 28 4 (.slice (some ⟨g, 0, none⟩) N c) N (flatM L)) (hg : w.heap[g]? = some (.cells cur 28 (0, 0)))
    (hs : cur2.size = cur.size) (hn : n ≤ c) (hM : M.length = n) (ht : cur2.toList.take (n * 4) = flatM M) : (w.setRow g cur2).ownsRow B 28 4 (.slice (some ⟨g, 0, none⟩) n c) n (flatM M) := by
  rcases h.2 with ⟨h1, _⟩ | ⟨g', cap, cur', h1, hB, hh, hc, hm, hs', _⟩
  · cases h1
  · injection h1 with e1 e2 e3
    injection e1 with e1
    injection e1 with e1
    subst e1 e3
    rw [hg] at hh
    injection hh with hh
    injection hh with hh
    subst hh
    exact ⟨by rw [flatM_len, hM], Or.inr ⟨g, c, cur2, rfl, hB, setRow_heap w g _ _ _ _ hg, hn, hm, by rw [hs, hs'], ht⟩⟩
/-- One message of a row is another one. -/
theorem mrow_put {g N c : Nat} (h : w.ownsRow B 28 4 (.slice (some ⟨g, 0, none⟩) N c) N (flatM L)) (i : Nat) (m : Ms) :
    ((((w.setCell ⟨g, i * 4, none⟩ (.string ⟨m.1.toArray⟩)).setCell ⟨g, i * 4 + 1, none⟩ (.string ⟨m.2.1.toArray⟩)).setCell ⟨g, i * 4 + 2, none⟩ (.int .u8 m.2.2.1)).setCell ⟨g, i * 4 + 3, none⟩ (.bool m.2.2.2)).ownsRow B 28 4 (.slice (some ⟨g, 0, none⟩) N c) N (flatM (L.set i m)) := by
  rw [← flatM_set]
  exact ((((h.stored _ _).1.stored _ _).1.stored _ _).1.stored _ _).1
theorem mrow_at {g N c : Nat} (h : w.ownsRow B 28 4 (.slice (some ⟨g, 0, none⟩) N c) N (flatM L)) {i : Nat} {m : Ms} (hx : L[i]? = some m) : MsAt w g (i * 4) m := by
  obtain ⟨h1, h2, h3, h4⟩ := flatM_at L i m hx
  have hadd : ∀ j, (⟨g, 0, none⟩ : Addr).add j = ⟨g, j, none⟩ := fun j => by unfold Addr.add; split <;> simp_all
  have k := fun j u hu => (hadd j) ▸ h.cells (g := g) rfl j u hu
  exact ⟨k _ _ h1, k _ _ h2, k _ _ h3, k _ _ h4⟩
theorem outs_setRow (w : World) (g : Nat) (cs : Array Value) (F : Nat → Prop) (hF : F g) : Outs w (w.setRow g cs) F :=
  ⟨rfl, rfl, rfl, by simp [World.setRow], fun k _ hn => setRow_other w g k cs (fun e => hn (e ▸ hF))⟩
theorem ms_size : (Try.prog.info? 28).map (·.size) = some 4 := by kernel_rfl
/-- A copy of m messages to the beginning of a row, out of what lies anywhere. -/
theorem run_mcopy {ty : TypeId} {g N c : Nat} {cur : Array Value} {A : Option Addr} {m d : Nat} {M : List Ms} (hg : w.heap[g]? = some (.cells cur 28 (0, 0))) (hV : Msgs w A m M) (hm : m ≤ N) (hN : N * 4 ≤ cur.size) :
    (Builtin.copy_ #[30, 30] ty #[.slice (some ⟨g, 0, none⟩) N c, .slice A m d]).run Try.prog w = .ok (goInt m) (w.setRow g (flatM M ++ cur.toList.drop (m * 4)).toArray) := by
  have hml := hV.len
  obtain ⟨i, hi, hsz⟩ : ∃ i, Try.prog.info? 28 = some i ∧ i.size = 4 := by
    cases hq : Try.prog.info? 28 with
    | none => have := ms_size; rw [hq] at this; cases this
    | some i => exact ⟨i, rfl, by have := ms_size; rw [hq] at this; simpa using this⟩
  have hmin : Nat.min m N = m := Nat.min_eq_left hm
  have hst := run_storeCells_at Try.prog g 0 28 (flatM M) 0 cur w hg (by rw [flatM_len]; omega) (flatM_one M)
  rw [flatM_len, hml] at hst
  simp only [Nat.zero_add, List.take_zero, List.nil_append] at hst
  have hl : (Builtin.firstCells 4 m (.slice A m d)).run Try.prog w = .ok (flatM M).toArray w := by
    rcases A with _ | ad
    · have hn : m = 0 := by
        rcases Nat.eq_zero_or_pos m with h0 | h0
        · exact h0
        · obtain ⟨_, _, e, _⟩ := hV.2 h0
          cases e
      subst hn
      obtain rfl : M = [] := List.eq_nil_of_length_eq_zero hml
      simp [Builtin.firstCells, flatM]
    · refine run_firstCells_some w 4 m ad m d (flatM M) (by rw [flatM_len, hml]) (fun j u hu => ?_)
      have hlt : j < (flatM M).length := (List.getElem?_eq_some_iff.1 hu).1
      rw [flatM_len] at hlt
      obtain ⟨b, off, e, hc⟩ := hV.2 (by omega)
      cases e
      have hadd : (⟨b, off, none⟩ : Addr).add j = ⟨b, off + j, none⟩ := by unfold Addr.add; split <;> simp_all
      rw [hadd]
      exact hc j u hu
  simp [Builtin.copy_, run_underlying Try.underlying30, Builtin.lenOf, sizeOf, typeInfo, hi, hsz, hmin, hl, hst]
theorem ms_zero (w : World) : (zeroValue 28).run Try.prog w = .ok (.agg #[.string ⟨#[]⟩, .string ⟨#[]⟩, .int .u8 0, .bool false]) w := by
  obtain ⟨i, hi, hz0, _, _⟩ := info_parts ms_info
  simp [zeroValue, typeInfo, hi, hz0]
  rfl
def nilMs : Ms := ([], [], 0, false)
theorem zero_cells (n : Nat) : (Builtin.zeroCells #[.string ⟨#[]⟩, .string ⟨#[]⟩, .int .u8 0, .bool false] n).toList = flatM (List.replicate n nilMs) := by
  have hl : (flatM (List.replicate n nilMs)).length = n * 4 := by rw [flatM_len, List.length_replicate]
  apply List.ext_getElem?
  intro j
  by_cases hj : j < n * 4
  · have h1 : (List.replicate n nilMs)[j / 4]? = some nilMs := by rw [List.getElem?_replicate, if_pos (by omega)]
    obtain ⟨c0, c1, c2, c3⟩ := flatM_at _ _ _ h1
    have h2 : j % 4 = 0 ∨ j % 4 = 1 ∨ j % 4 = 2 ∨ j % 4 = 3 := by omega
    simp only [Builtin.zeroCells]
    rcases h2 with h2 | h2 | h2 | h2
    · rw [show j = j / 4 * 4 by omega, c0]
      simp [show j / 4 * 4 < n * 4 by omega]; rfl
    · rw [show j = j / 4 * 4 + 1 by omega, c1]
      simp [show j / 4 * 4 + 1 < n * 4 by omega, show (j / 4 * 4 + 1) % 4 = 1 by omega]; rfl
    · rw [show j = j / 4 * 4 + 2 by omega, c2]
      simp [show j / 4 * 4 + 2 < n * 4 by omega, show (j / 4 * 4 + 2) % 4 = 2 by omega]; rfl
    · rw [show j = j / 4 * 4 + 3 by omega, c3]
      simp [show j / 4 * 4 + 3 < n * 4 by omega, show (j / 4 * 4 + 3) % 4 = 3 by omega]; rfl
  · rw [List.getElem?_eq_none (by simp [Builtin.zeroCells]; omega), List.getElem?_eq_none (by omega)]
/-- A clear of n > 0 messages of a row, from a place on. -/
theorem run_mclear {ty : TypeId} {g k n d : Nat} {cur : Array Value} (hg : w.heap[g]? = some (.cells cur 28 (0, 0))) (hn : 0 < n) (hN : (k + n) * 4 ≤ cur.size) :
    (Builtin.clear_ #[30] ty #[.slice (some ⟨g, k * 4, none⟩) n d]).run Try.prog w = .ok (.tuple #[]) (w.setRow g (cur.toList.take (k * 4) ++ flatM (List.replicate n nilMs) ++ cur.toList.drop (k * 4 + n * 4)).toArray) := by
  have hst := run_storeCells_at Try.prog g (k * 4) 28 (flatM (List.replicate n nilMs)) 0 cur w hg (by rw [flatM_len, List.length_replicate]; omega) (flatM_one _)
  rw [flatM_len, List.length_replicate, Nat.add_zero] at hst
  obtain ⟨m, rfl⟩ : ∃ m, n = m + 1 := ⟨n - 1, by omega⟩
  simp [Builtin.clear_, run_underlying Try.underlying30, ms_zero, Value.cells, zero_cells, hst]
end
section
variable {P : Program} {ops : Array Oper} {rest : List Oper} {o : Oper} {a : Act} {K : Act → World → Prop} {Q : Exit → Act → World → Prop} {E : Prop} {w w' : World}
theorem step_cpy (hgd : o.guard = none) (t : TypeId) (s x : Operand) (ho : o.op = .call { callee := .builtin .copy, args := #[s, x], argTypes := #[t, t] }) {sv xv v' : Value} (hs : a.eval s = sv) (hx : a.eval x = xv)
    (hrun : (Builtin.copy_ #[t, t] o.type #[sv, xv]).run P w = .ok v' w') (h : K (a.put o.dst v') w') : if Region.wanted o (yielded ops a.tmps) = true then Oper.wp P o a w K Q else E := by
  have hw : Region.wanted o (yielded ops a.tmps) = true := by simp [Region.wanted, hgd]
  rw [if_pos hw]
  unfold Oper.wp
  simp [execOp, ho, resolve, invoke, builtin, hs, hx, hrun, Result.andThen]
  exact h
theorem wpList_clr (hgd : o.guard = none) (t : TypeId) (s : Operand) (ho : o.op = .call { callee := .builtin .clear, args := #[s], argTypes := #[t] }) {sv v' : Value} (hs : a.eval s = sv)
    (hrun : (Builtin.clear_ #[t] o.type #[sv]).run P w = .ok v' w') (h : wpList P ops Q rest (a.put o.dst v') w') : wpList P ops Q (o :: rest) a w := by
  refine wpList_plain hgd fun K' hK' => ?_
  unfold Oper.wp
  simp [execOp, ho, resolve, invoke, builtin, hs, hrun, Result.andThen]
  exact hK' _ _ h
end
end Go.Proofs.Ytihgikhnkkmhhaa
