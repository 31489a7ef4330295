/-
  The call's own row of packets.
-/
import Derived.Test.YtphdooaihbmnlaaDoorWrD
import Derived.Test.YtphdooaihbmnlaaDoorPkI
set_option linter.unusedSimpArgs false
set_option linter.unusedVariables false
namespace Go.Proofs.YtphdooaihbmnlaaDoor
open Go.RowKit
set_option maxRecDepth 100000
/-- A block of Subs that the own row is none of: it lies ahead of the call, or it holds Subs. -/
def SpB (w : World) (B b : Nat) : Prop := b < B ∨ ∃ cur, w.heap[b]? = some (.cells cur 30 (0, 0))
/-- Cells that read as packets. -/
def RdP (w : World) (B : Nat) (L : List Value) (ps : List PX) : Prop :=
  L.length = ps.length * 24 ∧ ∀ j x, ps[j]? = some x → ∃ A' n' c', (L.drop (j * 24)).take 24 = (PkC x.1 A' n' c').toList ∧ Subs w A' n' x.2 ∧ (A' = none → c' = 0) ∧ (0 < n' → ∀ b o, A' = some ⟨b, o, none⟩ → SpB w B b)
theorem PkC_onec (p : Pk) (A : Option Addr) (n c : Nat) : ∀ u ∈ (PkC p A n c).toList, u.oneCell' = true := by
  intro u hu
  simp only [PkC, List.mem_cons, List.mem_nil_iff, or_false] at hu
  rcases hu with rfl | rfl | rfl | rfl | rfl | rfl | rfl | rfl | rfl | rfl | rfl | rfl | rfl | rfl | rfl | rfl | rfl | rfl | rfl | rfl | rfl | rfl | rfl | rfl <;> rfl
theorem Subs.keep {w w' : World} {A : Option Addr} {n : Nat} {xs : List (List UInt8 × Int)} (h : Subs w A n xs) (hs : w.heap.size ≤ w'.heap.size) (hk : 0 < n → ∀ b o, A = some ⟨b, o, none⟩ → b < w.heap.size → w'.heap[b]? = w.heap[b]?) : Subs w' A n xs :=
  ⟨h.1, fun hn => by
    obtain ⟨b, off, e, hlt, hc⟩ := h.2 hn
    have hr : rowAt w' b = rowAt w b := by unfold rowAt; rw [hk hn b off e hlt]
    exact ⟨b, off, e, by omega, fun j x hx => by rw [hr]; exact hc j x hx⟩⟩
section
variable {w w' : World} {B : Nat} {L M : List Value} {ps qs : List PX}
theorem RdP.nil : RdP w B [] [] := ⟨rfl, fun j x hx => by simp at hx⟩
theorem RdP.keep (h : RdP w B L ps) (hs : w.heap.size ≤ w'.heap.size) (hk : ∀ b, b < w.heap.size → SpB w B b → w'.heap[b]? = w.heap[b]?) : RdP w' B L ps :=
  ⟨h.1, fun j x hx => by
    obtain ⟨A', n', c', h1, h2, h3, h4⟩ := h.2 j x hx
    refine ⟨A', n', c', h1, h2.keep hs (fun hn b o e hlt => hk b hlt (h4 hn b o e)), h3, fun hn b o e => ?_⟩
    have h5 := h4 hn b o e
    rcases h5 with h6 | ⟨cur, h6⟩
    · exact Or.inl h6
    · exact Or.inr ⟨cur, (hk b (Array.getElem?_eq_some_iff.1 h6).1 (Or.inr ⟨cur, h6⟩)).trans h6⟩⟩
theorem RdP.below (h : RdP w B L ps) (hb : Below w.heap.size w w') : RdP w' B L ps := h.keep hb.size (fun b hlt _ => hb.block b hlt)
theorem RdP.app (h : RdP w B L ps) (k : RdP w B M qs) : RdP w B (L ++ M) (ps ++ qs) := by
  refine ⟨by rw [List.length_append, List.length_append, h.1, k.1]; omega, fun j x hx => ?_⟩
  by_cases hj : j < ps.length
  · rw [List.getElem?_append_left hj] at hx
    obtain ⟨A', n', c', h1, h2⟩ := h.2 j x hx
    refine ⟨A', n', c', ?_, h2⟩
    rw [List.drop_append_of_le_length (by rw [h.1]; omega), List.take_append_of_le_length (by rw [List.length_drop, h.1]; omega), h1]
  · rw [List.getElem?_append_right (by omega)] at hx
    obtain ⟨A', n', c', h1, h2⟩ := k.2 _ x hx
    refine ⟨A', n', c', ?_, h2⟩
    rw [List.drop_append, List.drop_eq_nil_of_le (by rw [h.1]; omega), List.nil_append, h.1, ← Nat.sub_mul, h1]
theorem RdP.ones (h : RdP w B L ps) : ∀ u ∈ L, u.oneCell' = true := by
  intro u hu
  obtain ⟨i, hi, rfl⟩ := List.mem_iff_getElem.1 hu
  have hl := h.1
  have hk : i / 24 < ps.length := by omega
  obtain ⟨A', n', c', h1, _⟩ := h.2 (i / 24) ps[i / 24] (List.getElem?_eq_getElem hk)
  refine PkC_onec ps[i / 24].1 A' n' c' _ ?_
  rw [← h1]
  refine List.mem_iff_getElem?.2 ⟨i % 24, ?_⟩
  rw [List.getElem?_take_of_lt (by omega), List.getElem?_drop, show i / 24 * 24 + i % 24 = i by omega]
  exact List.getElem?_eq_getElem hi
/-- A slice whose cells read as packets. -/
def RdS (w : World) (B : Nat) (A : Option Addr) (n : Nat) (ps : List PX) : Prop :=
  ps.length = n ∧ (0 < n → ∃ b off L, A = some ⟨b, off, none⟩ ∧ RdP w B L ps ∧ ∀ j u, L[j]? = some u → w.cell? ⟨b, off + j, none⟩ = some u)
theorem Pks.rd {w0 : World} {A : Option Addr} {n : Nat} (h : Pks w0 A n ps) (hb : Below w0.heap.size w0 w) : RdS w w0.heap.size A n ps := by
  obtain ⟨rfl, h⟩ := h
  refine ⟨rfl, fun hn => ?_⟩
  obtain ⟨b, off, e, hlt, hc⟩ := h hn
  have hsz : off + ps.length * 24 ≤ (rowAt w0 b).size := by
    have := (hc (ps.length - 1) ps[ps.length - 1] (List.getElem?_eq_getElem (by omega))).1
    omega
  refine ⟨b, off, ((rowAt w0 b).extract off (off + ps.length * 24)).toList, e, ⟨by simp; omega, fun j x hx => ?_⟩, fun j u hu => ?_⟩
  · obtain ⟨h1, A', n', c', h2, h3, h4⟩ := hc j x hx
    have hj : j < ps.length := (List.getElem?_eq_some_iff.1 hx).1
    refine ⟨A', n', c', ?_, h3.below hb, h4, fun hn b' o' e' => Or.inl ?_⟩
    · rw [← h2]
      simp only [Array.toList_extract, List.extract_eq_take_drop, List.drop_take, List.take_take, List.drop_drop]
      congr 1
      omega
    · obtain ⟨b2, o2, e2, h5, _⟩ := h3.2 hn
      rw [e'] at e2
      cases e2
      exact h5
  · have hj : j < ps.length * 24 := by
      have := (List.getElem?_eq_some_iff.1 hu).1
      simp at this
      omega
    rw [rowAt_cell (by rw [rowAt_below hb hlt]; omega), rowAt_below hb hlt, ← hu, Array.getElem?_toList, Array.getElem?_extract, if_pos (by omega)]
end
/-- The call's own row of packets. -/
def OwnP (B : Nat) (w0 wr : World) (v : Value) (ps : List PX) : Prop :=
  ∃ L, wr.ownsRow B 27 24 v ps.length L ∧ RdP wr B L ps ∧ Below B w0 wr ∧ B ≤ wr.heap.size
section
variable {B : Nat} {w0 wr w' : World} {v : Value} {ps : List PX}
theorem OwnP.nil (h : Below B w0 wr) (hB : B ≤ wr.heap.size) : OwnP B w0 wr (.slice none 0 0) [] := ⟨[], World.ownsRow_nil _ _ _ _, RdP.nil, h, hB⟩
theorem OwnP.more (h : OwnP B w0 wr v ps) (hb : Below wr.heap.size wr w') : OwnP B w0 w' v ps := by
  obtain ⟨L, h1, h2, h3, h4⟩ := h
  exact ⟨L, own_below h1 hb, h2.below hb, h3.trans (hb.mono h4), Nat.le_trans h4 hb.size⟩
theorem OwnP.below (h : OwnP B w0 wr v ps) : Below B w0 wr := by obtain ⟨L, h1, h2, h3, h4⟩ := h; exact h3
theorem OwnP.alloc (h : OwnP B w0 wr v ps) (o : Obj) : OwnP B w0 (wr.alloc o) v ps := h.more ((Below.refl _ _).alloc (Nat.le_refl _) o)
theorem OwnP.pks (h : OwnP B w0 wr v ps) : ∃ A c, v = .slice A ps.length c ∧ Pks wr A ps.length ps ∧ (A = none → c = 0) := by
  obtain ⟨L, h1, h2, _⟩ := h
  rcases h1.2 with ⟨rfl, hn⟩ | ⟨g, cap, cur, rfl, hB, hh, hc, _, hsz, ht⟩
  · exact ⟨none, 0, by rw [hn], ⟨rfl, fun h => by omega⟩, fun _ => rfl⟩
  · refine ⟨some ⟨g, 0, none⟩, cap, rfl, ⟨rfl, fun _ => ⟨g, 0, rfl, (Array.getElem?_eq_some_iff.1 hh).1, fun j x hx => ?_⟩⟩, fun e => (by cases e)⟩
    have hj : j < ps.length := (List.getElem?_eq_some_iff.1 hx).1
    rw [rowAt_blk hh]
    refine ⟨by omega, ?_⟩
    obtain ⟨A', n', c', h3, h4, h5, _⟩ := h2.2 j x hx
    refine ⟨A', n', c', ?_, h4, h5⟩
    rw [← ht, List.drop_take, List.take_take, show min 24 (ps.length * 24 - j * 24) = 24 by omega] at h3
    apply Array.ext'
    rw [← h3, Nat.zero_add, Array.toList_extract, List.extract_eq_take_drop]
    simp
end
theorem own_no {w : World} {B b n : Nat} {v : Value} {L : List Value} (h : w.ownsRow B 27 24 v n L) (hs : SpB w B b) : some b ≠ v.ownBlock := by
  intro e
  rcases h.2 with ⟨rfl, hn⟩ | ⟨g, cap, cur, rfl, hB, hh, _⟩
  · cases e
  · obtain rfl : b = g := by simpa [Value.ownBlock] using e
    rcases hs with h1 | ⟨cur2, h1⟩
    · omega
    · rw [hh] at h1
      injection h1 with h1
      injection h1 with _ h2 _
      revert h2
      decide
theorem pk_info : (Tryd.prog.info? 27).map (fun i => (i.zero.map fun z => z.cells.size, i.size)) = some (some 24, 24) := by kernel_rfl
theorem pk_bytes : (Tryd.prog.info? 27).map (fun i => decide (i.bytes ≤ 1000)) = some true := by kernel_rfl
theorem wpList_papp {ops : Array Oper} {rest : List Oper} {o : Oper} {a : Act} {Q : Exit → Act → World → Prop} {B : Nat} {w0 wr : World} {v : Value} {ps : List PX} (hgd : o.guard = none) (s x : Operand)
    (ho : o.op = .call { callee := .builtin .append, args := #[s, x], argTypes := #[43, 43] })
    (hs : a.eval s = v) (hb : OwnP B w0 wr v ps) (A : Option Addr) (n c : Nat) (qs : List PX) (hx : a.eval x = .slice A n c) (hI : RdS wr B A n qs) (hc0 : A = none → c = 0)
    (hl : ps.length + n ≤ 100000)
    (h : ∀ v' w', OwnP B w0 w' v' (ps ++ qs) → wr.grownBy w' v.ownBlock → wpList Tryd.prog ops Q rest (a.put o.dst v') w') : wpList Tryd.prog ops Q (o :: rest) a wr := by
  obtain ⟨i, hi, hz1⟩ := Option.map_eq_some_iff.1 pk_info
  have hz4 : i.bytes ≤ 1000 := by
    have := pk_bytes
    rw [hi] at this
    simpa using this
  obtain ⟨hz2, hz3⟩ := Prod.mk.inj hz1
  obtain ⟨z, hz, hzs⟩ := Option.map_eq_some_iff.1 hz2
  obtain ⟨L, hown, hrd, hbel, hB⟩ := hb
  obtain ⟨rfl, hI⟩ := hI
  rcases Nat.eq_zero_or_pos qs.length with h0 | h0
  · obtain rfl : qs = [] := List.eq_nil_of_length_eq_zero h0
    rcases A with _ | ad
    · obtain rfl := hc0 rfl
      exact wpList_append_own_none hgd s x _ ho B _ i 24 Tryd.underlying43 hi v ps.length _ hs hown hx (h v wr ⟨L, by simpa using hown, by simpa using hrd, hbel, hB⟩ (World.grownBy.refl wr _))
    · refine wpList_append_own wr hgd s x _ ho B _ i z 24 i.bytes Tryd.underlying43 hi hz hz3 rfl hzs (by decide) v ps.length _ hs hown ad 0 c [] hx rfl (fun j u hu => by simp at hu) (fun u hu => by cases hu) (by unfold maxLen; omega) (by simp only [List.length_nil] at hl; exact Nat.le_trans (Nat.mul_le_mul (show ps.length + 0 ≤ 100000 by omega) hz4) (by decide)) hB ?_
      intro v' w' hown' hgr _
      refine h v' w' ⟨L, by simpa using hown', ?_, hbel.grown hgr hB (fun k hk => (hown.lt k hk).1), Nat.le_trans hB hgr.size⟩ hgr
      rw [List.append_nil]
      exact hrd.keep hgr.size (fun b hlt hsp => hgr.block b hlt (own_no hown hsp))
  · obtain ⟨b, off, M, rfl, hM, hcell⟩ := hI h0
    refine wpList_append_own wr hgd s x _ ho B _ i z 24 i.bytes Tryd.underlying43 hi hz hz3 rfl hzs (by decide) v ps.length _ hs hown ⟨b, off, none⟩ qs.length c M hx hM.1 ?_ hM.ones (by unfold maxLen; omega) (Nat.le_trans (Nat.mul_le_mul hl hz4) (by decide)) hB ?_
    · intro j u hu
      have hadd : (⟨b, off, none⟩ : Addr).add j = ⟨b, off + j, none⟩ := by unfold Addr.add; split <;> simp_all
      rw [hadd]
      exact hcell j u hu
    · intro v' w' hown' hgr _
      refine h v' w' ⟨L ++ M, by rw [List.length_append]; exact hown', ?_, hbel.grown hgr hB (fun k hk => (hown.lt k hk).1), Nat.le_trans hB hgr.size⟩ hgr
      exact (hrd.app hM).keep hgr.size (fun b hlt hsp => hgr.block b hlt (own_no hown hsp))
end Go.Proofs.YtphdooaihbmnlaaDoor
