/-
  packet: Same, Copy.
-/
import Derived.Test.YtnaedcennichlaaGreatDoorPkH
import Derived.Test.YtnaedcennichlaaGreatDoorPkA
set_option linter.unusedSimpArgs false
set_option linter.unusedVariables false
namespace Go.Proofs.YtnaedcennichlaaGreatDoor
open Go.RowKit
set_option maxRecDepth 100000
/-- The cells of a row of subs. -/
def flatS : List (List UInt8 × Int) → List Value
  | [] => []
  | x :: r => .string ⟨x.1.toArray⟩ :: .int .u8 x.2 :: flatS r
theorem flatS_len : ∀ xs, (flatS xs).length = xs.length * 2
  | [] => rfl
  | x :: r => by simp only [flatS, List.length_cons, flatS_len r]; omega
theorem flatS_one : ∀ xs, ∀ u ∈ flatS xs, u.oneCell' = true
  | [], _, h => by cases h
  | x :: r, u, h => by
    simp only [flatS, List.mem_cons] at h
    rcases h with rfl | rfl | h
    · rfl
    · rfl
    · exact flatS_one r u h
theorem flatS_app : ∀ xs ys, flatS (xs ++ ys) = flatS xs ++ flatS ys
  | [], _ => rfl
  | x :: r, ys => by simp only [List.cons_append, flatS, flatS_app r ys]
theorem flatS_at : ∀ (xs : List (List UInt8 × Int)) (j : Nat) x, xs[j]? = some x → ((flatS xs).drop (j * 2)).take 2 = (SbC x.1 x.2).toList
  | [], _, _, h => by simp at h
  | y :: r, 0, x, h => by simp at h; subst h; simp [flatS, SbC]
  | y :: r, j + 1, x, h => by
    have := flatS_at r j x (by simpa using h)
    rw [show (j + 1) * 2 = j * 2 + 1 + 1 by omega]
    simpa [flatS] using this
theorem flatS_get : ∀ (xs : List (List UInt8 × Int)) (j : Nat) u, (flatS xs)[j]? = some u → ∃ k x r, xs[k]? = some x ∧ j = k * 2 + r ∧ r < 2 ∧ (SbC x.1 x.2)[r]? = some u
  | [], j, u, h => by simp [flatS] at h
  | y :: r, 0, u, h => ⟨0, y, 0, rfl, rfl, by omega, by simpa [flatS, SbC] using h⟩
  | y :: r, 1, u, h => ⟨0, y, 1, rfl, rfl, by omega, by simpa [flatS, SbC] using h⟩
  | y :: r, j + 2, u, h => by
    obtain ⟨k, x, q, h1, h2, h3, h4⟩ := flatS_get r j u (by simpa [flatS] using h)
    exact ⟨k + 1, x, q, by simpa using h1, by omega, h3, h4⟩
theorem rowAt_cell {w : World} {b i : Nat} (h : i < (rowAt w b).size) : w.cell? ⟨b, i, none⟩ = (rowAt w b)[i]? := by
  obtain ⟨t, fr, hh⟩ := rowAt_some (w := w) (g := b) (by omega)
  exact cell_of_row w b i _ t fr hh
theorem Subs.cells {w : World} {b off n : Nat} {xs : List (List UInt8 × Int)} (h : Subs w (some ⟨b, off, none⟩) n xs) : ∀ j u, (flatS xs)[j]? = some u → w.cell? ⟨b, off + j, none⟩ = some u := by
  intro j u hu
  obtain ⟨k, x, r, h1, rfl, h3, h4⟩ := flatS_get xs j u hu
  have hk : k < n := by rw [← h.len]; exact (List.getElem?_eq_some_iff.1 h1).1
  obtain ⟨b', off', x', e, hx', _, hs, he⟩ := h.at_ hk
  cases e
  rw [h1] at hx'
  cases hx'
  rw [rowAt_cell (by omega), ← h4, ← he, Array.getElem?_extract, if_pos (by omega)]
  congr 1
  omega
/-- The call's own row of subs. -/
def OwnS (B : Nat) (w0 wr : World) (v : Value) (xs : List (List UInt8 × Int)) : Prop :=
  wr.ownsRow B 42 2 v xs.length (flatS xs) ∧ Below B w0 wr ∧ B ≤ wr.heap.size
theorem OwnS.nil {B : Nat} {w0 wr : World} (h : Below B w0 wr) (hB : B ≤ wr.heap.size) : OwnS B w0 wr (.slice none 0 0) [] := ⟨World.ownsRow_nil _ _ _ _, h, hB⟩
theorem subs_of_own {w : World} {B : Nat} {v : Value} {xs : List (List UInt8 × Int)} (h : w.ownsRow B 42 2 v xs.length (flatS xs)) : ∃ A c, v = .slice A xs.length c ∧ Subs w A xs.length xs ∧ (A = none → c = 0) ∧ (∀ b o, A = some ⟨b, o, none⟩ → B ≤ b) := by
  rcases h.2 with ⟨rfl, hn⟩ | ⟨g, cap, cur, rfl, hB, hh, hc, _, hsz, ht⟩
  · exact ⟨none, 0, by rw [hn], ⟨rfl, fun h => by omega⟩, fun _ => rfl, fun b o e => (by cases e)⟩
  · refine ⟨some ⟨g, 0, none⟩, cap, rfl, ⟨rfl, fun _ => ⟨g, 0, rfl, (Array.getElem?_eq_some_iff.1 hh).1, fun j x hx => ?_⟩⟩, fun e => (by cases e), fun b o e => by cases e; exact hB⟩
    have hj : j < xs.length := (List.getElem?_eq_some_iff.1 hx).1
    rw [rowAt_blk hh]
    refine ⟨by omega, ?_⟩
    have h1 := flatS_at xs j x hx
    rw [← ht, List.drop_take, List.take_take, show min 2 (xs.length * 2 - j * 2) = 2 by omega] at h1
    apply Array.ext'
    rw [← h1, Nat.zero_add, Array.toList_extract, List.extract_eq_take_drop]
    simp
theorem sub_info : (Tryz.prog.info? 42).map (fun i => (i.zero, i.size, i.bytes)) = some (some (.agg #[.string ByteArray.empty, .int .u8 0]), 2, 24) := by kernel_rfl
theorem wpList_sapp {ops : Array Oper} {rest : List Oper} {o : Oper} {a : Act} {Q : Exit → Act → World → Prop} {B : Nat} {w0 wr : World} {v : Value} {xs : List (List UInt8 × Int)} (hgd : o.guard = none) (s x : Operand)
    (ho : o.op = .call { callee := .builtin .append, args := #[s, x], argTypes := #[34, 34] })
    (hs : a.eval s = v) (hb : OwnS B w0 wr v xs) (A : Option Addr) (n c : Nat) (ys : List (List UInt8 × Int)) (hx : a.eval x = .slice A n c) (hI : Subs wr A n ys) (hc0 : A = none → c = 0)
    (hl : xs.length + n ≤ 10000000)
    (h : ∀ v' w', OwnS B w0 w' v' (xs ++ ys) → wr.grownBy w' v.ownBlock → wpList Tryz.prog ops Q rest (a.put o.dst v') w') : wpList Tryz.prog ops Q (o :: rest) a wr := by
  obtain ⟨i, hi, hz0, hz1, hz2⟩ := info_parts sub_info
  obtain ⟨hown, hbel, hB⟩ := hb
  have hyl := hI.len
  rcases A with _ | ad
  · have hn : n = 0 := by
      rcases Nat.eq_zero_or_pos n with h0 | h0
      · exact h0
      · obtain ⟨_, _, e, _⟩ := hI.2 h0
        cases e
    subst hn
    obtain rfl : ys = [] := List.eq_nil_of_length_eq_zero hyl
    obtain rfl := hc0 rfl
    exact wpList_append_own_none hgd s x _ ho B _ i 2 Tryz.underlying34 hi v xs.length _ hs hown hx (h v wr ⟨by simpa using hown, hbel, hB⟩ (World.grownBy.refl wr _))
  · subst hyl
    refine wpList_append_own wr hgd s x _ ho B _ i _ 2 24 Tryz.underlying34 hi hz0 hz1 hz2 rfl (by decide) v xs.length _ hs hown ad ys.length c (flatS ys) hx (flatS_len ys) ?_ (flatS_one ys) (by unfold maxLen; omega) (by omega) hB ?_
    · intro j u hu
      have hlt : j < (flatS ys).length := (List.getElem?_eq_some_iff.1 hu).1
      rw [flatS_len] at hlt
      obtain ⟨b, off, e, _⟩ := hI.2 (by omega)
      cases e
      have hadd : (⟨b, off, none⟩ : Addr).add j = ⟨b, off + j, none⟩ := by unfold Addr.add; split <;> simp_all
      rw [hadd]
      exact hI.cells j u hu
    · intro v' w' hown' hgr _
      refine h v' w' ⟨?_, ?_, ?_⟩ hgr
      · rw [List.length_append, flatS_app]; exact hown'
      · exact hbel.grown hgr hB (fun k hk => (hown.lt k hk).1)
      · exact Nat.le_trans hB hgr.size
theorem ret_pk {fn : Func} {R : Ending → World → Prop} {a : Act} {w : World} (s : Tmp) (g : Nat) (p : Pk) (A : Option Addr) (n c : Nat) (hres : fn.results = #[.cell s 36])
    (hs : a.tmps.getD s undef = .pointer (some ⟨g, 0, none⟩)) (hrow : rowAt w g = PkC p A n c) (hd : a.defers = []) (hR : R (.returned (.agg (PkC p A n c))) w) : bodyPost Tryz.prog fn R .ret a w :=
  ret_row s _ 24 g _ hres (by kernel_rfl) (by kernel_rfl) hs hrow PkC_size (by omega) hd hR
theorem Subs.set {w : World} {A : Option Addr} {n g : Nat} {xs : List (List UInt8 × Int)} (h : Subs w A n xs) (hne : ∀ b o, A = some ⟨b, o, none⟩ → b ≠ g) (cs : Array Value) : Subs (w.setRow g cs) A n xs :=
  ⟨h.1, fun hn => by
    obtain ⟨b, off, e, hlt, hc⟩ := h.2 hn
    have hr : rowAt (w.setRow g cs) b = rowAt w b := by unfold rowAt; rw [setRow_other w g b cs (hne b off e)]
    exact ⟨b, off, e, by simpa using hlt, fun j x hx => by rw [hr]; exact hc j x hx⟩⟩
end Go.Proofs.YtnaedcennichlaaGreatDoor
