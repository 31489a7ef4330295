/-
  trie's statements: a slice of acts that came in; what their helpers answer.
-/
import Derived.Test.YtipdmfnkkkdlbaaGreatDoorTrOwn
import Derived.Test.YtipdmfnkkkdlbaaGreatDoorTpLaw
import Derived.Deep.Slices
import Derived.Deep.Fields
import Derived.ChangeSame
set_option linter.unusedSimpArgs false
set_option linter.unusedVariables false
namespace Go.Proofs.YtipdmfnkkkdlbaaGreatDoor
open Go.RowKit Go.ChangeShapes Go.WideShapes Go.Deep
theorem list_of2 {α : Type} (P : Nat → α → Prop) : ∀ n : Nat, (∀ i, i < n → ∃ x, P i x) → ∃ L : List α, L.length = n ∧ ∀ i x, L[i]? = some x → P i x
  | 0, _ => ⟨[], rfl, fun i x hx => by simp at hx⟩
  | n + 1, h => by
    obtain ⟨L, h1, h2⟩ := list_of2 P n (fun i hi => h i (by omega))
    obtain ⟨x, hx⟩ := h n (by omega)
    refine ⟨L ++ [x], by simp [h1], fun i y hy => ?_⟩
    by_cases hi : i < n
    · rw [List.getElem?_append_left (by omega)] at hy
      exact h2 i y hy
    · by_cases hn : i = n
      · subst hn
        rw [← h1, List.getElem?_append_right (Nat.le_refl _), Nat.sub_self] at hy
        simp at hy
        rw [← hy]
        exact hx
      · have := (List.getElem?_eq_some_iff.1 hy).1
        simp at this
        omega
section
variable {H : Type} {enc : TypeId × Value → H} {P : Program} {w : World} {base : Nat} {spare : Nat → Bool} {held : Bool}
theorem open_slice_flat {t e : TypeId} {fs : Array Field} {fuel : Nat} {cs : List Value} {x : DataW H × List MemPlace} (ht : P.underlying t = some (.slice e)) (he : P.underlying e = some (.struct fs))
    (hone : oneCellFields P fs = true) (hC : P.cellsOf e = fs.size) (h : DataW.trod enc P w base spare held fuel t cs = some x) :
    (cs = [.slice none 0 0] ∧ x = (.nil, [])) ∨
    ∃ (a : Addr) (len cap m : Nat), cs = [.slice (some a) len cap] ∧ len ≤ cap ∧ cap ≤ maxLen ∧ len ≤ m ∧
      ∀ i, i < m → ∃ (n : Nat), ∀ (j : Nat) (f : Field), fs[j]? = some f → ∃ (v : Value) (y : DataW H × List MemPlace), w.cell? (a.add (i * fs.size + j)) = some v ∧ DataW.trod enc P w base spare held n f.type [v] = some y := by
  rcases open_slice ht h with h0 | ⟨a, len, cap, m, n, D, Pl, hcs, hb, hl, hm, hmm, hx, hi⟩
  · exact .inl h0
  · refine .inr ⟨a, len, cap, m, hcs, hl, hm, by rw [hmm]; split <;> omega, fun i him => ?_⟩
    obtain ⟨cs', hc, ht'⟩ := hi i him
    rw [hC] at hc
    obtain ⟨ys, n', hn', hy, hlen, hyl, hf⟩ := DataW.trod_struct he ht'
    obtain ⟨_, hcl, hat⟩ := World.cells?_some hc
    refine ⟨n', fun j f hj => ?_⟩
    obtain ⟨ho, hk⟩ := hone_of hone j f hj
    have hjl : j < fs.size := (Array.getElem?_eq_some_iff.1 hj).1
    have hcell := hat j hjl
    have hv : cs'[j]? = some (cs'[j]'(by omega)) := List.getElem?_eq_getElem (by omega)
    have h1 := hf j f hj
    rw [ho, hk] at h1
    have hone' : (cs'.drop j).take 1 = [cs'[j]'(by omega)] := by
      rw [List.drop_eq_getElem_cons (by omega)]
      rfl
    rw [hone'] at h1
    have hys : ys[j]? = some (ys[j]'(by omega)) := List.getElem?_eq_getElem (by omega)
    refine ⟨_, _, ?_, h1.trans hys⟩
    rw [← Go.Deep.add_add, hcell, hv]
end
/-- An act. -/
structure Ac where
  d : Int
  f : List UInt8
  c : List UInt8
  nm : List UInt8
/-- What holds of any act that comes in. -/
def AcIn (x : Ac) : Prop := 0 ≤ x.d ∧ x.d ≤ 255 ∧ x.f.length ≤ 9223372036854775807 ∧ x.c.length ≤ 9223372036854775807 ∧ x.nm.length ≤ 9223372036854775807
def AcAt (w : World) (b o : Nat) (x : Ac) : Prop :=
  w.cell? ⟨b, o, none⟩ = some (.int .u8 x.d) ∧ w.cell? ⟨b, o + 1, none⟩ = some (.string ⟨x.f.toArray⟩) ∧ w.cell? ⟨b, o + 2, none⟩ = some (.string ⟨x.c.toArray⟩) ∧ w.cell? ⟨b, o + 3, none⟩ = some (.string ⟨x.nm.toArray⟩)
/-- A slice of acts reads as l. -/
def Acts (w : World) (A : Option Addr) (n : Nat) (l : List Ac) : Prop :=
  l.length = n ∧ (0 < n → ∃ b off, A = some ⟨b, off, none⟩ ∧ ∀ j x, l[j]? = some x → AcAt w b (off + j * 4) x)
section
variable {w w' : World} {A : Option Addr} {n : Nat} {l : List Ac}
theorem AcAt.below {b o : Nat} {x : Ac} (h : AcAt w b o x) (hb : Below w.heap.size w w') : AcAt w' b o x :=
  ⟨(hb.cell (World.block_lt_of_cell? _ _ h.1)).trans h.1, (hb.cell (World.block_lt_of_cell? _ _ h.2.1)).trans h.2.1, (hb.cell (World.block_lt_of_cell? _ _ h.2.2.1)).trans h.2.2.1, (hb.cell (World.block_lt_of_cell? _ _ h.2.2.2)).trans h.2.2.2⟩
theorem Acts.len (h : Acts w A n l) : l.length = n := h.1
theorem Acts.nil (A : Option Addr) : Acts w A 0 [] := ⟨rfl, fun h => by omega⟩
theorem Acts.below (h : Acts w A n l) (hb : Below w.heap.size w w') : Acts w' A n l :=
  ⟨h.1, fun hn => by
    obtain ⟨b, off, e, hc⟩ := h.2 hn
    exact ⟨b, off, e, fun j x hx => (hc j x hx).below hb⟩⟩
theorem Acts.at_ (h : Acts w A n l) {k : Nat} (hk : k < n) : ∃ b off x, A = some ⟨b, off, none⟩ ∧ l[k]? = some x ∧ AcAt w b (off + k * 4) x := by
  obtain ⟨hl, h⟩ := h
  obtain ⟨b, off, rfl, hc⟩ := h (by omega)
  have hlt : k < l.length := by omega
  exact ⟨b, off, l[k], rfl, List.getElem?_eq_getElem hlt, hc k _ (List.getElem?_eq_getElem hlt)⟩
end
section
variable {H : Type} {enc : TypeId × Value → H}
set_option maxRecDepth 100000 in
theorem open_Acts {W : World} {base : Nat} {v : Value} {d : DataW H} {pl : List MemPlace} {sp : Nat → Bool} {hd : Bool}
    (hok : Value.okWide Tryz.prog W .any base 22 v) (h : DataW.Trod enc Tryz.prog W 0 sp hd 22 v d pl) : ∃ A n c l, v = .slice A n c ∧ Acts W A n l ∧ (A = none → c = 0) ∧ n ≤ 9223372036854775807 ∧ Hid (∀ x ∈ l, AcIn x) := by
  obtain ⟨a0, len0, cap0, rfl⟩ := okWide_slice Tryz.underlying22 hok
  obtain ⟨fuel, hf⟩ := h
  rcases open_slice_flat Tryz.underlying22 Tryz.underlying33 (by kernel_rfl) (by kernel_rfl) hf with ⟨hcs, _⟩ | ⟨a, len, cap, m, hcs, hl, hm, hml, hi⟩
  · have e0 : Value.slice a0 len0 cap0 = .slice none 0 0 := by simpa [Value.cells] using hcs
    rw [e0]
    exact ⟨none, 0, 0, [], rfl, Acts.nil _, fun _ => rfl, by omega, fun x hx => (by cases hx)⟩
  · have e0 : Value.slice a0 len0 cap0 = .slice (some a) len cap := by simpa [Value.cells] using hcs
    rw [e0]
    have hmax : cap ≤ 9223372036854775807 := by unfold maxLen at hm; omega
    rcases Nat.eq_zero_or_pos len with h0 | h0
    · subst h0
      exact ⟨some a, 0, cap, [], rfl, Acts.nil _, fun e => (by cases e), by omega, fun x hx => (by cases hx)⟩
    have key : ∀ i, i < len → ∃ x : Ac, (W.cell? (a.add (i * 4)) = some (.int .u8 x.d) ∧ W.cell? (a.add (i * 4 + 1)) = some (.string ⟨x.f.toArray⟩) ∧ W.cell? (a.add (i * 4 + 2)) = some (.string ⟨x.c.toArray⟩) ∧ W.cell? (a.add (i * 4 + 3)) = some (.string ⟨x.nm.toArray⟩)) ∧ AcIn x := by
      intro i hil
      obtain ⟨n, hj⟩ := hi i (by omega)
      obtain ⟨v0, y0, c0, t0⟩ := hj 0 _ rfl
      obtain ⟨v1, y1, c1, t1⟩ := hj 1 _ rfl
      obtain ⟨v2, y2, c2, t2⟩ := hj 2 _ rfl
      obtain ⟨v3, y3, c3, t3⟩ := hj 3 _ rfl
      obtain ⟨q, eq, _, hq⟩ := DataW.trod_int Tryz.underlying5 t0
      obtain ⟨s1, es1, _, hs1⟩ := DataW.trod_string Tryz.underlying9 t1
      obtain ⟨s2, es2, _, hs2⟩ := DataW.trod_string Tryz.underlying9 t2
      obtain ⟨s3, es3, _, hs3⟩ := DataW.trod_string Tryz.underlying9 t3
      obtain rfl := (List.cons.inj eq).1
      obtain rfl := (List.cons.inj es1).1
      obtain rfl := (List.cons.inj es2).1
      obtain rfl := (List.cons.inj es3).1
      obtain ⟨l1, rfl, z1⟩ := str_of s1
      obtain ⟨l2, rfl, z2⟩ := str_of s2
      obtain ⟨l3, rfl, z3⟩ := str_of s3
      have hqb := u8_bd q hq
      unfold maxLen at hs1 hs2 hs3
      exact ⟨⟨q, l1, l2, l3⟩, ⟨c0, c1, c2, c3⟩, hqb.1, hqb.2, by show l1.length ≤ _; omega, by show l2.length ≤ _; omega, by show l3.length ≤ _; omega⟩
    obtain ⟨b, off, spot⟩ := a
    have hspot : spot = none := by
      obtain ⟨x, h1, _⟩ := key 0 h0
      simpa [Addr.add] using World.cell?_spot h1.1
    subst hspot
    have add_p : ∀ j, (⟨b, off, none⟩ : Addr).add j = ⟨b, off + j, none⟩ := fun j => by unfold Addr.add; split <;> simp_all
    obtain ⟨L, hL, hP⟩ := list_of2 _ len key
    refine ⟨some ⟨b, off, none⟩, len, cap, L, rfl, ⟨hL, fun _ => ⟨b, off, rfl, fun j x hx => ?_⟩⟩, fun e => (by cases e), by omega, fun x hx => ?_⟩
    · obtain ⟨h1, h2, h3, h4⟩ := (hP j x hx).1
      rw [add_p] at h1 h2 h3 h4
      exact ⟨h1, by rw [Nat.add_assoc]; exact h2, by rw [Nat.add_assoc]; exact h3, by rw [Nat.add_assoc]; exact h4⟩
    · obtain ⟨i, hi2⟩ := List.mem_iff_getElem?.1 hx
      exact (hP i x hi2).2
end
end Go.Proofs.YtipdmfnkkkdlbaaGreatDoor
