/-
  queue's statements: a slice of acts that came in.
-/
import Derived.Test.YtihgikhnkkmhhaaMsg
import Derived.Test.YtihgikhnkkmhhaaFlat
import Derived.SizedLaws
set_option linter.unusedSimpArgs false
set_option linter.unusedVariables false
namespace Go.Proofs.Ytihgikhnkkmhhaa
open Go.RowKit Go.ChangeShapes Go.WideShapes Go.Deep

/-- An act: its kind, its message. -/
structure Aq where
  k : Int
  m : Ms
/-- What holds of any act that comes in. -/
def AqIn (x : Aq) : Prop := 0 ≤ x.k ∧ x.k ≤ 255 ∧ 0 ≤ x.m.2.2.1 ∧ x.m.2.2.1 ≤ 255 ∧ x.m.1.length ≤ 140737488351232 ∧ x.m.2.1.length ≤ 140737488351232
def AqAt (w : World) (b o : Nat) (x : Aq) : Prop := w.cell? ⟨b, o, none⟩ = some (.int .u8 x.k) ∧ MsAt w b (o + 1) x.m
/-- A slice of acts reads as l. -/
def Aqs (w : World) (A : Option Addr) (n : Nat) (l : List Aq) : Prop :=
  l.length = n ∧ (0 < n → ∃ b off, A = some ⟨b, off, none⟩ ∧ ∀ j x, l[j]? = some x → AqAt w b (off + j * 5) x)
section
variable {w w' : World} {A : Option Addr} {n : Nat} {l : List Aq}
theorem AqAt.below {b o : Nat} {x : Aq} (h : AqAt w b o x) (hb : Below w.heap.size w w') : AqAt w' b o x :=
  ⟨(hb.cell (World.block_lt_of_cell? _ _ h.1)).trans h.1, h.2.below hb⟩
theorem Aqs.len (h : Aqs w A n l) : l.length = n := h.1
theorem Aqs.nil (A : Option Addr) : Aqs w A 0 [] := ⟨rfl, fun h => by omega⟩
theorem Aqs.below (h : Aqs w A n l) (hb : Below w.heap.size w w') : Aqs w' A n l :=
  ⟨h.1, fun hn => by
    obtain ⟨b, off, e, hc⟩ := h.2 hn
    exact ⟨b, off, e, fun j x hx => (hc j x hx).below hb⟩⟩
theorem Aqs.at_ (h : Aqs w A n l) {k : Nat} (hk : k < n) : ∃ b off x, A = some ⟨b, off, none⟩ ∧ l[k]? = some x ∧ AqAt w b (off + k * 5) x := by
  obtain ⟨hl, h⟩ := h
  obtain ⟨b, off, rfl, hc⟩ := h (by omega)
  have hlt : k < l.length := by omega
  exact ⟨b, off, l[k], rfl, List.getElem?_eq_getElem hlt, hc k _ (List.getElem?_eq_getElem hlt)⟩
end
section
variable {H : Type} {enc : TypeId × Value → H}
theorem weightsAll_mem {P : Program} {e : TypeId} : ∀ {l : List (DataW H)} {d : DataW H}, d ∈ l → ∀ n ∈ d.weights P e, n ∈ DataW.weightsAll P e l
  | [], _, h, _, _ => by cases h
  | a :: r, d, h, n, hn => by
    unfold DataW.weightsAll
    rw [List.mem_append]
    rcases List.mem_cons.1 h with rfl | h
    · exact Or.inl hn
    · exact Or.inr (weightsAll_mem h n hn)
set_option maxRecDepth 100000 in
theorem open_Aqs {W : World} {base : Nat} {v : Value} {d : DataW H} {pl : List MemPlace} {sp : Nat → Bool} {hd : Bool}
    (hok : Value.okWide Try.prog W .any base 38 v) (h : DataW.Trod enc Try.prog W 0 sp hd 38 v d pl) (hw : ∀ n ∈ d.weights Try.prog 38, n ≤ reachBytes) : ∃ A n c l, v = .slice A n c ∧ Aqs W A n l ∧ (A = none → c = 0) ∧ n ≤ 9223372036854775807 ∧ Hid (∀ x ∈ l, AqIn x) := by
  obtain ⟨a0, len0, cap0, rfl⟩ := okWide_slice Try.underlying38 hok
  obtain ⟨fuel, hf⟩ := h
  rcases open_slice Try.underlying38 hf with ⟨hcs, _⟩ | ⟨a, len, cap, m, n, D, Pl, hcs, hb, hl, hm, hmm, hx, hi⟩
  · have e0 : Value.slice a0 len0 cap0 = .slice none 0 0 := by simpa [Value.cells] using hcs
    rw [e0]
    exact ⟨none, 0, 0, [], rfl, Aqs.nil _, fun _ => rfl, by omega, fun x hx => (by cases hx)⟩
  · have e0 : Value.slice a0 len0 cap0 = .slice (some a) len cap := by simpa [Value.cells] using hcs
    rw [e0]
    have hmax : cap ≤ 9223372036854775807 := by unfold maxLen at hm; omega
    rcases Nat.eq_zero_or_pos len with h0 | h0
    · subst h0
      exact ⟨some a, 0, cap, [], rfl, Aqs.nil _, fun e => (by cases e), by omega, fun x hx => (by cases hx)⟩
    have hml : len ≤ m := by rw [hmm]; split <;> omega
    have hcell5 : Try.prog.cellsOf 43 = 5 := by kernel_rfl
    have hcell4 : Try.prog.cellsOf 28 = 4 := by kernel_rfl
    injection hx with hx1 hx2
    have key : ∀ i, i < len → ∃ x : Aq, (W.cell? (a.add (i * 5)) = some (.int .u8 x.k) ∧ W.cell? (a.add (i * 5 + 1)) = some (.string ⟨x.m.1.toArray⟩) ∧ W.cell? (a.add (i * 5 + 2)) = some (.string ⟨x.m.2.1.toArray⟩) ∧ W.cell? (a.add (i * 5 + 3)) = some (.int .u8 x.m.2.2.1) ∧ W.cell? (a.add (i * 5 + 4)) = some (.bool x.m.2.2.2)) ∧ AqIn x := by
      intro i hil
      have hwD : ∀ n ∈ (D i).weights Try.prog 43, n ≤ reachBytes := fun n hn => by
        refine hw n ?_
        rw [hx1]
        unfold DataW.weights
        rw [Try.underlying38]
        refine List.mem_cons_of_mem _ (List.mem_append_left _ (weightsAll_mem ?_ n hn))
        exact List.mem_map.2 ⟨i, List.mem_range.2 hil, rfl⟩
      obtain ⟨cs', hc, ht⟩ := hi i (by omega)
      rw [hcell5] at hc
      obtain ⟨_, hcl, hat⟩ := World.cells?_some hc
      obtain ⟨ys, n1, hn1, hy, hlen, hyl, hfl⟩ := DataW.trod_struct Try.underlying43 ht
      injection hy with hy1 hy2
      rw [hy1] at hwD
      obtain ⟨d0, d1, d2, d3, d4, rfl⟩ : ∃ d0 d1 d2 d3 d4, cs' = [d0, d1, d2, d3, d4] := by
        match cs', hcl with
        | [d0, d1, d2, d3, d4], _ => exact ⟨_, _, _, _, _, rfl⟩
      have f0 := hfl 0 _ rfl
      have f1 := hfl 1 _ rfl
      obtain ⟨y0, y1, rfl⟩ : ∃ y0 y1, ys = [y0, y1] := by
        have hyl2 : ys.length = 2 := hyl
        match ys, hyl2 with
        | [y0, y1], _ => exact ⟨_, _, rfl⟩
      have t0 : DataW.trod enc Try.prog W 0 sp hd n1 5 [d0] = some y0 := f0
      have t1 : DataW.trod enc Try.prog W 0 sp hd n1 28 [d1, d2, d3, d4] = some y1 := f1
      obtain ⟨q, eq, _, hq⟩ := DataW.trod_int Try.underlying5 t0
      obtain rfl := (List.cons.inj eq).1
      obtain ⟨zs, n2, hn2, hz, hlen2, hzl, hfl2⟩ := DataW.trod_struct Try.underlying28 t1
      have hwM : ∀ n ∈ (y1.1).weights Try.prog 28, n ≤ reachBytes := fun n hn => by
        refine hwD n ?_
        unfold DataW.weights
        rw [Try.underlying43]
        exact DataW.weights_mem_each (j := 1) (t := 28) (by rfl) (by rfl) n hn
      obtain ⟨z0, z1, z2, z3, rfl⟩ : ∃ z0 z1 z2 z3, zs = [z0, z1, z2, z3] := by
        have hzl2 : zs.length = 4 := hzl
        match zs, hzl2 with
        | [z0, z1, z2, z3], _ => exact ⟨_, _, _, _, rfl⟩
      have u0 : DataW.trod enc Try.prog W 0 sp hd n2 9 [d1] = some z0 := hfl2 0 _ rfl
      have u1 : DataW.trod enc Try.prog W 0 sp hd n2 9 [d2] = some z1 := hfl2 1 _ rfl
      have u2 : DataW.trod enc Try.prog W 0 sp hd n2 5 [d3] = some z2 := hfl2 2 _ rfl
      have u3 : DataW.trod enc Try.prog W 0 sp hd n2 4 [d4] = some z3 := hfl2 3 _ rfl
      obtain ⟨s1, es1, ez1, _⟩ := DataW.trod_string Try.underlying9 u0
      obtain ⟨s2, es2, ez2, _⟩ := DataW.trod_string Try.underlying9 u1
      obtain ⟨q2, eq2, _, hq2⟩ := DataW.trod_int Try.underlying5 u2
      obtain ⟨b4, eb4, _⟩ := DataW.trod_bool Try.underlying4 u3
      obtain rfl := (List.cons.inj es1).1
      obtain rfl := (List.cons.inj es2).1
      obtain rfl := (List.cons.inj eq2).1
      obtain rfl := (List.cons.inj eb4).1
      rw [hz] at hwM
      have r1 : s1.data.toList.length ≤ reachBytes := by
        refine hwM _ ?_
        unfold DataW.weights
        rw [Try.underlying28]
        refine DataW.weights_mem_each (j := 0) (t := 9) (d := z0.1) (by rfl) (by rfl) _ ?_
        rw [ez1]; simp [DataW.weights]
      have r2 : s2.data.toList.length ≤ reachBytes := by
        refine hwM _ ?_
        unfold DataW.weights
        rw [Try.underlying28]
        refine DataW.weights_mem_each (j := 1) (t := 9) (d := z1.1) (by rfl) (by rfl) _ ?_
        rw [ez2]; simp [DataW.weights]
      obtain ⟨l1, rfl, _⟩ := str_of s1
      obtain ⟨l2, rfl, _⟩ := str_of s2
      have hqb := u8_bd q hq
      have hqb2 := u8_bd q2 hq2
      have c0 := hat 0 (by omega)
      have c1 := hat 1 (by omega)
      have c2 := hat 2 (by omega)
      have c3 := hat 3 (by omega)
      have c4 := hat 4 (by omega)
      rw [add_add] at c0 c1 c2 c3 c4
      refine ⟨⟨q, (l1, l2, q2, b4)⟩, ⟨c0, c1, c2, c3, c4⟩, hqb.1, hqb.2, hqb2.1, hqb2.2, ?_, ?_⟩
      · have : l1.length ≤ reachBytes := by simpa using r1
        exact this
      · have : l2.length ≤ reachBytes := by simpa using r2
        exact this
    obtain ⟨b, off, spot⟩ := a
    have hspot : spot = none := by
      obtain ⟨x, h1, _⟩ := key 0 h0
      simpa [Addr.add] using World.cell?_spot h1.1
    subst hspot
    have add_p : ∀ j, (⟨b, off, none⟩ : Addr).add j = ⟨b, off + j, none⟩ := fun j => by unfold Addr.add; split <;> simp_all
    obtain ⟨L, hL, hP⟩ := list_of2 _ len key
    refine ⟨some ⟨b, off, none⟩, len, cap, L, rfl, ⟨hL, fun _ => ⟨b, off, rfl, fun j x hx => ?_⟩⟩, fun e => (by cases e), by omega, fun x hx => ?_⟩
    · obtain ⟨h1, h2, h3, h4, h5⟩ := (hP j x hx).1
      rw [add_p] at h1 h2 h3 h4 h5
      have e : ∀ i, off + j * 5 + 1 + i = off + (j * 5 + (1 + i)) := fun i => by omega
      exact ⟨h1, by rw [Nat.add_assoc]; exact h2, by rw [e]; exact h3, by rw [e]; exact h4, by rw [e]; exact h5⟩
    · obtain ⟨i, hi2⟩ := List.mem_iff_getElem?.1 hx
      exact (hP i x hi2).2
end
end Go.Proofs.Ytihgikhnkkmhhaa
