/-
  trie: the row of levels that a walk of the tree hands down, appended to; the function that walks.
-/
import Derived.Test.YtipdmfnkkkdlbaaGreatDoorTgAdd2
import Derived.Test.YtipdmfnkkkdlbaaGreatDoorLast
set_option linter.unusedSimpArgs false
set_option linter.unusedVariables false
namespace Go.Proofs.YtipdmfnkkkdlbaaGreatDoor
open Go.RowKit Go.Maps

/-- The levels p, in a row of the walk's own. -/
def LevS (B : Nat) (w : World) (v : Value) (p : Pth) : Prop := w.ownsRow B 9 1 v p.length (p.map strV)
section
variable {B : Nat} {w w' : World} {v : Value} {p : Pth}
theorem LevS.nil (B : Nat) (w : World) : LevS B w (.slice none 0 0) [] := World.ownsRow_nil _ _ _ _
theorem LevS.keep (h : LevS B w v p) (e : ∀ b, v.ownBlock = some b → w'.heap[b]? = w.heap[b]?) : LevS B w' v p := by
  refine ⟨h.1, ?_⟩
  rcases h.2 with h2 | ⟨g, cap, cur, rfl, hB, hg, r⟩
  · exact Or.inl h2
  · exact Or.inr ⟨g, cap, cur, rfl, hB, (e g rfl).trans hg, r⟩
theorem LevS.lt (h : LevS B w v p) : ∀ b, v.ownBlock = some b → B ≤ b ∧ b < w.heap.size := World.ownsRow.lt h
theorem LevS.strs (h : LevS B w v p) : ∃ A c, v = .slice A p.length c ∧ p.length ≤ c ∧ Strs w A p.length p ∧ (A = none → c = 0) ∧ ∀ b o, A = some ⟨b, o, none⟩ → v.ownBlock = some b := by
  rcases h.2 with ⟨rfl, hn⟩ | ⟨g, cap, cur, rfl, _, hh, hc, _, _, _⟩
  · exact ⟨none, 0, by rw [hn], by omega, ⟨rfl, fun h => by omega⟩, fun _ => rfl, fun b o e => by cases e⟩
  · refine ⟨_, _, rfl, hc, ⟨rfl, fun _ => ⟨g, 0, rfl, fun j x hx => ?_⟩⟩, fun h => (by cases h), fun b o e => (by cases e; rfl)⟩
    have := World.ownsRow.cells h (g := g) rfl j (strV x) (by simp [hx])
    have hadd : (⟨g, 0, none⟩ : Addr).add j = ⟨g, 0 + j, none⟩ := by unfold Addr.add; split <;> simp_all
    rw [hadd] at this
    exact this
/-- A level more; and what keeps the new row keeps the old one. -/
theorem lev_append (h : LevS B w v p) (hB : B ≤ w.heap.size) (q : Nat) (l : List UInt8) (hq : w.cell? ⟨q, 0, none⟩ = some (.string ⟨l.toArray⟩)) (hp : p.length ≤ 1000000) (ty : TypeId) :
    ∃ v' w', (Builtin.append_ #[36, 36] ty #[v, .slice (some ⟨q, 0, none⟩) 1 1]).run Tryz.prog w = .ok v' w' ∧ LevS B w' v' (p ++ [l]) ∧ w.grownBy w' v.ownBlock ∧ (v'.ownBlock = v.ownBlock ∨ v'.ownBlock = some w.heap.size) ∧
      ∀ w2, LevS B w2 v' (p ++ [l]) → (∀ b, v.ownBlock = some b → v'.ownBlock ≠ some b → w2.heap[b]? = w'.heap[b]?) → LevS B w2 v p := by
  obtain ⟨i, hi, hz0, hz1, hz2⟩ := info_parts infoS
  have hnews : ∀ (j : Nat) (u : Value), [strV l][j]? = some u → w.cell? ((⟨q, 0, none⟩ : Addr).add j) = some u := by
    intro j u hu
    match j, hu with
    | 0, hu =>
      simp at hu
      subst hu
      have hadd : (⟨q, 0, none⟩ : Addr).add 0 = ⟨q, 0 + 0, none⟩ := by unfold Addr.add; split <;> simp_all
      rw [hadd]; exact hq
  have h1 : ∀ u ∈ [strV l], u.oneCell' = true := by intro u hu; simp at hu; subst hu; rfl
  obtain ⟨v', w', hr, ho, hg, _, hat⟩ := run_append_own_at (P := Tryz.prog) w B 36 ty 9 i _ 1 16 Tryz.underlying36 hi hz0 hz1 hz2 rfl (by decide) v p.length _ h ⟨q, 0, none⟩ 1 1 [strV l] rfl hnews h1 (by unfold maxLen; omega) (by omega) hB
  have ho' : LevS B w' v' (p ++ [l]) := by
    unfold LevS
    rw [List.length_append, List.map_append]
    exact ho
  refine ⟨v', w', hr, ho', hg, hat, fun w2 h2 hk => ?_⟩
  rcases h.2 with ⟨rfl, hn⟩ | ⟨g, cap, cur, rfl, hBg, hgc, hnc, hcm, hcs, htk⟩
  · have : p = [] := List.eq_nil_of_length_eq_zero hn
    subst this
    exact LevS.nil B w2
  · by_cases hroom : p.length + 1 ≤ cap
    · have hr2 := run_append_room (P := Tryz.prog) w 36 ty 9 i Tryz.underlying36 hi g p.length cap cur hgc ⟨q, 0, none⟩ 1 1 [strV l] (by rw [hz1]; rfl) hnews h1 hroom (by rw [hz1, hcs]; simp; omega)
      rw [hr] at hr2
      injection hr2 with e1 e2
      subst e1
      rcases h2.2 with ⟨e, _⟩ | ⟨g2, cap2, cur2, e, _, hg2, _, _, hcs2, htk2⟩
      · cases e
      · injection e with e3 e4 e5
        injection e3 with e6
        injection e6 with e7
        subst e7 e5
        refine ⟨h.1, Or.inr ⟨g, cap, cur2, rfl, hBg, hg2, hnc, hcm, hcs2, ?_⟩⟩
        have hl : (p ++ [l]).length = p.length + 1 := by simp
        rw [hl, Nat.mul_one, List.map_append] at htk2
        rw [Nat.mul_one]
        have := congrArg (List.take p.length) htk2
        rw [List.take_take, Nat.min_eq_left (by omega), List.take_append_of_le_length (by simp)] at this
        rw [this]
        exact List.take_of_length_le (by simp)
    · have holds : ∀ j u, (p.map strV)[j]? = some u → w.cell? ((⟨g, 0, none⟩ : Addr).add j) = some u := World.ownsRow.cells h (g := g) rfl
      have hr2 := run_append_grow (P := Tryz.prog) w 36 ty 9 i _ Tryz.underlying36 hi hz0 ⟨g, 0, none⟩ p.length cap (p.map strV) (by rw [hz1]; simp) holds ⟨q, 0, none⟩ 1 1 [strV l] (by rw [hz1]; rfl) hnews (by omega) (by omega) (growslice_fits (by omega) (by rw [hz2]; omega))
      rw [hr] at hr2
      injection hr2 with e1 e2
      subst e1
      have hgl := (Array.getElem?_eq_some_iff.1 hgc).1
      have hne : w.heap.size ≠ g := by omega
      refine LevS.keep h fun b hb => ?_
      obtain rfl : g = b := by simpa [Value.ownBlock] using hb
      rw [hk g rfl (by simp [Value.ownBlock]; omega), e2]
      exact Below.heap_alloc w.drew _ g hgl
end
section
variable {P : Program} {ops : Array Oper} {o : Oper} {a : Act} {K : Act → World → Prop} {Q : Exit → Act → World → Prop} {E : Prop} {w w' : World}
theorem step_bapp (hgd : o.guard = none) (t : TypeId) (s x : Operand) (ho : o.op = .call { callee := .builtin .append, args := #[s, x], argTypes := #[t, t] }) {sv xv v' : Value} (hs : a.eval s = sv) (hx : a.eval x = xv)
    (hrun : (Builtin.append_ #[t, t] o.type #[sv, xv]).run P w = .ok v' w') (h : K (a.put o.dst v') w') : if Region.wanted o (yielded ops a.tmps) = true then Oper.wp P o a w K Q else E := by
  have hw : Region.wanted o (yielded ops a.tmps) = true := by simp [Region.wanted, hgd]
  rw [if_pos hw]
  unfold Oper.wp
  simp [execOp, ho, resolve, invoke, builtin, hs, hx, hrun, Result.andThen]
  exact h
end
/-- What a walk gathers: X, in memory that stands in the blocks R. -/
structure AccOk {α : Type} (Acc : World → List α → (Nat → Prop) → Prop) : Prop where
  lt : ∀ w X R, Acc w X R → ∀ b, R b → b < w.heap.size
  keep : ∀ w w' X R, Acc w X R → (∀ b, R b → w'.heap[b]? = w.heap[b]?) → Acc w' X R
def VQ {α : Type} (Acc : World → List α → (Nat → Prop) → Prop) (w : World) (R : Nat → Prop) (PX : α → Prop) (F : Nat → Prop) (e : Ending) (w' : World) : Prop :=
  ∃ X' R', e = .returned (.tuple #[]) ∧ Acc w' X' R' ∧ GoodY X' PX ∧ Outs w w' F ∧ ∀ x, R' x → R x ∨ w.heap.size ≤ x
/-- What stands under a path. -/
def UnP {α : Type} (G : TG) (own : Pth → α → Prop) (p : Pth) (y : α) : Prop := ∃ q, G.bl 0 (p ++ q) ≠ none ∧ own (p ++ q) y
/-- .. among it what a loop over the children has come to. -/
def LpP {α : Type} (G : TG) (own : Pth → α → Prop) (p : Pth) (left : Lit → Bool) (y : α) : Prop := own p y ∨ ∃ l q, left (.string l) = false ∧ G.bl 0 (p ++ l :: q) ≠ none ∧ own (p ++ l :: q) y
section
variable {α : Type} {G : TG} {own : Pth → α → Prop} {p : Pth}
theorem lp_start {left : Lit → Bool} (hpre : ∀ q, G.bl 0 (p ++ q) ≠ none → ∀ r, r <+: q → G.bl 0 (p ++ r) ≠ none) (hl : ∀ l, left (.string l) = (G.bl 0 (p ++ [l])).isSome) (y : α) : LpP G own p left y ↔ own p y := by
  refine ⟨fun h => h.elim id ?_, Or.inl⟩
  rintro ⟨l, q, h1, h2, _⟩
  have := hpre (l :: q) h2 [l] (List.cons_prefix_cons.2 ⟨rfl, List.nil_prefix⟩)
  rw [hl] at h1
  cases h3 : G.bl 0 (p ++ [l]) with
  | none => exact absurd h3 this
  | some b => rw [h3] at h1; cases h1
theorem lp_step {left : Lit → Bool} (l : List UInt8) (y : α) : LpP G own p (fun z => left z && !z.sameKey (.string l)) y ↔ LpP G own p left y ∨ UnP G own (p ++ [l]) y := by
  unfold LpP UnP
  constructor
  · rintro (h | ⟨x, q, h1, h2, h3⟩)
    · exact Or.inl (Or.inl h)
    · dsimp only at h1
      by_cases hx : x = l
      · subst hx
        exact Or.inr ⟨q, by simpa using h2, by simpa using h3⟩
      · rw [key_same] at h1
        simp [hx] at h1
        exact Or.inl (Or.inr ⟨x, q, h1, h2, h3⟩)
  · rintro ((h | ⟨x, q, h1, h2, h3⟩) | ⟨q, h1, h2⟩)
    · exact Or.inl h
    · exact Or.inr ⟨x, q, by dsimp only; rw [h1]; rfl, h2, h3⟩
    · exact Or.inr ⟨l, q, by dsimp only; rw [key_same]; simp, by simpa using h1, by simpa using h2⟩
theorem lp_end {left : Lit → Bool} (hp : G.bl 0 p ≠ none) (hl : ∀ k, left k = false) (y : α) : LpP G own p left y ↔ UnP G own p y := by
  unfold LpP UnP
  constructor
  · rintro (h | ⟨x, q, _, h2, h3⟩)
    · exact ⟨[], by simpa using hp, by simpa using h⟩
    · exact ⟨x :: q, h2, h3⟩
  · rintro ⟨q, h1, h2⟩
    cases q with
    | nil => exact Or.inl (by simpa using h2)
    | cons x q => exact Or.inr ⟨x, q, hl _, h1, h2⟩
theorem lp_dis {left : Lit → Bool} (hinj : ∀ p q y, own p y → own q y → p = q) (l : List UInt8) (hl : left (.string l) = true) (y : α) : LpP G own p left y → UnP G own (p ++ [l]) y → False := by
  rintro h ⟨q, _, h2⟩
  rcases h with h | ⟨x, r, h3, _, h4⟩
  · have := hinj _ _ _ h h2
    have := congrArg List.length this
    simp at this
  · have := hinj _ _ _ h4 h2
    rw [List.append_assoc] at this
    have := List.append_cancel_left this
    have : x = l := by
      have := congrArg List.head? this
      simpa using this
    rw [this, hl] at h3; cases h3
end
end Go.Proofs.YtipdmfnkkkdlbaaGreatDoor
