/-
  PacketKnown: the statement that makes five packets at once.
-/
import Derived.Test.YtbbmfhelncedcaaDoorPkInv
import Derived.Test.YtbbmfhelncedcaaDoorPkJ
set_option linter.unusedSimpArgs false
set_option linter.unusedVariables false
namespace Go.Proofs.YtbbmfhelncedcaaDoor
open Go.RowKit
namespace lawPacketKnown
def upd (D : Nat → Bool) (i : Nat) : Nat → Bool := fun j => if j = i then true else D j
theorem upd_self (D : Nat → Bool) (i : Nat) : upd D i i = true := if_pos rfl
theorem upd_ne (D : Nat → Bool) {i j : Nat} (h : j ≠ i) : upd D i j = D j := if_neg h
theorem Kp_other5 {w w' : World} {L : List (Nat × Array Value × TypeId)} {g : Nat} (h : Kp w L w') (hB : w.heap.size ≤ g) (hne : ∀ x ∈ L, x.1 ≠ g) (cs' : Array Value) : Kp w L (w'.setRow g cs') :=
  ⟨fun x hx => ⟨(h.rows x hx).1, (setRow_other w' g x.1 cs' (hne x hx)).trans (h.rows x hx).2⟩, below_setRow h.below hB cs'⟩
/-- The five packets so far: which are made (5 + j), which are written (10 + j). -/
structure R2 (w : World) (D : Nat → Bool) (G : Nat → Nat) (w' : World) : Prop where
  c : Kp w [(w.heap.size, PkC awC none 0 0, 27)] w'
  blk : ∀ j, j < 5 → D (5 + j) = true → w.heap.size < G j ∧ w'.heap[G j]? = some (.cells (if D (10 + j) then PkC awC none 0 0 else PkC zPk none 0 0) 27 (0, 0))
  ne : ∀ i j, i < 5 → j < 5 → i ≠ j → D (5 + i) = true → D (5 + j) = true → G i ≠ G j
  st : ∀ j, j < 5 → D (10 + j) = true → D (5 + j) = true
theorem R2.load {w w' : World} {D : Nat → Bool} {G : Nat → Nat} (h : R2 w D G w') {i : Nat} (hi : i < 5) : R2 w (upd D i) G w' := by
  refine ⟨h.c, fun j hj hd => ?_, fun a b ha hb hab h1 h2 => ?_, fun j hj hd => ?_⟩
  · rw [upd_ne D (by omega)] at hd ⊢
    exact h.blk j hj hd
  · rw [upd_ne D (by omega)] at h1 h2
    exact h.ne a b ha hb hab h1 h2
  · rw [upd_ne D (by omega)] at hd ⊢
    exact h.st j hj hd
theorem R2.alloc {w w' : World} {D : Nat → Bool} {G : Nat → Nat} (h : R2 w D G w') {i : Nat} (hi : i < 5) (hD : D (5 + i) = false) : R2 w (upd D (5 + i)) (fun k => if k = i then w'.heap.size else G k) (w'.alloc (.cells (PkC zPk none 0 0) 27)) := by
  have hlt : ∀ j, j < 5 → D (5 + j) = true → G j < w'.heap.size := fun j hj hd => (Array.getElem?_eq_some_iff.1 (h.blk j hj hd).2).1
  refine ⟨h.c.more ((Below.refl _ _).alloc (Nat.le_refl _) _), fun j hj hd => ?_, fun a b ha hb hab h1 h2 => ?_, fun j hj hd => ?_⟩
  · rw [upd_ne D (show 10 + j ≠ 5 + i by omega)]
    by_cases hji : j = i
    · subst hji
      have hf : D (10 + j) = false := by
        cases hc : D (10 + j) with
        | false => rfl
        | true => rw [h.st j hj hc] at hD; cases hD
      rw [if_pos rfl, hf]
      exact ⟨h.c.lt, heap_alloc_new w' _⟩
    · rw [upd_ne D (by omega)] at hd
      rw [if_neg hji]
      obtain ⟨h1, h2⟩ := h.blk j hj hd
      exact ⟨h1, (Below.heap_alloc w' _ (G j) (hlt j hj hd)).trans h2⟩
  · by_cases hai : a = i
    · subst hai
      rw [upd_ne D (by omega)] at h2
      rw [if_pos rfl, if_neg (Ne.symm hab)]
      have := hlt b hb h2
      omega
    · rw [upd_ne D (by omega)] at h1
      by_cases hbi : b = i
      · subst hbi
        rw [if_neg hab, if_pos rfl]
        have := hlt a ha h1
        omega
      · rw [upd_ne D (by omega)] at h2
        rw [if_neg hai, if_neg hbi]
        exact h.ne a b ha hb hab h1 h2
  · rw [upd_ne D (show 10 + j ≠ 5 + i by omega)] at hd
    by_cases hji : j = i
    · subst hji; exact upd_self _ _
    · rw [upd_ne D (by omega)]; exact h.st j hj hd
theorem R2.store {w w' : World} {D : Nat → Bool} {G : Nat → Nat} (h : R2 w D G w') {i : Nat} (hi : i < 5) (hD : D (5 + i) = true) : R2 w (upd D (10 + i)) G (w'.setRow (G i) (PkC awC none 0 0)) := by
  obtain ⟨hb, hh⟩ := h.blk i hi hD
  refine ⟨Kp_other5 h.c (by omega) (by intro x hx; simp at hx; subst hx; simp; omega) _, fun j hj hd => ?_, fun a b ha hb hab h1 h2 => ?_, fun j hj hd => ?_⟩
  · rw [upd_ne D (by omega)] at hd
    obtain ⟨h1, h2⟩ := h.blk j hj hd
    by_cases hji : j = i
    · subst hji
      rw [upd_self, if_pos rfl]
      exact ⟨h1, setRow_heap w' (G j) _ _ _ _ hh⟩
    · rw [upd_ne D (by omega)]
      exact ⟨h1, (setRow_other w' (G i) (G j) _ (h.ne j i hj hi hji hd hD)).trans h2⟩
  · rw [upd_ne D (by omega)] at h1 h2
    exact h.ne a b ha hb hab h1 h2
  · rw [upd_ne D (show 5 + j ≠ 10 + i by omega)]
    by_cases hji : j = i
    · subst hji; exact hD
    · rw [upd_ne D (by omega)] at hd; exact h.st j hj hd
/-- What the slots hold so far. -/
structure S2 (D : Nat → Bool) (G : Nat → Nat) (X : Nat → Value) : Prop where
  ld : ∀ j, j < 5 → D j = true → X (16 + j) = .agg (PkC awC none 0 0)
  pt : ∀ j, j < 5 → D (5 + j) = true → X (2 + j) = .pointer (some ⟨G j, 0, none⟩)
def updX (X : Nat → Value) (k : Nat) (v : Value) : Nat → Value := fun j => if j = k then v else X j
theorem S2.load {D : Nat → Bool} {G : Nat → Nat} {X : Nat → Value} (h : S2 D G X) {i : Nat} (hi : i < 5) : S2 (upd D i) G (updX X (16 + i) (.agg (PkC awC none 0 0))) := by
  refine ⟨fun j hj hd => ?_, fun j hj hd => ?_⟩
  · by_cases hji : j = i
    · subst hji; exact if_pos rfl
    · rw [upd_ne D hji] at hd
      exact (if_neg (by omega)).trans (h.ld j hj hd)
  · rw [upd_ne D (by omega)] at hd
    exact (if_neg (by omega)).trans (h.pt j hj hd)
theorem S2.alloc {D : Nat → Bool} {G : Nat → Nat} {X : Nat → Value} (h : S2 D G X) {i n : Nat} (hi : i < 5) : S2 (upd D (5 + i)) (fun k => if k = i then n else G k) (updX X (2 + i) (.pointer (some ⟨n, 0, none⟩))) := by
  refine ⟨fun j hj hd => ?_, fun j hj hd => ?_⟩
  · rw [upd_ne D (by omega)] at hd
    exact (if_neg (by omega)).trans (h.ld j hj hd)
  · by_cases hji : j = i
    · subst hji
      show updX X (2 + j) _ (2 + j) = _
      rw [if_pos rfl]
      exact if_pos rfl
    · rw [upd_ne D (by omega)] at hd
      rw [if_neg hji]
      exact (if_neg (by omega)).trans (h.pt j hj hd)
theorem S2.store {D : Nat → Bool} {G : Nat → Nat} {X : Nat → Value} (h : S2 D G X) {i : Nat} (hi : i < 5) : S2 (upd D (10 + i)) G X := by
  refine ⟨fun j hj hd => ?_, fun j hj hd => ?_⟩
  · rw [upd_ne D (by omega)] at hd
    exact h.ld j hj hd
  · rw [upd_ne D (by omega)] at hd
    exact h.pt j hj hd
def act2 (w : World) (X : Nat → Value) : Act := ⟨#[.bool false, .pointer (some ⟨w.heap.size, 0, none⟩), X 2, X 3, X 4, X 5, X 6, undef, undef, undef, undef, undef, undef, undef, undef, .agg (PkC awC none 0 0), X 16, X 17, X 18, X 19, X 20, undef, undef, undef, undef, undef, undef, undef, undef, undef, undef, undef, undef, undef, undef, undef, undef, undef, undef, undef, undef, undef, undef, undef, undef, undef, undef, undef, undef, undef, undef, undef, undef, undef, undef, undef, undef, undef, undef, undef, undef, undef, undef, undef, undef, undef, undef, undef, undef, undef, undef, undef, undef, undef, undef, undef, undef, undef, undef, undef, undef, undef, undef, undef, undef, undef, undef, undef, undef, undef, undef, undef, undef, undef, undef, undef, undef, undef, undef, undef, undef, undef, undef, undef, undef, undef, undef, undef, undef, undef, undef, undef, undef, undef, undef, undef, undef, undef, undef, undef, undef, undef, undef, undef, undef, undef, undef, undef, undef, undef, undef, undef, undef, undef, undef, undef, undef, undef, undef, undef, undef, undef, undef, undef, undef, undef, undef, undef, undef, undef, undef, undef, undef, undef, undef, undef, undef, undef, undef, undef, undef, undef, undef, undef, undef, undef, undef, undef, undef, undef, undef, undef, undef, undef, undef, undef, undef, undef, undef, undef, undef, undef, undef, undef, undef, undef, undef, undef, undef, undef, undef, undef, undef, undef, undef, undef, undef, undef, undef, undef, undef, undef, undef, undef, undef, undef, undef, undef, undef, undef, undef, undef], []⟩
def Inv2 (w : World) (D : Nat → Bool) (a : Act) (w' : World) : Prop := ∃ G X, a = act2 w X ∧ R2 w D G w' ∧ S2 D G X
theorem inv2_load {w w' : World} {D : Nat → Bool} {G : Nat → Nat} {X : Nat → Value} {a : Act} (hR : R2 w D G w') (hS : S2 D G X) {i : Nat} (hi : i < 5) (ha : a = act2 w (updX X (16 + i) (.agg (PkC awC none 0 0)))) : Inv2 w (upd D i) a w' := ⟨G, _, ha, hR.load hi, hS.load hi⟩
theorem inv2_alloc {w w' : World} {D : Nat → Bool} {G : Nat → Nat} {X : Nat → Value} {a : Act} (hR : R2 w D G w') (hS : S2 D G X) {i : Nat} (hi : i < 5) (hD : D (5 + i) = false) (ha : a = act2 w (updX X (2 + i) (.pointer (some ⟨w'.heap.size, 0, none⟩)))) : Inv2 w (upd D (5 + i)) a (w'.alloc (.cells (PkC zPk none 0 0) 27)) := ⟨_, _, ha, hR.alloc hi hD, hS.alloc hi⟩
theorem inv2_store {w w' : World} {D : Nat → Bool} {G : Nat → Nat} {X : Nat → Value} {a : Act} (hR : R2 w D G w') (hS : S2 D G X) {i : Nat} (hi : i < 5) (hD : D (5 + i) = true) (ha : a = act2 w X) : Inv2 w (upd D (10 + i)) a (w'.setRow (G i) (PkC awC none 0 0)) := ⟨_, _, ha, hR.store hi hD, hS.store hi⟩
set_option maxRecDepth 100000 in
set_option maxHeartbeats 4000000 in
theorem step2 (w : World) {Q : Exit → Act → World → Prop} (D : Nat → Bool) (a : Act) (w' : World) (i : Nat) (o : Oper) (hI : Inv2 w D a w') (hDi : D i = false)
    (ho : (#[({ dst := some 16, op := Go.Op.load 27 (Go.Operand.tmp 1), type := 27, pos := "law.go:44", after := #[], guard := none } : Oper), ({ dst := some 17, op := Go.Op.load 27 (Go.Operand.tmp 1), type := 27, pos := "law.go:44", after := #[{ on := 10, ground := Go.Ground.gcOnly Go.Departure.lateStores }], guard := none } : Oper), ({ dst := some 18, op := Go.Op.load 27 (Go.Operand.tmp 1), type := 27, pos := "law.go:44", after := #[{ on := 11, ground := Go.Ground.gcOnly Go.Departure.lateStores }], guard := none } : Oper), ({ dst := some 19, op := Go.Op.load 27 (Go.Operand.tmp 1), type := 27, pos := "law.go:44", after := #[{ on := 12, ground := Go.Ground.gcOnly Go.Departure.lateStores }], guard := none } : Oper), ({ dst := some 20, op := Go.Op.load 27 (Go.Operand.tmp 1), type := 27, pos := "law.go:44", after := #[{ on := 13, ground := Go.Ground.gcOnly Go.Departure.lateStores }], guard := none } : Oper), ({ dst := some 2, op := Go.Op.alloc 27, type := 0, pos := "law.go:44", after := #[], guard := none } : Oper), ({ dst := some 3, op := Go.Op.alloc 27, type := 0, pos := "law.go:44", after := #[], guard := none } : Oper), ({ dst := some 4, op := Go.Op.alloc 27, type := 0, pos := "law.go:44", after := #[], guard := none } : Oper), ({ dst := some 5, op := Go.Op.alloc 27, type := 0, pos := "law.go:44", after := #[], guard := none } : Oper), ({ dst := some 6, op := Go.Op.alloc 27, type := 0, pos := "law.go:44", after := #[], guard := none } : Oper), ({ dst := none, op := Go.Op.store 27 (Go.Operand.tmp 2) (Go.Operand.tmp 16), type := 0, pos := "law.go:44", after := #[{ on := 5, ground := Go.Ground.data }, { on := 0, ground := Go.Ground.data }, { on := 0, ground := Go.Ground.phase }, { on := 1, ground := Go.Ground.textOnly Go.Departure.lateStores }, { on := 2, ground := Go.Ground.textOnly Go.Departure.lateStores }, { on := 3, ground := Go.Ground.textOnly Go.Departure.lateStores }, { on := 4, ground := Go.Ground.textOnly Go.Departure.lateStores }, { on := 5, ground := Go.Ground.phase }, { on := 6, ground := Go.Ground.phase }, { on := 7, ground := Go.Ground.phase }, { on := 8, ground := Go.Ground.phase }, { on := 9, ground := Go.Ground.phase }], guard := none } : Oper), ({ dst := none, op := Go.Op.store 27 (Go.Operand.tmp 3) (Go.Operand.tmp 17), type := 0, pos := "law.go:44", after := #[{ on := 6, ground := Go.Ground.data }, { on := 1, ground := Go.Ground.data }, { on := 10, ground := Go.Ground.chain }, { on := 0, ground := Go.Ground.phase }, { on := 1, ground := Go.Ground.phase }, { on := 2, ground := Go.Ground.textOnly Go.Departure.lateStores }, { on := 3, ground := Go.Ground.textOnly Go.Departure.lateStores }, { on := 4, ground := Go.Ground.textOnly Go.Departure.lateStores }, { on := 5, ground := Go.Ground.phase }, { on := 6, ground := Go.Ground.phase }, { on := 7, ground := Go.Ground.phase }, { on := 8, ground := Go.Ground.phase }, { on := 9, ground := Go.Ground.phase }, { on := 10, ground := Go.Ground.phase }], guard := none } : Oper), ({ dst := none, op := Go.Op.store 27 (Go.Operand.tmp 4) (Go.Operand.tmp 18), type := 0, pos := "law.go:44", after := #[{ on := 7, ground := Go.Ground.data }, { on := 2, ground := Go.Ground.data }, { on := 11, ground := Go.Ground.chain }, { on := 0, ground := Go.Ground.phase }, { on := 1, ground := Go.Ground.phase }, { on := 2, ground := Go.Ground.phase }, { on := 3, ground := Go.Ground.textOnly Go.Departure.lateStores }, { on := 4, ground := Go.Ground.textOnly Go.Departure.lateStores }, { on := 5, ground := Go.Ground.phase }, { on := 6, ground := Go.Ground.phase }, { on := 7, ground := Go.Ground.phase }, { on := 8, ground := Go.Ground.phase }, { on := 9, ground := Go.Ground.phase }, { on := 10, ground := Go.Ground.phase }, { on := 11, ground := Go.Ground.phase }], guard := none } : Oper), ({ dst := none, op := Go.Op.store 27 (Go.Operand.tmp 5) (Go.Operand.tmp 19), type := 0, pos := "law.go:44", after := #[{ on := 8, ground := Go.Ground.data }, { on := 3, ground := Go.Ground.data }, { on := 12, ground := Go.Ground.chain }, { on := 0, ground := Go.Ground.phase }, { on := 1, ground := Go.Ground.phase }, { on := 2, ground := Go.Ground.phase }, { on := 3, ground := Go.Ground.phase }, { on := 4, ground := Go.Ground.textOnly Go.Departure.lateStores }, { on := 5, ground := Go.Ground.phase }, { on := 6, ground := Go.Ground.phase }, { on := 7, ground := Go.Ground.phase }, { on := 8, ground := Go.Ground.phase }, { on := 9, ground := Go.Ground.phase }, { on := 10, ground := Go.Ground.phase }, { on := 11, ground := Go.Ground.phase }, { on := 12, ground := Go.Ground.phase }], guard := none } : Oper), ({ dst := none, op := Go.Op.store 27 (Go.Operand.tmp 6) (Go.Operand.tmp 20), type := 0, pos := "law.go:44", after := #[{ on := 9, ground := Go.Ground.data }, { on := 4, ground := Go.Ground.data }, { on := 13, ground := Go.Ground.chain }, { on := 0, ground := Go.Ground.phase }, { on := 1, ground := Go.Ground.phase }, { on := 2, ground := Go.Ground.phase }, { on := 3, ground := Go.Ground.phase }, { on := 4, ground := Go.Ground.phase }, { on := 5, ground := Go.Ground.phase }, { on := 6, ground := Go.Ground.phase }, { on := 7, ground := Go.Ground.phase }, { on := 8, ground := Go.Ground.phase }, { on := 9, ground := Go.Ground.phase }, { on := 10, ground := Go.Ground.phase }, { on := 11, ground := Go.Ground.phase }, { on := 12, ground := Go.Ground.phase }, { on := 13, ground := Go.Ground.phase }], guard := none } : Oper)] : Array Oper)[i]? = some o) (hd : ∀ e ∈ o.after, Region.binds .any e = true → D e.on = true) :
    wpOp Tryd.prog #[({ dst := some 16, op := Go.Op.load 27 (Go.Operand.tmp 1), type := 27, pos := "law.go:44", after := #[], guard := none } : Oper), ({ dst := some 17, op := Go.Op.load 27 (Go.Operand.tmp 1), type := 27, pos := "law.go:44", after := #[{ on := 10, ground := Go.Ground.gcOnly Go.Departure.lateStores }], guard := none } : Oper), ({ dst := some 18, op := Go.Op.load 27 (Go.Operand.tmp 1), type := 27, pos := "law.go:44", after := #[{ on := 11, ground := Go.Ground.gcOnly Go.Departure.lateStores }], guard := none } : Oper), ({ dst := some 19, op := Go.Op.load 27 (Go.Operand.tmp 1), type := 27, pos := "law.go:44", after := #[{ on := 12, ground := Go.Ground.gcOnly Go.Departure.lateStores }], guard := none } : Oper), ({ dst := some 20, op := Go.Op.load 27 (Go.Operand.tmp 1), type := 27, pos := "law.go:44", after := #[{ on := 13, ground := Go.Ground.gcOnly Go.Departure.lateStores }], guard := none } : Oper), ({ dst := some 2, op := Go.Op.alloc 27, type := 0, pos := "law.go:44", after := #[], guard := none } : Oper), ({ dst := some 3, op := Go.Op.alloc 27, type := 0, pos := "law.go:44", after := #[], guard := none } : Oper), ({ dst := some 4, op := Go.Op.alloc 27, type := 0, pos := "law.go:44", after := #[], guard := none } : Oper), ({ dst := some 5, op := Go.Op.alloc 27, type := 0, pos := "law.go:44", after := #[], guard := none } : Oper), ({ dst := some 6, op := Go.Op.alloc 27, type := 0, pos := "law.go:44", after := #[], guard := none } : Oper), ({ dst := none, op := Go.Op.store 27 (Go.Operand.tmp 2) (Go.Operand.tmp 16), type := 0, pos := "law.go:44", after := #[{ on := 5, ground := Go.Ground.data }, { on := 0, ground := Go.Ground.data }, { on := 0, ground := Go.Ground.phase }, { on := 1, ground := Go.Ground.textOnly Go.Departure.lateStores }, { on := 2, ground := Go.Ground.textOnly Go.Departure.lateStores }, { on := 3, ground := Go.Ground.textOnly Go.Departure.lateStores }, { on := 4, ground := Go.Ground.textOnly Go.Departure.lateStores }, { on := 5, ground := Go.Ground.phase }, { on := 6, ground := Go.Ground.phase }, { on := 7, ground := Go.Ground.phase }, { on := 8, ground := Go.Ground.phase }, { on := 9, ground := Go.Ground.phase }], guard := none } : Oper), ({ dst := none, op := Go.Op.store 27 (Go.Operand.tmp 3) (Go.Operand.tmp 17), type := 0, pos := "law.go:44", after := #[{ on := 6, ground := Go.Ground.data }, { on := 1, ground := Go.Ground.data }, { on := 10, ground := Go.Ground.chain }, { on := 0, ground := Go.Ground.phase }, { on := 1, ground := Go.Ground.phase }, { on := 2, ground := Go.Ground.textOnly Go.Departure.lateStores }, { on := 3, ground := Go.Ground.textOnly Go.Departure.lateStores }, { on := 4, ground := Go.Ground.textOnly Go.Departure.lateStores }, { on := 5, ground := Go.Ground.phase }, { on := 6, ground := Go.Ground.phase }, { on := 7, ground := Go.Ground.phase }, { on := 8, ground := Go.Ground.phase }, { on := 9, ground := Go.Ground.phase }, { on := 10, ground := Go.Ground.phase }], guard := none } : Oper), ({ dst := none, op := Go.Op.store 27 (Go.Operand.tmp 4) (Go.Operand.tmp 18), type := 0, pos := "law.go:44", after := #[{ on := 7, ground := Go.Ground.data }, { on := 2, ground := Go.Ground.data }, { on := 11, ground := Go.Ground.chain }, { on := 0, ground := Go.Ground.phase }, { on := 1, ground := Go.Ground.phase }, { on := 2, ground := Go.Ground.phase }, { on := 3, ground := Go.Ground.textOnly Go.Departure.lateStores }, { on := 4, ground := Go.Ground.textOnly Go.Departure.lateStores }, { on := 5, ground := Go.Ground.phase }, { on := 6, ground := Go.Ground.phase }, { on := 7, ground := Go.Ground.phase }, { on := 8, ground := Go.Ground.phase }, { on := 9, ground := Go.Ground.phase }, { on := 10, ground := Go.Ground.phase }, { on := 11, ground := Go.Ground.phase }], guard := none } : Oper), ({ dst := none, op := Go.Op.store 27 (Go.Operand.tmp 5) (Go.Operand.tmp 19), type := 0, pos := "law.go:44", after := #[{ on := 8, ground := Go.Ground.data }, { on := 3, ground := Go.Ground.data }, { on := 12, ground := Go.Ground.chain }, { on := 0, ground := Go.Ground.phase }, { on := 1, ground := Go.Ground.phase }, { on := 2, ground := Go.Ground.phase }, { on := 3, ground := Go.Ground.phase }, { on := 4, ground := Go.Ground.textOnly Go.Departure.lateStores }, { on := 5, ground := Go.Ground.phase }, { on := 6, ground := Go.Ground.phase }, { on := 7, ground := Go.Ground.phase }, { on := 8, ground := Go.Ground.phase }, { on := 9, ground := Go.Ground.phase }, { on := 10, ground := Go.Ground.phase }, { on := 11, ground := Go.Ground.phase }, { on := 12, ground := Go.Ground.phase }], guard := none } : Oper), ({ dst := none, op := Go.Op.store 27 (Go.Operand.tmp 6) (Go.Operand.tmp 20), type := 0, pos := "law.go:44", after := #[{ on := 9, ground := Go.Ground.data }, { on := 4, ground := Go.Ground.data }, { on := 13, ground := Go.Ground.chain }, { on := 0, ground := Go.Ground.phase }, { on := 1, ground := Go.Ground.phase }, { on := 2, ground := Go.Ground.phase }, { on := 3, ground := Go.Ground.phase }, { on := 4, ground := Go.Ground.phase }, { on := 5, ground := Go.Ground.phase }, { on := 6, ground := Go.Ground.phase }, { on := 7, ground := Go.Ground.phase }, { on := 8, ground := Go.Ground.phase }, { on := 9, ground := Go.Ground.phase }, { on := 10, ground := Go.Ground.phase }, { on := 11, ground := Go.Ground.phase }, { on := 12, ground := Go.Ground.phase }, { on := 13, ground := Go.Ground.phase }], guard := none } : Oper)] Q i (fun a' w' => Inv2 w (upd D i) a' w') a w' := by
  have hi : i < 15 := (Array.getElem?_eq_some_iff.1 ho).1
  obtain rfl | rfl | rfl | rfl | rfl | rfl | rfl | rfl | rfl | rfl | rfl | rfl | rfl | rfl | rfl : i = 0 ∨ i = 1 ∨ i = 2 ∨ i = 3 ∨ i = 4 ∨ i = 5 ∨ i = 6 ∨ i = 7 ∨ i = 8 ∨ i = 9 ∨ i = 10 ∨ i = 11 ∨ i = 12 ∨ i = 13 ∨ i = 14 := by omega
  · obtain rfl : ({ dst := some 16, op := Go.Op.load 27 (Go.Operand.tmp 1), type := 27, pos := "law.go:44", after := #[], guard := none } : Oper) = o := Option.some.inj ho
    obtain ⟨G, X, rfl, hR, hS⟩ := hI
    unfold act2
    refine wpOp_step (o := ({ dst := some 16, op := Go.Op.load 27 (Go.Operand.tmp 1), type := 27, pos := "law.go:44", after := #[], guard := none } : Oper)) rfl (fun K hK => ?_)
    have hq := hR.c.row
    go_simp
    exact hK _ _ (inv2_load hR hS (i := 0) (by omega) rfl)
  · obtain rfl : ({ dst := some 17, op := Go.Op.load 27 (Go.Operand.tmp 1), type := 27, pos := "law.go:44", after := #[{ on := 10, ground := Go.Ground.gcOnly Go.Departure.lateStores }], guard := none } : Oper) = o := Option.some.inj ho
    obtain ⟨G, X, rfl, hR, hS⟩ := hI
    unfold act2
    refine wpOp_step (o := ({ dst := some 17, op := Go.Op.load 27 (Go.Operand.tmp 1), type := 27, pos := "law.go:44", after := #[{ on := 10, ground := Go.Ground.gcOnly Go.Departure.lateStores }], guard := none } : Oper)) rfl (fun K hK => ?_)
    have hq := hR.c.row
    go_simp
    exact hK _ _ (inv2_load hR hS (i := 1) (by omega) rfl)
  · obtain rfl : ({ dst := some 18, op := Go.Op.load 27 (Go.Operand.tmp 1), type := 27, pos := "law.go:44", after := #[{ on := 11, ground := Go.Ground.gcOnly Go.Departure.lateStores }], guard := none } : Oper) = o := Option.some.inj ho
    obtain ⟨G, X, rfl, hR, hS⟩ := hI
    unfold act2
    refine wpOp_step (o := ({ dst := some 18, op := Go.Op.load 27 (Go.Operand.tmp 1), type := 27, pos := "law.go:44", after := #[{ on := 11, ground := Go.Ground.gcOnly Go.Departure.lateStores }], guard := none } : Oper)) rfl (fun K hK => ?_)
    have hq := hR.c.row
    go_simp
    exact hK _ _ (inv2_load hR hS (i := 2) (by omega) rfl)
  · obtain rfl : ({ dst := some 19, op := Go.Op.load 27 (Go.Operand.tmp 1), type := 27, pos := "law.go:44", after := #[{ on := 12, ground := Go.Ground.gcOnly Go.Departure.lateStores }], guard := none } : Oper) = o := Option.some.inj ho
    obtain ⟨G, X, rfl, hR, hS⟩ := hI
    unfold act2
    refine wpOp_step (o := ({ dst := some 19, op := Go.Op.load 27 (Go.Operand.tmp 1), type := 27, pos := "law.go:44", after := #[{ on := 12, ground := Go.Ground.gcOnly Go.Departure.lateStores }], guard := none } : Oper)) rfl (fun K hK => ?_)
    have hq := hR.c.row
    go_simp
    exact hK _ _ (inv2_load hR hS (i := 3) (by omega) rfl)
  · obtain rfl : ({ dst := some 20, op := Go.Op.load 27 (Go.Operand.tmp 1), type := 27, pos := "law.go:44", after := #[{ on := 13, ground := Go.Ground.gcOnly Go.Departure.lateStores }], guard := none } : Oper) = o := Option.some.inj ho
    obtain ⟨G, X, rfl, hR, hS⟩ := hI
    unfold act2
    refine wpOp_step (o := ({ dst := some 20, op := Go.Op.load 27 (Go.Operand.tmp 1), type := 27, pos := "law.go:44", after := #[{ on := 13, ground := Go.Ground.gcOnly Go.Departure.lateStores }], guard := none } : Oper)) rfl (fun K hK => ?_)
    have hq := hR.c.row
    go_simp
    exact hK _ _ (inv2_load hR hS (i := 4) (by omega) rfl)
  · obtain rfl : ({ dst := some 2, op := Go.Op.alloc 27, type := 0, pos := "law.go:44", after := #[], guard := none } : Oper) = o := Option.some.inj ho
    obtain ⟨G, X, rfl, hR, hS⟩ := hI
    unfold act2
    refine wpOp_step (o := ({ dst := some 2, op := Go.Op.alloc 27, type := 0, pos := "law.go:44", after := #[], guard := none } : Oper)) rfl (fun K hK => ?_)
    go_simp
    exact hK _ _ (inv2_alloc hR hS (i := 0) (by omega) hDi rfl)
  · obtain rfl : ({ dst := some 3, op := Go.Op.alloc 27, type := 0, pos := "law.go:44", after := #[], guard := none } : Oper) = o := Option.some.inj ho
    obtain ⟨G, X, rfl, hR, hS⟩ := hI
    unfold act2
    refine wpOp_step (o := ({ dst := some 3, op := Go.Op.alloc 27, type := 0, pos := "law.go:44", after := #[], guard := none } : Oper)) rfl (fun K hK => ?_)
    go_simp
    exact hK _ _ (inv2_alloc hR hS (i := 1) (by omega) hDi rfl)
  · obtain rfl : ({ dst := some 4, op := Go.Op.alloc 27, type := 0, pos := "law.go:44", after := #[], guard := none } : Oper) = o := Option.some.inj ho
    obtain ⟨G, X, rfl, hR, hS⟩ := hI
    unfold act2
    refine wpOp_step (o := ({ dst := some 4, op := Go.Op.alloc 27, type := 0, pos := "law.go:44", after := #[], guard := none } : Oper)) rfl (fun K hK => ?_)
    go_simp
    exact hK _ _ (inv2_alloc hR hS (i := 2) (by omega) hDi rfl)
  · obtain rfl : ({ dst := some 5, op := Go.Op.alloc 27, type := 0, pos := "law.go:44", after := #[], guard := none } : Oper) = o := Option.some.inj ho
    obtain ⟨G, X, rfl, hR, hS⟩ := hI
    unfold act2
    refine wpOp_step (o := ({ dst := some 5, op := Go.Op.alloc 27, type := 0, pos := "law.go:44", after := #[], guard := none } : Oper)) rfl (fun K hK => ?_)
    go_simp
    exact hK _ _ (inv2_alloc hR hS (i := 3) (by omega) hDi rfl)
  · obtain rfl : ({ dst := some 6, op := Go.Op.alloc 27, type := 0, pos := "law.go:44", after := #[], guard := none } : Oper) = o := Option.some.inj ho
    obtain ⟨G, X, rfl, hR, hS⟩ := hI
    unfold act2
    refine wpOp_step (o := ({ dst := some 6, op := Go.Op.alloc 27, type := 0, pos := "law.go:44", after := #[], guard := none } : Oper)) rfl (fun K hK => ?_)
    go_simp
    exact hK _ _ (inv2_alloc hR hS (i := 4) (by omega) hDi rfl)
  · obtain rfl : ({ dst := none, op := Go.Op.store 27 (Go.Operand.tmp 2) (Go.Operand.tmp 16), type := 0, pos := "law.go:44", after := #[{ on := 5, ground := Go.Ground.data }, { on := 0, ground := Go.Ground.data }, { on := 0, ground := Go.Ground.phase }, { on := 1, ground := Go.Ground.textOnly Go.Departure.lateStores }, { on := 2, ground := Go.Ground.textOnly Go.Departure.lateStores }, { on := 3, ground := Go.Ground.textOnly Go.Departure.lateStores }, { on := 4, ground := Go.Ground.textOnly Go.Departure.lateStores }, { on := 5, ground := Go.Ground.phase }, { on := 6, ground := Go.Ground.phase }, { on := 7, ground := Go.Ground.phase }, { on := 8, ground := Go.Ground.phase }, { on := 9, ground := Go.Ground.phase }], guard := none } : Oper) = o := Option.some.inj ho
    obtain ⟨G, X, rfl, hR, hS⟩ := hI
    unfold act2
    have hd1 : D 5 = true := hd ⟨5, .data⟩ (by simp) rfl
    have hd2 : D 0 = true := hd ⟨0, .data⟩ (by simp) rfl
    have hp := hS.pt 0 (by omega) hd1
    have hl := hS.ld 0 (by omega) hd2
    have hb := (hR.blk 0 (by omega) hd1).2
    rw [show D (10 + 0) = false from hDi] at hb
    have hr := rowAt_blk hb
    have hf : freeB w' (G 0) = true := by unfold freeB; rw [hb]; rfl
    simp only [Bool.false_eq_true, if_false] at hr
    have HRR := Lib.hid hR
    have HSS := Lib.hid hS
    have HD1 := Lib.hid hd1
    clear hb hd hR hS hDi ho hd1 hd2
    simp only [Nat.reduceAdd] at hp hl
    refine wpOp_step (o := ({ dst := none, op := Go.Op.store 27 (Go.Operand.tmp 2) (Go.Operand.tmp 16), type := 0, pos := "law.go:44", after := #[{ on := 5, ground := Go.Ground.data }, { on := 0, ground := Go.Ground.data }, { on := 0, ground := Go.Ground.phase }, { on := 1, ground := Go.Ground.textOnly Go.Departure.lateStores }, { on := 2, ground := Go.Ground.textOnly Go.Departure.lateStores }, { on := 3, ground := Go.Ground.textOnly Go.Departure.lateStores }, { on := 4, ground := Go.Ground.textOnly Go.Departure.lateStores }, { on := 5, ground := Go.Ground.phase }, { on := 6, ground := Go.Ground.phase }, { on := 7, ground := Go.Ground.phase }, { on := 8, ground := Go.Ground.phase }, { on := 9, ground := Go.Ground.phase }], guard := none } : Oper)) rfl (fun K hK => ?_)
    go_simp
    exact hK _ _ (inv2_store HRR.out HSS.out (i := 0) (by omega) HD1.out (by unfold act2; rw [hp, hl]))
  · obtain rfl : ({ dst := none, op := Go.Op.store 27 (Go.Operand.tmp 3) (Go.Operand.tmp 17), type := 0, pos := "law.go:44", after := #[{ on := 6, ground := Go.Ground.data }, { on := 1, ground := Go.Ground.data }, { on := 10, ground := Go.Ground.chain }, { on := 0, ground := Go.Ground.phase }, { on := 1, ground := Go.Ground.phase }, { on := 2, ground := Go.Ground.textOnly Go.Departure.lateStores }, { on := 3, ground := Go.Ground.textOnly Go.Departure.lateStores }, { on := 4, ground := Go.Ground.textOnly Go.Departure.lateStores }, { on := 5, ground := Go.Ground.phase }, { on := 6, ground := Go.Ground.phase }, { on := 7, ground := Go.Ground.phase }, { on := 8, ground := Go.Ground.phase }, { on := 9, ground := Go.Ground.phase }, { on := 10, ground := Go.Ground.phase }], guard := none } : Oper) = o := Option.some.inj ho
    obtain ⟨G, X, rfl, hR, hS⟩ := hI
    unfold act2
    have hd1 : D 6 = true := hd ⟨6, .data⟩ (by simp) rfl
    have hd2 : D 1 = true := hd ⟨1, .data⟩ (by simp) rfl
    have hp := hS.pt 1 (by omega) hd1
    have hl := hS.ld 1 (by omega) hd2
    have hb := (hR.blk 1 (by omega) hd1).2
    rw [show D (10 + 1) = false from hDi] at hb
    have hr := rowAt_blk hb
    have hf : freeB w' (G 1) = true := by unfold freeB; rw [hb]; rfl
    simp only [Bool.false_eq_true, if_false] at hr
    have HRR := Lib.hid hR
    have HSS := Lib.hid hS
    have HD1 := Lib.hid hd1
    clear hb hd hR hS hDi ho hd1 hd2
    simp only [Nat.reduceAdd] at hp hl
    refine wpOp_step (o := ({ dst := none, op := Go.Op.store 27 (Go.Operand.tmp 3) (Go.Operand.tmp 17), type := 0, pos := "law.go:44", after := #[{ on := 6, ground := Go.Ground.data }, { on := 1, ground := Go.Ground.data }, { on := 10, ground := Go.Ground.chain }, { on := 0, ground := Go.Ground.phase }, { on := 1, ground := Go.Ground.phase }, { on := 2, ground := Go.Ground.textOnly Go.Departure.lateStores }, { on := 3, ground := Go.Ground.textOnly Go.Departure.lateStores }, { on := 4, ground := Go.Ground.textOnly Go.Departure.lateStores }, { on := 5, ground := Go.Ground.phase }, { on := 6, ground := Go.Ground.phase }, { on := 7, ground := Go.Ground.phase }, { on := 8, ground := Go.Ground.phase }, { on := 9, ground := Go.Ground.phase }, { on := 10, ground := Go.Ground.phase }], guard := none } : Oper)) rfl (fun K hK => ?_)
    go_simp
    exact hK _ _ (inv2_store HRR.out HSS.out (i := 1) (by omega) HD1.out (by unfold act2; rw [hp, hl]))
  · obtain rfl : ({ dst := none, op := Go.Op.store 27 (Go.Operand.tmp 4) (Go.Operand.tmp 18), type := 0, pos := "law.go:44", after := #[{ on := 7, ground := Go.Ground.data }, { on := 2, ground := Go.Ground.data }, { on := 11, ground := Go.Ground.chain }, { on := 0, ground := Go.Ground.phase }, { on := 1, ground := Go.Ground.phase }, { on := 2, ground := Go.Ground.phase }, { on := 3, ground := Go.Ground.textOnly Go.Departure.lateStores }, { on := 4, ground := Go.Ground.textOnly Go.Departure.lateStores }, { on := 5, ground := Go.Ground.phase }, { on := 6, ground := Go.Ground.phase }, { on := 7, ground := Go.Ground.phase }, { on := 8, ground := Go.Ground.phase }, { on := 9, ground := Go.Ground.phase }, { on := 10, ground := Go.Ground.phase }, { on := 11, ground := Go.Ground.phase }], guard := none } : Oper) = o := Option.some.inj ho
    obtain ⟨G, X, rfl, hR, hS⟩ := hI
    unfold act2
    have hd1 : D 7 = true := hd ⟨7, .data⟩ (by simp) rfl
    have hd2 : D 2 = true := hd ⟨2, .data⟩ (by simp) rfl
    have hp := hS.pt 2 (by omega) hd1
    have hl := hS.ld 2 (by omega) hd2
    have hb := (hR.blk 2 (by omega) hd1).2
    rw [show D (10 + 2) = false from hDi] at hb
    have hr := rowAt_blk hb
    have hf : freeB w' (G 2) = true := by unfold freeB; rw [hb]; rfl
    simp only [Bool.false_eq_true, if_false] at hr
    have HRR := Lib.hid hR
    have HSS := Lib.hid hS
    have HD1 := Lib.hid hd1
    clear hb hd hR hS hDi ho hd1 hd2
    simp only [Nat.reduceAdd] at hp hl
    refine wpOp_step (o := ({ dst := none, op := Go.Op.store 27 (Go.Operand.tmp 4) (Go.Operand.tmp 18), type := 0, pos := "law.go:44", after := #[{ on := 7, ground := Go.Ground.data }, { on := 2, ground := Go.Ground.data }, { on := 11, ground := Go.Ground.chain }, { on := 0, ground := Go.Ground.phase }, { on := 1, ground := Go.Ground.phase }, { on := 2, ground := Go.Ground.phase }, { on := 3, ground := Go.Ground.textOnly Go.Departure.lateStores }, { on := 4, ground := Go.Ground.textOnly Go.Departure.lateStores }, { on := 5, ground := Go.Ground.phase }, { on := 6, ground := Go.Ground.phase }, { on := 7, ground := Go.Ground.phase }, { on := 8, ground := Go.Ground.phase }, { on := 9, ground := Go.Ground.phase }, { on := 10, ground := Go.Ground.phase }, { on := 11, ground := Go.Ground.phase }], guard := none } : Oper)) rfl (fun K hK => ?_)
    go_simp
    exact hK _ _ (inv2_store HRR.out HSS.out (i := 2) (by omega) HD1.out (by unfold act2; rw [hp, hl]))
  · obtain rfl : ({ dst := none, op := Go.Op.store 27 (Go.Operand.tmp 5) (Go.Operand.tmp 19), type := 0, pos := "law.go:44", after := #[{ on := 8, ground := Go.Ground.data }, { on := 3, ground := Go.Ground.data }, { on := 12, ground := Go.Ground.chain }, { on := 0, ground := Go.Ground.phase }, { on := 1, ground := Go.Ground.phase }, { on := 2, ground := Go.Ground.phase }, { on := 3, ground := Go.Ground.phase }, { on := 4, ground := Go.Ground.textOnly Go.Departure.lateStores }, { on := 5, ground := Go.Ground.phase }, { on := 6, ground := Go.Ground.phase }, { on := 7, ground := Go.Ground.phase }, { on := 8, ground := Go.Ground.phase }, { on := 9, ground := Go.Ground.phase }, { on := 10, ground := Go.Ground.phase }, { on := 11, ground := Go.Ground.phase }, { on := 12, ground := Go.Ground.phase }], guard := none } : Oper) = o := Option.some.inj ho
    obtain ⟨G, X, rfl, hR, hS⟩ := hI
    unfold act2
    have hd1 : D 8 = true := hd ⟨8, .data⟩ (by simp) rfl
    have hd2 : D 3 = true := hd ⟨3, .data⟩ (by simp) rfl
    have hp := hS.pt 3 (by omega) hd1
    have hl := hS.ld 3 (by omega) hd2
    have hb := (hR.blk 3 (by omega) hd1).2
    rw [show D (10 + 3) = false from hDi] at hb
    have hr := rowAt_blk hb
    have hf : freeB w' (G 3) = true := by unfold freeB; rw [hb]; rfl
    simp only [Bool.false_eq_true, if_false] at hr
    have HRR := Lib.hid hR
    have HSS := Lib.hid hS
    have HD1 := Lib.hid hd1
    clear hb hd hR hS hDi ho hd1 hd2
    simp only [Nat.reduceAdd] at hp hl
    refine wpOp_step (o := ({ dst := none, op := Go.Op.store 27 (Go.Operand.tmp 5) (Go.Operand.tmp 19), type := 0, pos := "law.go:44", after := #[{ on := 8, ground := Go.Ground.data }, { on := 3, ground := Go.Ground.data }, { on := 12, ground := Go.Ground.chain }, { on := 0, ground := Go.Ground.phase }, { on := 1, ground := Go.Ground.phase }, { on := 2, ground := Go.Ground.phase }, { on := 3, ground := Go.Ground.phase }, { on := 4, ground := Go.Ground.textOnly Go.Departure.lateStores }, { on := 5, ground := Go.Ground.phase }, { on := 6, ground := Go.Ground.phase }, { on := 7, ground := Go.Ground.phase }, { on := 8, ground := Go.Ground.phase }, { on := 9, ground := Go.Ground.phase }, { on := 10, ground := Go.Ground.phase }, { on := 11, ground := Go.Ground.phase }, { on := 12, ground := Go.Ground.phase }], guard := none } : Oper)) rfl (fun K hK => ?_)
    go_simp
    exact hK _ _ (inv2_store HRR.out HSS.out (i := 3) (by omega) HD1.out (by unfold act2; rw [hp, hl]))
  · obtain rfl : ({ dst := none, op := Go.Op.store 27 (Go.Operand.tmp 6) (Go.Operand.tmp 20), type := 0, pos := "law.go:44", after := #[{ on := 9, ground := Go.Ground.data }, { on := 4, ground := Go.Ground.data }, { on := 13, ground := Go.Ground.chain }, { on := 0, ground := Go.Ground.phase }, { on := 1, ground := Go.Ground.phase }, { on := 2, ground := Go.Ground.phase }, { on := 3, ground := Go.Ground.phase }, { on := 4, ground := Go.Ground.phase }, { on := 5, ground := Go.Ground.phase }, { on := 6, ground := Go.Ground.phase }, { on := 7, ground := Go.Ground.phase }, { on := 8, ground := Go.Ground.phase }, { on := 9, ground := Go.Ground.phase }, { on := 10, ground := Go.Ground.phase }, { on := 11, ground := Go.Ground.phase }, { on := 12, ground := Go.Ground.phase }, { on := 13, ground := Go.Ground.phase }], guard := none } : Oper) = o := Option.some.inj ho
    obtain ⟨G, X, rfl, hR, hS⟩ := hI
    unfold act2
    have hd1 : D 9 = true := hd ⟨9, .data⟩ (by simp) rfl
    have hd2 : D 4 = true := hd ⟨4, .data⟩ (by simp) rfl
    have hp := hS.pt 4 (by omega) hd1
    have hl := hS.ld 4 (by omega) hd2
    have hb := (hR.blk 4 (by omega) hd1).2
    rw [show D (10 + 4) = false from hDi] at hb
    have hr := rowAt_blk hb
    have hf : freeB w' (G 4) = true := by unfold freeB; rw [hb]; rfl
    simp only [Bool.false_eq_true, if_false] at hr
    have HRR := Lib.hid hR
    have HSS := Lib.hid hS
    have HD1 := Lib.hid hd1
    clear hb hd hR hS hDi ho hd1 hd2
    simp only [Nat.reduceAdd] at hp hl
    refine wpOp_step (o := ({ dst := none, op := Go.Op.store 27 (Go.Operand.tmp 6) (Go.Operand.tmp 20), type := 0, pos := "law.go:44", after := #[{ on := 9, ground := Go.Ground.data }, { on := 4, ground := Go.Ground.data }, { on := 13, ground := Go.Ground.chain }, { on := 0, ground := Go.Ground.phase }, { on := 1, ground := Go.Ground.phase }, { on := 2, ground := Go.Ground.phase }, { on := 3, ground := Go.Ground.phase }, { on := 4, ground := Go.Ground.phase }, { on := 5, ground := Go.Ground.phase }, { on := 6, ground := Go.Ground.phase }, { on := 7, ground := Go.Ground.phase }, { on := 8, ground := Go.Ground.phase }, { on := 9, ground := Go.Ground.phase }, { on := 10, ground := Go.Ground.phase }, { on := 11, ground := Go.Ground.phase }, { on := 12, ground := Go.Ground.phase }, { on := 13, ground := Go.Ground.phase }], guard := none } : Oper)) rfl (fun K hK => ?_)
    go_simp
    exact hK _ _ (inv2_store HRR.out HSS.out (i := 4) (by omega) HD1.out (by unfold act2; rw [hp, hl]))
end lawPacketKnown
end Go.Proofs.YtbbmfhelncedcaaDoor
