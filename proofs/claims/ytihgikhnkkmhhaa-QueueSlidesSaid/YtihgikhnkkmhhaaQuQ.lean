/-
  queue: the program's queue in the world; New, waiting, Len, Room.
-/
import Derived.Test.YtihgikhnkkmhhaaQuOwn
import Derived.Test.YtihgikhnkkmhhaaLast
set_option linter.unusedSimpArgs false
set_option linter.unusedVariables false
namespace Go.Proofs.Ytihgikhnkkmhhaa
section
open Go.RowKit
def oQuQ1 : Oper := ({ dst := some 5, op := Go.Op.move (Go.Operand.tmp 0), type := 23, pos := "queue.go:70", after := #[], guard := none } : Oper)
def oQuQ2 : Oper := ({ dst := some 6, op := Go.Op.nilCheck (Go.Operand.tmp 5), type := 0, pos := "queue.go:70", after := #[{ on := 0, ground := Go.Ground.data }], guard := none } : Oper)
def oQuQ3 : Oper := ({ dst := some 7, op := Go.Op.fieldAddr 35 (Go.Operand.tmp 6) 0, type := 0, pos := "queue.go:70", after := #[{ on := 1, ground := Go.Ground.data }], guard := none } : Oper)
def oQuQ4 : Oper := ({ dst := some 8, op := Go.Op.load 3 (Go.Operand.tmp 7), type := 3, pos := "queue.go:70", after := #[{ on := 2, ground := Go.Ground.data }], guard := none } : Oper)
def oQuQ5 : Oper := ({ dst := some 9, op := Go.Op.move (Go.Operand.tmp 0), type := 23, pos := "queue.go:70", after := #[], guard := none } : Oper)
def oQuQ6 : Oper := ({ dst := some 10, op := Go.Op.call { callee := Go.Callee.value (Go.Operand.func 10), args := #[Go.Operand.tmp 9], argTypes := #[23] }, type := 3, pos := "queue.go:70", after := #[{ on := 4, ground := Go.Ground.data }], guard := none } : Oper)
def oQuQ7 : Oper := ({ dst := some 11, op := Go.Op.binOp Go.BinOp.sub 3 (Go.Operand.tmp 8) (Go.Operand.tmp 10) 3, type := 3, pos := "queue.go:70", after := #[{ on := 3, ground := Go.Ground.data }, { on := 5, ground := Go.Ground.data }], guard := none } : Oper)
def oQuQ8 : Oper := ({ dst := some 2, op := Go.Op.assign (Go.Operand.tmp 11), type := 3, pos := "queue.go:70", after := #[{ on := 6, ground := Go.Ground.data }, { on := 5, ground := Go.Ground.chain }, { on := 0, ground := Go.Ground.phase }, { on := 1, ground := Go.Ground.phase }, { on := 2, ground := Go.Ground.phase }, { on := 3, ground := Go.Ground.phase }, { on := 4, ground := Go.Ground.phase }, { on := 5, ground := Go.Ground.phase }, { on := 6, ground := Go.Ground.phase }], guard := none } : Oper)
end
open Go.RowKit

/-- The program's queue at t, in the blocks F, of a limit M: the messages D were popped, L wait. -/
def RQ (w : World) (t : Nat) (F : Nat → Prop) (M : Nat) (D L : List Ms) : Prop :=
  ∃ v, w.heap[t]? = some (.cells #[.int .i64 (M : Nat), v, .int .i64 (D.length : Nat)] 35 (0, 0)) ∧ w.ownsRow 0 28 4 v (D.length + L.length) (flatM (D ++ L)) ∧ v.ownBlock ≠ some t ∧ ∀ x, F x ↔ x = t ∨ v.ownBlock = some x
/-- The program's queue: the messages L wait. -/
def PQ (w : World) (t : Nat) (F : Nat → Prop) (M : Nat) (L : List Ms) : Prop :=
  ∃ D, RQ w t F M D L ∧ (D = [] ∨ D.length < L.length) ∧ L.length ≤ M ∧ M ≤ 1024
section
variable {w w' : World} {t M : Nat} {F : Nat → Prop} {D L : List Ms}
theorem RQ.root (h : RQ w t F M D L) : F t := by obtain ⟨v, _, _, _, hF⟩ := h; exact (hF t).2 (Or.inl rfl)
theorem RQ.lt (h : RQ w t F M D L) (b : Nat) (hb : F b) : b < w.heap.size := by
  obtain ⟨v, h1, h2, _, hF⟩ := h
  rcases (hF b).1 hb with rfl | hb
  · exact (Array.getElem?_eq_some_iff.1 h1).1
  · exact (h2.lt b hb).2
theorem RQ.keep (h : RQ w t F M D L) (hk : ∀ b, F b → w'.heap[b]? = w.heap[b]?) : RQ w' t F M D L := by
  obtain ⟨v, h1, h2, h3, hF⟩ := h
  exact ⟨v, (hk t ((hF t).2 (Or.inl rfl))).trans h1, vrow_keep h2 (fun b hb => hk b ((hF b).2 (Or.inr hb))), h3, hF⟩
theorem RQ.below (h : RQ w t F M D L) (hb : Below w.heap.size w w') : RQ w' t F M D L := h.keep fun b hF => hb.block b (h.lt b hF)
theorem PQ.root (h : PQ w t F M L) : F t := by obtain ⟨D, h, _⟩ := h; exact h.root
theorem PQ.lt (h : PQ w t F M L) (b : Nat) (hb : F b) : b < w.heap.size := by obtain ⟨D, h, _⟩ := h; exact h.lt b hb
theorem PQ.keep (h : PQ w t F M L) (hk : ∀ b, F b → w'.heap[b]? = w.heap[b]?) : PQ w' t F M L := by obtain ⟨D, h, r⟩ := h; exact ⟨D, h.keep hk, r⟩
theorem PQ.below (h : PQ w t F M L) (hb : Below w.heap.size w w') : PQ w' t F M L := h.keep fun b hF => hb.block b (h.lt b hF)
theorem PQ.outs {G : Nat → Prop} (h : PQ w t F M L) (hU : Outs w w' G) (hG : ∀ b, F b → ¬ G b) : PQ w' t F M L := h.keep fun b hF => hU.block b (h.lt b hF) (hG b hF)
theorem PQ.le (h : PQ w t F M L) : L.length ≤ M := by obtain ⟨_, _, _, h, _⟩ := h; exact h
theorem PQ.most (h : PQ w t F M L) : M ≤ 1024 := by obtain ⟨_, _, _, _, h⟩ := h; exact h
/-- A queue that New makes. -/
def NQ (w : World) (M : Nat) (e : Ending) (w' : World) : Prop := ∃ t F, e = .returned (.pointer (some ⟨t, 0, none⟩)) ∧ PQ w' t F M [] ∧ Below w.heap.size w w' ∧ ∀ b, F b → w.heap.size ≤ b
theorem qNew (w : World) (M : Nat) (h1 : 1 ≤ M) (h2 : M ≤ 1024) : Calls Try.prog 8 #[.int .i64 (M : Nat)] w fun e w' => NQ w M e w' := by
  have i1 : ¬ (M : Int) < 1 := by omega
  have i2 : ¬ (1024 : Int) < (M : Int) := by omega
  go_enter Try.func8, Try.ntmps8
  go_wp2_with fail
  go_ret
  exact ⟨w.heap.size, fun x => x = w.heap.size, rfl, ⟨[], ⟨.slice none 0 0, heap_alloc_new w _, World.ownsRow_nil _ _ _ _, by simp [Value.ownBlock], fun x => by simp [Value.ownBlock]⟩, Or.inl rfl, Nat.zero_le _, h2⟩, below_alloc (Below.refl _ _) _, fun b e => by omega⟩
theorem qNewN (w : World) (n : Int) (h : n < 1 ∨ 1024 < n) : Calls Try.prog 8 #[.int .i64 n] w fun e w' => e = .returned (.pointer none) ∧ w = w' := by
  by_cases i1 : n < 1
  · go_enter Try.func8, Try.ntmps8
    go_wp2_with fail
    go_ret
    exact ⟨rfl, rfl⟩
  · have i2 : 1024 < n := by omega
    go_enter Try.func8, Try.ntmps8
    go_wp2_with fail
    go_ret
    exact ⟨rfl, rfl⟩
/-- What waiting tells. -/
def WP (w : World) (L : List Ms) (e : Ending) (w' : World) : Prop :=
  ∃ A c, e = .returned (.slice A L.length c) ∧ Msgs w' A L.length L ∧ (A = none → c = 0) ∧ Below w.heap.size w w'
theorem qWait (h : RQ w t F M D L) (hl : D.length + L.length ≤ 1000000) : Calls Try.prog 24 #[.pointer (some ⟨t, 0, none⟩)] w fun e w' => WP w L e w' := by
  obtain ⟨v, h1, h2, h3, hF⟩ := h
  obtain ⟨A, c, rfl, hc, hV, hA, hown⟩ := mrow_form h2
  have c1 := cell_of_row w t 1 _ _ _ h1
  have c2 := cell_of_row w t 2 _ _ _ h1
  have hg : D.length = 0 ∧ L.length = 0 ∧ A = none ∨ ∃ g, A = some ⟨g, 0, none⟩ := by
    rcases h2.2 with ⟨e, hn⟩ | ⟨g, cap, cur, e, _⟩
    · injection e with e1
      exact Or.inl ⟨by omega, by omega, e1⟩
    · injection e with e1
      exact Or.inr ⟨g, e1⟩
  have HV := Lib.hid hV
  clear h1 h2 h3 hF hown hV
  rcases hg with ⟨g1, g2, rfl⟩ | ⟨g, rfl⟩
  · obtain rfl := hA rfl
    obtain rfl : D = [] := List.eq_nil_of_length_eq_zero g1
    obtain rfl : L = [] := List.eq_nil_of_length_eq_zero g2
    simp only [List.length_nil, Nat.add_zero] at c1 c2
    go_enter Try.func24, Try.ntmps24
    go_wp2_with fail
    go_quiet (fail)
    go_wp2_with fail
    go_ret
    exact ⟨none, 0, rfl, Msgs.nil _, fun _ => rfl, below_drewN (Below.refl _ _) _⟩
  · by_cases hdc : D.length = c
    · go_enter Try.func24, Try.ntmps24
      go_wp2_with fail
      go_quiet (fail)
      obtain rfl : L = [] := List.eq_nil_of_length_eq_zero (by omega)
      go_wp2_with fail
      go_ret
      exact ⟨_, 0, rfl, Msgs.nil _, fun _ => rfl, below_drewN (Below.refl _ _) _⟩
    · go_enter Try.func24, Try.ntmps24
      go_wp2_with fail
      go_quiet (fail)
      have hV2 := HV.out.dropAt D.length L.length (by omega) (by omega)
      rw [List.drop_left, Nat.zero_add] at hV2
      have HV2 := Lib.hid (hV2.below (below_drewN (Below.refl w.heap.size w) nq))
      clear hV2
      go_wp2_with fail
      go_ret
      exact ⟨_, _, rfl, HV2.out, fun e => (by cases e), below_drewN (Below.refl _ _) _⟩
theorem qWaitN (w : World) : Calls Try.prog 24 #[.pointer none] w fun e w' => WP w [] e w' := by
  go_enter Try.func24, Try.ntmps24
  go_wp2_with fail
  go_ret
  exact ⟨none, 0, rfl, Msgs.nil _, fun _ => rfl, Below.refl _ _⟩
theorem zero_PQ (h : w.heap[t]? = some (.cells #[.int .i64 0, .slice none 0 0, .int .i64 0] 35 (0, 0))) : PQ w t (fun x => x = t) 0 [] :=
  ⟨[], ⟨.slice none 0 0, h, World.ownsRow_nil _ _ _ _, by simp [Value.ownBlock], fun x => by simp [Value.ownBlock]⟩, Or.inl rfl, Nat.le_refl _, by omega⟩
theorem PQ.raw (h : PQ w t F M L) : ∃ D, RQ w t F M D L ∧ D.length ≤ 1024 ∧ L.length ≤ 1024 := by
  obtain ⟨D, h, h1, h2, h3⟩ := h
  refine ⟨D, h, ?_, by omega⟩
  rcases h1 with rfl | h1
  · simp
  · omega
/-- What Len, Room tell: a number. -/
def NP (w : World) (n : Nat) (e : Ending) (w' : World) : Prop := e = .returned (.int .i64 (n : Nat)) ∧ Below w.heap.size w w'
theorem rLen (h : RQ w t F M D L) (hl : D.length + L.length ≤ 1000000) : Calls Try.prog 10 #[.pointer (some ⟨t, 0, none⟩)] w fun e w' => NP w L.length e w' := by
  have H := Lib.hid (qWait h hl)
  clear h
  go_enter Try.func10, Try.ntmps10
  go_wp2_with fail
  refine H.out.mono ?_
  rintro e w1 ⟨A, c, rfl, _, _, hb⟩
  go_wp2_with fail
  go_ret
  exact ⟨rfl, hb⟩
theorem qLen (h : PQ w t F M L) : Calls Try.prog 10 #[.pointer (some ⟨t, 0, none⟩)] w fun e w' => NP w L.length e w' := by
  obtain ⟨D, h, h1, h2⟩ := h.raw
  exact rLen h (by omega)
theorem qLenN (w : World) : Calls Try.prog 10 #[.pointer none] w fun e w' => NP w 0 e w' := by
  have H := Lib.hid (qWaitN w)
  go_enter Try.func10, Try.ntmps10
  go_wp2_with fail
  refine H.out.mono ?_
  rintro e w1 ⟨A, c, rfl, _, _, hb⟩
  go_wp2_with fail
  go_ret
  exact ⟨rfl, hb⟩
theorem qRoom (h : PQ w t F M L) : Calls Try.prog 9 #[.pointer (some ⟨t, 0, none⟩)] w fun e w' => NP w (M - L.length) e w' := by
  have hM := h.most
  have hL := h.le
  have HP := Lib.hid h
  obtain ⟨D, ⟨v, h1, _⟩, _⟩ := h
  have c0 := cell_of_row w t 0 _ _ _ h1
  have HB : Hid (∀ n, Below w.heap.size w (w.drewN n)) := fun n => below_drewN (Below.refl _ _) n
  clear h1
  go_enter Try.func9, Try.ntmps9
  go_wp2_with fail
  refine wp_region_held_drew (S := (fun w' => Below w.heap.size w w')) (by kernel_rfl) ((Below.refl _ _).drew) (fun hHeld => ?_)
  refine tkY 0 oQuQ1 ?vv1_1_0 rfl (by kernel_rfl) (by kernel_rfl) (by kernel_rfl) (fun _ _ _ h => h) (by rfl) ?hy1_1_0 (by assumption) ?rest1_1_0
  case hy1_1_0 => (intro w hSw; unfold oQuQ1; (try dsimp only at hSw); (try go_split_ands); go_simp; all_goals with_reducible rfl)
  try simp only [oQuQ1, Act.put, sA, sB, sC]
  refine tkY 1 oQuQ2 ?vv1_1_1 rfl (by kernel_rfl) (by kernel_rfl) (by kernel_rfl) (fun _ _ _ h => h) (by rfl) ?hy1_1_1 (by assumption) ?rest1_1_1
  case hy1_1_1 => (intro w hSw; unfold oQuQ2; (try dsimp only at hSw); (try go_split_ands); go_simp; all_goals with_reducible rfl)
  try simp only [oQuQ2, Act.put, sA, sB, sC]
  refine tkY 2 oQuQ3 ?vv1_1_2 rfl (by kernel_rfl) (by kernel_rfl) (by kernel_rfl) (fun _ _ _ h => h) (by rfl) ?hy1_1_2 (by assumption) ?rest1_1_2
  case hy1_1_2 => (intro w hSw; unfold oQuQ3; (try dsimp only at hSw); (try go_split_ands); go_simp; all_goals with_reducible rfl)
  try simp only [oQuQ3, Act.put, sA, sB, sC]
  refine tkY 3 oQuQ4 ?vv1_2_3 rfl (by kernel_rfl) (by kernel_rfl) (by kernel_rfl) (fun _ _ _ h => h) (by rfl) ?hy1_2_3 (by assumption) ?rest1_2_3
  case hy1_2_3 => (intro w hSw; unfold oQuQ4; (try dsimp only at hSw); have q9 := (hSw.cell (World.block_lt_of_cell? _ _ c0)).trans c0; clear hSw; go_simp; all_goals with_reducible rfl)
  try simp only [oQuQ4, Act.put, sA, sB, sC]
  refine tkY 4 oQuQ5 ?vv1_3_4 rfl (by kernel_rfl) (by kernel_rfl) (by kernel_rfl) (fun _ _ _ h => h) (by rfl) ?hy1_3_4 (by assumption) ?rest1_3_4
  case hy1_3_4 => (intro w hSw; unfold oQuQ5; (try dsimp only at hSw); (try go_split_ands); go_simp; all_goals with_reducible rfl)
  try simp only [oQuQ5, Act.put, sA, sB, sC]
  refine wpAnyH_ready (rs := [5]) (by kernel_rfl) (by simp) ?_
  refine AllReadyH.cons (o := oQuQ6) rfl (fun K hK => ?_) AllReadyH.nil
  unfold oQuQ6
  go_simp
  (go_at_call 10; refine (qLen (HP.out.below hHeld)).mono ?_; rintro e w7 ⟨rfl, hb6⟩)
  refine hK.out _ _ ?_ (fun hHeld => ?_)
  · (exact below_more hHeld hb6)
  clear hK K
  try simp only [oQuQ6, Act.put, sA, sB, sC]
  refine tkY 6 oQuQ7 ?vv1_4_6 rfl (by kernel_rfl) (by kernel_rfl) (by kernel_rfl) (fun _ _ _ h => h) (by rfl) ?hy1_4_6 (by assumption) ?rest1_4_6
  case hy1_4_6 => (intro w hSw; unfold oQuQ7; (try dsimp only at hSw); (try go_split_ands); go_simp; all_goals with_reducible rfl)
  try simp only [oQuQ7, Act.put, sA, sB, sC]
  refine tkY 7 oQuQ8 ?vv1_4_7 rfl (by kernel_rfl) (by kernel_rfl) (by kernel_rfl) (fun _ _ _ h => h) (by rfl) ?hy1_4_7 (by assumption) ?rest1_4_7
  case hy1_4_7 => (intro w hSw; unfold oQuQ8; (try dsimp only at hSw); (try go_split_ands); go_simp; all_goals with_reducible rfl)
  try simp only [oQuQ8, Act.put, sA, sB, sC]
  refine wpAnyH_done (by kernel_rfl) ?_ _
  go_wp2_with fail
  go_ret
  exact ⟨ret_int ((IntWalk.i64_in _ (by omega)).trans (by omega)), hHeld⟩
theorem qRoomN (w : World) : Calls Try.prog 9 #[.pointer none] w fun e w' => NP w 0 e w' := by
  go_enter Try.func9, Try.ntmps9
  go_wp2_with fail
  go_ret
  exact ⟨rfl, Below.refl _ _⟩
end
end Go.Proofs.Ytihgikhnkkmhhaa
