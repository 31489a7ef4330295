/-
  trie: hints put in order: compare, and slices.SortFunc by it; texts by slices.Sort.
-/
import Derived.Test.YtipdmfnkkkdlbaaGreatDoorTgKeys
import Derived.Test.YtipdmfnkkkdlbaaGreatDoorTgVis
import Derived.Shelf.SlSortCmp.NoneTotal
set_option linter.unusedSimpArgs false
set_option linter.unusedVariables false
namespace Go.Proofs.YtipdmfnkkkdlbaaGreatDoor
section
open Go.RowKit
def oTgSort1 : Oper := ({ dst := some 5, op := Go.Op.fieldAddr 40 (Go.Operand.tmp 2) 0, type := 0, pos := "trie.go:226", after := #[], guard := none } : Oper)
def oTgSort2 : Oper := ({ dst := some 7, op := Go.Op.fieldAddr 40 (Go.Operand.tmp 3) 0, type := 0, pos := "trie.go:226", after := #[], guard := none } : Oper)
def oTgSort3 : Oper := ({ dst := some 10, op := Go.Op.fieldAddr 40 (Go.Operand.tmp 2) 1, type := 0, pos := "trie.go:226", after := #[], guard := none } : Oper)
def oTgSort4 : Oper := ({ dst := some 12, op := Go.Op.fieldAddr 40 (Go.Operand.tmp 3) 1, type := 0, pos := "trie.go:226", after := #[], guard := none } : Oper)
def oTgSort5 : Oper := ({ dst := some 6, op := Go.Op.load 9 (Go.Operand.tmp 5), type := 9, pos := "trie.go:226", after := #[{ on := 0, ground := Go.Ground.data }], guard := none } : Oper)
def oTgSort6 : Oper := ({ dst := some 8, op := Go.Op.load 9 (Go.Operand.tmp 7), type := 9, pos := "trie.go:226", after := #[{ on := 2, ground := Go.Ground.data }], guard := none } : Oper)
def oTgSort7 : Oper := ({ dst := some 11, op := Go.Op.load 9 (Go.Operand.tmp 10), type := 9, pos := "trie.go:226", after := #[{ on := 5, ground := Go.Ground.data }], guard := none } : Oper)
def oTgSort8 : Oper := ({ dst := some 13, op := Go.Op.load 9 (Go.Operand.tmp 12), type := 9, pos := "trie.go:226", after := #[{ on := 7, ground := Go.Ground.data }], guard := none } : Oper)
def oTgSort9 : Oper := ({ dst := some 9, op := Go.Op.call { callee := Go.Callee.value (Go.Operand.func 65), args := #[Go.Operand.tmp 6, Go.Operand.tmp 8], argTypes := #[9, 9] }, type := 3, pos := "trie.go:226", after := #[{ on := 1, ground := Go.Ground.data }, { on := 3, ground := Go.Ground.data }], guard := none } : Oper)
def oTgSort10 : Oper := ({ dst := some 14, op := Go.Op.call { callee := Go.Callee.value (Go.Operand.func 65), args := #[Go.Operand.tmp 11, Go.Operand.tmp 13], argTypes := #[9, 9] }, type := 3, pos := "trie.go:226", after := #[{ on := 6, ground := Go.Ground.data }, { on := 8, ground := Go.Ground.data }, { on := 4, ground := Go.Ground.chain }], guard := none } : Oper)
def oTgSort11 : Oper := ({ dst := some 15, op := Go.Op.buildSlice 112 2 #[(0, Go.Operand.tmp 9), (1, Go.Operand.tmp 14)], type := 112, pos := "trie.go:226", after := #[{ on := 4, ground := Go.Ground.data }, { on := 9, ground := Go.Ground.data }], guard := none } : Oper)
def oTgSort12 : Oper := ({ dst := some 16, op := Go.Op.call { callee := Go.Callee.value (Go.Operand.func 64), args := #[Go.Operand.tmp 15], argTypes := #[112] }, type := 3, pos := "trie.go:226", after := #[{ on := 10, ground := Go.Ground.data }, { on := 9, ground := Go.Ground.chain }], guard := none } : Oper)
def oTgSort13 : Oper := ({ dst := some 4, op := Go.Op.assign (Go.Operand.tmp 16), type := 3, pos := "trie.go:226", after := #[{ on := 11, ground := Go.Ground.data }, { on := 11, ground := Go.Ground.chain }, { on := 0, ground := Go.Ground.phase }, { on := 1, ground := Go.Ground.phase }, { on := 2, ground := Go.Ground.phase }, { on := 3, ground := Go.Ground.phase }, { on := 4, ground := Go.Ground.phase }, { on := 5, ground := Go.Ground.phase }, { on := 6, ground := Go.Ground.phase }, { on := 7, ground := Go.Ground.phase }, { on := 8, ground := Go.Ground.phase }, { on := 9, ground := Go.Ground.phase }, { on := 10, ground := Go.Ground.phase }, { on := 11, ground := Go.Ground.phase }], guard := none } : Oper)
end
open Go.RowKit Go.Maps Go.Sort Go.Shelf

theorem cmp_facts : ∀ a b : List UInt8, (Lib.compareBytes a b < 0 ↔ ltB a b = true) ∧ (Lib.compareBytes a b = 0 ↔ a = b)
  | [], [] => by simp [Lib.compareBytes, ltB, Op.bytesLess]
  | [], b :: y => by simp [Lib.compareBytes, ltB, Op.bytesLess]
  | a :: x, [] => by simp [Lib.compareBytes, ltB, Op.bytesLess]
  | a :: x, b :: y => by
    obtain ⟨h1, h2⟩ := cmp_facts x y
    rw [lt_cons]
    unfold Lib.compareBytes
    by_cases hab : a < b
    · rw [if_pos hab]
      have : a ≠ b := fun e => by rw [e] at hab; exact absurd hab (UInt8.lt_irrefl b)
      simp [hab, this]
    · rw [if_neg hab]
      by_cases hba : b < a
      · rw [if_pos hba]
        have : a ≠ b := fun e => by rw [e] at hba; exact absurd hba (UInt8.lt_irrefl b)
        simp [hab, this]
      · rw [if_neg hba]
        have : a = b := by
          rcases UInt8.lt_or_lt_of_ne (a := a) (b := b) |> fun f => (Classical.em (a = b)).elim Or.inl (fun h => Or.inr (f h)) with h | h | h
          · exact h
          · exact absurd h hab
          · exact absurd h hba
        subst this
        simp [h1, h2, UInt8.lt_irrefl]
def cfH (x y : Hn) : Int := if Lib.compareBytes x.1 y.1 = 0 then Lib.compareBytes x.2 y.2 else Lib.compareBytes x.1 y.1
theorem cfH_lt (x y : Hn) : ltOf cfH x y = ahB x y := by
  unfold ltOf cfH ahB
  rw [Bool.eq_iff_iff, decide_eq_true_eq]
  simp only [Bool.or_eq_true, Bool.and_eq_true, beq_iff_eq]
  obtain ⟨h1, h2⟩ := cmp_facts x.1 y.1
  obtain ⟨h3, h4⟩ := cmp_facts x.2 y.2
  by_cases h0 : Lib.compareBytes x.1 y.1 = 0
  · rw [if_pos h0, h3]
    have e := h2.1 h0
    rw [e, lt_ord.irr]
    simp
  · rw [if_neg h0, h1]
    have : x.1 ≠ y.1 := fun e => h0 (h2.2 e)
    simp [this]
theorem cfH_swo : SWO (ltOf cfH) where
  irrefl x := by rw [cfH_lt]; exact ah_ord.irr x
  trans x y z h1 h2 := by rw [cfH_lt] at *; exact ah_ord.tra x y z h1 h2
  ntrans x y z h1 h2 := by
    rw [cfH_lt] at *
    cases h3 : ahB x z with
    | false => rfl
    | true =>
      by_cases e : x = y
      · subst e; rw [h3] at h2; cases h2
      · have := ah_ord.tot x y e h1
        have := ah_ord.tra _ _ _ this h3
        rw [h2] at this; cases this
theorem hsort_eq {X L : List Hn} (hn : X.Nodup) (hL : Srt ahB L) (hm : ∀ y, y ∈ X ↔ y ∈ L) : X.mergeSort (fun x y => !ltOf cfH y x) = L := by
  have tr : ∀ a b c : Hn, (!ltOf cfH b a) = true → (!ltOf cfH c b) = true → (!ltOf cfH c a) = true := fun a b c h1 h2 => by
    rw [Bool.not_eq_true'] at *
    exact cfH_swo.ntrans _ _ _ h2 h1
  have tt : ∀ a b : Hn, ((!ltOf cfH b a) || (!ltOf cfH a b)) = true := fun a b => by
    cases h1 : ltOf cfH b a with
    | false => rfl
    | true =>
      cases h2 : ltOf cfH a b with
      | false => rfl
      | true => have := cfH_swo.trans _ _ _ h1 h2; rw [cfH_swo.irrefl] at this; cases this
  have h1 := List.pairwise_mergeSort (le := fun x y => !ltOf cfH y x) tr tt X
  have hp := List.mergeSort_perm X (fun x y => !ltOf cfH y x)
  have h2 := hp.nodup_iff.2 hn
  refine srt_ext ah_ord _ _ ((h1.and h2).imp ?_) hL (fun x => by rw [hp.mem_iff, hm])
  rintro a b ⟨hab, hne⟩
  rw [Bool.not_eq_true', cfH_lt] at hab
  exact ah_ord.tot b a (Ne.symm hne) hab
theorem row_put {w : World} {B : Nat} {E : TypeId} {sz n g cap : Nat} {xs : List Value} (h : w.ownsRow B E sz (.slice (some ⟨g, 0, none⟩) n cap) n xs) (ys : List Value) (hl : ys.length = xs.length) (q : Nat) (os : Array Obj) :
    (grow (putRow id (Sort.ahead w q) g 0 ys.toArray) os).ownsRow B E sz (.slice (some ⟨g, 0, none⟩) n cap) n ys ∧ w.grownBy (grow (putRow id (Sort.ahead w q) g 0 ys.toArray) os) (some g) := by
  obtain ⟨h1, h2⟩ := h
  rcases h2 with ⟨e, _⟩ | ⟨g', cap', cur, e, hB, hg, hc, hm, hs, ht⟩
  · cases e
  · injection e with e1 _ e3
    injection e1 with e1
    injection e1 with e1
    subst e1 e3
    have hgl : g < w.heap.size := (Array.getElem?_eq_some_iff.1 hg).1
    refine ⟨⟨by rw [hl]; exact h1, Or.inr ⟨g, cap, putCells id 0 ys.toArray cur, rfl, hB, ?_, hc, hm, by simp [putCells, hs], ?_⟩⟩, ⟨rfl, rfl, rfl, by simp [grow, putRow, mapBlock, Sort.ahead], fun k hk hne => ?_⟩⟩
    · rw [heap_grow_old _ _ (by simpa using hgl)]
      simp [putRow, mapBlock, Sort.ahead, Array.getElem?_modify, hg, onCells]
    · have hle : n * sz ≤ cur.size := by rw [hs]; exact Nat.mul_le_mul_right _ hc
      rw [← h1, ← hl] at hle ⊢
      apply List.ext_getElem?
      intro j
      by_cases hj : j < ys.length
      · rw [List.getElem?_take_of_lt hj, Array.getElem?_toList]
        simp [putCells, hj, show j < cur.size by omega]
      · rw [List.getElem?_take_eq_none (by omega), List.getElem?_eq_none (by omega)]
    · rw [heap_grow_old _ _ (by simpa using hk)]
      have : g ≠ k := fun e => hne (by rw [e])
      simp [putRow, mapBlock, Sort.ahead, Array.getElem?_modify, this]
theorem flat_eq (X : List Hn) : flatK htV 2 X.toArray = (flatH X).toArray := by
  apply Array.ext
  · simp [flatK, flatH_len]
  · intro t h1 h2
    have ht : t < X.length * 2 := by simpa [flatK] using h1
    have hx : t / 2 < X.length := by omega
    have hX : X[t / 2]? = some X[t / 2] := List.getElem?_eq_getElem hx
    obtain ⟨e1, e2⟩ := flatH_at X (t / 2) _ hX
    have hv : (flatH X)[t]? = some ((htV X[t / 2])[t % 2]!) := by
      rcases Nat.mod_two_eq_zero_or_one t with h0 | h0
      · have : t / 2 * 2 = t := by omega
        rw [this] at e1
        rw [e1, h0]; rfl
      · have : t / 2 * 2 + 1 = t := by omega
        rw [this] at e2
        rw [e2, h0]; rfl
    have h3 : (flatH X).toArray[t] = (htV X[t / 2])[t % 2]! := by
      rw [List.getElem_toArray]
      exact Option.some.inj ((List.getElem?_eq_getElem _).symm.trans hv)
    rw [h3]
    simp [flatK, hx]
section
variable {w : World}
theorem or_eq (g : Nat) (c1 c2 r : Int) (hr : (if c1 = 0 then c2 else c1) = r) (h1 : w.cell? ⟨g, 0, none⟩ = some (.int .i64 c1)) (h2 : w.cell? ⟨g, 1, none⟩ = some (.int .i64 c2)) :
    Calls Tryz.prog 64 #[.slice (some ⟨g, 0, none⟩) 2 2] w fun e w' => e = .returned (.int .i64 r) ∧ w' = w := by
  have HR := Lib.hid hr
  clear hr
  go_enter Tryz.func64, Tryz.ntmps64
  go_wp2_with fail
  go_loopw [5, 8] (fun _ i wr => ∃ k : Nat, i = .int .i64 k ∧ k ≤ 2 ∧ wr = w ∧ Hid (1 ≤ k → c1 = 0) ∧ Hid (2 ≤ k → c2 = 0)) (fun _ i _ => 2 - (intOf i).toNat)
  case atStart => exact ⟨0, rfl, by omega, rfl, fun h => by omega, fun h => by omega⟩
  case round =>
    obtain ⟨k, rfl, hk, rfl, p1, p2⟩ := hrel
    match k, hk with
    | 0, _ =>
      by_cases h0 : c1 = 0
      · have hd : (c1 == 0) = true := by simp [h0]
        have HN := Lib.hid h0
        clear h0
        go_wp2_with fail
        go_roundw
        case rel => exact ⟨1, rfl, by omega, by first | trivial | rfl, fun _ => HN.out, fun h => by omega⟩
        case measure => simp [intOf]
      · have hd : (c1 == 0) = false := by simp [h0]
        have hc : r = c1 := by rw [← HR.out, if_neg h0]
        clear h0
        go_wp2_with fail
        go_ret
        exact ⟨by rw [hc]; rfl, rfl⟩
    | 1, _ =>
      have hc1 := p1.out (by omega)
      have hc : r = c2 := by rw [← HR.out, if_pos hc1]
      clear hc1
      by_cases h0 : c2 = 0
      · have hd : (c2 == 0) = true := by simp [h0]
        have HN := Lib.hid h0
        clear h0
        go_wp2_with fail
        go_roundw
        case rel => exact ⟨2, rfl, by omega, by first | trivial | rfl, fun _ => p1.out (by omega), fun _ => HN.out⟩
        case measure => simp [intOf]
      · have hd : (c2 == 0) = false := by simp [h0]
        clear h0
        go_wp2_with fail
        go_ret
        exact ⟨by rw [hc]; rfl, rfl⟩
    | 2, _ =>
      have hc : r = 0 := by rw [← HR.out, if_pos (p1.out (by omega))]; exact p2.out (by omega)
      go_wp2_with fail
      go_ret
      exact ⟨by rw [hc]; rfl, rfl⟩
set_option maxHeartbeats 2000000 in
set_option maxRecDepth 100000 in
theorem compare_eq (x y : Hn) (W : World) :
    Calls Tryz.prog 36 #[.agg #[.string ⟨x.1.toArray⟩, .string ⟨x.2.toArray⟩], .agg #[.string ⟨y.1.toArray⟩, .string ⟨y.2.toArray⟩]] W fun e w' => e = .returned (.int .i64 (cfH x y)) ∧ ∃ q os', w' = grow (W.drewN q) os' := by
  obtain ⟨x1, x2⟩ := x
  obtain ⟨y1, y2⟩ := y
  dsimp only
  obtain ⟨r, hr⟩ : ∃ r, cfH (x1, x2) (y1, y2) = r := ⟨_, rfl⟩
  rw [hr]
  have HR : Hid ((if Lib.compareBytes x1 y1 = 0 then Lib.compareBytes x2 y2 else Lib.compareBytes x1 y1) = r) := hr
  clear hr
  go_enter Tryz.func36, Tryz.ntmps36
  go_wp2_with fail
  obtain ⟨w2, hw2⟩ : ∃ w2, w2 = (W.alloc (.cells #[.string ⟨x1.toArray⟩, .string ⟨x2.toArray⟩] 40)).alloc (.cells #[.string ⟨y1.toArray⟩, .string ⟨y2.toArray⟩] 40) := ⟨_, rfl⟩
  rw [← hw2]
  have k1 : w2.cell? ⟨W.heap.size, 0, none⟩ = some (.string ⟨x1.toArray⟩) := by rw [hw2]; go_simp
  have k2 : w2.cell? ⟨W.heap.size, 1, none⟩ = some (.string ⟨x2.toArray⟩) := by rw [hw2]; go_simp
  have k3 : w2.cell? ⟨W.heap.size + 1, 0, none⟩ = some (.string ⟨y1.toArray⟩) := by rw [hw2]; go_simp
  have k4 : w2.cell? ⟨W.heap.size + 1, 1, none⟩ = some (.string ⟨y2.toArray⟩) := by rw [hw2]; go_simp
  have HW := Lib.hid hw2
  clear hw2
  refine wp_region_held_drew (S := (fun w' => Go.RowKit.Below w2.heap.size w2 w')) (by kernel_rfl) ((Go.RowKit.Below.refl _ _).drew) (fun hHeld => ?_)
  refine tkY 0 oTgSort1 ?vv33_150_0 rfl (by kernel_rfl) (by kernel_rfl) (by kernel_rfl) (fun _ _ _ h => h) (by rfl) ?hy33_150_0 (by assumption) ?rest33_150_0
  case hy33_150_0 => (intro w hSw; unfold oTgSort1; (try dsimp only at hSw); (try go_split_ands); go_simp; all_goals with_reducible rfl)
  try simp only [oTgSort1, Act.put, sA, sB, sC]
  refine tkY 2 oTgSort2 ?vv33_150_2 rfl (by kernel_rfl) (by kernel_rfl) (by kernel_rfl) (fun _ _ _ h => h) (by rfl) ?hy33_150_2 (by assumption) ?rest33_150_2
  case hy33_150_2 => (intro w hSw; unfold oTgSort2; (try dsimp only at hSw); (try go_split_ands); go_simp; all_goals with_reducible rfl)
  try simp only [oTgSort2, Act.put, sA, sB, sC]
  refine tkY 5 oTgSort3 ?vv33_150_5 rfl (by kernel_rfl) (by kernel_rfl) (by kernel_rfl) (fun _ _ _ h => h) (by rfl) ?hy33_150_5 (by assumption) ?rest33_150_5
  case hy33_150_5 => (intro w hSw; unfold oTgSort3; (try dsimp only at hSw); (try go_split_ands); go_simp; all_goals with_reducible rfl)
  try simp only [oTgSort3, Act.put, sA, sB, sC]
  refine tkY 7 oTgSort4 ?vv33_150_7 rfl (by kernel_rfl) (by kernel_rfl) (by kernel_rfl) (fun _ _ _ h => h) (by rfl) ?hy33_150_7 (by assumption) ?rest33_150_7
  case hy33_150_7 => (intro w hSw; unfold oTgSort4; (try dsimp only at hSw); (try go_split_ands); go_simp; all_goals with_reducible rfl)
  try simp only [oTgSort4, Act.put, sA, sB, sC]
  refine tkY 1 oTgSort5 ?vv33_151_1 rfl (by kernel_rfl) (by kernel_rfl) (by kernel_rfl) (fun _ _ _ h => h) (by rfl) ?hy33_151_1 (by assumption) ?rest33_151_1
  case hy33_151_1 => (intro w hSw; unfold oTgSort5; (try dsimp only at hSw); have q := (hSw.cell (World.block_lt_of_cell? _ _ k1)).trans k1; clear hSw; go_simp; all_goals with_reducible rfl)
  try simp only [oTgSort5, Act.put, sA, sB, sC]
  refine tkY 3 oTgSort6 ?vv33_152_3 rfl (by kernel_rfl) (by kernel_rfl) (by kernel_rfl) (fun _ _ _ h => h) (by rfl) ?hy33_152_3 (by assumption) ?rest33_152_3
  case hy33_152_3 => (intro w hSw; unfold oTgSort6; (try dsimp only at hSw); have q := (hSw.cell (World.block_lt_of_cell? _ _ k3)).trans k3; clear hSw; go_simp; all_goals with_reducible rfl)
  try simp only [oTgSort6, Act.put, sA, sB, sC]
  refine tkY 6 oTgSort7 ?vv33_153_6 rfl (by kernel_rfl) (by kernel_rfl) (by kernel_rfl) (fun _ _ _ h => h) (by rfl) ?hy33_153_6 (by assumption) ?rest33_153_6
  case hy33_153_6 => (intro w hSw; unfold oTgSort7; (try dsimp only at hSw); have q := (hSw.cell (World.block_lt_of_cell? _ _ k2)).trans k2; clear hSw; go_simp; all_goals with_reducible rfl)
  try simp only [oTgSort7, Act.put, sA, sB, sC]
  refine tkY 8 oTgSort8 ?vv33_154_8 rfl (by kernel_rfl) (by kernel_rfl) (by kernel_rfl) (fun _ _ _ h => h) (by rfl) ?hy33_154_8 (by assumption) ?rest33_154_8
  case hy33_154_8 => (intro w hSw; unfold oTgSort8; (try dsimp only at hSw); have q := (hSw.cell (World.block_lt_of_cell? _ _ k4)).trans k4; clear hSw; go_simp; all_goals with_reducible rfl)
  try simp only [oTgSort8, Act.put, sA, sB, sC]
  refine wpAnyH_ready (rs := [4]) (by kernel_rfl) (by simp) ?_
  refine (AllReadyH.cons (o := oTgSort9) rfl (fun K hK => ?_) AllReadyH.nil)
  unfold oTgSort9
  go_simp
  (go_at_call 65; refine (Tryz.strings_Compare _ _ _).mono ?_; rintro e w5 ⟨rfl, rfl⟩)
  refine hK.out _ _ ?_ (fun hHeld => ?_)
  · (exact hHeld)
  clear hK K
  try simp only [oTgSort9, Act.put, sA, sB, sC]
  refine wpAnyH_ready (rs := [9]) (by kernel_rfl) (by simp) ?_
  refine (AllReadyH.cons (o := oTgSort10) rfl (fun K hK => ?_) AllReadyH.nil)
  unfold oTgSort10
  go_simp
  (go_at_call 65; refine (Tryz.strings_Compare _ _ _).mono ?_; rintro e w5 ⟨rfl, rfl⟩)
  refine hK.out _ _ ?_ (fun hHeld => ?_)
  · (exact hHeld)
  clear hK K
  try simp only [oTgSort10, Act.put, sA, sB, sC]
  refine wpAnyH_ready (rs := [10]) (by kernel_rfl) (by simp) ?_
  refine (AllReadyH.cons (o := oTgSort11) rfl (fun K hK => ?_) AllReadyH.nil)
  unfold oTgSort11
  go_simp
  refine hK.out _ _ ?_ (fun hHeld => ?_)
  · (exact below_more hHeld (below_alloc (Go.RowKit.Below.refl _ _) _))
  clear hK K
  try simp only [oTgSort11, Act.put, sA, sB, sC]
  refine wpAnyH_ready (rs := [11]) (by kernel_rfl) (by simp) ?_
  refine (AllReadyH.cons (o := oTgSort12) rfl (fun K hK => ?_) AllReadyH.nil)
  unfold oTgSort12
  go_simp
  (go_at_call 64; refine (or_eq w2.heap.size (Lib.compareBytes x1 y1) (Lib.compareBytes x2 y2) r HR.out (by show (w2.alloc _).cell? ⟨w2.heap.size, 0, none⟩ = _; rw [World.cell?_alloc_new]; rfl) (by show (w2.alloc _).cell? ⟨w2.heap.size, 1, none⟩ = _; rw [World.cell?_alloc_new]; rfl)).mono ?_; rintro e w6 ⟨rfl, rfl⟩)
  refine hK.out _ _ ?_ (fun hHeld => ?_)
  · (exact hHeld)
  clear hK K
  try simp only [oTgSort12, Act.put, sA, sB, sC]
  refine tkY 12 oTgSort13 ?vv33_155_12 rfl (by kernel_rfl) (by kernel_rfl) (by kernel_rfl) (fun _ _ _ h => h) (by rfl) ?hy33_155_12 (by assumption) ?rest33_155_12
  case hy33_155_12 => (intro w hSw; unfold oTgSort13; (try dsimp only at hSw); (try go_split_ands); go_simp; all_goals with_reducible rfl)
  try simp only [oTgSort13, Act.put, sA, sB, sC]
  refine wpAnyH_done (by kernel_rfl) ?_ _
  clear hHeld
  go_wp2_with fail
  go_ret
  exact ⟨rfl, 1, #[_] ++ (#[_] ++ #[_]), by rw [HW.out, alloc_eq_grow, alloc_eq_grow, alloc_eq_grow, grow_grow, grow_grow]; rfl⟩
end
end Go.Proofs.YtipdmfnkkkdlbaaGreatDoor
