/-
  queue: Peek, drop, moveUp, Pop.
-/
import Derived.Test.YtihgikhnkkmhhaaQuPush
set_option linter.unusedSimpArgs false
set_option linter.unusedVariables false
namespace Go.Proofs.Ytihgikhnkkmhhaa
section
open Go.RowKit
def oQuPop1 : Oper := ({ dst := some 3, op := Go.Op.move (Go.Operand.tmp 0), type := 23, pos := "queue.go:105", after := #[], guard := none } : Oper)
def oQuPop2 : Oper := ({ dst := some 4, op := Go.Op.nilCheck (Go.Operand.tmp 3), type := 0, pos := "queue.go:105", after := #[{ on := 0, ground := Go.Ground.data }], guard := none } : Oper)
def oQuPop3 : Oper := ({ dst := some 5, op := Go.Op.fieldAddr 35 (Go.Operand.tmp 4) 1, type := 0, pos := "queue.go:105", after := #[{ on := 1, ground := Go.Ground.data }], guard := none } : Oper)
def oQuPop4 : Oper := ({ dst := some 6, op := Go.Op.load 30 (Go.Operand.tmp 5), type := 30, pos := "queue.go:105", after := #[{ on := 2, ground := Go.Ground.data }], guard := none } : Oper)
def oQuPop5 : Oper := ({ dst := some 7, op := Go.Op.move (Go.Operand.tmp 0), type := 23, pos := "queue.go:105", after := #[], guard := none } : Oper)
def oQuPop6 : Oper := ({ dst := some 8, op := Go.Op.call { callee := Go.Callee.value (Go.Operand.func 24), args := #[Go.Operand.tmp 7], argTypes := #[23] }, type := 30, pos := "queue.go:105", after := #[{ on := 4, ground := Go.Ground.data }], guard := none } : Oper)
def oQuPop7 : Oper := ({ dst := some 9, op := Go.Op.call { callee := Go.Callee.builtin Go.Builtin.copy, args := #[Go.Operand.tmp 6, Go.Operand.tmp 8], argTypes := #[30, 30] }, type := 3, pos := "queue.go:105", after := #[{ on := 3, ground := Go.Ground.data }, { on := 5, ground := Go.Ground.data }, { on := 5, ground := Go.Ground.chain }], guard := none } : Oper)
def oQuPop8 : Oper := ({ dst := some 2, op := Go.Op.assign (Go.Operand.tmp 9), type := 3, pos := "queue.go:105", after := #[{ on := 6, ground := Go.Ground.data }, { on := 6, ground := Go.Ground.chain }, { on := 0, ground := Go.Ground.phase }, { on := 1, ground := Go.Ground.phase }, { on := 2, ground := Go.Ground.phase }, { on := 3, ground := Go.Ground.phase }, { on := 4, ground := Go.Ground.phase }, { on := 5, ground := Go.Ground.phase }, { on := 6, ground := Go.Ground.phase }], guard := none } : Oper)
def oQuPop9 : Oper := ({ dst := some 19, op := Go.Op.move (Go.Operand.tmp 0), type := 23, pos := "queue.go:98", after := #[], guard := none } : Oper)
def oQuPop10 : Oper := ({ dst := some 20, op := Go.Op.nilCheck (Go.Operand.tmp 19), type := 0, pos := "queue.go:98", after := #[{ on := 0, ground := Go.Ground.data }], guard := none } : Oper)
def oQuPop11 : Oper := ({ dst := some 21, op := Go.Op.fieldAddr 35 (Go.Operand.tmp 20) 2, type := 0, pos := "queue.go:98", after := #[{ on := 1, ground := Go.Ground.data }], guard := none } : Oper)
def oQuPop12 : Oper := ({ dst := some 22, op := Go.Op.load 3 (Go.Operand.tmp 21), type := 3, pos := "queue.go:98", after := #[{ on := 2, ground := Go.Ground.data }], guard := none } : Oper)
def oQuPop13 : Oper := ({ dst := some 23, op := Go.Op.move (Go.Operand.tmp 0), type := 23, pos := "queue.go:98", after := #[], guard := none } : Oper)
def oQuPop14 : Oper := ({ dst := some 24, op := Go.Op.call { callee := Go.Callee.value (Go.Operand.func 10), args := #[Go.Operand.tmp 23], argTypes := #[23] }, type := 3, pos := "queue.go:98", after := #[{ on := 4, ground := Go.Ground.data }], guard := none } : Oper)
def oQuPop15 : Oper := ({ dst := some 25, op := Go.Op.binOp Go.BinOp.geq 3 (Go.Operand.tmp 22) (Go.Operand.tmp 24) 3, type := 4, pos := "queue.go:98", after := #[{ on := 3, ground := Go.Ground.data }, { on := 5, ground := Go.Ground.data }], guard := none } : Oper)
end
open Go.RowKit

def msG (m : Ms) : Value := .agg #[.string ⟨m.1.toArray⟩, .string ⟨m.2.1.toArray⟩, .int .u8 m.2.2.1, .bool m.2.2.2]
/-- The first message, or none. -/
def pkV : List Ms → Value
  | [] => .tuple #[msG nilMs, .bool false]
  | m :: _ => .tuple #[msG m, .bool true]
section
variable {w w' : World} {t M : Nat} {F : Nat → Prop} {D L : List Ms} {p : Option Addr}
theorem BxM.set4 {g : Nat} {m : Ms} (h : BxM w g m) (m2 : Ms) : BxM ((((w.setCell ⟨g, 0, none⟩ (.string ⟨m2.1.toArray⟩)).setCell ⟨g, 1, none⟩ (.string ⟨m2.2.1.toArray⟩)).setCell ⟨g, 2, none⟩ (.int .u8 m2.2.2.1)).setCell ⟨g, 3, none⟩ (.bool m2.2.2.2)) g m2 :=
  (((h.set0 m2.1).set1 m2.2.1).set2 m2.2.2.1).set3 m2.2.2.2
theorem below_set4 {B g : Nat} {w0 w : World} (hb : Below B w0 w) (hg : B ≤ g) (a b c d : Value) : Below B w0 ((((w.setCell ⟨g, 0, none⟩ a).setCell ⟨g, 1, none⟩ b).setCell ⟨g, 2, none⟩ c).setCell ⟨g, 3, none⟩ d) :=
  (((hb.setCell (p := ⟨g, 0, none⟩) hg _).setCell (p := ⟨g, 1, none⟩) hg _).setCell (p := ⟨g, 2, none⟩) hg _).setCell (p := ⟨g, 3, none⟩) hg _
/-- Peek, of whatever waits. -/
theorem peek_raw (hw : Hid (∀ W, Below w.heap.size w W → Calls Try.prog 24 #[.pointer p] W fun e w' => WP W L e w')) (hl : L.length ≤ 1000000) :
    Calls Try.prog 15 #[.pointer p] w fun e w' => e = .returned (pkV L) ∧ Below w.heap.size w w' := by
  obtain ⟨W, hW⟩ : ∃ W, W = w.alloc (.cells #[.string ⟨#[]⟩, .string ⟨#[]⟩, .int .u8 0, .bool false] 28) := ⟨_, rfl⟩
  have hbW : Below w.heap.size w W := by rw [hW]; exact below_alloc (Below.refl _ _) _
  have hX : BxM W w.heap.size nilMs := by rw [hW]; exact BxM.new w nilMs
  have HX := Lib.hid hX
  have H := Lib.hid (hw.out W hbW)
  clear hX hw
  cases L with
  | nil =>
    go_enter Try.func15, Try.ntmps15
    go_wp2_with fail
    rw [← hW]
    refine H.out.mono ?_
    rintro e w1 ⟨A, c, rfl, _, _, hb1⟩
    have X1 := HX.out.below hb1
    have x0 := X1.c0; have x1 := X1.c1; have x2 := X1.c2; have x3 := X1.c3; have xf := X1.fr
    have HX1 := Lib.hid X1
    have HB := Lib.hid (hbW.trans (hb1.mono hbW.size))
    unfold nilMs at x0 x1 x2 x3
    dsimp only at x0 x1 x2 x3
    clear X1 hb1
    go_wp2_with fail
    refine ret_ms2 (m := nilMs) 2 3 rfl rfl rfl (HX1.out.set4 nilMs) rfl ⟨rfl, ?_⟩
    exact below_set4 HB.out (Nat.le_refl _) _ _ _ _
  | cons m L =>
    obtain ⟨s, p1, q, b⟩ := m
    go_enter Try.func15, Try.ntmps15
    go_wp2_with fail
    rw [← hW]
    refine H.out.mono ?_
    rintro e w1 ⟨A, c, rfl, hV, _, hb1⟩
    have X1 := HX.out.below hb1
    have x0 := X1.c0; have x1 := X1.c1; have x2 := X1.c2; have x3 := X1.c3; have xf := X1.fr
    have HX1 := Lib.hid X1
    have HB := Lib.hid (hbW.trans (hb1.mono hbW.size))
    obtain ⟨b1, o1, x, rfl, hx, y0, y1, y2, y3⟩ := hV.at_ (k := 0) (by simp)
    obtain rfl : (s, p1, q, b) = x := by simpa using hx
    rw [Nat.zero_mul, Nat.add_zero] at y0 y1 y2 y3
    obtain ⟨N, hN⟩ : ∃ N, ((s, p1, q, b) :: L).length = N := ⟨_, rfl⟩
    have hN0 : 0 < N := by rw [← hN]; simp
    have hN1 : ((N : Int) == 0) = false := by simp; omega
    rw [hN]
    unfold nilMs at x0 x1 x2 x3
    dsimp only at x0 x1 x2 x3 y0 y1 y2 y3
    clear X1 hb1 hV hx hN
    go_wp2_with fail
    refine ret_ms2 (m := (s, p1, q, b)) 2 3 rfl rfl rfl (HX1.out.set4 (s, p1, q, b)) rfl ⟨rfl, ?_⟩
    exact below_set4 HB.out (Nat.le_refl _) _ _ _ _
theorem rPeek (h : RQ w t F M D L) (hl : D.length + L.length ≤ 1000000) : Calls Try.prog 15 #[.pointer (some ⟨t, 0, none⟩)] w fun e w' => e = .returned (pkV L) ∧ Below w.heap.size w w' :=
  peek_raw (fun W hW => qWait (h.below hW) hl) (by omega)
theorem qPeek (h : PQ w t F M L) : Calls Try.prog 15 #[.pointer (some ⟨t, 0, none⟩)] w fun e w' => e = .returned (pkV L) ∧ Below w.heap.size w w' := by
  obtain ⟨D, h, h1, h2⟩ := h.raw
  exact rPeek h (by omega)
theorem qPeekN (w : World) : Calls Try.prog 15 #[.pointer none] w fun e w' => e = .returned (pkV []) ∧ Below w.heap.size w w' :=
  peek_raw (fun W _ => qWaitN W) (by simp)
/-- What moveUp leaves. -/
def UP (w : World) (t : Nat) (F : Nat → Prop) (M : Nat) (L : List Ms) (e : Ending) (w' : World) : Prop := (∃ v, e = .returned v) ∧ RQ w' t F M [] L ∧ Outs w w' F
set_option maxHeartbeats 2000000 in
theorem qMoveUp {w0 : World} (h : RQ w0 t F M D L) (hD : L.length ≤ D.length) (h0 : 0 < D.length) (hl : D.length ≤ 100000) :
    Calls Try.prog 29 #[.pointer (some ⟨t, 0, none⟩)] w0 fun e w' => UP w0 t F M L e w' := by
  have HP := Lib.hid h
  obtain ⟨v, k1, k2, k3, kF⟩ := h
  obtain ⟨g, c, cur, rfl, hgl, hc, hg, hcs, hct, _, _⟩ := mrow_form1 k2 (by omega)
  have c1 := cell_of_row w0 t 1 _ _ _ k1
  have htl : t < w0.heap.size := (Array.getElem?_eq_some_iff.1 k1).1
  have hne : g ≠ t := fun e => k3 (by rw [e]; rfl)
  have hgF : F g := (kF g).2 (Or.inr rfl)
  have HK1 := Lib.hid k1
  have HK2 := Lib.hid k2
  have HKF := Lib.hid kF
  have HG := Lib.hid hg
  have HCT := Lib.hid hct
  have HCS := Lib.hid hcs
  clear k1 k2 k3 kF hg hct hcs
  go_enter Try.func29, Try.ntmps29
  go_wp2_with fail
  refine wp_region_held_drew (S := (fun w' => w'.heap[t]? = w0.heap[t]?)) (by kernel_rfl) (rfl) (fun hHeld => ?_)
  refine tkY 0 oQuPop1 ?vv3_9_0 rfl (by kernel_rfl) (by kernel_rfl) (by kernel_rfl) (fun _ _ _ h => h) (by rfl) ?hy3_9_0 (by assumption) ?rest3_9_0
  case hy3_9_0 => (intro w hSw; unfold oQuPop1; (try dsimp only at hSw); (try go_split_ands); go_simp; all_goals with_reducible rfl)
  try simp only [oQuPop1, Act.put, sA, sB, sC]
  refine tkY 1 oQuPop2 ?vv3_9_1 rfl (by kernel_rfl) (by kernel_rfl) (by kernel_rfl) (fun _ _ _ h => h) (by rfl) ?hy3_9_1 (by assumption) ?rest3_9_1
  case hy3_9_1 => (intro w hSw; unfold oQuPop2; (try dsimp only at hSw); (try go_split_ands); go_simp; all_goals with_reducible rfl)
  try simp only [oQuPop2, Act.put, sA, sB, sC]
  refine tkY 2 oQuPop3 ?vv3_9_2 rfl (by kernel_rfl) (by kernel_rfl) (by kernel_rfl) (fun _ _ _ h => h) (by rfl) ?hy3_9_2 (by assumption) ?rest3_9_2
  case hy3_9_2 => (intro w hSw; unfold oQuPop3; (try dsimp only at hSw); (try go_split_ands); go_simp; all_goals with_reducible rfl)
  try simp only [oQuPop3, Act.put, sA, sB, sC]
  refine tkY 3 oQuPop4 ?vv3_10_3 rfl (by kernel_rfl) (by kernel_rfl) (by kernel_rfl) (fun _ _ _ h => h) (by rfl) ?hy3_10_3 (by assumption) ?rest3_10_3
  case hy3_10_3 => (intro w hSw; unfold oQuPop4; (try dsimp only at hSw); have q9 := (World.cell?_of_block (a := ⟨t, 1, none⟩) hSw).trans c1; clear hSw; go_simp; all_goals with_reducible rfl)
  try simp only [oQuPop4, Act.put, sA, sB, sC]
  refine tkY 4 oQuPop5 ?vv3_11_4 rfl (by kernel_rfl) (by kernel_rfl) (by kernel_rfl) (fun _ _ _ h => h) (by rfl) ?hy3_11_4 (by assumption) ?rest3_11_4
  case hy3_11_4 => (intro w hSw; unfold oQuPop5; (try dsimp only at hSw); (try go_split_ands); go_simp; all_goals with_reducible rfl)
  try simp only [oQuPop5, Act.put, sA, sB, sC]
  refine wpAnyH_ready (rs := [5]) (by kernel_rfl) (by simp) ?_
  refine (AllReadyH.cons (o := oQuPop6) rfl (fun K hK => ?_) AllReadyH.nil)
  unfold oQuPop6
  go_simp
  (go_at_call 24; refine (qWait (w := w0.drew) (HP.out.below (Below.refl _ _).drew) (by omega)).mono ?_; rintro e w6 ⟨A, d, rfl, hV, _, hb6⟩)
  refine hK.out _ _ ?_ (fun hHeld => ?_)
  · (exact (hb6.block t htl).trans hHeld)
  clear hK K
  try simp only [oQuPop6, Act.put, sA, sB, sC]
  have hb06 := (Below.refl w0.heap.size w0).drew.trans hb6
  have hg6 := (hb06.block g hgl).trans HG.out
  have hrun := run_mcopy (ty := 3) (c := c) (d := d) hg6 hV (N := D.length + L.length) (by omega) (by rw [HCS.out]; omega)
  have hg7 : (w6.setRow g (flatM L ++ cur.toList.drop (L.length * 4)).toArray).heap[t]? = w6.heap[t]? := setRow_other w6 g t _ (fun e => hne e.symm)
  obtain ⟨k, hk⟩ : ∃ k, L.length = k := ⟨_, rfl⟩
  obtain ⟨n, hn⟩ : ∃ n, D.length = n := ⟨_, rfl⟩
  obtain ⟨cur7, hc7⟩ : ∃ x, x = (flatM L ++ cur.toList.drop (L.length * 4)).toArray := ⟨_, rfl⟩
  rw [← hc7] at hrun hg7
  obtain ⟨w7, hw7⟩ : ∃ x, x = w6.setRow g cur7 := ⟨_, rfl⟩
  rw [← hw7] at hrun hg7
  have hs7 : cur7.size = cur.size := by rw [hc7, HCS.out]; simp [flatM_len, HCS.out]; omega
  have hgg7 : w7.heap[g]? = some (.cells cur7 28 (0, 0)) := by rw [hw7]; exact setRow_heap w6 g _ _ _ _ hg6
  have hrun8 := run_mclear (ty := 0) (d := c - k) (k := k) (n := n) hgg7 (by omega) (by rw [hs7, HCS.out]; omega)
  obtain ⟨cur8, hc8⟩ : ∃ x, x = (cur7.toList.take (k * 4) ++ flatM (List.replicate n nilMs) ++ cur7.toList.drop (k * 4 + n * 4)).toArray := ⟨_, rfl⟩
  rw [← hc8] at hrun8
  obtain ⟨w8, hw8⟩ : ∃ x, x = w7.setRow g cur8 := ⟨_, rfl⟩
  rw [← hw8] at hrun8
  have hs8 : cur8.size = cur.size := by rw [hc8, ← hs7]; simp [flatM_len, hs7, HCS.out]; omega
  have ht8 : cur8.toList.take (k * 4) = flatM L := by
    have e1 : (flatM L).length = k * 4 := by rw [flatM_len, hk]
    have e2 : cur7.toList.take (k * 4) = flatM L := by rw [hc7, ← e1]; simp
    rw [hc8, e2, ← e1]; simp
  have hR8 : w8.ownsRow 0 28 4 (.slice (some ⟨g, 0, none⟩) k c) k (flatM L) := by
    rw [hw8, hw7, setRow_setRow]
    exact mrow_set (own_below HK2.out hb06) hg6 hs8 (by omega) hk ht8
  have hO8 : Outs w0 w8 F := by
    rw [hw8, hw7]
    exact ((Outs.of_below hb06).trans (outs_setRow w6 g cur7 F hgF) (fun _ _ h => h)).trans (outs_setRow _ g cur8 F hgF) (fun _ _ h => h)
  have hT7 : w7.heap[t]? = w0.heap[t]? := hg7.trans hHeld
  have hT8 : w8.heap[t]? = w0.heap[t]? := by rw [hw8]; exact (setRow_other w7 g t _ (fun e => hne e.symm)).trans hT7
  have HR8 := Lib.hid hR8
  have HO8 := Lib.hid hO8
  have HT8 := Lib.hid hT8
  have HRun8 := Lib.hid hrun8
  have HT7 := Lib.hid hT7
  have HRun := Lib.hid hrun
  clear hw7 hw8 hc7 hc8 hs7 hs8 hgg7 ht8 hR8 hO8 hT8 hrun8 hg7 hg6 hT7 hrun hV hb6 hb06
  refine wpAnyH_ready (rs := [6]) (by kernel_rfl) (by simp) ?_
  refine (AllReadyH.cons (o := oQuPop7) rfl (fun K hK => ?_) AllReadyH.nil)
  (refine step_cpy rfl _ _ _ rfl rfl rfl HRun.out ?_)
  refine hK.out _ _ ?_ (fun hHeld => ?_)
  · (exact HT7.out)
  clear hK K
  try simp only [oQuPop7, Act.put, sA, sB, sC]
  refine tkY 7 oQuPop8 ?vv3_12_7 rfl (by kernel_rfl) (by kernel_rfl) (by kernel_rfl) (fun _ _ _ h => h) (by rfl) ?hy3_12_7 (by assumption) ?rest3_12_7
  case hy3_12_7 => (intro w hSw; unfold oQuPop8; (try dsimp only at hSw); (try go_split_ands); go_simp; all_goals with_reducible rfl)
  try simp only [oQuPop8, Act.put, sA, sB, sC]
  refine wpAnyH_done (by kernel_rfl) ?_ _
  have d1 := (World.cell?_of_block (a := ⟨t, 1, none⟩) HT7.out).trans c1
  have d2 := (World.cell?_of_block (a := ⟨t, 1, none⟩) HT8.out).trans c1
  have d3 := (World.cell?_of_block (a := ⟨t, 2, none⟩) HT8.out).trans (cell_of_row w0 t 2 _ _ _ HK1.out)
  have f1 : ∀ i, w8.frozen? ⟨t, i, none⟩ = false := fun i => by unfold World.frozen?; rw [show w8.heap[t]? = _ from HT8.out.trans HK1.out]; simp
  rw [hk, hn] at d1 d2
  rw [hn] at d3
  have hkc : ¬ k = c := by omega
  have hnk : n + k - k = n := by omega
  have hkn : k ≤ n + k := by omega
  have hkc2 : k ≤ c := by omega
  clear c1 hHeld
  have hrun8 := HRun8.out
  go_wp2_with fail
  go_end0
  refine ⟨⟨_, rfl⟩, ⟨.slice (some ⟨g, 0, none⟩) k c, ?_, ?_, ?_, HKF.out⟩, (HO8.out.setCell t 1 ((HKF.out t).2 (Or.inl rfl)) _).setCell t 2 ((HKF.out t).2 (Or.inl rfl)) _⟩
  · exact heap_setCell_same _ t 2 _ _ _ (heap_setCell_same w8 t 1 _ _ _ (HT8.out.trans HK1.out))
  · rw [List.length_nil, Nat.zero_add, List.nil_append, hk]
    refine vrow_keep HR8.out (fun b hb => ?_)
    have hgb : g = b := by simpa [Value.ownBlock] using hb
    subst hgb
    exact (heap_setCell_other _ ⟨t, 2, none⟩ g _ hne).trans (heap_setCell_other w8 ⟨t, 1, none⟩ g _ hne)
  · intro e
    have hgb : g = t := by simpa [Value.ownBlock] using e
    exact hne hgb
/-- What drop leaves. -/
def QDr (w : World) (t : Nat) (F : Nat → Prop) (M : Nat) (L : List Ms) (e : Ending) (w' : World) : Prop := (∃ v, e = .returned v) ∧ PQ w' t F M L ∧ Outs w w' F
set_option maxHeartbeats 2000000 in
theorem qDrop {m : Ms} (h : PQ w t F M (m :: L)) :
    Calls Try.prog 27 #[.pointer (some ⟨t, 0, none⟩)] w fun e w' => QDr w t F M L e w' := by
  obtain ⟨D, ⟨v, k1, k2, k3, kF⟩, k4, k5, k6⟩ := h
  have hdl : D.length ≤ L.length := by
    rcases k4 with rfl | k4
    · simp
    · rw [List.length_cons] at k4; omega
  rw [List.length_cons] at k5
  obtain ⟨g, c, cur, rfl, hgl, hc, hg, hcs, hct, _, _⟩ := mrow_form1 k2 (by rw [List.length_cons]; omega)
  have c1 := cell_of_row w t 1 _ _ _ k1
  have c2 := cell_of_row w t 2 _ _ _ k1
  have f1 : ∀ i, w.frozen? ⟨t, i, none⟩ = false := fun i => by unfold World.frozen?; rw [k1]; simp
  have htl : t < w.heap.size := (Array.getElem?_eq_some_iff.1 k1).1
  have hne : g ≠ t := fun e => k3 (by rw [e]; rfl)
  obtain ⟨n, hn⟩ : ∃ n, D.length = n := ⟨_, rfl⟩
  obtain ⟨N, hN⟩ : ∃ N, D.length + (m :: L).length = N := ⟨_, rfl⟩
  have hnN : n < N := by rw [← hN, List.length_cons]; omega
  have hnN2 : (n : Int) < (N : Int) := by omega
  obtain ⟨y0, y1, y2, y3⟩ := mrow_at k2 (i := n) (m := m) (by rw [← hn]; simp)
  have fg := fun i => World.ownsRow.frozenAt k2 i
  obtain ⟨o, ho⟩ : ∃ o, n * 4 = o := ⟨_, rfl⟩
  rw [hN] at c1 k2
  rw [hn] at c2
  rw [ho] at y0 y1 y2 y3
  have HK1 := Lib.hid k1
  have HK2 := Lib.hid k2
  have HKF := Lib.hid kF
  clear k1 k2 k3 kF hg hct hcs
  go_enter Try.func27, Try.ntmps27
  go_wp2_with fail
  go_region
  obtain ⟨w1, hw1⟩ : ∃ x, x = ((((w.setCell ⟨g, o, none⟩ (.string ⟨#[]⟩)).setCell ⟨g, o + 1, none⟩ (.string ⟨#[]⟩)).setCell ⟨g, o + 2, none⟩ (.int .u8 0)).setCell ⟨g, o + 3, none⟩ (.bool false)).drew := ⟨_, rfl⟩
  rw [← hw1]
  have hR1 : w1.ownsRow 0 28 4 (.slice (some ⟨g, 0, none⟩) N c) N (flatM ((D ++ [nilMs]) ++ L)) := by
    have := mrow_put HK2.out n nilMs
    rw [ho, ← hn] at this
    rw [hw1]
    have e : (D ++ m :: L).set D.length nilMs = (D ++ [nilMs]) ++ L := by simp
    rw [e] at this
    exact this
  have hgF : F g := (HKF.out g).2 (Or.inr rfl)
  have htF : F t := (HKF.out t).2 (Or.inl rfl)
  have hO1 : Outs w w1 F := by
    rw [hw1]
    exact ((((((Outs.refl w F).setCell g o hgF _).setCell g (o + 1) hgF _).setCell g (o + 2) hgF _).setCell g (o + 3) hgF _).more ((Below.refl _ _).drew))
  have hT1 : w1.heap[t]? = w.heap[t]? := by
    have hne2 : t ≠ g := fun e => hne e.symm
    rw [hw1]
    exact (heap_setCell_other _ ⟨g, o + 3, none⟩ t _ hne2).trans ((heap_setCell_other _ ⟨g, o + 2, none⟩ t _ hne2).trans ((heap_setCell_other _ ⟨g, o + 1, none⟩ t _ hne2).trans (heap_setCell_other w ⟨g, o, none⟩ t _ hne2)))
  have d2 := (World.cell?_of_block (a := ⟨t, 2, none⟩) hT1).trans c2
  have d3 := (World.frozen?_of_block (a := ⟨t, 2, none⟩) hT1).trans (f1 2)
  have HR1 := Lib.hid hR1
  have HO1 := Lib.hid hO1
  have HT1 := Lib.hid hT1
  clear hw1 hR1 hO1 hT1 c1 c2 y0 y1 y2 y3 fg f1
  go_wp2_with fail
  obtain ⟨w2, hw2⟩ : ∃ x, x = w1.setCell ⟨t, 2, none⟩ (.int .i64 ((n : Int) + 1)) := ⟨_, rfl⟩
  rw [← hw2]
  have hT2 : w2.heap[t]? = some (.cells #[.int .i64 (M : Nat), .slice (some ⟨g, 0, none⟩) N c, .int .i64 ((n : Int) + 1)] 35 (0, 0)) := by
    rw [hw2]
    have := HK1.out
    rw [hN] at this
    exact heap_setCell_same w1 t 2 _ _ _ (HT1.out.trans this)
  have hNL : (D ++ [nilMs]).length + L.length = N := by rw [← hN]; simp; omega
  have hR2 : RQ w2 t F M (D ++ [nilMs]) L := by
    refine ⟨.slice (some ⟨g, 0, none⟩) N c, ?_, ?_, fun e => hne (by simpa [Value.ownBlock] using e), HKF.out⟩
    · rw [hT2, List.length_append, hn]; rfl
    · rw [hNL]
      exact vrow_keep HR1.out (fun b hb => by
        have hgb : g = b := by simpa [Value.ownBlock] using hb
        subst hgb
        rw [hw2]
        exact heap_setCell_other w1 ⟨t, 2, none⟩ g _ hne)
  have hO2 : Outs w w2 F := by rw [hw2]; exact HO1.out.setCell t 2 htF _
  have e2 := cell_of_row w2 t 2 _ _ _ hT2
  have HR2 := Lib.hid hR2
  have HO2 := Lib.hid hO2
  have hdn : (D ++ [nilMs]).length = n + 1 := by simp [hn]
  clear hw2 hT2 hR2 hO2 d2 d3
  refine wp_region_held_drew (S := (fun w' => Below w2.heap.size w2 w')) (by kernel_rfl) ((Below.refl _ _).drew) (fun hHeld => ?_)
  refine tkY 0 oQuPop9 ?vv4_13_0 rfl (by kernel_rfl) (by kernel_rfl) (by kernel_rfl) (fun _ _ _ h => h) (by rfl) ?hy4_13_0 (by assumption) ?rest4_13_0
  case hy4_13_0 => (intro w hSw; unfold oQuPop9; (try dsimp only at hSw); (try go_split_ands); go_simp; all_goals with_reducible rfl)
  try simp only [oQuPop9, Act.put, sA, sB, sC]
  refine tkY 1 oQuPop10 ?vv4_13_1 rfl (by kernel_rfl) (by kernel_rfl) (by kernel_rfl) (fun _ _ _ h => h) (by rfl) ?hy4_13_1 (by assumption) ?rest4_13_1
  case hy4_13_1 => (intro w hSw; unfold oQuPop10; (try dsimp only at hSw); (try go_split_ands); go_simp; all_goals with_reducible rfl)
  try simp only [oQuPop10, Act.put, sA, sB, sC]
  refine tkY 2 oQuPop11 ?vv4_13_2 rfl (by kernel_rfl) (by kernel_rfl) (by kernel_rfl) (fun _ _ _ h => h) (by rfl) ?hy4_13_2 (by assumption) ?rest4_13_2
  case hy4_13_2 => (intro w hSw; unfold oQuPop11; (try dsimp only at hSw); (try go_split_ands); go_simp; all_goals with_reducible rfl)
  try simp only [oQuPop11, Act.put, sA, sB, sC]
  refine tkY 3 oQuPop12 ?vv4_14_3 rfl (by kernel_rfl) (by kernel_rfl) (by kernel_rfl) (fun _ _ _ h => h) (by rfl) ?hy4_14_3 (by assumption) ?rest4_14_3
  case hy4_14_3 => (intro w hSw; unfold oQuPop12; (try dsimp only at hSw); have q9 := (hSw.cell (World.block_lt_of_cell? _ _ e2)).trans e2; clear hSw; go_simp; all_goals with_reducible rfl)
  try simp only [oQuPop12, Act.put, sA, sB, sC]
  refine tkY 4 oQuPop13 ?vv4_15_4 rfl (by kernel_rfl) (by kernel_rfl) (by kernel_rfl) (fun _ _ _ h => h) (by rfl) ?hy4_15_4 (by assumption) ?rest4_15_4
  case hy4_15_4 => (intro w hSw; unfold oQuPop13; (try dsimp only at hSw); (try go_split_ands); go_simp; all_goals with_reducible rfl)
  try simp only [oQuPop13, Act.put, sA, sB, sC]
  refine wpAnyH_ready (rs := [5]) (by kernel_rfl) (by simp) ?_
  refine AllReadyH.cons (o := oQuPop14) rfl (fun K hK => ?_) AllReadyH.nil
  unfold oQuPop14
  go_simp
  (go_at_call 10; refine (rLen (HR2.out.below hHeld) (by rw [hdn]; omega)).mono ?_; rintro e w7 ⟨rfl, hb6⟩)
  refine hK.out _ _ ?_ (fun hHeld => ?_)
  · (exact below_more hHeld hb6)
  clear hK K
  try simp only [oQuPop14, Act.put, sA, sB, sC]
  refine tkY 6 oQuPop15 ?vv4_16_6 rfl (by kernel_rfl) (by kernel_rfl) (by kernel_rfl) (fun _ _ _ h => h) (by rfl) ?hy4_16_6 (by assumption) ?rest4_16_6
  case hy4_16_6 => (intro w hSw; unfold oQuPop15; (try dsimp only at hSw); (try go_split_ands); go_simp; all_goals with_reducible rfl)
  try simp only [oQuPop15, Act.put, sA, sB, sC]
  refine wpAnyH_done (by kernel_rfl) ?_ _
  rename_i w7 _
  have HB7 := Lib.hid hHeld
  by_cases hcmp : L.length ≤ n + 1
  · have i1 : ((L.length : Nat) : Int) ≤ (n : Int) + 1 := by omega
    go_wp2_with fail
    refine (qMoveUp (HR2.out.below HB7.out) (by rw [hdn]; exact hcmp) (by rw [hdn]; omega) (by rw [hdn]; omega)).mono ?_
    rintro e w8 ⟨⟨v, rfl⟩, hR8, hO8⟩
    have HR8 := Lib.hid hR8
    have HO8 := Lib.hid hO8
    clear hR8 hO8
    go_wp2_with fail
    go_end0
    exact ⟨⟨_, rfl⟩, ⟨[], HR8.out, Or.inl rfl, by omega, k6⟩, (HO2.out.more HB7.out).trans HO8.out (fun _ _ h => h)⟩
  · have i1 : ¬ ((L.length : Nat) : Int) ≤ (n : Int) + 1 := by omega
    go_wp2_with fail
    go_end0
    exact ⟨⟨_, rfl⟩, ⟨_, HR2.out.below HB7.out, Or.inr (by rw [hdn]; omega), by omega, k6⟩, HO2.out.more HB7.out⟩
end
end Go.Proofs.Ytihgikhnkkmhhaa
