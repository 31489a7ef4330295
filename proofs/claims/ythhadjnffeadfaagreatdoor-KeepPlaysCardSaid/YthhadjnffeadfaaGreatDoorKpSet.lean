/-
  keep: New, Set, Get, Len of the program.
-/
import Derived.Test.YthhadjnffeadfaaGreatDoorKpFn
set_option linter.unusedSimpArgs false
set_option linter.unusedVariables false
namespace Go.Proofs.YthhadjnffeadfaaGreatDoor
section
open Go.RowKit
def oKpSet1 : Oper := ({ dst := some 15, op := Go.Op.move (Go.Operand.tmp 0), type := 25, pos := "keep.go:34", after := #[], guard := none } : Oper)
def oKpSet2 : Oper := ({ dst := some 16, op := Go.Op.nilCheck (Go.Operand.tmp 15), type := 0, pos := "keep.go:34", after := #[{ on := 0, ground := Go.Ground.data }], guard := none } : Oper)
def oKpSet3 : Oper := ({ dst := some 17, op := Go.Op.fieldAddr 44 (Go.Operand.tmp 16) 0, type := 0, pos := "keep.go:34", after := #[{ on := 1, ground := Go.Ground.data }], guard := none } : Oper)
def oKpSet4 : Oper := ({ dst := some 18, op := Go.Op.load 42 (Go.Operand.tmp 17), type := 42, pos := "keep.go:34", after := #[{ on := 2, ground := Go.Ground.data }], guard := none } : Oper)
def oKpSet5 : Oper := ({ dst := some 19, op := Go.Op.fieldAddr 32 (Go.Operand.tmp 3) 0, type := 0, pos := "keep.go:34", after := #[], guard := none } : Oper)
def oKpSet6 : Oper := ({ dst := some 20, op := Go.Op.load 9 (Go.Operand.tmp 19), type := 9, pos := "keep.go:34", after := #[{ on := 4, ground := Go.Ground.data }], guard := none } : Oper)
def oKpSet7 : Oper := ({ dst := none, op := Go.Op.call { callee := Go.Callee.builtin Go.Builtin.delete, args := #[Go.Operand.tmp 18, Go.Operand.tmp 20], argTypes := #[42, 9] }, type := 0, pos := "keep.go:34", after := #[{ on := 3, ground := Go.Ground.data }, { on := 5, ground := Go.Ground.data }], guard := none } : Oper)
def oKpSet8 : Oper := ({ dst := some 32, op := Go.Op.move (Go.Operand.tmp 0), type := 25, pos := "keep.go:41", after := #[], guard := none } : Oper)
def oKpSet9 : Oper := ({ dst := some 33, op := Go.Op.nilCheck (Go.Operand.tmp 32), type := 0, pos := "keep.go:41", after := #[{ on := 0, ground := Go.Ground.data }], guard := none } : Oper)
def oKpSet10 : Oper := ({ dst := some 34, op := Go.Op.fieldAddr 44 (Go.Operand.tmp 33) 0, type := 0, pos := "keep.go:41", after := #[{ on := 1, ground := Go.Ground.data }], guard := none } : Oper)
def oKpSet11 : Oper := ({ dst := some 35, op := Go.Op.load 42 (Go.Operand.tmp 34), type := 42, pos := "keep.go:41", after := #[{ on := 2, ground := Go.Ground.data }], guard := none } : Oper)
def oKpSet12 : Oper := ({ dst := some 36, op := Go.Op.fieldAddr 32 (Go.Operand.tmp 3) 0, type := 0, pos := "keep.go:41", after := #[], guard := none } : Oper)
def oKpSet13 : Oper := ({ dst := some 37, op := Go.Op.load 9 (Go.Operand.tmp 36), type := 9, pos := "keep.go:41", after := #[{ on := 4, ground := Go.Ground.data }], guard := none } : Oper)
def oKpSet14 : Oper := ({ dst := some 38, op := Go.Op.load 32 (Go.Operand.tmp 3), type := 32, pos := "keep.go:41", after := #[], guard := none } : Oper)
def oKpSet15 : Oper := ({ dst := none, op := Go.Op.mapUpdate 42 (Go.Operand.tmp 35) (Go.Operand.tmp 37) (Go.Operand.tmp 38), type := 0, pos := "keep.go:41", after := #[{ on := 3, ground := Go.Ground.data }, { on := 5, ground := Go.Ground.data }, { on := 6, ground := Go.Ground.data }, { on := 0, ground := Go.Ground.phase }, { on := 1, ground := Go.Ground.phase }, { on := 2, ground := Go.Ground.phase }, { on := 3, ground := Go.Ground.phase }, { on := 4, ground := Go.Ground.phase }, { on := 5, ground := Go.Ground.phase }, { on := 6, ground := Go.Ground.phase }], guard := none } : Oper)
end
open Go.RowKit Go.Maps

@[go_sem] theorem mmn (r : Option Nat) (W : World) : (binOp .eql 42 (.map r) (.map none)).run Tryz.prog W = .ok (.bool r.isNone) W := run_eql_map_nil W _ _ _ r Tryz.underlying42
section
variable {w w' : World} {t : Nat} {F : Nat → Prop} {L : List Ms}
def NK (w : World) (e : Ending) (w' : World) : Prop := ∃ t F, e = .returned (.pointer (some ⟨t, 0, none⟩)) ∧ KP w' t F [] ∧ Below w.heap.size w w' ∧ ∀ b, F b → w.heap.size ≤ b
theorem kNew (w : World) : Calls Tryz.prog 7 #[] w fun e w' => NK w e w' := by
  go_enter Tryz.func7, Tryz.ntmps7
  go_wp2_with fail
  go_ret
  exact ⟨w.heap.size, fun x => x = w.heap.size, rfl, ⟨none, by rw [World.cell?_alloc_new]; rfl, fun i => by rw [World.frozen?_alloc_at _ _ _ _ rfl], rfl, fun x => ⟨Or.inl, fun h => h.elim id (fun e => by cases e)⟩⟩, below_alloc (Below.refl _ _) _, fun b e => by omega⟩
/-- What Set leaves. -/
def KS (w : World) (t : Nat) (F : Nat → Prop) (M : List Ms) (r : Bool) (e : Ending) (w' : World) : Prop :=
  ∃ F', e = .returned (.bool r) ∧ KP w' t F' M ∧ Outs w w' F ∧ ∀ x, F' x → F x ∨ w.heap.size ≤ x
set_option maxHeartbeats 1000000 in
theorem kSet_no (hP : KP w t F L) (m : Ms) (h1 : m.1.length ≤ 1000000) (hm : mayB m = false) :
    Calls Tryz.prog 10 #[.pointer (some ⟨t, 0, none⟩), .agg #[.string ⟨m.1.toArray⟩, .string ⟨m.2.1.toArray⟩, .int .u8 m.2.2.1, .bool m.2.2.2]] w fun e w' => KS w t F L false e w' := by
  obtain ⟨s, p, q, b⟩ := m
  dsimp only at h1
  have HP := Lib.hid hP
  have HM := Lib.hid hm
  obtain ⟨W, hW⟩ : ∃ W, W = w.alloc (.cells #[.string ⟨s.toArray⟩, .string ⟨p.toArray⟩, .int .u8 q, .bool b] 32) := ⟨_, rfl⟩
  have hbW : Below w.heap.size w W := by rw [hW]; exact below_alloc (Below.refl _ _) _
  have hX : BxM W w.heap.size (s, p, q, b) := by rw [hW]; exact BxM.new w (s, p, q, b)
  have x0 := hX.c0; have x1 := hX.c1; have x2 := hX.c2; have x3 := hX.c3
  dsimp only at x0 x1 x2 x3
  clear hP hm hX
  go_enter Tryz.func10, Tryz.ntmps10
  go_wp2_with fail
  rw [← hW]
  refine (kMay _ (s, p, q, b) false (by dsimp only; omega) HM.out).mono ?_
  rintro e w1 ⟨rfl, hb1⟩
  have hb := hbW.trans (hb1.mono hbW.size)
  go_wp2_with fail
  go_ret
  exact ⟨F, rfl, HP.out.below hb, Outs.of_below hb, fun x hx => Or.inl hx⟩
theorem KP.dropped {b : Nat} (hc : w'.cell? ⟨t, 0, none⟩ = some (.map (some b))) (hf : ∀ i, w'.frozen? ⟨t, i, none⟩ = false) (hne : b ≠ t) (hF : ∀ x, F x ↔ x = t ∨ some b = some x) {m : Ms} (hS : Srt kB L) (hm : mayB m = true) (he : m.2.1 = []) (h : MM w' b (fun x => if x = m.1 then none else getM L x)) : KP w' t F (setM L m) :=
  ⟨some b, hc, hf, ⟨hne, h.congr fun l => by rw [get_set hS hm, if_pos he]⟩, hF⟩
theorem KP.stored {b : Nat} {G : Nat → Prop} (hc : w'.cell? ⟨t, 0, none⟩ = some (.map (some b))) (hf : ∀ i, w'.frozen? ⟨t, i, none⟩ = false) (hne : b ≠ t) (hG : ∀ x, G x ↔ x = t ∨ some b = some x) {m : Ms} (hS : Srt kB L) (hm : mayB m = true) (he : m.2.1 ≠ []) (h : MM w' b (fun x => if x = m.1 then some (rtM m) else getM L x)) : KP w' t G (setM L m) :=
  ⟨some b, hc, hf, ⟨hne, h.congr fun l => by rw [get_set hS hm, if_neg he]⟩, hG⟩
set_option maxHeartbeats 2000000 in
theorem kSet_del (hP : KP w t F L) (hS : Srt kB L) (m : Ms) (h1 : m.1.length ≤ 1000000) (hm : mayB m = true) (he : m.2.1 = []) :
    Calls Tryz.prog 10 #[.pointer (some ⟨t, 0, none⟩), .agg #[.string ⟨m.1.toArray⟩, .string ⟨m.2.1.toArray⟩, .int .u8 m.2.2.1, .bool m.2.2.2]] w fun e w' => KS w t F (setM L m) true e w' := by
  obtain ⟨s, p, q, b⟩ := m
  dsimp only at h1 he
  subst he
  have HS := Lib.hid hS
  have HM := Lib.hid hm
  have HP := Lib.hid hP
  obtain ⟨W, hW⟩ : ∃ W, W = w.alloc (.cells #[.string ⟨s.toArray⟩, .string ⟨#[]⟩, .int .u8 q, .bool b] 32) := ⟨_, rfl⟩
  have hbW : Below w.heap.size w W := by rw [hW]; exact below_alloc (Below.refl _ _) _
  have hX : BxM W w.heap.size (s, [], q, b) := by rw [hW]; exact BxM.new w (s, [], q, b)
  have HX := Lib.hid hX
  have x0 := hX.c0; have x1 := hX.c1; have x2 := hX.c2; have x3 := hX.c3
  dsimp only at x0 x1 x2 x3
  clear hP hm hX hS
  go_enter Tryz.func10, Tryz.ntmps10
  go_wp2_with fail
  rw [← hW]
  refine (kMay _ (s, [], q, b) true (by dsimp only; omega) HM.out).mono ?_
  rintro e w1 ⟨rfl, hb1⟩
  have hb := hbW.trans (hb1.mono hbW.size)
  obtain ⟨mb, c1, c2, c3, c4⟩ := HP.out.below hb
  have X1 := HX.out.below hb1
  have y0 := X1.c0; have y1 := X1.c1
  dsimp only at y0 y1
  have HB := Lib.hid hb
  have HC3 := Lib.hid c3
  have HC4 := Lib.hid c4
  have HC2 := Lib.hid c2
  clear c3 c4 hb hb1 X1 x0 x1 x2 x3 hW
  go_wp2_with fail
  have hHeld : Below w1.heap.size w1 w1.drew := (Below.refl _ _).drew
  refine region_last (S := (fun w' => Below w1.heap.size w1 w')) (m := 6) (by kernel_rfl) ?_
  have hLast : LastL .any _ 6 := last_chain (ops := #[oKpSet1, oKpSet2, oKpSet3, oKpSet4, oKpSet5, oKpSet6, oKpSet7]) [(3, 6), (2, 3), (1, 2), (0, 1), (5, 6), (4, 5)] (by kernel_rfl)
  refine tkM hLast 0 oKpSet1 ?vv3_4_0 rfl (by kernel_rfl) (by kernel_rfl) (by kernel_rfl) (by rfl) (fun _ _ _ h => h) (by rfl) ?hy3_4_0 (by assumption) ?rest3_4_0
  case hy3_4_0 => (intro w hSw; unfold oKpSet1; (try dsimp only at hSw); (try go_split_ands); go_simp; all_goals with_reducible rfl)
  try simp only [oKpSet1, Act.put, sA, sB, sC]
  refine tkM hLast 1 oKpSet2 ?vv3_4_1 rfl (by kernel_rfl) (by kernel_rfl) (by kernel_rfl) (by rfl) (fun _ _ _ h => h) (by rfl) ?hy3_4_1 (by assumption) ?rest3_4_1
  case hy3_4_1 => (intro w hSw; unfold oKpSet2; (try dsimp only at hSw); (try go_split_ands); go_simp; all_goals with_reducible rfl)
  try simp only [oKpSet2, Act.put, sA, sB, sC]
  refine tkM hLast 2 oKpSet3 ?vv3_4_2 rfl (by kernel_rfl) (by kernel_rfl) (by kernel_rfl) (by rfl) (fun _ _ _ h => h) (by rfl) ?hy3_4_2 (by assumption) ?rest3_4_2
  case hy3_4_2 => (intro w hSw; unfold oKpSet3; (try dsimp only at hSw); (try go_split_ands); go_simp; all_goals with_reducible rfl)
  try simp only [oKpSet3, Act.put, sA, sB, sC]
  refine tkM hLast 3 oKpSet4 ?vv3_5_3 rfl (by kernel_rfl) (by kernel_rfl) (by kernel_rfl) (by rfl) (fun _ _ _ h => h) (by rfl) ?hy3_5_3 (by assumption) ?rest3_5_3
  case hy3_5_3 => (intro w hSw; unfold oKpSet4; (try dsimp only at hSw); have q9 := (hSw.cell (World.block_lt_of_cell? _ _ c1)).trans c1; clear hSw; go_simp; all_goals with_reducible rfl)
  try simp only [oKpSet4, Act.put, sA, sB, sC]
  refine tkM hLast 4 oKpSet5 ?vv3_6_4 rfl (by kernel_rfl) (by kernel_rfl) (by kernel_rfl) (by rfl) (fun _ _ _ h => h) (by rfl) ?hy3_6_4 (by assumption) ?rest3_6_4
  case hy3_6_4 => (intro w hSw; unfold oKpSet5; (try dsimp only at hSw); (try go_split_ands); go_simp; all_goals with_reducible rfl)
  try simp only [oKpSet5, Act.put, sA, sB, sC]
  refine tkM hLast 5 oKpSet6 ?vv3_7_5 rfl (by kernel_rfl) (by kernel_rfl) (by kernel_rfl) (by rfl) (fun _ _ _ h => h) (by rfl) ?hy3_7_5 (by assumption) ?rest3_7_5
  case hy3_7_5 => (intro w hSw; unfold oKpSet6; (try dsimp only at hSw); have q9 := (hSw.cell (World.block_lt_of_cell? _ _ y0)).trans y0; clear hSw; go_simp; all_goals with_reducible rfl)
  try simp only [oKpSet6, Act.put, sA, sB, sC]
  have hb2 : Below w.heap.size w w1.drew := HB.out.drew
  cases mb with
  | none =>
    have hrun := Maps.drop_nil (P := Tryz.prog) (w := w1.drew) kS Tryz.underlying42 (key_mk (l := s) (by unfold maxLen; omega)) 0
    refine anyM_ready (rs := [6]) (by kernel_rfl) (by simp) ?_
    refine (AllM.cons (o := oKpSet7) rfl (fun K hK => ?_) AllM.nil)
    (refine step_del rfl _ _ _ _ rfl rfl rfl hrun ?_)
    refine hK.out _ _ (fun hne => absurd rfl hne) ?_
    clear hK K
    try simp only [oKpSet7, Act.put, sA, sB, sC]
    refine anyM_done (by kernel_rfl) ?_ _
    clear hrun hHeld
    go_wp2_with fail
    go_ret
    have h3 : L = [] := HC3.out
    refine ⟨F, rfl, ⟨none, c1, HC2.out, ?_, HC4.out⟩, Outs.of_below hb2, fun x hx => Or.inl hx⟩
    show setM L _ = []
    rw [h3]
    unfold setM
    rw [if_pos HM.out]
    rfl
  | some bb =>
    have h3 := HC3.out
    have hne : bb ≠ t := h3.1
    have hMM : MM w1.drew bb (getM L) := h3.2.below hHeld
    obtain ⟨w8, hrun, hM8, ht⟩ := hMM.drop (l := s) (by unfold maxLen; omega) 0
    have hU8 : Outs w1.drew w8 (fun x => x = bb) := turned_outs ht rfl
    have hc8 : w8.cell? ⟨t, 0, none⟩ = some (.map (some bb)) := hU8.cell ⟨t, 0, none⟩ _ c1 (fun e => hne e.symm)
    have hf8 : ∀ i, w8.frozen? ⟨t, i, none⟩ = false := fun i => (World.frozen?_of_block (hU8.block t (World.block_lt_of_cell? _ _ c1) (fun e => hne e.symm))).trans (HC2.out i)
    have HM8 := Lib.hid hM8
    have HU8 := Lib.hid hU8
    have HF8 := Lib.hid hf8
    refine anyM_ready (rs := [6]) (by kernel_rfl) (by simp) ?_
    refine (AllM.cons (o := oKpSet7) rfl (fun K hK => ?_) AllM.nil)
    (refine step_del rfl _ _ _ _ rfl rfl rfl hrun ?_)
    refine hK.out _ _ (fun hne => absurd rfl hne) ?_
    clear hK K
    try simp only [oKpSet7, Act.put, sA, sB, sC]
    refine anyM_done (by kernel_rfl) ?_ _
    clear hrun hHeld hU8 hM8 hf8 ht hMM h3
    go_wp2_with fail
    go_ret
    exact ⟨F, rfl, KP.dropped hc8 HF8.out hne HC4.out HS.out HM.out rfl HM8.out, (Outs.of_below hb2).trans HU8.out (fun x _ e => by subst e; exact (HC4.out _).2 (Or.inr rfl)), fun x hx => Or.inl hx⟩
theorem outs_set4 (w : World) (g : Nat) (a b c d : Value) : Outs w ((((w.setCell ⟨g, 0, none⟩ a).setCell ⟨g, 1, none⟩ b).setCell ⟨g, 2, none⟩ c).setCell ⟨g, 3, none⟩ d) (fun x => x = g) :=
  ((((Outs.refl w (fun x => x = g)).setCell g 0 rfl _).setCell g 1 rfl _).setCell g 2 rfl _).setCell g 3 rfl _
set_option maxRecDepth 100000 in
set_option maxHeartbeats 4000000 in
theorem kSet_put (hP : KP w t F L) (hS : Srt kB L) (hL : L.length ≤ 1000000) (m : Ms) (h1 : m.1.length ≤ 1000000) (h2 : m.2.1.length ≤ 1000000) (hm : mayB m = true) (he : m.2.1 ≠ []) :
    Calls Tryz.prog 10 #[.pointer (some ⟨t, 0, none⟩), .agg #[.string ⟨m.1.toArray⟩, .string ⟨m.2.1.toArray⟩, .int .u8 m.2.2.1, .bool m.2.2.2]] w fun e w' => KS w t F (setM L m) true e w' := by
  obtain ⟨s, p, q, b⟩ := m
  dsimp only at h1 h2 he
  have HE : Hid (p ≠ []) := he
  have hpe : p.isEmpty = false := by cases p with | nil => exact absurd rfl he | cons a r => rfl
  have HS := Lib.hid hS
  have HM := Lib.hid hm
  have HP := Lib.hid hP
  have HTF := Lib.hid hP.root
  have htl := hP.lt t hP.root
  obtain ⟨W, hW⟩ : ∃ W, W = w.alloc (.cells #[.string ⟨s.toArray⟩, .string ⟨p.toArray⟩, .int .u8 q, .bool b] 32) := ⟨_, rfl⟩
  have hbW : Below w.heap.size w W := by rw [hW]; exact below_alloc (Below.refl _ _) _
  have hX : BxM W w.heap.size (s, p, q, b) := by rw [hW]; exact BxM.new w (s, p, q, b)
  have HX := Lib.hid hX
  have x0 := hX.c0; have x1 := hX.c1; have x2 := hX.c2; have x3 := hX.c3
  dsimp only at x0 x1 x2 x3
  clear hP hm hX hS
  go_enter Tryz.func10, Tryz.ntmps10
  go_wp2_with fail
  rw [← hW]
  refine (kMay _ (s, p, q, b) true (by dsimp only; omega) HM.out).mono ?_
  rintro e w1 ⟨rfl, hb1⟩
  have hb := hbW.trans (hb1.mono hbW.size)
  obtain ⟨mb, c1, c2, c3, c4⟩ := HP.out.below hb
  have X1 := HX.out.below hb1
  have y0 := X1.c0; have y1 := X1.c1; have y2 := X1.c2; have y3 := X1.c3
  dsimp only at y0 y1 y2 y3
  have HB := Lib.hid hb
  have HC4 := Lib.hid c4
  have HTG : Hid (¬ t = w.heap.size) := by show ¬ _; omega
  have HX1 := Lib.hid X1
  have hw1 : w.heap.size < w1.heap.size := Nat.lt_of_lt_of_le (by rw [hW]; simp) hb1.size
  clear c4 hb hb1 X1 x0 x1 x2 x3 hW
  cases mb with
  | some bb =>
    have HNE : Hid (bb ≠ t) := c3.1
    have HMM : Hid (MM w1 bb (getM L)) := c3.2
    have HC2 := Lib.hid c1
    have HF2 := Lib.hid c2
    have HX2 := HX1
    have HBF : Hid (bb < w.heap.size → F bb) := fun _ => (HC4.out bb).2 (Or.inr rfl)
    have HBN : Hid (F bb ∨ w.heap.size ≤ bb) := Or.inl ((HC4.out bb).2 (Or.inr rfl))
    have HBG : Hid (¬ bb = w.heap.size) := fun e => by have := HP.out.lt bb ((HC4.out bb).2 (Or.inr rfl)); omega
    have HO2 : Hid (Outs w w1 F) := Outs.of_below HB.out
    clear c2 c3
    go_wp2_with fail
    clear y0 y1 y2 y3 c1
    refine (retained_any _ (s, p, q, b) h1 h2).mono ?_
    rintro e w3 ⟨rfl, hb3⟩
    have X3 := HX2.out.below hb3
    have v0 := X3.c0; have v1 := X3.c1; have v2 := X3.c2; have v3 := X3.c3; have vf := X3.fr
    dsimp only at v0 v1 v2 v3
    obtain ⟨W4, hW4⟩ : ∃ W4, W4 = (((w3.setCell ⟨w.heap.size, 0, none⟩ (.string ⟨s.toArray⟩)).setCell ⟨w.heap.size, 1, none⟩ (.string ⟨p.toArray⟩)).setCell ⟨w.heap.size, 2, none⟩ (.int .u8 q)).setCell ⟨w.heap.size, 3, none⟩ (.bool true) := ⟨_, rfl⟩
    have hU4 : Outs w3 W4 (fun x => x = w.heap.size) := by rw [hW4]; exact outs_set4 _ _ _ _ _ _
    have X4 : BxM W4 w.heap.size (s, p, q, true) := by rw [hW4]; exact (((X3.set0 s).set1 p).set2 q).set3 true
    have hc3 := (hb3.cell (World.block_lt_of_cell? _ _ HC2.out)).trans HC2.out
    have hc4 : W4.cell? ⟨t, 0, none⟩ = some (.map (some bb)) := hU4.cell _ _ hc3 (fun e => HTG.out e)
    have hM3 := HMM.out.below hb3
    have hM4 : MM W4 bb (getM L) := hM3.keep (hU4.block bb hM3.lt HBG.out)
    have hf4 : ∀ i, W4.frozen? ⟨t, i, none⟩ = false := fun i => (World.frozen?_of_block (hU4.block t (World.block_lt_of_cell? _ _ hc3) HTG.out)).trans ((World.frozen?_of_block (hb3.block t (World.block_lt_of_cell? _ _ HC2.out))).trans (HF2.out i))
    have HO4 : Hid (Outs w W4 F) := HO2.out.trans ((Outs.of_below (F := fun x => x = w.heap.size) hb3).trans hU4 (fun _ _ h => h)) (fun x hx e => by omega)
    have u0 := X4.c0; have u1 := X4.c1; have u2 := X4.c2; have u3 := X4.c3
    dsimp only at u0 u1 u2 u3
    have hsz4 : w.heap.size ≤ W4.heap.size := HO4.out.size
    have HM4 := Lib.hid hM4
    have HF4 := Lib.hid hf4
    have HSZ4 := Lib.hid hsz4
    clear hM4 hf4 hM3 hc3 X3 X4 hb3 hU4 hsz4
    go_wp2_with fail
    rw [← hW4]
    clear v0 v1 v2 v3 vf hW4
    have hHeld : Below W4.heap.size W4 W4.drew := (Below.refl _ _).drew
    refine region_last (S := (fun w' => Below W4.heap.size W4 w')) (m := 7) (by kernel_rfl) ?_
    have hLast : LastL .any _ 7 := last_chain (ops := #[oKpSet8, oKpSet9, oKpSet10, oKpSet11, oKpSet12, oKpSet13, oKpSet14, oKpSet15]) [(3, 7), (2, 3), (1, 2), (0, 1), (5, 7), (4, 5), (6, 7)] (by kernel_rfl)
    refine tkM hLast 0 oKpSet8 ?vv4_8_0 rfl (by kernel_rfl) (by kernel_rfl) (by kernel_rfl) (by rfl) (fun _ _ _ h => h) (by rfl) ?hy4_8_0 (by assumption) ?rest4_8_0
    case hy4_8_0 => (intro w hSw; unfold oKpSet8; (try dsimp only at hSw); (try go_split_ands); go_simp; all_goals with_reducible rfl)
    try simp only [oKpSet8, Act.put, sA, sB, sC]
    refine tkM hLast 1 oKpSet9 ?vv4_8_1 rfl (by kernel_rfl) (by kernel_rfl) (by kernel_rfl) (by rfl) (fun _ _ _ h => h) (by rfl) ?hy4_8_1 (by assumption) ?rest4_8_1
    case hy4_8_1 => (intro w hSw; unfold oKpSet9; (try dsimp only at hSw); (try go_split_ands); go_simp; all_goals with_reducible rfl)
    try simp only [oKpSet9, Act.put, sA, sB, sC]
    refine tkM hLast 2 oKpSet10 ?vv4_8_2 rfl (by kernel_rfl) (by kernel_rfl) (by kernel_rfl) (by rfl) (fun _ _ _ h => h) (by rfl) ?hy4_8_2 (by assumption) ?rest4_8_2
    case hy4_8_2 => (intro w hSw; unfold oKpSet10; (try dsimp only at hSw); (try go_split_ands); go_simp; all_goals with_reducible rfl)
    try simp only [oKpSet10, Act.put, sA, sB, sC]
    refine tkM hLast 3 oKpSet11 ?vv4_9_3 rfl (by kernel_rfl) (by kernel_rfl) (by kernel_rfl) (by rfl) (fun _ _ _ h => h) (by rfl) ?hy4_9_3 (by assumption) ?rest4_9_3
    case hy4_9_3 => (intro w hSw; unfold oKpSet11; (try dsimp only at hSw); have q9 := (hSw.cell (World.block_lt_of_cell? _ _ hc4)).trans hc4; clear hSw; go_simp; all_goals with_reducible rfl)
    try simp only [oKpSet11, Act.put, sA, sB, sC]
    refine tkM hLast 4 oKpSet12 ?vv4_10_4 rfl (by kernel_rfl) (by kernel_rfl) (by kernel_rfl) (by rfl) (fun _ _ _ h => h) (by rfl) ?hy4_10_4 (by assumption) ?rest4_10_4
    case hy4_10_4 => (intro w hSw; unfold oKpSet12; (try dsimp only at hSw); (try go_split_ands); go_simp; all_goals with_reducible rfl)
    try simp only [oKpSet12, Act.put, sA, sB, sC]
    refine tkM hLast 5 oKpSet13 ?vv4_11_5 rfl (by kernel_rfl) (by kernel_rfl) (by kernel_rfl) (by rfl) (fun _ _ _ h => h) (by rfl) ?hy4_11_5 (by assumption) ?rest4_11_5
    case hy4_11_5 => (intro w hSw; unfold oKpSet13; (try dsimp only at hSw); have q9 := (hSw.cell (World.block_lt_of_cell? _ _ u0)).trans u0; clear hSw; go_simp; all_goals with_reducible rfl)
    try simp only [oKpSet13, Act.put, sA, sB, sC]
    refine tkM hLast 6 oKpSet14 ?vv4_12_6 rfl (by kernel_rfl) (by kernel_rfl) (by kernel_rfl) (by rfl) (fun _ _ _ h => h) (by rfl) ?hy4_12_6 (by assumption) ?rest4_12_6
    case hy4_12_6 => (intro w hSw; unfold oKpSet14; (try dsimp only at hSw); have q9 := (hSw.cell (World.block_lt_of_cell? _ _ u0)).trans u0; have q8 := (hSw.cell (World.block_lt_of_cell? _ _ u1)).trans u1; have q7 := (hSw.cell (World.block_lt_of_cell? _ _ u2)).trans u2; have q6 := (hSw.cell (World.block_lt_of_cell? _ _ u3)).trans u3; clear hSw; go_simp; all_goals with_reducible rfl)
    try simp only [oKpSet14, Act.put, sA, sB, sC]
    obtain ⟨w8, hrun, hM8, ht⟩ := (HM4.out.below hHeld).store (L.map (·.1)) (fun l hl => by cases hg : getM L l with | none => exact absurd hg hl | some x => exact List.mem_map.2 ⟨x, get_mem hg, get_topic hg⟩) (by rw [List.length_map]; unfold maxLen; omega) (l := s) (by unfold maxLen; omega) (s, p, q, true)
    have hU8 : Outs W4.drew w8 (fun x => x = bb) := turned_outs ht rfl
    have hc8 : w8.cell? ⟨t, 0, none⟩ = some (.map (some bb)) := hU8.cell ⟨t, 0, none⟩ _ hc4 (fun e => HNE.out e.symm)
    have HF8 : Hid (∀ i, w8.frozen? ⟨t, i, none⟩ = false) := fun i => (World.frozen?_of_block (hU8.block t (World.block_lt_of_cell? _ _ hc4) (fun e => HNE.out e.symm))).trans (HF4.out i)
    have HM8 := Lib.hid hM8
    have HU8 : Hid (Outs W4 w8 (fun x => x = bb)) := (Outs.of_below hHeld).trans hU8 (fun _ _ h => h)
    refine anyM_ready (rs := [7]) (by kernel_rfl) (by simp) ?_
    refine (AllM.cons (o := oKpSet15) rfl (fun K hK => ?_) AllM.nil)
    (refine step_upd rfl _ _ _ _ rfl rfl rfl rfl hrun ?_)
    refine hK.out _ _ (fun hne => absurd rfl hne) ?_
    clear hK K
    try simp only [oKpSet15, Act.put, sA, sB, sC]
    refine anyM_done (by kernel_rfl) ?_ _
    clear hrun hHeld hU8 hM8 ht
    go_wp2_with fail
    go_ret
    refine ⟨fun x => x = t ∨ some bb = some x, rfl, KP.stored hc8 HF8.out HNE.out (fun _ => Iff.rfl) HS.out HM.out HE.out HM8.out, HO4.out.trans HU8.out (fun x hx e => by subst e; exact HBF.out hx), fun x hx => ?_⟩
    rcases hx with rfl | hx
    · exact Or.inl HTF.out
    · cases hx; exact HBN.out
  | none =>
    have hL0 : L = [] := c3
    have c20 := c2 0
    obtain ⟨W2, hW2⟩ : ∃ W2, W2 = (w1.setCell ⟨t, 0, none⟩ (.map (some w1.heap.size))).alloc (.map #[] 0) := ⟨_, rfl⟩
    have hs0 : (w1.setCell ⟨t, 0, none⟩ (.map (some w1.heap.size))).heap.size = w1.heap.size := by simp [World.setCell]
    have hU2 : Outs w1 W2 (fun x => x = t) := by rw [hW2]; exact ((Outs.refl w1 (fun x => x = t)).setCell t 0 rfl _).more (below_alloc (Below.refl _ _) _)
    obtain ⟨bb, hbb⟩ : ∃ bb, bb = w1.heap.size := ⟨_, rfl⟩
    have HBB := Lib.hid hbb
    have htl1 := World.block_lt_of_cell? _ _ c1
    have HNE : Hid (bb ≠ t) := by show _ ≠ _; have : t < w1.heap.size := htl1; omega
    have HMM : Hid (MM W2 bb (getM L)) := by
      show MM _ _ _
      rw [hL0]
      have := MM.made (w1.setCell ⟨t, 0, none⟩ (.map (some w1.heap.size)))
      rw [hs0] at this
      rw [hW2, hbb]
      exact this
    have HC2 : Hid (W2.cell? ⟨t, 0, none⟩ = some (.map (some bb))) := by
      show _ = _
      rw [hW2, hbb, World.cell?_alloc_past _ _ _ (by rw [hs0]; exact htl1), World.cell?_setCell_same _ _ _ c1]
    have HF2 : Hid (∀ i, W2.frozen? ⟨t, i, none⟩ = false) := fun i => by rw [hW2, World.frozen?_alloc_past _ _ _ (by rw [hs0]; exact htl1), World.frozen?_setCell]; exact c2 i
    have HX2 : Hid (BxM W2 w.heap.size (s, p, q, b)) := HX1.out.outs hU2 (fun e => HTG.out e.symm)
    have HBF : Hid (bb < w.heap.size → F bb) := fun h => by omega
    have HBN : Hid (F bb ∨ w.heap.size ≤ bb) := Or.inr (by omega)
    have HBG : Hid (¬ bb = w.heap.size) := fun e => by omega
    have HO2 : Hid (Outs w W2 F) := (Outs.of_below HB.out).trans hU2 (fun x _ e => by subst e; exact HTF.out)
    have hmm := @run_makeMap Tryz.prog
    have hn1 : ¬ t = w.heap.size := HTG.out
    have hn2 : ¬ w.heap.size = t := fun e => HTG.out e.symm
    clear hs0 hU2 hbb c2 c3 hL0
    go_wp2_with fail
    rw [← hW2]
    clear hW2 c1 y0 y1 y2 y3 c20
    refine (retained_any _ (s, p, q, b) h1 h2).mono ?_
    rintro e w3 ⟨rfl, hb3⟩
    have X3 := HX2.out.below hb3
    have v0 := X3.c0; have v1 := X3.c1; have v2 := X3.c2; have v3 := X3.c3; have vf := X3.fr
    dsimp only at v0 v1 v2 v3
    obtain ⟨W4, hW4⟩ : ∃ W4, W4 = (((w3.setCell ⟨w.heap.size, 0, none⟩ (.string ⟨s.toArray⟩)).setCell ⟨w.heap.size, 1, none⟩ (.string ⟨p.toArray⟩)).setCell ⟨w.heap.size, 2, none⟩ (.int .u8 q)).setCell ⟨w.heap.size, 3, none⟩ (.bool true) := ⟨_, rfl⟩
    have hU4 : Outs w3 W4 (fun x => x = w.heap.size) := by rw [hW4]; exact outs_set4 _ _ _ _ _ _
    have X4 : BxM W4 w.heap.size (s, p, q, true) := by rw [hW4]; exact (((X3.set0 s).set1 p).set2 q).set3 true
    have hc3 := (hb3.cell (World.block_lt_of_cell? _ _ HC2.out)).trans HC2.out
    have hc4 : W4.cell? ⟨t, 0, none⟩ = some (.map (some bb)) := hU4.cell _ _ hc3 (fun e => HTG.out e)
    have hM3 := HMM.out.below hb3
    have hM4 : MM W4 bb (getM L) := hM3.keep (hU4.block bb hM3.lt HBG.out)
    have hf4 : ∀ i, W4.frozen? ⟨t, i, none⟩ = false := fun i => (World.frozen?_of_block (hU4.block t (World.block_lt_of_cell? _ _ hc3) HTG.out)).trans ((World.frozen?_of_block (hb3.block t (World.block_lt_of_cell? _ _ HC2.out))).trans (HF2.out i))
    have HO4 : Hid (Outs w W4 F) := HO2.out.trans ((Outs.of_below (F := fun x => x = w.heap.size) hb3).trans hU4 (fun _ _ h => h)) (fun x hx e => by omega)
    have u0 := X4.c0; have u1 := X4.c1; have u2 := X4.c2; have u3 := X4.c3
    dsimp only at u0 u1 u2 u3
    have hsz4 : w.heap.size ≤ W4.heap.size := HO4.out.size
    have HM4 := Lib.hid hM4
    have HF4 := Lib.hid hf4
    have HSZ4 := Lib.hid hsz4
    clear hM4 hf4 hM3 hc3 X3 X4 hb3 hU4 hsz4
    go_wp2_with fail
    rw [← hW4]
    clear v0 v1 v2 v3 vf hW4
    have hHeld : Below W4.heap.size W4 W4.drew := (Below.refl _ _).drew
    refine region_last (S := (fun w' => Below W4.heap.size W4 w')) (m := 7) (by kernel_rfl) ?_
    have hLast : LastL .any _ 7 := last_chain (ops := #[oKpSet8, oKpSet9, oKpSet10, oKpSet11, oKpSet12, oKpSet13, oKpSet14, oKpSet15]) [(3, 7), (2, 3), (1, 2), (0, 1), (5, 7), (4, 5), (6, 7)] (by kernel_rfl)
    refine tkM hLast 0 oKpSet8 ?vv5_13_0 rfl (by kernel_rfl) (by kernel_rfl) (by kernel_rfl) (by rfl) (fun _ _ _ h => h) (by rfl) ?hy5_13_0 (by assumption) ?rest5_13_0
    case hy5_13_0 => (intro w hSw; unfold oKpSet8; (try dsimp only at hSw); (try go_split_ands); go_simp; all_goals with_reducible rfl)
    try simp only [oKpSet8, Act.put, sA, sB, sC]
    refine tkM hLast 1 oKpSet9 ?vv5_13_1 rfl (by kernel_rfl) (by kernel_rfl) (by kernel_rfl) (by rfl) (fun _ _ _ h => h) (by rfl) ?hy5_13_1 (by assumption) ?rest5_13_1
    case hy5_13_1 => (intro w hSw; unfold oKpSet9; (try dsimp only at hSw); (try go_split_ands); go_simp; all_goals with_reducible rfl)
    try simp only [oKpSet9, Act.put, sA, sB, sC]
    refine tkM hLast 2 oKpSet10 ?vv5_13_2 rfl (by kernel_rfl) (by kernel_rfl) (by kernel_rfl) (by rfl) (fun _ _ _ h => h) (by rfl) ?hy5_13_2 (by assumption) ?rest5_13_2
    case hy5_13_2 => (intro w hSw; unfold oKpSet10; (try dsimp only at hSw); (try go_split_ands); go_simp; all_goals with_reducible rfl)
    try simp only [oKpSet10, Act.put, sA, sB, sC]
    refine tkM hLast 3 oKpSet11 ?vv5_14_3 rfl (by kernel_rfl) (by kernel_rfl) (by kernel_rfl) (by rfl) (fun _ _ _ h => h) (by rfl) ?hy5_14_3 (by assumption) ?rest5_14_3
    case hy5_14_3 => (intro w hSw; unfold oKpSet11; (try dsimp only at hSw); have q9 := (hSw.cell (World.block_lt_of_cell? _ _ hc4)).trans hc4; clear hSw; go_simp; all_goals with_reducible rfl)
    try simp only [oKpSet11, Act.put, sA, sB, sC]
    refine tkM hLast 4 oKpSet12 ?vv5_15_4 rfl (by kernel_rfl) (by kernel_rfl) (by kernel_rfl) (by rfl) (fun _ _ _ h => h) (by rfl) ?hy5_15_4 (by assumption) ?rest5_15_4
    case hy5_15_4 => (intro w hSw; unfold oKpSet12; (try dsimp only at hSw); (try go_split_ands); go_simp; all_goals with_reducible rfl)
    try simp only [oKpSet12, Act.put, sA, sB, sC]
    refine tkM hLast 5 oKpSet13 ?vv5_16_5 rfl (by kernel_rfl) (by kernel_rfl) (by kernel_rfl) (by rfl) (fun _ _ _ h => h) (by rfl) ?hy5_16_5 (by assumption) ?rest5_16_5
    case hy5_16_5 => (intro w hSw; unfold oKpSet13; (try dsimp only at hSw); have q9 := (hSw.cell (World.block_lt_of_cell? _ _ u0)).trans u0; clear hSw; go_simp; all_goals with_reducible rfl)
    try simp only [oKpSet13, Act.put, sA, sB, sC]
    refine tkM hLast 6 oKpSet14 ?vv5_17_6 rfl (by kernel_rfl) (by kernel_rfl) (by kernel_rfl) (by rfl) (fun _ _ _ h => h) (by rfl) ?hy5_17_6 (by assumption) ?rest5_17_6
    case hy5_17_6 => (intro w hSw; unfold oKpSet14; (try dsimp only at hSw); have q9 := (hSw.cell (World.block_lt_of_cell? _ _ u0)).trans u0; have q8 := (hSw.cell (World.block_lt_of_cell? _ _ u1)).trans u1; have q7 := (hSw.cell (World.block_lt_of_cell? _ _ u2)).trans u2; have q6 := (hSw.cell (World.block_lt_of_cell? _ _ u3)).trans u3; clear hSw; go_simp; all_goals with_reducible rfl)
    try simp only [oKpSet14, Act.put, sA, sB, sC]
    obtain ⟨w8, hrun, hM8, ht⟩ := (HM4.out.below hHeld).store (L.map (·.1)) (fun l hl => by cases hg : getM L l with | none => exact absurd hg hl | some x => exact List.mem_map.2 ⟨x, get_mem hg, get_topic hg⟩) (by rw [List.length_map]; unfold maxLen; omega) (l := s) (by unfold maxLen; omega) (s, p, q, true)
    have hU8 : Outs W4.drew w8 (fun x => x = bb) := turned_outs ht rfl
    have hc8 : w8.cell? ⟨t, 0, none⟩ = some (.map (some bb)) := hU8.cell ⟨t, 0, none⟩ _ hc4 (fun e => HNE.out e.symm)
    have HF8 : Hid (∀ i, w8.frozen? ⟨t, i, none⟩ = false) := fun i => (World.frozen?_of_block (hU8.block t (World.block_lt_of_cell? _ _ hc4) (fun e => HNE.out e.symm))).trans (HF4.out i)
    have HM8 := Lib.hid hM8
    have HU8 : Hid (Outs W4 w8 (fun x => x = bb)) := (Outs.of_below hHeld).trans hU8 (fun _ _ h => h)
    refine anyM_ready (rs := [7]) (by kernel_rfl) (by simp) ?_
    refine (AllM.cons (o := oKpSet15) rfl (fun K hK => ?_) AllM.nil)
    (refine step_upd rfl _ _ _ _ rfl rfl rfl rfl hrun ?_)
    refine hK.out _ _ (fun hne => absurd rfl hne) ?_
    clear hK K
    try simp only [oKpSet15, Act.put, sA, sB, sC]
    refine anyM_done (by kernel_rfl) ?_ _
    clear hrun hHeld hU8 hM8 ht
    go_wp2_with fail
    go_ret
    refine ⟨fun x => x = t ∨ some bb = some x, rfl, KP.stored hc8 HF8.out HNE.out (fun _ => Iff.rfl) HS.out HM.out HE.out HM8.out, HO4.out.trans HU8.out (fun x hx e => by subst e; exact HBF.out hx), fun x hx => ?_⟩
    rcases hx with rfl | hx
    · exact Or.inl HTF.out
    · cases hx; exact HBN.out
theorem kSet_any (hP : KP w t F L) (hS : Srt kB L) (hL : L.length ≤ 1000000) (m : Ms) (M : List Ms) (r : Bool) (h1 : m.1.length ≤ 1000000) (h2 : m.2.1.length ≤ 1000000) (hM : setM L m = M) (hr : mayB m = r) :
    Calls Tryz.prog 10 #[.pointer (some ⟨t, 0, none⟩), .agg #[.string ⟨m.1.toArray⟩, .string ⟨m.2.1.toArray⟩, .int .u8 m.2.2.1, .bool m.2.2.2]] w fun e w' => KS w t F M r e w' := by
  subst hM hr
  cases hm : mayB m with
  | false => rw [set_no hm]; exact kSet_no hP m h1 hm
  | true =>
    by_cases he : m.2.1 = []
    · exact kSet_del hP hS m h1 hm he
    · exact kSet_put hP hS hL m h1 h2 hm he
/-- The map of a store. -/
theorem messages_eq {mb : Option Nat} (hc : w.cell? ⟨t, 0, none⟩ = some (.map mb)) :
    Calls Tryz.prog 24 #[.pointer (some ⟨t, 0, none⟩)] w fun e w' => e = .returned (.map mb) ∧ w = w' := by
  go_enter Tryz.func24, Tryz.ntmps24
  go_wp2_with fail
  go_ret
  exact ⟨rfl, rfl⟩
theorem messages_nil (w : World) :
    Calls Tryz.prog 24 #[.pointer none] w fun e w' => e = .returned (.map none) ∧ w = w' := by
  go_enter Tryz.func24, Tryz.ntmps24
  go_wp2_with fail
  go_ret
  exact ⟨rfl, rfl⟩
set_option maxHeartbeats 1000000 in
theorem kLen (hP : KP w t F L) (hS : Srt kB L) :
    Calls Tryz.prog 12 #[.pointer (some ⟨t, 0, none⟩)] w fun e w' => e = .returned (.int .i64 (L.length : Nat)) ∧ w = w' := by
  obtain ⟨mb, c1, c2, c3, c4⟩ := hP
  cases mb with
  | none =>
    have h0 : L = [] := c3
    subst h0
    have hlen := fun ty => mlen_nil w ty
    go_enter Tryz.func12, Tryz.ntmps12
    go_wp2_with fail
    refine (messages_eq c1).mono ?_
    rintro e w1 ⟨rfl, rfl⟩
    go_wp2_with fail
    go_ret
    exact ⟨rfl, rfl⟩
  | some bb =>
    have hlen := fun ty => c3.2.len hS ty
    go_enter Tryz.func12, Tryz.ntmps12
    go_wp2_with fail
    refine (messages_eq c1).mono ?_
    rintro e w1 ⟨rfl, rfl⟩
    go_wp2_with fail
    go_ret
    exact ⟨rfl, rfl⟩
set_option maxHeartbeats 1000000 in
theorem kLenN (w : World) : Calls Tryz.prog 12 #[.pointer none] w fun e w' => e = .returned (.int .i64 0) ∧ w = w' := by
  have hlen := fun ty => mlen_nil w ty
  go_enter Tryz.func12, Tryz.ntmps12
  go_wp2_with fail
  refine (messages_nil _).mono ?_
  rintro e w1 ⟨rfl, rfl⟩
  go_wp2_with fail
  go_ret
  exact ⟨rfl, rfl⟩
set_option maxRecDepth 100000 in
set_option maxHeartbeats 1000000 in
theorem get_raw {s : List UInt8} {mb : Option Nat} (p : Option Addr) (m : Ms) (r : Bool) (hmsg : Hid (∀ w', Below w.heap.size w w' → Calls Tryz.prog 24 #[.pointer p] w' fun e w'' => e = .returned (.map mb) ∧ w' = w''))
    (hlk : Hid (∀ w', Below w.heap.size w w' → (Instr.lookup 42 (.map mb) (.string ⟨s.toArray⟩) true).run Tryz.prog w' = .ok (.tuple #[.agg #[.string ⟨m.1.toArray⟩, .string ⟨m.2.1.toArray⟩, .int .u8 m.2.2.1, .bool m.2.2.2], .bool r]) w')) :
    Calls Tryz.prog 13 #[.pointer p, .string ⟨s.toArray⟩] w fun e w' => e = .returned (.tuple #[.agg #[.string ⟨m.1.toArray⟩, .string ⟨m.2.1.toArray⟩, .int .u8 m.2.2.1, .bool m.2.2.2], .bool r]) ∧ Below w.heap.size w w' := by
  obtain ⟨s1, p1, q1, b1⟩ := m
  dsimp only at hlk ⊢
  obtain ⟨W, hW⟩ : ∃ W, W = w.alloc (.cells #[.string ⟨#[]⟩, .string ⟨#[]⟩, .int .u8 0, .bool false] 32) := ⟨_, rfl⟩
  have hbW : Below w.heap.size w W := by rw [hW]; exact below_alloc (Below.refl _ _) _
  have hX : BxM W w.heap.size ([], [], 0, false) := by rw [hW]; exact BxM.new w ([], [], 0, false)
  have hlk1 := hlk.out W hbW
  have HX := Lib.hid hX
  have z0 := hX.c0; have z1 := hX.c1; have z2 := hX.c2; have z3 := hX.c3; have zf := hX.fr
  dsimp only at z0 z1 z2 z3
  have hlt := hX.lt
  clear hX
  go_enter Tryz.func13, Tryz.ntmps13
  go_wp2_with fail
  rw [← hW]
  clear hW
  refine (hmsg.out W hbW).mono ?_
  rintro e w1 ⟨rfl, rfl⟩
  go_wp2_with fail
  have HY := (((HX.out.set0 s1).set1 p1).set2 q1).set3 b1
  refine ret_ms2 (m := (s1, p1, q1, b1)) 4 5 rfl rfl rfl (HY.below (below_alloc (Below.refl _ _) _)) rfl ⟨rfl, ?_⟩
  have h4 : Below w.heap.size w ((((W.setCell ⟨w.heap.size, 0, none⟩ (.string ⟨s1.toArray⟩)).setCell ⟨w.heap.size, 1, none⟩ (.string ⟨p1.toArray⟩)).setCell ⟨w.heap.size, 2, none⟩ (.int .u8 q1)).setCell ⟨w.heap.size, 3, none⟩ (.bool b1)) :=
    (((hbW.setCell (p := ⟨w.heap.size, 0, none⟩) (Nat.le_refl _) _).setCell (p := ⟨w.heap.size, 1, none⟩) (Nat.le_refl _) _).setCell (p := ⟨w.heap.size, 2, none⟩) (Nat.le_refl _) _).setCell (p := ⟨w.heap.size, 3, none⟩) (Nat.le_refl _) _
  exact below_alloc h4 _
theorem kGet (hP : KP w t F L) (s : List UInt8) (m : Ms) (r : Bool) (hl : s.length ≤ 1000000) (hm : (getM L s).getD zMs = m) (hr : (getM L s).isSome = r) :
    Calls Tryz.prog 13 #[.pointer (some ⟨t, 0, none⟩), .string ⟨s.toArray⟩] w fun e w' => e = .returned (.tuple #[.agg #[.string ⟨m.1.toArray⟩, .string ⟨m.2.1.toArray⟩, .int .u8 m.2.2.1, .bool m.2.2.2], .bool r]) ∧ Below w.heap.size w w' := by
  obtain ⟨mb, c1, c2, c3, c4⟩ := hP
  refine get_raw (mb := mb) (some ⟨t, 0, none⟩) m r (fun w' hb => messages_eq ((hb.cell (World.block_lt_of_cell? _ _ c1)).trans c1)) (fun w' hb => ?_)
  cases mb with
  | none =>
    have h0 : L = [] := c3
    subst h0
    subst hm hr
    exact mlook_nil w' (by unfold maxLen; omega)
  | some bb => exact (c3.2.below hb).look (by unfold maxLen; omega) m r hm hr
theorem kGetN (w : World) (s : List UInt8) (hl : s.length ≤ 1000000) :
    Calls Tryz.prog 13 #[.pointer none, .string ⟨s.toArray⟩] w fun e w' => e = .returned (.tuple #[.agg #[.string ⟨#[]⟩, .string ⟨#[]⟩, .int .u8 0, .bool false], .bool false]) ∧ Below w.heap.size w w' :=
  get_raw (mb := none) none ([], [], 0, false) false (fun w' hb => messages_nil w') (fun w' hb => mlook_nil w' (by unfold maxLen; omega))
theorem kSetN (w : World) (m : Ms) : Calls Tryz.prog 10 #[.pointer none, .agg #[.string ⟨m.1.toArray⟩, .string ⟨m.2.1.toArray⟩, .int .u8 m.2.2.1, .bool m.2.2.2]] w fun e w' => e = .returned (.bool false) ∧ Below w.heap.size w w' := by
  obtain ⟨s, p, q, b⟩ := m
  go_enter Tryz.func10, Tryz.ntmps10
  go_wp2_with fail
  go_ret
  exact ⟨rfl, below_alloc (Below.refl _ _) _⟩
end
end Go.Proofs.YthhadjnffeadfaaGreatDoor
