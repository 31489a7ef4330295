/-
  queue: own, Push, Peek, All, Clear.
-/
import Derived.Test.YtihgikhnkkmhhaaQuQ
import Derived.Test.YtihgikhnkkmhhaaClone
set_option linter.unusedSimpArgs false
set_option linter.unusedVariables false
namespace Go.Proofs.Ytihgikhnkkmhhaa
section
open Go.RowKit
def oQuPush1 : Oper := ({ dst := some 8, op := Go.Op.move (Go.Operand.tmp 0), type := 23, pos := "queue.go:33", after := #[], guard := none } : Oper)
def oQuPush2 : Oper := ({ dst := some 9, op := Go.Op.move (Go.Operand.tmp 0), type := 23, pos := "queue.go:33", after := #[], guard := none } : Oper)
def oQuPush3 : Oper := ({ dst := some 10, op := Go.Op.nilCheck (Go.Operand.tmp 9), type := 0, pos := "queue.go:33", after := #[{ on := 1, ground := Go.Ground.data }], guard := none } : Oper)
def oQuPush4 : Oper := ({ dst := some 11, op := Go.Op.fieldAddr 35 (Go.Operand.tmp 10) 1, type := 0, pos := "queue.go:33", after := #[{ on := 2, ground := Go.Ground.data }], guard := none } : Oper)
def oQuPush5 : Oper := ({ dst := some 12, op := Go.Op.load 30 (Go.Operand.tmp 11), type := 30, pos := "queue.go:33", after := #[{ on := 3, ground := Go.Ground.data }], guard := none } : Oper)
def oQuPush6 : Oper := ({ dst := some 13, op := Go.Op.load 28 (Go.Operand.tmp 3), type := 28, pos := "queue.go:33", after := #[], guard := none } : Oper)
def oQuPush7 : Oper := ({ dst := some 14, op := Go.Op.call { callee := Go.Callee.value (Go.Operand.func 25), args := #[Go.Operand.tmp 13], argTypes := #[28] }, type := 28, pos := "queue.go:33", after := #[{ on := 5, ground := Go.Ground.data }], guard := none } : Oper)
def oQuPush8 : Oper := ({ dst := some 15, op := Go.Op.buildSlice 30 1 #[(0, Go.Operand.tmp 14)], type := 30, pos := "queue.go:33", after := #[{ on := 6, ground := Go.Ground.data }], guard := none } : Oper)
def oQuPush9 : Oper := ({ dst := some 16, op := Go.Op.call { callee := Go.Callee.builtin Go.Builtin.append, args := #[Go.Operand.tmp 12, Go.Operand.tmp 15], argTypes := #[30, 30] }, type := 30, pos := "queue.go:33", after := #[{ on := 4, ground := Go.Ground.data }, { on := 7, ground := Go.Ground.data }, { on := 6, ground := Go.Ground.chain }], guard := none } : Oper)
def oQuPush10 : Oper := ({ dst := some 17, op := Go.Op.nilCheck (Go.Operand.tmp 8), type := 0, pos := "queue.go:33", after := #[{ on := 0, ground := Go.Ground.data }, { on := 0, ground := Go.Ground.phase }, { on := 1, ground := Go.Ground.phase }, { on := 2, ground := Go.Ground.phase }, { on := 3, ground := Go.Ground.phase }, { on := 4, ground := Go.Ground.phase }, { on := 5, ground := Go.Ground.phase }, { on := 6, ground := Go.Ground.phase }, { on := 7, ground := Go.Ground.phase }, { on := 8, ground := Go.Ground.phase }], guard := none } : Oper)
def oQuPush11 : Oper := ({ dst := some 18, op := Go.Op.fieldAddr 35 (Go.Operand.tmp 17) 1, type := 0, pos := "queue.go:33", after := #[{ on := 9, ground := Go.Ground.data }, { on := 0, ground := Go.Ground.phase }, { on := 1, ground := Go.Ground.phase }, { on := 2, ground := Go.Ground.phase }, { on := 3, ground := Go.Ground.phase }, { on := 4, ground := Go.Ground.phase }, { on := 5, ground := Go.Ground.phase }, { on := 6, ground := Go.Ground.phase }, { on := 7, ground := Go.Ground.phase }, { on := 8, ground := Go.Ground.phase }], guard := none } : Oper)
def oQuPush12 : Oper := ({ dst := none, op := Go.Op.store 30 (Go.Operand.tmp 18) (Go.Operand.tmp 16), type := 0, pos := "queue.go:33", after := #[{ on := 10, ground := Go.Ground.data }, { on := 8, ground := Go.Ground.data }, { on := 8, ground := Go.Ground.chain }, { on := 0, ground := Go.Ground.phase }, { on := 1, ground := Go.Ground.phase }, { on := 2, ground := Go.Ground.phase }, { on := 3, ground := Go.Ground.phase }, { on := 4, ground := Go.Ground.phase }, { on := 5, ground := Go.Ground.phase }, { on := 6, ground := Go.Ground.phase }, { on := 7, ground := Go.Ground.phase }, { on := 8, ground := Go.Ground.phase }], guard := none } : Oper)
end
open Go.RowKit

set_option maxHeartbeats 1000000 in
theorem own_any (w : World) (m : Ms) (h1 : m.1.length ≤ 1000000) (h2 : m.2.1.length ≤ 1000000) :
    Calls Try.prog 25 #[.agg #[.string ⟨m.1.toArray⟩, .string ⟨m.2.1.toArray⟩, .int .u8 m.2.2.1, .bool m.2.2.2]] w fun e w' => e = .returned (.agg #[.string ⟨m.1.toArray⟩, .string ⟨m.2.1.toArray⟩, .int .u8 m.2.2.1, .bool m.2.2.2]) ∧ Below w.heap.size w w' := by
  obtain ⟨s, p, q, b⟩ := m
  dsimp only at h1 h2 ⊢
  obtain ⟨W, hW⟩ : ∃ W, W = (w.alloc (.cells #[.string ⟨s.toArray⟩, .string ⟨p.toArray⟩, .int .u8 q, .bool b] 28)).alloc (.cells #[.string ⟨#[]⟩, .string ⟨#[]⟩, .int .u8 0, .bool false] 28) := ⟨_, rfl⟩
  have hbW : Below w.heap.size w W := by rw [hW]; exact below_alloc (below_alloc (Below.refl _ _) _) _
  have hX : BxM W w.heap.size (s, p, q, b) := by rw [hW]; exact (BxM.new w (s, p, q, b)).below (below_alloc (Below.refl _ _) _)
  have hZ : BxM W (w.heap.size + 1) ([], [], 0, false) := by rw [hW]; have := BxM.new (w.alloc (.cells #[.string ⟨s.toArray⟩, .string ⟨p.toArray⟩, .int .u8 q, .bool b] 28)) ([], [], 0, false); rwa [World.size_alloc] at this
  have HX := Lib.hid hX
  have HZ := Lib.hid hZ
  have k1 := hX.c0
  dsimp only at k1
  clear hX hZ
  go_enter Try.func25, Try.ntmps25
  go_wp2_with fail
  rw [← hW]
  refine (clone_any s _ (by omega)).mono ?_
  rintro e w1 ⟨rfl, hb1⟩
  have X1 := HX.out.below hb1
  have X2 := X1.set0 s
  have j1 := X1.c0
  have j2 := X1.fr 0
  have j3 := X2.c1
  have HX2 := Lib.hid X2
  have hne : w.heap.size + 1 ≠ w.heap.size := by omega
  have HZ2 : Hid (BxM (w1.setCell ⟨w.heap.size, 0, none⟩ (.string ⟨s.toArray⟩)) (w.heap.size + 1) ([], [], 0, false)) := (HZ.out.below hb1).other hne
  have hbw1 := hbW.trans (hb1.mono hbW.size)
  have hb2 : Below w.heap.size w (w1.setCell ⟨w.heap.size, 0, none⟩ (.string ⟨s.toArray⟩)) := hbw1.setCell (p := ⟨w.heap.size, 0, none⟩) (Nat.le_refl _) _
  have HB2 := Lib.hid hb2
  dsimp only at j1 j2 j3
  clear X1 X2 hb2 hbw1 hb1 k1
  go_wp2_with fail
  refine (clone_any p _ (by omega)).mono ?_
  rintro e w3 ⟨rfl, hb3⟩
  have X3 := HX2.out.below hb3
  have hbw3 := HB2.out.trans (hb3.mono HB2.out.size)
  have i1 := X3.c1
  have i2 := X3.fr 1
  have X4 := X3.set1 p
  have i5 := X4.c0
  have i6 := X4.c1
  have i7 := X4.c2
  have i8 := X4.c3
  have Z5 : BxM (w3.setCell ⟨w.heap.size, 1, none⟩ (.string ⟨p.toArray⟩)) (w.heap.size + 1) ([], [], 0, false) := (HZ2.out.below hb3).other hne
  have z0 := Z5.c0
  have z1 := Z5.c1
  have z2 := Z5.c2
  have z3 := Z5.c3
  have zf := Z5.fr
  have HQ := Lib.hid Z5
  have HB5 : Hid (Below w.heap.size w (w3.setCell ⟨w.heap.size, 1, none⟩ (.string ⟨p.toArray⟩))) := hbw3.setCell (p := ⟨w.heap.size, 1, none⟩) (Nat.le_refl _) _
  dsimp only at i1 i2 i5 i6 i7 i8 z0 z1 z2 z3
  clear X3 X4 Z5 hb3 j1 j2 j3
  go_wp2_with fail
  refine ret_ms (m := (s, p, q, b)) 2 rfl rfl (((HQ.out.set0 s).set1 p).set2 q |>.set3 b) rfl ⟨rfl, ?_⟩
  exact ((((HB5.out.setCell (p := ⟨w.heap.size + 1, 0, none⟩) (by simp) _).setCell (p := ⟨w.heap.size + 1, 1, none⟩) (by simp) _).setCell (p := ⟨w.heap.size + 1, 2, none⟩) (by simp) _).setCell (p := ⟨w.heap.size + 1, 3, none⟩) (by simp) _)
section
variable {w w' : World} {t M : Nat} {F : Nat → Prop} {D L : List Ms}
/-- What Push, Pop, Clear leave. -/
def PP (w : World) (t : Nat) (F : Nat → Prop) (M : Nat) (L : List Ms) (v : Value) (e : Ending) (w' : World) : Prop :=
  ∃ F', e = .returned v ∧ PQ w' t F' M L ∧ Outs w w' F ∧ ∀ x, F' x → F x ∨ w.heap.size ≤ x
theorem RQ.stored {N : Nat} {A : Option Addr} {c : Nat} {v0 : Value} (h1 : w.heap[t]? = some (.cells #[.int .i64 (M : Nat), v0, .int .i64 (D.length : Nat)] 35 (0, 0))) (h2 : w.ownsRow 0 28 4 (.slice A N c) N (flatM (D ++ L))) (hne : (Value.slice A N c).ownBlock ≠ some t) :
    RQ (w.setCell ⟨t, 1, none⟩ (.slice A N c)) t (fun x => x = t ∨ (Value.slice A N c).ownBlock = some x) M D L := by
  have hN := mrow_len h2
  rw [List.length_append] at hN
  refine ⟨.slice A N c, heap_setCell_same w t 1 _ _ _ h1, ?_, hne, fun x => Iff.rfl⟩
  rw [hN]
  exact vrow_keep h2 (fun b hb => heap_setCell_other w ⟨t, 1, none⟩ b _ (fun e => hne (by rw [hb, e])))
theorem qPush_full (h : PQ w t F M L) (hl : L.length = M) (m : Ms) :
    Calls Try.prog 11 #[.pointer (some ⟨t, 0, none⟩), .agg #[.string ⟨m.1.toArray⟩, .string ⟨m.2.1.toArray⟩, .int .u8 m.2.2.1, .bool m.2.2.2]] w fun e w' => e = .returned (.bool false) ∧ Below w.heap.size w w' := by
  obtain ⟨s, p, q, b⟩ := m
  dsimp only
  obtain ⟨W, hW⟩ : ∃ W, W = w.alloc (.cells #[.string ⟨s.toArray⟩, .string ⟨p.toArray⟩, .int .u8 q, .bool b] 28) := ⟨_, rfl⟩
  have hbW : Below w.heap.size w W := by rw [hW]; exact below_alloc (Below.refl _ _) _
  have H := Lib.hid (qRoom (h.below hbW))
  rw [hl, Nat.sub_self] at H
  clear h
  go_enter Try.func11, Try.ntmps11
  go_wp2_with fail
  rw [← hW]
  refine H.out.mono ?_
  rintro e w1 ⟨rfl, hb1⟩
  go_wp2_with fail
  go_ret
  exact ⟨rfl, hbW.trans (hb1.mono hbW.size)⟩
theorem qPush_no (h : PQ w t F M L) (hl : L.length = M) (m : Ms) :
    Calls Try.prog 11 #[.pointer (some ⟨t, 0, none⟩), .agg #[.string ⟨m.1.toArray⟩, .string ⟨m.2.1.toArray⟩, .int .u8 m.2.2.1, .bool m.2.2.2]] w fun e w' => PP w t F M L (.bool false) e w' :=
  (qPush_full h hl m).mono fun _ _ ⟨he, hb⟩ => ⟨F, he, h.below hb, Outs.of_below hb, fun x hx => Or.inl hx⟩
set_option maxHeartbeats 2000000 in
theorem qPush_yes {w0 : World} (h : PQ w0 t F M L) (hl : L.length < M) (m : Ms) (h1 : m.1.length ≤ 1000000) (h2 : m.2.1.length ≤ 1000000) :
    Calls Try.prog 11 #[.pointer (some ⟨t, 0, none⟩), .agg #[.string ⟨m.1.toArray⟩, .string ⟨m.2.1.toArray⟩, .int .u8 m.2.2.1, .bool m.2.2.2]] w0 fun e w' => PP w0 t F M (L ++ [m]) (.bool true) e w' := by
  obtain ⟨s, p, q, b⟩ := m
  dsimp only at h1 h2 ⊢
  obtain ⟨W, hW⟩ : ∃ W, W = w0.alloc (.cells #[.string ⟨s.toArray⟩, .string ⟨p.toArray⟩, .int .u8 q, .bool b] 28) := ⟨_, rfl⟩
  have hbW : Below w0.heap.size w0 W := by rw [hW]; exact below_alloc (Below.refl _ _) _
  have hX : BxM W w0.heap.size (s, p, q, b) := by rw [hW]; exact BxM.new w0 (s, p, q, b)
  have HP := Lib.hid h
  have HX := Lib.hid hX
  have H := Lib.hid (qRoom (h.below hbW))
  obtain ⟨k, hk⟩ : ∃ k, M - L.length = k := ⟨_, rfl⟩
  rw [hk] at H
  have hk0 : 0 < k := by omega
  have hk1 : ((k : Int) == 0) = false := by simp; omega
  have hM := h.most
  clear h hk hX
  go_enter Try.func11, Try.ntmps11
  go_wp2_with fail
  rw [← hW]
  refine H.out.mono ?_
  rintro e w1 ⟨rfl, hb1⟩
  have hb := hbW.trans (hb1.mono hbW.size)
  have X1 := HX.out.below hb1
  obtain ⟨D, ⟨v, k1, k2, k3, kF⟩, k4, _, _⟩ := HP.out.below hb
  obtain ⟨A, c, rfl, hc, hV, hA, hown⟩ := mrow_form k2
  have c1 := cell_of_row w1 t 1 _ _ _ k1
  have x0 := X1.c0; have x1 := X1.c1; have x2 := X1.c2; have x3 := X1.c3
  dsimp only at x0 x1 x2 x3
  have HK1 := Lib.hid k1
  have HK2 := Lib.hid k2
  have HK3 := Lib.hid k3
  have HKF := Lib.hid kF
  have HB := Lib.hid hb
  have HHW : w0.heap.size < w1.heap.size := X1.lt
  have hdl : D.length ≤ 1024 := by
    rcases k4 with rfl | k4
    · simp
    · omega
  have htl : t < w1.heap.size := (Array.getElem?_eq_some_iff.1 k1).1
  clear k1 k2 k3 kF hb hb1 X1 hV hW
  go_wp2_with fail
  have hHeld : w1.drew.heap[t]? = w1.heap[t]? ∧ w1.drew.heap[w0.heap.size]? = w1.heap[w0.heap.size]? := ⟨rfl, rfl⟩
  refine region_last (S := (fun w' => w'.heap[t]? = w1.heap[t]? ∧ w'.heap[w0.heap.size]? = w1.heap[w0.heap.size]?)) (m := 11) (by kernel_rfl) ?_
  have hLast : LastL .any _ 11 := last_chain (ops := #[oQuPush1, oQuPush2, oQuPush3, oQuPush4, oQuPush5, oQuPush6, oQuPush7, oQuPush8, oQuPush9, oQuPush10, oQuPush11, oQuPush12]) [(10, 11), (9, 10), (0, 9), (1, 9), (2, 9), (3, 9), (4, 9), (5, 9), (6, 9), (7, 9), (8, 9)] (by kernel_rfl)
  refine tkM hLast 0 oQuPush1 ?vv2_5_0 rfl (by kernel_rfl) (by kernel_rfl) (by kernel_rfl) (by rfl) (fun _ _ _ h => h) (by rfl) ?hy2_5_0 (by assumption) ?rest2_5_0
  case hy2_5_0 => (intro w hSw; unfold oQuPush1; (try dsimp only at hSw); (try go_split_ands); go_simp; all_goals with_reducible rfl)
  try simp only [oQuPush1, Act.put, sA, sB, sC]
  refine tkM hLast 1 oQuPush2 ?vv2_5_1 rfl (by kernel_rfl) (by kernel_rfl) (by kernel_rfl) (by rfl) (fun _ _ _ h => h) (by rfl) ?hy2_5_1 (by assumption) ?rest2_5_1
  case hy2_5_1 => (intro w hSw; unfold oQuPush2; (try dsimp only at hSw); (try go_split_ands); go_simp; all_goals with_reducible rfl)
  try simp only [oQuPush2, Act.put, sA, sB, sC]
  refine tkM hLast 2 oQuPush3 ?vv2_5_2 rfl (by kernel_rfl) (by kernel_rfl) (by kernel_rfl) (by rfl) (fun _ _ _ h => h) (by rfl) ?hy2_5_2 (by assumption) ?rest2_5_2
  case hy2_5_2 => (intro w hSw; unfold oQuPush3; (try dsimp only at hSw); (try go_split_ands); go_simp; all_goals with_reducible rfl)
  try simp only [oQuPush3, Act.put, sA, sB, sC]
  refine tkM hLast 3 oQuPush4 ?vv2_5_3 rfl (by kernel_rfl) (by kernel_rfl) (by kernel_rfl) (by rfl) (fun _ _ _ h => h) (by rfl) ?hy2_5_3 (by assumption) ?rest2_5_3
  case hy2_5_3 => (intro w hSw; unfold oQuPush4; (try dsimp only at hSw); (try go_split_ands); go_simp; all_goals with_reducible rfl)
  try simp only [oQuPush4, Act.put, sA, sB, sC]
  refine tkM hLast 4 oQuPush5 ?vv2_6_4 rfl (by kernel_rfl) (by kernel_rfl) (by kernel_rfl) (by rfl) (fun _ _ _ h => h) (by rfl) ?hy2_6_4 (by assumption) ?rest2_6_4
  case hy2_6_4 => (intro w hSw; unfold oQuPush5; (try dsimp only at hSw); have q9 := (World.cell?_of_block (a := ⟨t, 1, none⟩) hSw.1).trans c1; clear hSw; go_simp; all_goals with_reducible rfl)
  try simp only [oQuPush5, Act.put, sA, sB, sC]
  refine tkM hLast 5 oQuPush6 ?vv2_7_5 rfl (by kernel_rfl) (by kernel_rfl) (by kernel_rfl) (by rfl) (fun _ _ _ h => h) (by rfl) ?hy2_7_5 (by assumption) ?rest2_7_5
  case hy2_7_5 => (intro w hSw; unfold oQuPush6; (try dsimp only at hSw); have q0 := (World.cell?_of_block (a := ⟨w0.heap.size, 0, none⟩) hSw.2).trans x0; have q1 := (World.cell?_of_block (a := ⟨w0.heap.size, 1, none⟩) hSw.2).trans x1; have q2 := (World.cell?_of_block (a := ⟨w0.heap.size, 2, none⟩) hSw.2).trans x2; have q3 := (World.cell?_of_block (a := ⟨w0.heap.size, 3, none⟩) hSw.2).trans x3; clear hSw; go_simp; all_goals with_reducible rfl)
  try simp only [oQuPush6, Act.put, sA, sB, sC]
  refine anyM_ready (rs := [6]) (by kernel_rfl) (by simp) ?_
  refine (AllM.cons (o := oQuPush7) rfl (fun K hK => ?_) AllM.nil)
  unfold oQuPush7
  go_simp
  (go_at_call 25; refine (own_any w1.drew (s, p, q, b) h1 h2).mono ?_; rintro e w6 ⟨rfl, hb6⟩)
  refine anyM_go hK (by exact ⟨(hb6.block t htl).trans hHeld.1, (hb6.block _ HHW).trans hHeld.2⟩) (fun hHeld => ?_)
  clear hK K
  try simp only [oQuPush7, Act.put, sA, sB, sC]
  have hs6 := hb6.size
  have hr6 := (own_below (B := 0) HK2.out ((Below.refl w1.heap.size w1).drew.trans hb6)).alloc (.cells #[.string ⟨s.toArray⟩, .string ⟨p.toArray⟩, .int .u8 q, .bool b] 28)
  obtain ⟨A', c', w8, hrun, hown8, hgr, hat⟩ := m_append (ty := 30) hr6 (Nat.zero_le _) (some ⟨w6.heap.size, 0, none⟩) 1 1 [(s, p, q, b)] (msgs_new w6 (s, p, q, b) _) (fun e => by cases e) (by omega)
  have htb : some t ≠ (Value.slice A (D.length + L.length) c).ownBlock := fun e => HK3.out e.symm
  have htl6 : t < w6.heap.size := Nat.lt_of_lt_of_le htl hs6
  have hwl6 : w0.heap.size < w6.heap.size := Nat.lt_of_lt_of_le HHW hs6
  refine anyM_ready (rs := [7]) (by kernel_rfl) (by simp) ?_
  refine (AllM.cons (o := oQuPush8) rfl (fun K hK => ?_) AllM.nil)
  unfold oQuPush8
  go_simp
  refine anyM_go hK (by exact ⟨(Below.heap_alloc w6 _ t htl6).trans hHeld.1, (Below.heap_alloc w6 _ w0.heap.size hwl6).trans hHeld.2⟩) (fun hHeld => ?_)
  clear hK K
  try simp only [oQuPush8, Act.put, sA, sB, sC]
  have HAT := Lib.hid hat
  have HROW := Lib.hid hown8
  have HGR := Lib.hid hgr
  have hb8 := (hgr.block t (by simp; omega) htb).trans hHeld.1
  have HB8 := Lib.hid hb8
  have hwb : some w0.heap.size ≠ (Value.slice A (D.length + L.length) c).ownBlock := fun e => by have := HP.out.lt w0.heap.size ((HKF.out _).2 (Or.inr e.symm)); omega
  refine anyM_ready (rs := [8]) (by kernel_rfl) (by simp) ?_
  refine (AllM.cons (o := oQuPush9) rfl (fun K hK => ?_) AllM.nil)
  (refine step_vapp rfl _ _ _ rfl rfl rfl hrun ?_)
  refine anyM_go hK (by exact ⟨HB8.out, (HGR.out.block w0.heap.size (by simp; omega) hwb).trans hHeld.2⟩) (fun hHeld => ?_)
  clear hK K
  try simp only [oQuPush9, Act.put, sA, sB, sC]
  have g1 := (World.cell?_of_block (a := ⟨t, 1, none⟩) HB8.out).trans c1
  have g2 : w8.frozen? ⟨t, 1, none⟩ = false := by unfold World.frozen?; rw [show w8.heap[t]? = _ from HB8.out.trans HK1.out]; simp
  have hO8 : Outs w0 w8 F := ((Outs.of_below (HB.out.trans (((Below.refl w1.heap.size w1).drew.trans hb6).mono HB.out.size))).more (below_alloc (Below.refl _ _) (.cells #[.string ⟨s.toArray⟩, .string ⟨p.toArray⟩, .int .u8 q, .bool b] 28))).trans (Outs.grown HGR.out (F := F) (fun x hx => (HKF.out x).2 (Or.inr hx))) (fun _ _ h => h)
  have HO8 := Lib.hid hO8
  have hne8 : (Value.slice A' (D.length + L.length + 1) c').ownBlock ≠ some t := fun e => by
    rcases HAT.out with h | h
    · exact HK3.out (h ▸ e)
    · rw [e] at h
      injection h with h
      simp at h
      omega
  have HNE8 := Lib.hid hne8
  clear hrun hown8 hgr hat hb8 hr6 hb6 hO8 hne8 hwb
  refine tkM hLast 9 oQuPush10 ?vv2_8_9 rfl (by kernel_rfl) (by kernel_rfl) (by kernel_rfl) (by rfl) (fun _ _ _ h => h) (by rfl) ?hy2_8_9 (by assumption) ?rest2_8_9
  case hy2_8_9 => (intro w hSw; unfold oQuPush10; (try dsimp only at hSw); (try go_split_ands); go_simp; all_goals with_reducible rfl)
  try simp only [oQuPush10, Act.put, sA, sB, sC]
  refine tkM hLast 10 oQuPush11 ?vv2_8_10 rfl (by kernel_rfl) (by kernel_rfl) (by kernel_rfl) (by rfl) (fun _ _ _ h => h) (by rfl) ?hy2_8_10 (by assumption) ?rest2_8_10
  case hy2_8_10 => (intro w hSw; unfold oQuPush11; (try dsimp only at hSw); (try go_split_ands); go_simp; all_goals with_reducible rfl)
  try simp only [oQuPush11, Act.put, sA, sB, sC]
  refine anyM_ready (rs := [11]) (by kernel_rfl) (by simp) ?_
  refine (AllM.cons (o := oQuPush12) rfl (fun K hK => ?_) AllM.nil)
  unfold oQuPush12
  go_simp
  refine hK.out _ _ (fun hne => absurd rfl hne) ?_
  clear hK K
  try simp only [oQuPush12, Act.put, sA, sB, sC]
  refine anyM_done (by kernel_rfl) ?_ _
  go_wp2_with fail
  go_ret
  refine ⟨_, rfl, ⟨D, RQ.stored (HB8.out.trans HK1.out) (by have := HROW.out; rwa [List.append_assoc] at this) HNE8.out, ?_, ?_, hM⟩, HO8.out.setCell t 1 ((HKF.out t).2 (Or.inl rfl)) _, fun x hx => ?_⟩
  · rw [List.length_append, List.length_singleton]
    rcases k4 with rfl | k4
    · exact Or.inl rfl
    · exact Or.inr (by omega)
  · rw [List.length_append, List.length_singleton]; omega
  · rcases hx with rfl | hx
    · exact Or.inl ((HKF.out x).2 (Or.inl rfl))
    · rcases HAT.out with h | h
      · exact Or.inl ((HKF.out x).2 (Or.inr (h ▸ hx)))
      · rw [hx] at h
        injection h with h
        simp at h
        exact Or.inr (by omega)
end
end Go.Proofs.Ytihgikhnkkmhhaa
