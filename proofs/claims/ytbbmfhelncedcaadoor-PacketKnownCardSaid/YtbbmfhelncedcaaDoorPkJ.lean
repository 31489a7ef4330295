/-
  packet's statements: what their helpers answer.
-/
import Derived.Test.YtbbmfhelncedcaaDoorPkG
import Derived.Test.YtbbmfhelncedcaaDoorPkI
set_option linter.unusedSimpArgs false
set_option linter.unusedVariables false
namespace Go.Proofs.YtbbmfhelncedcaaDoor
open Go.RowKit
theorem restLaw_yes (p : Pk) (A : Option Addr) (n c : Nat) (xs : List (List UInt8 × Int)) (v : Int) (w : World) (hG : Glo w) (hs : Subs w A n xs) (hf : Fit p xs) (h : restN p xs = v) :
    Calls Tryd.prog 9 #[.agg (PkC p A n c), .int .i64 v] w fun e w' => e = .returned (.bool true) ∧ Below w.heap.size w w' := by
  have hK0 := (Kp.nil w).new (PkC p A n c) 27
  have HG := Lib.hid hG
  have HS := Lib.hid hs
  have HF := Lib.hid hf
  have H := Lib.hid h
  have HR : Hid (decide (0 ≤ restN p xs) = decide (0 ≤ v)) := by show _ = _; rw [h]
  clear hG hs hf h
  go_enter Tryd.func9, Tryd.ntmps9
  go_wp2_with fail
  refine (rest_eq p A n c xs v _ (HG.out.below hK0.below) (HS.out.below hK0.below) HF.out H.out).mono ?_
  rintro e w6 ⟨rfl, hb6⟩
  have hP := hK0.more hb6
  clear hb6 hK0
  have p1r := hP.row; have p1f := hP.free; have p1c := hP.cell; have p1l := hP.lt; have p1z := hP.froz
  go_wp2_with fail
  refine (right_eq p A n c xs (decide (0 ≤ v)) _ (HG.out.below hP.below) (HS.out.below hP.below) HF.out HR.out).mono ?_
  rintro e w7 ⟨rfl, hb7⟩
  have hQ := hP.more hb7
  clear p1r p1f p1c p1z p1l hb7
  go_wp2_with fail
  go_ret
  exact ⟨by simp, hQ.below⟩
@[go_sem] theorem foldl_SbC (a f : List UInt8) (b q : Int) : Array.foldl (fun (cs : Array Value) (x : Value × Nat) => cs.setIfInBounds x.snd x.fst) (SbC a b) (SbC f q).zipIdx 0 2 = SbC f q := by simp [SbC]
theorem subs_one {w : World} {g : Nat} {f : List UInt8} {q : Int} (h : rowAt w g = SbC f q) (hg : g < w.heap.size) : Subs w (some ⟨g, 0, none⟩) 1 [(f, q)] := by
  refine ⟨rfl, fun _ => ⟨g, 0, rfl, hg, fun j x hx => ?_⟩⟩
  match j, hx with
  | 0, hx =>
    cases hx
    rw [h]
    exact ⟨by simp, by simp⟩
  | j + 1, hx => simp at hx
def awC : Pk := ((zPk.s_ty 1).s_level 4).s_client [99]
def awP : Pk := (((zPk.s_ty 3).s_topic [97, 47, 98]).s_load [104, 105]).s_qos 1
def awQ : Pk := awP.s_id 7
def awS : Pk := (zPk.s_ty 8).s_id 1
theorem awC_n : restN awC [] = 13 := by decide +kernel
theorem awP_n : restN awP [] = -1 := by decide +kernel
theorem awQ_n : restN awQ [] = 9 := by decide +kernel
theorem awS_n : restN awS [([97, 47, 43], 0)] = 8 := by decide +kernel
theorem awPQ : (eqPk awP awQ && ([] : List (List UInt8 × Int)) == []) = false := by decide +kernel
theorem awSS : (eqPk awS awS && ([([97, 47, 43], 0)] : List (List UInt8 × Int)) == [([97, 47, 43], 0)]) = true := by decide +kernel
theorem awC_f : Fit awC [] := by constructor <;> decide
theorem awP_f : Fit awP [] := by constructor <;> decide
theorem awQ_f : Fit awQ [] := by constructor <;> decide
theorem awS_f : Fit awS [([97, 47, 43], 0)] := by constructor <;> decide
set_option maxHeartbeats 2000000 in
theorem awake_any (w : World) (hG : Glo w) :
    Calls Tryd.prog 10 #[] w fun e w' => e = .returned (.bool true) ∧ Below w.heap.size w w' := by
  have HG := Lib.hid hG
  clear hG
  have hK0 := ((((Kp.nil w).new (PkC awP none 0 0) 27).new (PkC awQ none 0 0) 27).new (SbC [97, 47, 43] 0) 31).new (PkC awS (some ⟨w.heap.size + 1 + 1, 0, none⟩) 1 1) 27
  simp only [World.size_alloc] at hK0
  go_enter Tryd.func10, Tryd.ntmps10
  go_wp2_with fail
  obtain ⟨wv, hwv⟩ : ∃ wv : World, wv = ((((w.alloc (.cells (PkC awP none 0 0) 27)).alloc (.cells (PkC awQ none 0 0) 27)).alloc (.cells (SbC [97, 47, 43] 0) 31)).alloc (.cells (PkC awS (some ⟨w.heap.size + 1 + 1, 0, none⟩) 1 1) 27)) := ⟨_, rfl⟩
  change Code.wp _ _ _ _ ((((w.alloc (.cells (PkC awP none 0 0) 27)).alloc (.cells (PkC awQ none 0 0) 27)).alloc (.cells (SbC [97, 47, 43] 0) 31)).alloc (.cells (PkC awS (some ⟨w.heap.size + 1 + 1, 0, none⟩) 1 1) 27))
  rw [← hwv] at hK0 ⊢
  refine wp_region_held_drew (S := Kp w [(w.heap.size + 1 + 1 + 1, PkC awS (some ⟨w.heap.size + 1 + 1, 0, none⟩) 1 1, 27), (w.heap.size + 1 + 1, SbC [97, 47, 43] 0, 31), (w.heap.size + 1, PkC awQ none 0 0, 27), (w.heap.size, PkC awP none 0 0, 27)]) (by kernel_rfl) hK0.drew (fun hHeld => ?_)
  obtain ⟨wd, hwd⟩ : ∃ wd : World, wd = wv.drew := ⟨_, rfl⟩
  rw [← hwd] at hHeld ⊢
  clear hwd hwv hK0
  refine wpAnyH_take (i := 0) (oi := ({ dst := some 10, op := Go.Op.build 27 #[(0, Go.Operand.const (Go.Value.int Go.IntKind.u8 1)), (7, Go.Operand.const (Go.Value.int Go.IntKind.u8 4)), (10, Go.Operand.const (Go.Value.string { data := #[99] }))], type := 27, pos := "law.go:19", after := #[], guard := none } : Oper)) (v := ?vw214) rfl (by kernel_rfl) (by kernel_rfl) (by kernel_rfl) (fun _ _ _ h => h) (Or.inl ⟨by rfl, ?hz214⟩) (by assumption) ?rs214
  case hz214 => (intro wz hSw; (try have hq1 := hSw.tail.cell); (try have hq2 := hSw.tail.tail.cell); (try have hq3 := hSw.cell); (try have hq4 := hSw.tail.row); (try have hq5 := hSw.tail.tail.row); (try have hq6 := hSw.row); (try have hq7 := hSw.tail.tail.tail.row); (try clear hSw); go_simp; all_goals with_reducible rfl)
  try simp only [Act.put, List.setIfInBounds_toArray, List.set_cons_zero, List.set_cons_succ]
  refine wpAnyH_ready (rs := [1]) (by kernel_rfl) (by simp) ?_
  refine (AllReadyH.cons (o := ({ dst := some 11, op := Go.Op.call { callee := Go.Callee.value (Go.Operand.func 9), args := #[Go.Operand.tmp 10, Go.Operand.const (Go.Value.int Go.IntKind.i64 13)], argTypes := #[27, 3] }, type := 4, pos := "law.go:19", after := #[{ on := 0, ground := Go.Ground.data }], guard := none } : Oper)) rfl (fun K hK => ?_) AllReadyH.nil)
  go_simp
  (go_at_call 9; refine (restLaw_yes awC none 0 0 [] 13 _ (HG.out.below hHeld.below) (Subs.nil _) awC_f awC_n).mono ?_; rintro e w6 ⟨rfl, hb6⟩)
  refine hK.out _ _ (by first | exact hHeld.more hb6 | exact hHeld | exact below_more hHeld hb6) (fun hHeld1 => ?_)
  clear hHeld; have hHeld := hHeld1; clear hHeld1 hK K
  try simp only [Act.put, List.setIfInBounds_toArray, List.set_cons_zero, List.set_cons_succ]
  refine wpAnyH_take (i := 2) (oi := ({ dst := some 12, op := Go.Op.move (Go.Operand.tmp 11), type := 4, pos := "law.go:19", after := #[{ on := 1, ground := Go.Ground.data }, { on := 1, ground := Go.Ground.chain }], guard := none } : Oper)) (v := ?vw215) rfl (by kernel_rfl) (by kernel_rfl) (by kernel_rfl) (fun _ _ _ h => h) (Or.inl ⟨by rfl, ?hz215⟩) (by assumption) ?rs215
  case hz215 => (intro wz hSw; (try have hq1 := hSw.tail.cell); (try have hq2 := hSw.tail.tail.cell); (try have hq3 := hSw.cell); (try have hq4 := hSw.tail.row); (try have hq5 := hSw.tail.tail.row); (try have hq6 := hSw.row); (try have hq7 := hSw.tail.tail.tail.row); (try clear hSw); go_simp; all_goals with_reducible rfl)
  try simp only [Act.put, List.setIfInBounds_toArray, List.set_cons_zero, List.set_cons_succ]
  refine wpAnyH_take (i := 3) (oi := ({ dst := some 13, op := Go.Op.load 27 (Go.Operand.tmp 1), type := 27, pos := "law.go:19", after := #[{ on := 2, ground := Go.Ground.guard }], guard := some (2, true) } : Oper)) (v := ?vw216) rfl (by kernel_rfl) (by kernel_rfl) (by kernel_rfl) (fun _ _ _ h => h) (Or.inl ⟨by rfl, ?hz216⟩) (by assumption) ?rs216
  case hz216 => (intro wz hSw; (try have hq1 := hSw.tail.cell); (try have hq2 := hSw.tail.tail.cell); (try have hq3 := hSw.cell); (try have hq4 := hSw.tail.row); (try have hq5 := hSw.tail.tail.row); (try have hq6 := hSw.row); (try have hq7 := hSw.tail.tail.tail.row); (try clear hSw); go_simp; all_goals with_reducible rfl)
  try simp only [Act.put, List.setIfInBounds_toArray, List.set_cons_zero, List.set_cons_succ]
  refine wpAnyH_ready (rs := [4]) (by kernel_rfl) (by simp) ?_
  refine (AllReadyH.cons (o := ({ dst := some 14, op := Go.Op.call { callee := Go.Callee.value (Go.Operand.func 9), args := #[Go.Operand.tmp 13, Go.Operand.const (Go.Value.int Go.IntKind.i64 (-1))], argTypes := #[27, 3] }, type := 4, pos := "law.go:19", after := #[{ on := 3, ground := Go.Ground.data }, { on := 2, ground := Go.Ground.chain }, { on := 2, ground := Go.Ground.guard }], guard := some (2, true) } : Oper)) rfl (fun K hK => ?_) AllReadyH.nil)
  go_simp
  (go_at_call 9; refine (restLaw_yes awP none 0 0 [] (-1) _ (HG.out.below hHeld.below) (Subs.nil _) awP_f awP_n).mono ?_; rintro e w6 ⟨rfl, hb6⟩)
  refine hK.out _ _ (by first | exact hHeld.more hb6 | exact hHeld | exact below_more hHeld hb6) (fun hHeld1 => ?_)
  clear hHeld; have hHeld := hHeld1; clear hHeld1 hK K
  try simp only [Act.put, List.setIfInBounds_toArray, List.set_cons_zero, List.set_cons_succ]
  refine wpAnyH_take (i := 5) (oi := ({ dst := some 15, op := Go.Op.pick (Go.Operand.tmp 12) (Go.Operand.tmp 14) (Go.Operand.const (Go.Value.bool false)), type := 4, pos := "law.go:19", after := #[{ on := 2, ground := Go.Ground.data }, { on := 4, ground := Go.Ground.data }], guard := none } : Oper)) (v := ?vw217) rfl (by kernel_rfl) (by kernel_rfl) (by kernel_rfl) (fun _ _ _ h => h) (Or.inl ⟨by rfl, ?hz217⟩) (by assumption) ?rs217
  case hz217 => (intro wz hSw; (try have hq1 := hSw.tail.cell); (try have hq2 := hSw.tail.tail.cell); (try have hq3 := hSw.cell); (try have hq4 := hSw.tail.row); (try have hq5 := hSw.tail.tail.row); (try have hq6 := hSw.row); (try have hq7 := hSw.tail.tail.tail.row); (try clear hSw); go_simp; all_goals with_reducible rfl)
  try simp only [Act.put, List.setIfInBounds_toArray, List.set_cons_zero, List.set_cons_succ]
  refine wpAnyH_take (i := 6) (oi := ({ dst := some 16, op := Go.Op.move (Go.Operand.tmp 15), type := 4, pos := "law.go:19", after := #[{ on := 5, ground := Go.Ground.data }, { on := 4, ground := Go.Ground.chain }], guard := none } : Oper)) (v := ?vw218) rfl (by kernel_rfl) (by kernel_rfl) (by kernel_rfl) (fun _ _ _ h => h) (Or.inl ⟨by rfl, ?hz218⟩) (by assumption) ?rs218
  case hz218 => (intro wz hSw; (try have hq1 := hSw.tail.cell); (try have hq2 := hSw.tail.tail.cell); (try have hq3 := hSw.cell); (try have hq4 := hSw.tail.row); (try have hq5 := hSw.tail.tail.row); (try have hq6 := hSw.row); (try have hq7 := hSw.tail.tail.tail.row); (try clear hSw); go_simp; all_goals with_reducible rfl)
  try simp only [Act.put, List.setIfInBounds_toArray, List.set_cons_zero, List.set_cons_succ]
  refine wpAnyH_take (i := 7) (oi := ({ dst := some 17, op := Go.Op.load 27 (Go.Operand.tmp 2), type := 27, pos := "law.go:19", after := #[{ on := 6, ground := Go.Ground.guard }], guard := some (6, true) } : Oper)) (v := ?vw219) rfl (by kernel_rfl) (by kernel_rfl) (by kernel_rfl) (fun _ _ _ h => h) (Or.inl ⟨by rfl, ?hz219⟩) (by assumption) ?rs219
  case hz219 => (intro wz hSw; (try have hq1 := hSw.tail.cell); (try have hq2 := hSw.tail.tail.cell); (try have hq3 := hSw.cell); (try have hq4 := hSw.tail.row); (try have hq5 := hSw.tail.tail.row); (try have hq6 := hSw.row); (try have hq7 := hSw.tail.tail.tail.row); (try clear hSw); go_simp; all_goals with_reducible rfl)
  try simp only [Act.put, List.setIfInBounds_toArray, List.set_cons_zero, List.set_cons_succ]
  refine wpAnyH_ready (rs := [8]) (by kernel_rfl) (by simp) ?_
  refine (AllReadyH.cons (o := ({ dst := some 18, op := Go.Op.call { callee := Go.Callee.value (Go.Operand.func 9), args := #[Go.Operand.tmp 17, Go.Operand.const (Go.Value.int Go.IntKind.i64 9)], argTypes := #[27, 3] }, type := 4, pos := "law.go:19", after := #[{ on := 7, ground := Go.Ground.data }, { on := 6, ground := Go.Ground.chain }, { on := 6, ground := Go.Ground.guard }], guard := some (6, true) } : Oper)) rfl (fun K hK => ?_) AllReadyH.nil)
  go_simp
  (go_at_call 9; refine (restLaw_yes awQ none 0 0 [] 9 _ (HG.out.below hHeld.below) (Subs.nil _) awQ_f awQ_n).mono ?_; rintro e w6 ⟨rfl, hb6⟩)
  refine hK.out _ _ (by first | exact hHeld.more hb6 | exact hHeld | exact below_more hHeld hb6) (fun hHeld1 => ?_)
  clear hHeld; have hHeld := hHeld1; clear hHeld1 hK K
  try simp only [Act.put, List.setIfInBounds_toArray, List.set_cons_zero, List.set_cons_succ]
  refine wpAnyH_take (i := 9) (oi := ({ dst := some 19, op := Go.Op.pick (Go.Operand.tmp 16) (Go.Operand.tmp 18) (Go.Operand.const (Go.Value.bool false)), type := 4, pos := "law.go:19", after := #[{ on := 6, ground := Go.Ground.data }, { on := 8, ground := Go.Ground.data }], guard := none } : Oper)) (v := ?vw220) rfl (by kernel_rfl) (by kernel_rfl) (by kernel_rfl) (fun _ _ _ h => h) (Or.inl ⟨by rfl, ?hz220⟩) (by assumption) ?rs220
  case hz220 => (intro wz hSw; (try have hq1 := hSw.tail.cell); (try have hq2 := hSw.tail.tail.cell); (try have hq3 := hSw.cell); (try have hq4 := hSw.tail.row); (try have hq5 := hSw.tail.tail.row); (try have hq6 := hSw.row); (try have hq7 := hSw.tail.tail.tail.row); (try clear hSw); go_simp; all_goals with_reducible rfl)
  try simp only [Act.put, List.setIfInBounds_toArray, List.set_cons_zero, List.set_cons_succ]
  refine wpAnyH_take (i := 10) (oi := ({ dst := some 20, op := Go.Op.move (Go.Operand.tmp 19), type := 4, pos := "law.go:19", after := #[{ on := 9, ground := Go.Ground.data }, { on := 8, ground := Go.Ground.chain }], guard := none } : Oper)) (v := ?vw221) rfl (by kernel_rfl) (by kernel_rfl) (by kernel_rfl) (fun _ _ _ h => h) (Or.inl ⟨by rfl, ?hz221⟩) (by assumption) ?rs221
  case hz221 => (intro wz hSw; (try have hq1 := hSw.tail.cell); (try have hq2 := hSw.tail.tail.cell); (try have hq3 := hSw.cell); (try have hq4 := hSw.tail.row); (try have hq5 := hSw.tail.tail.row); (try have hq6 := hSw.row); (try have hq7 := hSw.tail.tail.tail.row); (try clear hSw); go_simp; all_goals with_reducible rfl)
  try simp only [Act.put, List.setIfInBounds_toArray, List.set_cons_zero, List.set_cons_succ]
  refine wpAnyH_take (i := 11) (oi := ({ dst := some 21, op := Go.Op.load 27 (Go.Operand.tmp 3), type := 27, pos := "law.go:19", after := #[{ on := 10, ground := Go.Ground.guard }], guard := some (10, true) } : Oper)) (v := ?vw222) rfl (by kernel_rfl) (by kernel_rfl) (by kernel_rfl) (fun _ _ _ h => h) (Or.inl ⟨by rfl, ?hz222⟩) (by assumption) ?rs222
  case hz222 => (intro wz hSw; (try have hq1 := hSw.tail.cell); (try have hq2 := hSw.tail.tail.cell); (try have hq3 := hSw.cell); (try have hq4 := hSw.tail.row); (try have hq5 := hSw.tail.tail.row); (try have hq6 := hSw.row); (try have hq7 := hSw.tail.tail.tail.row); (try clear hSw); go_simp; all_goals with_reducible rfl)
  try simp only [Act.put, List.setIfInBounds_toArray, List.set_cons_zero, List.set_cons_succ]
  refine wpAnyH_ready (rs := [12]) (by kernel_rfl) (by simp) ?_
  refine (AllReadyH.cons (o := ({ dst := some 22, op := Go.Op.call { callee := Go.Callee.value (Go.Operand.func 9), args := #[Go.Operand.tmp 21, Go.Operand.const (Go.Value.int Go.IntKind.i64 8)], argTypes := #[27, 3] }, type := 4, pos := "law.go:19", after := #[{ on := 11, ground := Go.Ground.data }, { on := 10, ground := Go.Ground.chain }, { on := 10, ground := Go.Ground.guard }], guard := some (10, true) } : Oper)) rfl (fun K hK => ?_) AllReadyH.nil)
  go_simp
  (go_at_call 9; refine (restLaw_yes awS _ 1 1 [([97, 47, 43], 0)] 8 _ (HG.out.below hHeld.below) (subs_one hHeld.tail.row hHeld.tail.lt) awS_f awS_n).mono ?_; rintro e w6 ⟨rfl, hb6⟩)
  refine hK.out _ _ (by first | exact hHeld.more hb6 | exact hHeld | exact below_more hHeld hb6) (fun hHeld1 => ?_)
  clear hHeld; have hHeld := hHeld1; clear hHeld1 hK K
  try simp only [Act.put, List.setIfInBounds_toArray, List.set_cons_zero, List.set_cons_succ]
  refine wpAnyH_take (i := 13) (oi := ({ dst := some 23, op := Go.Op.pick (Go.Operand.tmp 20) (Go.Operand.tmp 22) (Go.Operand.const (Go.Value.bool false)), type := 4, pos := "law.go:19", after := #[{ on := 10, ground := Go.Ground.data }, { on := 12, ground := Go.Ground.data }], guard := none } : Oper)) (v := ?vw223) rfl (by kernel_rfl) (by kernel_rfl) (by kernel_rfl) (fun _ _ _ h => h) (Or.inl ⟨by rfl, ?hz223⟩) (by assumption) ?rs223
  case hz223 => (intro wz hSw; (try have hq1 := hSw.tail.cell); (try have hq2 := hSw.tail.tail.cell); (try have hq3 := hSw.cell); (try have hq4 := hSw.tail.row); (try have hq5 := hSw.tail.tail.row); (try have hq6 := hSw.row); (try have hq7 := hSw.tail.tail.tail.row); (try clear hSw); go_simp; all_goals with_reducible rfl)
  try simp only [Act.put, List.setIfInBounds_toArray, List.set_cons_zero, List.set_cons_succ]
  refine wpAnyH_take (i := 14) (oi := ({ dst := some 24, op := Go.Op.move (Go.Operand.tmp 23), type := 4, pos := "law.go:19", after := #[{ on := 13, ground := Go.Ground.data }, { on := 12, ground := Go.Ground.chain }], guard := none } : Oper)) (v := ?vw224) rfl (by kernel_rfl) (by kernel_rfl) (by kernel_rfl) (fun _ _ _ h => h) (Or.inl ⟨by rfl, ?hz224⟩) (by assumption) ?rs224
  case hz224 => (intro wz hSw; (try have hq1 := hSw.tail.cell); (try have hq2 := hSw.tail.tail.cell); (try have hq3 := hSw.cell); (try have hq4 := hSw.tail.row); (try have hq5 := hSw.tail.tail.row); (try have hq6 := hSw.row); (try have hq7 := hSw.tail.tail.tail.row); (try clear hSw); go_simp; all_goals with_reducible rfl)
  try simp only [Act.put, List.setIfInBounds_toArray, List.set_cons_zero, List.set_cons_succ]
  refine wpAnyH_take (i := 15) (oi := ({ dst := some 25, op := Go.Op.load 27 (Go.Operand.tmp 3), type := 27, pos := "law.go:19", after := #[{ on := 14, ground := Go.Ground.guard }], guard := some (14, true) } : Oper)) (v := ?vw225) rfl (by kernel_rfl) (by kernel_rfl) (by kernel_rfl) (fun _ _ _ h => h) (Or.inl ⟨by rfl, ?hz225⟩) (by assumption) ?rs225
  case hz225 => (intro wz hSw; (try have hq1 := hSw.tail.cell); (try have hq2 := hSw.tail.tail.cell); (try have hq3 := hSw.cell); (try have hq4 := hSw.tail.row); (try have hq5 := hSw.tail.tail.row); (try have hq6 := hSw.row); (try have hq7 := hSw.tail.tail.tail.row); (try clear hSw); go_simp; all_goals with_reducible rfl)
  try simp only [Act.put, List.setIfInBounds_toArray, List.set_cons_zero, List.set_cons_succ]
  refine wpAnyH_take (i := 16) (oi := ({ dst := some 26, op := Go.Op.load 27 (Go.Operand.tmp 3), type := 27, pos := "law.go:19", after := #[{ on := 14, ground := Go.Ground.guard }], guard := some (14, true) } : Oper)) (v := ?vw226) rfl (by kernel_rfl) (by kernel_rfl) (by kernel_rfl) (fun _ _ _ h => h) (Or.inl ⟨by rfl, ?hz226⟩) (by assumption) ?rs226
  case hz226 => (intro wz hSw; (try have hq1 := hSw.tail.cell); (try have hq2 := hSw.tail.tail.cell); (try have hq3 := hSw.cell); (try have hq4 := hSw.tail.row); (try have hq5 := hSw.tail.tail.row); (try have hq6 := hSw.row); (try have hq7 := hSw.tail.tail.tail.row); (try clear hSw); go_simp; all_goals with_reducible rfl)
  try simp only [Act.put, List.setIfInBounds_toArray, List.set_cons_zero, List.set_cons_succ]
  refine wpAnyH_ready (rs := [17]) (by kernel_rfl) (by simp) ?_
  refine (AllReadyH.cons (o := ({ dst := some 27, op := Go.Op.call { callee := Go.Callee.value (Go.Operand.func 17), args := #[Go.Operand.tmp 26], argTypes := #[27] }, type := 27, pos := "law.go:19", after := #[{ on := 16, ground := Go.Ground.data }, { on := 14, ground := Go.Ground.chain }, { on := 14, ground := Go.Ground.guard }], guard := some (14, true) } : Oper)) rfl (fun K hK => ?_) AllReadyH.nil)
  go_simp
  (go_at_call 17; refine (copy_any awS _ 1 1 [([97, 47, 43], 0)] _ (subs_one hHeld.tail.row hHeld.tail.lt) (fun h => by cases h) (by omega)).mono ?_; rintro e w6 ⟨A', c', rfl, hb6, hS6, hc6, hlo6⟩)
  refine hK.out _ _ (by first | exact hHeld.more hb6 | exact hHeld | exact below_more hHeld hb6) (fun hHeld1 => ?_)
  clear hHeld; have hHeld := hHeld1; clear hHeld1 hK K
  try simp only [Act.put, List.setIfInBounds_toArray, List.set_cons_zero, List.set_cons_succ]
  refine wpAnyH_ready (rs := [18]) (by kernel_rfl) (by simp) ?_
  refine (AllReadyH.cons (o := ({ dst := some 28, op := Go.Op.call { callee := Go.Callee.value (Go.Operand.func 18), args := #[Go.Operand.tmp 25, Go.Operand.tmp 27], argTypes := #[27, 27] }, type := 4, pos := "law.go:19", after := #[{ on := 15, ground := Go.Ground.data }, { on := 17, ground := Go.Ground.data }, { on := 17, ground := Go.Ground.chain }, { on := 14, ground := Go.Ground.guard }], guard := some (14, true) } : Oper)) rfl (fun K hK => ?_) AllReadyH.nil)
  go_simp
  (go_at_call 18; refine (same_eq awS awS _ _ 1 1 1 _ [([97, 47, 43], 0)] [([97, 47, 43], 0)] true _ (subs_one hHeld.tail.row hHeld.tail.lt) hS6 (by omega) awSS).mono ?_; rintro e w6 ⟨rfl, hb6⟩)
  refine hK.out _ _ (by first | exact hHeld.more hb6 | exact hHeld | exact below_more hHeld hb6) (fun hHeld1 => ?_)
  clear hHeld; have hHeld := hHeld1; clear hHeld1 hK K
  try simp only [Act.put, List.setIfInBounds_toArray, List.set_cons_zero, List.set_cons_succ]
  refine wpAnyH_take (i := 19) (oi := ({ dst := some 29, op := Go.Op.pick (Go.Operand.tmp 24) (Go.Operand.tmp 28) (Go.Operand.const (Go.Value.bool false)), type := 4, pos := "law.go:19", after := #[{ on := 14, ground := Go.Ground.data }, { on := 18, ground := Go.Ground.data }], guard := none } : Oper)) (v := ?vw227) rfl (by kernel_rfl) (by kernel_rfl) (by kernel_rfl) (fun _ _ _ h => h) (Or.inl ⟨by rfl, ?hz227⟩) (by assumption) ?rs227
  case hz227 => (intro wz hSw; (try have hq1 := hSw.tail.cell); (try have hq2 := hSw.tail.tail.cell); (try have hq3 := hSw.cell); (try have hq4 := hSw.tail.row); (try have hq5 := hSw.tail.tail.row); (try have hq6 := hSw.row); (try have hq7 := hSw.tail.tail.tail.row); (try clear hSw); go_simp; all_goals with_reducible rfl)
  try simp only [Act.put, List.setIfInBounds_toArray, List.set_cons_zero, List.set_cons_succ]
  refine wpAnyH_take (i := 20) (oi := ({ dst := some 30, op := Go.Op.move (Go.Operand.tmp 29), type := 4, pos := "law.go:19", after := #[{ on := 19, ground := Go.Ground.data }, { on := 18, ground := Go.Ground.chain }], guard := none } : Oper)) (v := ?vw228) rfl (by kernel_rfl) (by kernel_rfl) (by kernel_rfl) (fun _ _ _ h => h) (Or.inl ⟨by rfl, ?hz228⟩) (by assumption) ?rs228
  case hz228 => (intro wz hSw; (try have hq1 := hSw.tail.cell); (try have hq2 := hSw.tail.tail.cell); (try have hq3 := hSw.cell); (try have hq4 := hSw.tail.row); (try have hq5 := hSw.tail.tail.row); (try have hq6 := hSw.row); (try have hq7 := hSw.tail.tail.tail.row); (try clear hSw); go_simp; all_goals with_reducible rfl)
  try simp only [Act.put, List.setIfInBounds_toArray, List.set_cons_zero, List.set_cons_succ]
  refine wpAnyH_take (i := 21) (oi := ({ dst := some 31, op := Go.Op.load 27 (Go.Operand.tmp 1), type := 27, pos := "law.go:19", after := #[{ on := 20, ground := Go.Ground.guard }], guard := some (20, true) } : Oper)) (v := ?vw229) rfl (by kernel_rfl) (by kernel_rfl) (by kernel_rfl) (fun _ _ _ h => h) (Or.inl ⟨by rfl, ?hz229⟩) (by assumption) ?rs229
  case hz229 => (intro wz hSw; (try have hq1 := hSw.tail.cell); (try have hq2 := hSw.tail.tail.cell); (try have hq3 := hSw.cell); (try have hq4 := hSw.tail.row); (try have hq5 := hSw.tail.tail.row); (try have hq6 := hSw.row); (try have hq7 := hSw.tail.tail.tail.row); (try clear hSw); go_simp; all_goals with_reducible rfl)
  try simp only [Act.put, List.setIfInBounds_toArray, List.set_cons_zero, List.set_cons_succ]
  refine wpAnyH_take (i := 22) (oi := ({ dst := some 32, op := Go.Op.load 27 (Go.Operand.tmp 2), type := 27, pos := "law.go:19", after := #[{ on := 20, ground := Go.Ground.guard }], guard := some (20, true) } : Oper)) (v := ?vw230) rfl (by kernel_rfl) (by kernel_rfl) (by kernel_rfl) (fun _ _ _ h => h) (Or.inl ⟨by rfl, ?hz230⟩) (by assumption) ?rs230
  case hz230 => (intro wz hSw; (try have hq1 := hSw.tail.cell); (try have hq2 := hSw.tail.tail.cell); (try have hq3 := hSw.cell); (try have hq4 := hSw.tail.row); (try have hq5 := hSw.tail.tail.row); (try have hq6 := hSw.row); (try have hq7 := hSw.tail.tail.tail.row); (try clear hSw); go_simp; all_goals with_reducible rfl)
  try simp only [Act.put, List.setIfInBounds_toArray, List.set_cons_zero, List.set_cons_succ]
  refine wpAnyH_ready (rs := [23]) (by kernel_rfl) (by simp) ?_
  refine (AllReadyH.cons (o := ({ dst := some 33, op := Go.Op.call { callee := Go.Callee.value (Go.Operand.func 18), args := #[Go.Operand.tmp 31, Go.Operand.tmp 32], argTypes := #[27, 27] }, type := 4, pos := "law.go:19", after := #[{ on := 21, ground := Go.Ground.data }, { on := 22, ground := Go.Ground.data }, { on := 20, ground := Go.Ground.chain }, { on := 20, ground := Go.Ground.guard }], guard := some (20, true) } : Oper)) rfl (fun K hK => ?_) AllReadyH.nil)
  go_simp
  (go_at_call 18; refine (same_eq awP awQ none none 0 0 0 0 [] [] false _ (Subs.nil _) (Subs.nil _) (by omega) awPQ).mono ?_; rintro e w6 ⟨rfl, hb6⟩)
  refine hK.out _ _ (by first | exact hHeld.more hb6 | exact hHeld | exact below_more hHeld hb6) (fun hHeld1 => ?_)
  clear hHeld; have hHeld := hHeld1; clear hHeld1 hK K
  try simp only [Act.put, List.setIfInBounds_toArray, List.set_cons_zero, List.set_cons_succ]
  refine wpAnyH_take (i := 24) (oi := ({ dst := some 34, op := Go.Op.unOp Go.UnOp.not 4 (Go.Operand.tmp 33), type := 4, pos := "law.go:19", after := #[{ on := 23, ground := Go.Ground.data }, { on := 20, ground := Go.Ground.guard }], guard := some (20, true) } : Oper)) (v := ?vw231) rfl (by kernel_rfl) (by kernel_rfl) (by kernel_rfl) (fun _ _ _ h => h) (Or.inl ⟨by rfl, ?hz231⟩) (by assumption) ?rs231
  case hz231 => (intro wz hSw; (try have hq1 := hSw.tail.cell); (try have hq2 := hSw.tail.tail.cell); (try have hq3 := hSw.cell); (try have hq4 := hSw.tail.row); (try have hq5 := hSw.tail.tail.row); (try have hq6 := hSw.row); (try have hq7 := hSw.tail.tail.tail.row); (try clear hSw); go_simp; all_goals with_reducible rfl)
  try simp only [Act.put, List.setIfInBounds_toArray, List.set_cons_zero, List.set_cons_succ]
  refine wpAnyH_take (i := 25) (oi := ({ dst := some 35, op := Go.Op.pick (Go.Operand.tmp 30) (Go.Operand.tmp 34) (Go.Operand.const (Go.Value.bool false)), type := 4, pos := "law.go:19", after := #[{ on := 20, ground := Go.Ground.data }, { on := 24, ground := Go.Ground.data }], guard := none } : Oper)) (v := ?vw232) rfl (by kernel_rfl) (by kernel_rfl) (by kernel_rfl) (fun _ _ _ h => h) (Or.inl ⟨by rfl, ?hz232⟩) (by assumption) ?rs232
  case hz232 => (intro wz hSw; (try have hq1 := hSw.tail.cell); (try have hq2 := hSw.tail.tail.cell); (try have hq3 := hSw.cell); (try have hq4 := hSw.tail.row); (try have hq5 := hSw.tail.tail.row); (try have hq6 := hSw.row); (try have hq7 := hSw.tail.tail.tail.row); (try clear hSw); go_simp; all_goals with_reducible rfl)
  try simp only [Act.put, List.setIfInBounds_toArray, List.set_cons_zero, List.set_cons_succ]
  refine wpAnyH_take (i := 26) (oi := ({ dst := some 0, op := Go.Op.assign (Go.Operand.tmp 35), type := 4, pos := "law.go:19", after := #[{ on := 25, ground := Go.Ground.data }, { on := 23, ground := Go.Ground.chain }, { on := 0, ground := Go.Ground.phase }, { on := 1, ground := Go.Ground.phase }, { on := 2, ground := Go.Ground.phase }, { on := 3, ground := Go.Ground.phase }, { on := 4, ground := Go.Ground.phase }, { on := 5, ground := Go.Ground.phase }, { on := 6, ground := Go.Ground.phase }, { on := 7, ground := Go.Ground.phase }, { on := 8, ground := Go.Ground.phase }, { on := 9, ground := Go.Ground.phase }, { on := 10, ground := Go.Ground.phase }, { on := 11, ground := Go.Ground.phase }, { on := 12, ground := Go.Ground.phase }, { on := 13, ground := Go.Ground.phase }, { on := 14, ground := Go.Ground.phase }, { on := 15, ground := Go.Ground.phase }, { on := 16, ground := Go.Ground.phase }, { on := 17, ground := Go.Ground.phase }, { on := 18, ground := Go.Ground.phase }, { on := 19, ground := Go.Ground.phase }, { on := 20, ground := Go.Ground.phase }, { on := 21, ground := Go.Ground.phase }, { on := 22, ground := Go.Ground.phase }, { on := 23, ground := Go.Ground.phase }, { on := 24, ground := Go.Ground.phase }, { on := 25, ground := Go.Ground.phase }], guard := none } : Oper)) (v := ?vw233) rfl (by kernel_rfl) (by kernel_rfl) (by kernel_rfl) (fun _ _ _ h => h) (Or.inl ⟨by rfl, ?hz233⟩) (by assumption) ?rs233
  case hz233 => (intro wz hSw; (try have hq1 := hSw.tail.cell); (try have hq2 := hSw.tail.tail.cell); (try have hq3 := hSw.cell); (try have hq4 := hSw.tail.row); (try have hq5 := hSw.tail.tail.row); (try have hq6 := hSw.row); (try have hq7 := hSw.tail.tail.tail.row); (try clear hSw); go_simp; all_goals with_reducible rfl)
  try simp only [Act.put, List.setIfInBounds_toArray, List.set_cons_zero, List.set_cons_succ]
  refine wpAnyH_done (by kernel_rfl) ?_ _
  go_wp2_with fail
  go_ret
  exact ⟨rfl, hHeld.below⟩
end Go.Proofs.YtbbmfhelncedcaaDoor
