/-
  PacketRight.
-/
import Derived.Test.YtbbmfhelncedcaaDoorPkJ
import Derived.Test.YtbbmfhelncedcaaDoorPkGreat
import Derived.Test.YtbbmfhelncedcaaDoorPkRh
set_option linter.unusedSimpArgs false
set_option linter.unusedVariables false
namespace Go.Proofs.YtbbmfhelncedcaaDoor
open Go.RowKit
namespace lawPacketRight
theorem fld_len (k : Nat) : (fldF k).length ≤ 100 := by
  unfold fldF
  by_cases h : k < 15
  · have : k = 0 ∨ k = 1 ∨ k = 2 ∨ k = 3 ∨ k = 4 ∨ k = 5 ∨ k = 6 ∨ k = 7 ∨ k = 8 ∨ k = 9 ∨ k = 10 ∨ k = 11 ∨ k = 12 ∨ k = 13 ∨ k = 14 := by omega
    rcases this with rfl | rfl | rfl | rfl | rfl | rfl | rfl | rfl | rfl | rfl | rfl | rfl | rfl | rfl | rfl <;> decide
  · rw [List.getElem?_eq_none (by show 15 ≤ k; omega)]
    decide
theorem refRightN_eq (p : Pk) (A : Option Addr) (n c : Nat) (xs : List (List UInt8 × Int)) (r : Bool) (w : World) (hs : Subs w A n xs) (hf : Fit p xs) (h : decide (0 ≤ restN p xs) = r) :
    Calls Tryd.prog 13 #[.agg (PkC p A n c)] w fun e w' => e = .returned (.bool r) ∧ Below w.heap.size w w' := by
  obtain ⟨k, hk⟩ : ∃ k : Nat, p.ty = (k : Int) := ⟨p.ty.toNat, by have := hf.ty; omega⟩
  refine refRight_eq p A n c k (fldF k) xs r w hs hf hk (by have := hf.ty; omega) rfl (fld_len k) ?_
  rw [right_same p xs hf k hk, h]
theorem rest_two (p : Pk) (xs : List (List UInt8 × Int)) (hf : Fit p xs) (h : decide (0 ≤ restN p xs) = true) : rrN p xs = restN p xs := by
  obtain ⟨k, hk⟩ : ∃ k : Nat, p.ty = (k : Int) := ⟨p.ty.toNat, by have := hf.ty; omega⟩
  have h2 := rest_same p xs hf k hk
  rw [right_same p xs hf k hk, h] at h2
  exact h2
theorem refRestR_eq (p : Pk) (A : Option Addr) (n c : Nat) (xs : List (List UInt8 × Int)) (v : Int) (w : World) (hs : Subs w A n xs) (hf : Fit p xs) (h : restN p xs = v) :
    Calls Tryd.prog 15 #[.agg (PkC p A n c)] w fun e w' => e = .returned (.int .i64 v) ∧ Below w.heap.size w w' := by
  have hK0 := (Kp.nil w).new (PkC p A n c) 27
  have HS := Lib.hid hs
  have HT := Lib.hid hf
  have HV := Lib.hid h
  obtain ⟨r, hr⟩ : ∃ r, decide (0 ≤ restN p xs) = r := ⟨_, rfl⟩
  have HR := Lib.hid hr
  have HN : Hid (r = false → v = -1) := by
    show _ → _
    rintro rfl
    rw [← h]
    have : ¬ 0 ≤ restN p xs := by simpa using hr
    unfold restN at this ⊢
    split
    · rename_i hq
      have := takeB_pos p xs
      rw [if_pos hq] at *
      omega
    · rfl
  have HP : Hid (r = true → rrN p xs = v) := by
    show _ → _
    rintro rfl
    rw [rest_two p xs hf hr, h]
  clear hs hf hr h
  go_enter Tryd.func15, Tryd.ntmps15
  go_wp2_with fail
  refine (refRightN_eq p A n c xs r _ (HS.out.below hK0.below) HT.out HR.out).mono ?_
  rintro e w6 ⟨rfl, hb6⟩
  have hP := hK0.more hb6
  clear hb6 hK0
  have p1r := hP.row; have p1f := hP.free; have p1c := hP.cell; have p1l := hP.lt; have p1z := hP.froz
  cases r with
  | false =>
    go_wp2_with fail
    go_ret
    exact ⟨ret_int (HN.out trivial).symm, hP.below⟩
  | true =>
    go_wp2_with fail
    refine (refRest_any p A n c xs _ (HS.out.below hP.below) HT.out).mono ?_
    rintro e w7 ⟨rfl, hb7⟩
    go_wp2_with fail
    go_ret
    exact ⟨ret_int (HP.out trivial), below_more hP.below hb7⟩
set_option maxRecDepth 100000 in
set_option maxHeartbeats 4000000 in
theorem walk (w : World) (hG : Glo w) (p : Pk) (A : Option Addr) (n c : Nat) (xs : List (List UInt8 × Int)) (hs : Subs w A n xs) (hc : A = none → c = 0) (hp : Came p xs) :
    Calls Tryd.prog 4 #[.agg (PkC p A n c)] w fun e w' => e = .returned (.bool true) ∧ Below w.heap.size w w' := by
  have hK0 := (Kp.nil w).new (PkC p A n c) 27
  have HG := Lib.hid hG
  have HS := Lib.hid hs
  have HC := Lib.hid hp
  clear hG hs hp hc
  go_enter Tryd.func4, Tryd.ntmps4
  go_wp2_with fail
  refine (great_any p A n c xs _ (HS.out.below hK0.below) HC.out).mono ?_
  rintro e w6 ⟨g, rfl, hgr, hb6⟩
  have hP := hK0.more hb6
  clear hb6 hK0
  cases g with
  | true =>
    clear hgr
    go_wp2_with fail
    refine (awake_any _ (HG.out.below hP.below)).mono ?_
    rintro e w7 ⟨rfl, hb7⟩
    go_wp2_with fail
    go_ret
    exact ⟨rfl, below_more hP.below hb7⟩
  | false =>
    obtain ⟨g1, g2⟩ := hgr rfl
    have HF := Lib.hid (fit_came HC.out g1 g2)
    clear hgr
    obtain ⟨r, hr⟩ : ∃ r, decide (0 ≤ restN p xs) = r := ⟨_, rfl⟩
    obtain ⟨v, hv⟩ : ∃ v, restN p xs = v := ⟨_, rfl⟩
    have HR := Lib.hid hr
    have HV := Lib.hid hv
    clear hr hv
    cases r with
    | false =>
      go_upto_region 3 with fail
      refine wp_region_held_drew (S := Kp w [(w.heap.size, PkC p A n c, 27)]) (by kernel_rfl) hP.drew (fun hHeld => ?_)
      refine wpAnyH_take (i := 0) (oi := ({ dst := some 6, op := Go.Op.load 27 (Go.Operand.tmp 1), type := 27, pos := "law.go:106", after := #[], guard := none } : Oper)) (v := ?vw1) rfl (by kernel_rfl) (by kernel_rfl) (by kernel_rfl) (fun _ _ _ h => h) (Or.inl ⟨by rfl, ?hz1⟩) (by assumption) ?rs1
      case hz1 => (intro wz hSw; (try have hq1 := hSw.tail.cell); (try have hq2 := hSw.tail.tail.cell); (try have hq3 := hSw.cell); (try have hq4 := hSw.tail.row); (try have hq5 := hSw.tail.tail.row); (try have hq6 := hSw.row); (try have hq7 := hSw.tail.tail.tail.row); (try clear hSw); go_simp; all_goals with_reducible rfl)
      try simp only [Act.put, List.setIfInBounds_toArray, List.set_cons_zero, List.set_cons_succ]
      refine wpAnyH_take (i := 2) (oi := ({ dst := some 8, op := Go.Op.load 27 (Go.Operand.tmp 1), type := 27, pos := "law.go:106", after := #[], guard := none } : Oper)) (v := ?vw2) rfl (by kernel_rfl) (by kernel_rfl) (by kernel_rfl) (fun _ _ _ h => h) (Or.inl ⟨by rfl, ?hz2⟩) (by assumption) ?rs2
      case hz2 => (intro wz hSw; (try have hq1 := hSw.tail.cell); (try have hq2 := hSw.tail.tail.cell); (try have hq3 := hSw.cell); (try have hq4 := hSw.tail.row); (try have hq5 := hSw.tail.tail.row); (try have hq6 := hSw.row); (try have hq7 := hSw.tail.tail.tail.row); (try clear hSw); go_simp; all_goals with_reducible rfl)
      try simp only [Act.put, List.setIfInBounds_toArray, List.set_cons_zero, List.set_cons_succ]
      refine wpAnyH_ready (rs := [1]) (by kernel_rfl) (by simp) ?_
      refine (AllReadyH.cons (o := ({ dst := some 7, op := Go.Op.call { callee := Go.Callee.value (Go.Operand.func 12), args := #[Go.Operand.tmp 6], argTypes := #[27] }, type := 4, pos := "law.go:106", after := #[{ on := 0, ground := Go.Ground.data }], guard := none } : Oper)) rfl (fun K hK => ?_) AllReadyH.nil)
      go_simp
      (go_at_call 12; refine (right_eq p A n c xs _ _ (HG.out.below hHeld.below) (HS.out.below hHeld.below) HF.out HR.out).mono ?_; rintro e w7 ⟨rfl, hb6⟩)
      refine hK.out _ _ (by first | exact hHeld.more hb6 | exact hHeld | exact below_more hHeld hb6) (fun hHeld1 => ?_)
      clear hHeld; have hHeld := hHeld1; clear hHeld1 hK K
      try simp only [Act.put, List.setIfInBounds_toArray, List.set_cons_zero, List.set_cons_succ]
      refine wpAnyH_ready (rs := [3]) (by kernel_rfl) (by simp) ?_
      refine (AllReadyH.cons (o := ({ dst := some 9, op := Go.Op.call { callee := Go.Callee.value (Go.Operand.func 13), args := #[Go.Operand.tmp 8], argTypes := #[27] }, type := 4, pos := "law.go:106", after := #[{ on := 2, ground := Go.Ground.data }, { on := 1, ground := Go.Ground.chain }], guard := none } : Oper)) rfl (fun K hK => ?_) AllReadyH.nil)
      go_simp
      (go_at_call 13; refine (refRightN_eq p A n c xs _ _ (HS.out.below hHeld.below) HF.out HR.out).mono ?_; rintro e w7 ⟨rfl, hb6⟩)
      refine hK.out _ _ (by first | exact hHeld.more hb6 | exact hHeld | exact below_more hHeld hb6) (fun hHeld1 => ?_)
      clear hHeld; have hHeld := hHeld1; clear hHeld1 hK K
      try simp only [Act.put, List.setIfInBounds_toArray, List.set_cons_zero, List.set_cons_succ]
      refine wpAnyH_take (i := 4) (oi := ({ dst := some 10, op := Go.Op.binOp Go.BinOp.eql 4 (Go.Operand.tmp 7) (Go.Operand.tmp 9) 4, type := 4, pos := "law.go:106", after := #[{ on := 1, ground := Go.Ground.data }, { on := 3, ground := Go.Ground.data }], guard := none } : Oper)) (v := ?vw3) rfl (by kernel_rfl) (by kernel_rfl) (by kernel_rfl) (fun _ _ _ h => h) (Or.inl ⟨by rfl, ?hz3⟩) (by assumption) ?rs3
      case hz3 => (intro wz hSw; (try have hq1 := hSw.tail.cell); (try have hq2 := hSw.tail.tail.cell); (try have hq3 := hSw.cell); (try have hq4 := hSw.tail.row); (try have hq5 := hSw.tail.tail.row); (try have hq6 := hSw.row); (try have hq7 := hSw.tail.tail.tail.row); (try clear hSw); go_simp; all_goals with_reducible rfl)
      try simp only [Act.put, List.setIfInBounds_toArray, List.set_cons_zero, List.set_cons_succ]
      refine wpAnyH_take (i := 5) (oi := ({ dst := some 11, op := Go.Op.move (Go.Operand.tmp 10), type := 4, pos := "law.go:106", after := #[{ on := 4, ground := Go.Ground.data }, { on := 3, ground := Go.Ground.chain }], guard := none } : Oper)) (v := ?vw4) rfl (by kernel_rfl) (by kernel_rfl) (by kernel_rfl) (fun _ _ _ h => h) (Or.inl ⟨by rfl, ?hz4⟩) (by assumption) ?rs4
      case hz4 => (intro wz hSw; (try have hq1 := hSw.tail.cell); (try have hq2 := hSw.tail.tail.cell); (try have hq3 := hSw.cell); (try have hq4 := hSw.tail.row); (try have hq5 := hSw.tail.tail.row); (try have hq6 := hSw.row); (try have hq7 := hSw.tail.tail.tail.row); (try clear hSw); go_simp; all_goals with_reducible rfl)
      try simp only [Act.put, List.setIfInBounds_toArray, List.set_cons_zero, List.set_cons_succ]
      refine wpAnyH_take (i := 6) (oi := ({ dst := some 12, op := Go.Op.load 27 (Go.Operand.tmp 1), type := 27, pos := "law.go:106", after := #[{ on := 5, ground := Go.Ground.guard }], guard := some (5, true) } : Oper)) (v := ?vw5) rfl (by kernel_rfl) (by kernel_rfl) (by kernel_rfl) (fun _ _ _ h => h) (Or.inl ⟨by rfl, ?hz5⟩) (by assumption) ?rs5
      case hz5 => (intro wz hSw; (try have hq1 := hSw.tail.cell); (try have hq2 := hSw.tail.tail.cell); (try have hq3 := hSw.cell); (try have hq4 := hSw.tail.row); (try have hq5 := hSw.tail.tail.row); (try have hq6 := hSw.row); (try have hq7 := hSw.tail.tail.tail.row); (try clear hSw); go_simp; all_goals with_reducible rfl)
      try simp only [Act.put, List.setIfInBounds_toArray, List.set_cons_zero, List.set_cons_succ]
      refine wpAnyH_take (i := 8) (oi := ({ dst := some 14, op := Go.Op.load 27 (Go.Operand.tmp 1), type := 27, pos := "law.go:106", after := #[{ on := 5, ground := Go.Ground.guard }], guard := some (5, true) } : Oper)) (v := ?vw6) rfl (by kernel_rfl) (by kernel_rfl) (by kernel_rfl) (fun _ _ _ h => h) (Or.inl ⟨by rfl, ?hz6⟩) (by assumption) ?rs6
      case hz6 => (intro wz hSw; (try have hq1 := hSw.tail.cell); (try have hq2 := hSw.tail.tail.cell); (try have hq3 := hSw.cell); (try have hq4 := hSw.tail.row); (try have hq5 := hSw.tail.tail.row); (try have hq6 := hSw.row); (try have hq7 := hSw.tail.tail.tail.row); (try clear hSw); go_simp; all_goals with_reducible rfl)
      try simp only [Act.put, List.setIfInBounds_toArray, List.set_cons_zero, List.set_cons_succ]
      refine wpAnyH_ready (rs := [7]) (by kernel_rfl) (by simp) ?_
      refine (AllReadyH.cons (o := ({ dst := some 13, op := Go.Op.call { callee := Go.Callee.value (Go.Operand.func 14), args := #[Go.Operand.tmp 12], argTypes := #[27] }, type := 3, pos := "law.go:106", after := #[{ on := 6, ground := Go.Ground.data }, { on := 5, ground := Go.Ground.chain }, { on := 5, ground := Go.Ground.guard }], guard := some (5, true) } : Oper)) rfl (fun K hK => ?_) AllReadyH.nil)
      go_simp
      (go_at_call 14; refine (rest_eq p A n c xs _ _ (HG.out.below hHeld.below) (HS.out.below hHeld.below) HF.out HV.out).mono ?_; rintro e w7 ⟨rfl, hb6⟩)
      refine hK.out _ _ (by first | exact hHeld.more hb6 | exact hHeld | exact below_more hHeld hb6) (fun hHeld1 => ?_)
      clear hHeld; have hHeld := hHeld1; clear hHeld1 hK K
      try simp only [Act.put, List.setIfInBounds_toArray, List.set_cons_zero, List.set_cons_succ]
      refine wpAnyH_ready (rs := [9]) (by kernel_rfl) (by simp) ?_
      refine (AllReadyH.cons (o := ({ dst := some 15, op := Go.Op.call { callee := Go.Callee.value (Go.Operand.func 15), args := #[Go.Operand.tmp 14], argTypes := #[27] }, type := 3, pos := "law.go:106", after := #[{ on := 8, ground := Go.Ground.data }, { on := 7, ground := Go.Ground.chain }, { on := 5, ground := Go.Ground.guard }], guard := some (5, true) } : Oper)) rfl (fun K hK => ?_) AllReadyH.nil)
      go_simp
      (go_at_call 15; refine (refRestR_eq p A n c xs _ _ (HS.out.below hHeld.below) HF.out HV.out).mono ?_; rintro e w7 ⟨rfl, hb6⟩)
      refine hK.out _ _ (by first | exact hHeld.more hb6 | exact hHeld | exact below_more hHeld hb6) (fun hHeld1 => ?_)
      clear hHeld; have hHeld := hHeld1; clear hHeld1 hK K
      try simp only [Act.put, List.setIfInBounds_toArray, List.set_cons_zero, List.set_cons_succ]
      refine wpAnyH_take (i := 10) (oi := ({ dst := some 16, op := Go.Op.binOp Go.BinOp.eql 3 (Go.Operand.tmp 13) (Go.Operand.tmp 15) 3, type := 4, pos := "law.go:106", after := #[{ on := 7, ground := Go.Ground.data }, { on := 9, ground := Go.Ground.data }, { on := 5, ground := Go.Ground.guard }], guard := some (5, true) } : Oper)) (v := ?vw7) rfl (by kernel_rfl) (by kernel_rfl) (by kernel_rfl) (fun _ _ _ h => h) (Or.inl ⟨by rfl, ?hz7⟩) (by assumption) ?rs7
      case hz7 => (intro wz hSw; (try have hq1 := hSw.tail.cell); (try have hq2 := hSw.tail.tail.cell); (try have hq3 := hSw.cell); (try have hq4 := hSw.tail.row); (try have hq5 := hSw.tail.tail.row); (try have hq6 := hSw.row); (try have hq7 := hSw.tail.tail.tail.row); (try clear hSw); go_simp; all_goals with_reducible rfl)
      try simp only [Act.put, List.setIfInBounds_toArray, List.set_cons_zero, List.set_cons_succ]
      refine wpAnyH_take (i := 11) (oi := ({ dst := some 17, op := Go.Op.pick (Go.Operand.tmp 11) (Go.Operand.tmp 16) (Go.Operand.const (Go.Value.bool false)), type := 4, pos := "law.go:106", after := #[{ on := 5, ground := Go.Ground.data }, { on := 10, ground := Go.Ground.data }], guard := none } : Oper)) (v := ?vw8) rfl (by kernel_rfl) (by kernel_rfl) (by kernel_rfl) (fun _ _ _ h => h) (Or.inl ⟨by rfl, ?hz8⟩) (by assumption) ?rs8
      case hz8 => (intro wz hSw; (try have hq1 := hSw.tail.cell); (try have hq2 := hSw.tail.tail.cell); (try have hq3 := hSw.cell); (try have hq4 := hSw.tail.row); (try have hq5 := hSw.tail.tail.row); (try have hq6 := hSw.row); (try have hq7 := hSw.tail.tail.tail.row); (try clear hSw); go_simp; all_goals with_reducible rfl)
      try simp only [Act.put, List.setIfInBounds_toArray, List.set_cons_zero, List.set_cons_succ]
      refine wpAnyH_take (i := 12) (oi := ({ dst := some 18, op := Go.Op.move (Go.Operand.tmp 17), type := 4, pos := "law.go:106", after := #[{ on := 11, ground := Go.Ground.data }, { on := 9, ground := Go.Ground.chain }], guard := none } : Oper)) (v := ?vw9) rfl (by kernel_rfl) (by kernel_rfl) (by kernel_rfl) (fun _ _ _ h => h) (Or.inl ⟨by rfl, ?hz9⟩) (by assumption) ?rs9
      case hz9 => (intro wz hSw; (try have hq1 := hSw.tail.cell); (try have hq2 := hSw.tail.tail.cell); (try have hq3 := hSw.cell); (try have hq4 := hSw.tail.row); (try have hq5 := hSw.tail.tail.row); (try have hq6 := hSw.row); (try have hq7 := hSw.tail.tail.tail.row); (try clear hSw); go_simp; all_goals with_reducible rfl)
      try simp only [Act.put, List.setIfInBounds_toArray, List.set_cons_zero, List.set_cons_succ]
      refine wpAnyH_ready (rs := [13]) (by kernel_rfl) (by simp) ?_
      refine (AllReadyH.cons (o := ({ dst := some 19, op := Go.Op.call { callee := Go.Callee.value (Go.Operand.func 10), args := #[], argTypes := #[] }, type := 4, pos := "law.go:106", after := #[{ on := 12, ground := Go.Ground.chain }, { on := 12, ground := Go.Ground.guard }], guard := some (12, true) } : Oper)) rfl (fun K hK => ?_) AllReadyH.nil)
      go_simp
      (go_at_call 10; refine (awake_any _ (HG.out.below hHeld.below)).mono ?_; rintro e w7 ⟨rfl, hb6⟩)
      refine hK.out _ _ (by first | exact hHeld.more hb6 | exact hHeld | exact below_more hHeld hb6) (fun hHeld1 => ?_)
      clear hHeld; have hHeld := hHeld1; clear hHeld1 hK K
      try simp only [Act.put, List.setIfInBounds_toArray, List.set_cons_zero, List.set_cons_succ]
      refine wpAnyH_take (i := 14) (oi := ({ dst := some 20, op := Go.Op.pick (Go.Operand.tmp 18) (Go.Operand.tmp 19) (Go.Operand.const (Go.Value.bool false)), type := 4, pos := "law.go:106", after := #[{ on := 12, ground := Go.Ground.data }, { on := 13, ground := Go.Ground.data }], guard := none } : Oper)) (v := ?vw10) rfl (by kernel_rfl) (by kernel_rfl) (by kernel_rfl) (fun _ _ _ h => h) (Or.inl ⟨by rfl, ?hz10⟩) (by assumption) ?rs10
      case hz10 => (intro wz hSw; (try have hq1 := hSw.tail.cell); (try have hq2 := hSw.tail.tail.cell); (try have hq3 := hSw.cell); (try have hq4 := hSw.tail.row); (try have hq5 := hSw.tail.tail.row); (try have hq6 := hSw.row); (try have hq7 := hSw.tail.tail.tail.row); (try clear hSw); go_simp; all_goals with_reducible rfl)
      try simp only [Act.put, List.setIfInBounds_toArray, List.set_cons_zero, List.set_cons_succ]
      refine wpAnyH_take (i := 15) (oi := ({ dst := some 2, op := Go.Op.assign (Go.Operand.tmp 20), type := 4, pos := "law.go:106", after := #[{ on := 14, ground := Go.Ground.data }, { on := 13, ground := Go.Ground.chain }, { on := 0, ground := Go.Ground.phase }, { on := 1, ground := Go.Ground.phase }, { on := 2, ground := Go.Ground.phase }, { on := 3, ground := Go.Ground.phase }, { on := 4, ground := Go.Ground.phase }, { on := 5, ground := Go.Ground.phase }, { on := 6, ground := Go.Ground.phase }, { on := 7, ground := Go.Ground.phase }, { on := 8, ground := Go.Ground.phase }, { on := 9, ground := Go.Ground.phase }, { on := 10, ground := Go.Ground.phase }, { on := 11, ground := Go.Ground.phase }, { on := 12, ground := Go.Ground.phase }, { on := 13, ground := Go.Ground.phase }, { on := 14, ground := Go.Ground.phase }], guard := none } : Oper)) (v := ?vw11) rfl (by kernel_rfl) (by kernel_rfl) (by kernel_rfl) (fun _ _ _ h => h) (Or.inl ⟨by rfl, ?hz11⟩) (by assumption) ?rs11
      case hz11 => (intro wz hSw; (try have hq1 := hSw.tail.cell); (try have hq2 := hSw.tail.tail.cell); (try have hq3 := hSw.cell); (try have hq4 := hSw.tail.row); (try have hq5 := hSw.tail.tail.row); (try have hq6 := hSw.row); (try have hq7 := hSw.tail.tail.tail.row); (try clear hSw); go_simp; all_goals with_reducible rfl)
      try simp only [Act.put, List.setIfInBounds_toArray, List.set_cons_zero, List.set_cons_succ]
      refine wpAnyH_done (by kernel_rfl) ?_ _
      go_wp2_with fail
      go_ret
      exact ⟨rfl, hHeld.below⟩
    | true =>
      go_upto_region 3 with fail
      refine wp_region_held_drew (S := Kp w [(w.heap.size, PkC p A n c, 27)]) (by kernel_rfl) hP.drew (fun hHeld => ?_)
      refine wpAnyH_take (i := 0) (oi := ({ dst := some 6, op := Go.Op.load 27 (Go.Operand.tmp 1), type := 27, pos := "law.go:106", after := #[], guard := none } : Oper)) (v := ?vw12) rfl (by kernel_rfl) (by kernel_rfl) (by kernel_rfl) (fun _ _ _ h => h) (Or.inl ⟨by rfl, ?hz12⟩) (by assumption) ?rs12
      case hz12 => (intro wz hSw; (try have hq1 := hSw.tail.cell); (try have hq2 := hSw.tail.tail.cell); (try have hq3 := hSw.cell); (try have hq4 := hSw.tail.row); (try have hq5 := hSw.tail.tail.row); (try have hq6 := hSw.row); (try have hq7 := hSw.tail.tail.tail.row); (try clear hSw); go_simp; all_goals with_reducible rfl)
      try simp only [Act.put, List.setIfInBounds_toArray, List.set_cons_zero, List.set_cons_succ]
      refine wpAnyH_take (i := 2) (oi := ({ dst := some 8, op := Go.Op.load 27 (Go.Operand.tmp 1), type := 27, pos := "law.go:106", after := #[], guard := none } : Oper)) (v := ?vw13) rfl (by kernel_rfl) (by kernel_rfl) (by kernel_rfl) (fun _ _ _ h => h) (Or.inl ⟨by rfl, ?hz13⟩) (by assumption) ?rs13
      case hz13 => (intro wz hSw; (try have hq1 := hSw.tail.cell); (try have hq2 := hSw.tail.tail.cell); (try have hq3 := hSw.cell); (try have hq4 := hSw.tail.row); (try have hq5 := hSw.tail.tail.row); (try have hq6 := hSw.row); (try have hq7 := hSw.tail.tail.tail.row); (try clear hSw); go_simp; all_goals with_reducible rfl)
      try simp only [Act.put, List.setIfInBounds_toArray, List.set_cons_zero, List.set_cons_succ]
      refine wpAnyH_ready (rs := [1]) (by kernel_rfl) (by simp) ?_
      refine (AllReadyH.cons (o := ({ dst := some 7, op := Go.Op.call { callee := Go.Callee.value (Go.Operand.func 12), args := #[Go.Operand.tmp 6], argTypes := #[27] }, type := 4, pos := "law.go:106", after := #[{ on := 0, ground := Go.Ground.data }], guard := none } : Oper)) rfl (fun K hK => ?_) AllReadyH.nil)
      go_simp
      (go_at_call 12; refine (right_eq p A n c xs _ _ (HG.out.below hHeld.below) (HS.out.below hHeld.below) HF.out HR.out).mono ?_; rintro e w7 ⟨rfl, hb6⟩)
      refine hK.out _ _ (by first | exact hHeld.more hb6 | exact hHeld | exact below_more hHeld hb6) (fun hHeld1 => ?_)
      clear hHeld; have hHeld := hHeld1; clear hHeld1 hK K
      try simp only [Act.put, List.setIfInBounds_toArray, List.set_cons_zero, List.set_cons_succ]
      refine wpAnyH_ready (rs := [3]) (by kernel_rfl) (by simp) ?_
      refine (AllReadyH.cons (o := ({ dst := some 9, op := Go.Op.call { callee := Go.Callee.value (Go.Operand.func 13), args := #[Go.Operand.tmp 8], argTypes := #[27] }, type := 4, pos := "law.go:106", after := #[{ on := 2, ground := Go.Ground.data }, { on := 1, ground := Go.Ground.chain }], guard := none } : Oper)) rfl (fun K hK => ?_) AllReadyH.nil)
      go_simp
      (go_at_call 13; refine (refRightN_eq p A n c xs _ _ (HS.out.below hHeld.below) HF.out HR.out).mono ?_; rintro e w7 ⟨rfl, hb6⟩)
      refine hK.out _ _ (by first | exact hHeld.more hb6 | exact hHeld | exact below_more hHeld hb6) (fun hHeld1 => ?_)
      clear hHeld; have hHeld := hHeld1; clear hHeld1 hK K
      try simp only [Act.put, List.setIfInBounds_toArray, List.set_cons_zero, List.set_cons_succ]
      refine wpAnyH_take (i := 4) (oi := ({ dst := some 10, op := Go.Op.binOp Go.BinOp.eql 4 (Go.Operand.tmp 7) (Go.Operand.tmp 9) 4, type := 4, pos := "law.go:106", after := #[{ on := 1, ground := Go.Ground.data }, { on := 3, ground := Go.Ground.data }], guard := none } : Oper)) (v := ?vw14) rfl (by kernel_rfl) (by kernel_rfl) (by kernel_rfl) (fun _ _ _ h => h) (Or.inl ⟨by rfl, ?hz14⟩) (by assumption) ?rs14
      case hz14 => (intro wz hSw; (try have hq1 := hSw.tail.cell); (try have hq2 := hSw.tail.tail.cell); (try have hq3 := hSw.cell); (try have hq4 := hSw.tail.row); (try have hq5 := hSw.tail.tail.row); (try have hq6 := hSw.row); (try have hq7 := hSw.tail.tail.tail.row); (try clear hSw); go_simp; all_goals with_reducible rfl)
      try simp only [Act.put, List.setIfInBounds_toArray, List.set_cons_zero, List.set_cons_succ]
      refine wpAnyH_take (i := 5) (oi := ({ dst := some 11, op := Go.Op.move (Go.Operand.tmp 10), type := 4, pos := "law.go:106", after := #[{ on := 4, ground := Go.Ground.data }, { on := 3, ground := Go.Ground.chain }], guard := none } : Oper)) (v := ?vw15) rfl (by kernel_rfl) (by kernel_rfl) (by kernel_rfl) (fun _ _ _ h => h) (Or.inl ⟨by rfl, ?hz15⟩) (by assumption) ?rs15
      case hz15 => (intro wz hSw; (try have hq1 := hSw.tail.cell); (try have hq2 := hSw.tail.tail.cell); (try have hq3 := hSw.cell); (try have hq4 := hSw.tail.row); (try have hq5 := hSw.tail.tail.row); (try have hq6 := hSw.row); (try have hq7 := hSw.tail.tail.tail.row); (try clear hSw); go_simp; all_goals with_reducible rfl)
      try simp only [Act.put, List.setIfInBounds_toArray, List.set_cons_zero, List.set_cons_succ]
      refine wpAnyH_take (i := 6) (oi := ({ dst := some 12, op := Go.Op.load 27 (Go.Operand.tmp 1), type := 27, pos := "law.go:106", after := #[{ on := 5, ground := Go.Ground.guard }], guard := some (5, true) } : Oper)) (v := ?vw16) rfl (by kernel_rfl) (by kernel_rfl) (by kernel_rfl) (fun _ _ _ h => h) (Or.inl ⟨by rfl, ?hz16⟩) (by assumption) ?rs16
      case hz16 => (intro wz hSw; (try have hq1 := hSw.tail.cell); (try have hq2 := hSw.tail.tail.cell); (try have hq3 := hSw.cell); (try have hq4 := hSw.tail.row); (try have hq5 := hSw.tail.tail.row); (try have hq6 := hSw.row); (try have hq7 := hSw.tail.tail.tail.row); (try clear hSw); go_simp; all_goals with_reducible rfl)
      try simp only [Act.put, List.setIfInBounds_toArray, List.set_cons_zero, List.set_cons_succ]
      refine wpAnyH_take (i := 8) (oi := ({ dst := some 14, op := Go.Op.load 27 (Go.Operand.tmp 1), type := 27, pos := "law.go:106", after := #[{ on := 5, ground := Go.Ground.guard }], guard := some (5, true) } : Oper)) (v := ?vw17) rfl (by kernel_rfl) (by kernel_rfl) (by kernel_rfl) (fun _ _ _ h => h) (Or.inl ⟨by rfl, ?hz17⟩) (by assumption) ?rs17
      case hz17 => (intro wz hSw; (try have hq1 := hSw.tail.cell); (try have hq2 := hSw.tail.tail.cell); (try have hq3 := hSw.cell); (try have hq4 := hSw.tail.row); (try have hq5 := hSw.tail.tail.row); (try have hq6 := hSw.row); (try have hq7 := hSw.tail.tail.tail.row); (try clear hSw); go_simp; all_goals with_reducible rfl)
      try simp only [Act.put, List.setIfInBounds_toArray, List.set_cons_zero, List.set_cons_succ]
      refine wpAnyH_ready (rs := [7]) (by kernel_rfl) (by simp) ?_
      refine (AllReadyH.cons (o := ({ dst := some 13, op := Go.Op.call { callee := Go.Callee.value (Go.Operand.func 14), args := #[Go.Operand.tmp 12], argTypes := #[27] }, type := 3, pos := "law.go:106", after := #[{ on := 6, ground := Go.Ground.data }, { on := 5, ground := Go.Ground.chain }, { on := 5, ground := Go.Ground.guard }], guard := some (5, true) } : Oper)) rfl (fun K hK => ?_) AllReadyH.nil)
      go_simp
      (go_at_call 14; refine (rest_eq p A n c xs _ _ (HG.out.below hHeld.below) (HS.out.below hHeld.below) HF.out HV.out).mono ?_; rintro e w7 ⟨rfl, hb6⟩)
      refine hK.out _ _ (by first | exact hHeld.more hb6 | exact hHeld | exact below_more hHeld hb6) (fun hHeld1 => ?_)
      clear hHeld; have hHeld := hHeld1; clear hHeld1 hK K
      try simp only [Act.put, List.setIfInBounds_toArray, List.set_cons_zero, List.set_cons_succ]
      refine wpAnyH_ready (rs := [9]) (by kernel_rfl) (by simp) ?_
      refine (AllReadyH.cons (o := ({ dst := some 15, op := Go.Op.call { callee := Go.Callee.value (Go.Operand.func 15), args := #[Go.Operand.tmp 14], argTypes := #[27] }, type := 3, pos := "law.go:106", after := #[{ on := 8, ground := Go.Ground.data }, { on := 7, ground := Go.Ground.chain }, { on := 5, ground := Go.Ground.guard }], guard := some (5, true) } : Oper)) rfl (fun K hK => ?_) AllReadyH.nil)
      go_simp
      (go_at_call 15; refine (refRestR_eq p A n c xs _ _ (HS.out.below hHeld.below) HF.out HV.out).mono ?_; rintro e w7 ⟨rfl, hb6⟩)
      refine hK.out _ _ (by first | exact hHeld.more hb6 | exact hHeld | exact below_more hHeld hb6) (fun hHeld1 => ?_)
      clear hHeld; have hHeld := hHeld1; clear hHeld1 hK K
      try simp only [Act.put, List.setIfInBounds_toArray, List.set_cons_zero, List.set_cons_succ]
      refine wpAnyH_take (i := 10) (oi := ({ dst := some 16, op := Go.Op.binOp Go.BinOp.eql 3 (Go.Operand.tmp 13) (Go.Operand.tmp 15) 3, type := 4, pos := "law.go:106", after := #[{ on := 7, ground := Go.Ground.data }, { on := 9, ground := Go.Ground.data }, { on := 5, ground := Go.Ground.guard }], guard := some (5, true) } : Oper)) (v := ?vw18) rfl (by kernel_rfl) (by kernel_rfl) (by kernel_rfl) (fun _ _ _ h => h) (Or.inl ⟨by rfl, ?hz18⟩) (by assumption) ?rs18
      case hz18 => (intro wz hSw; (try have hq1 := hSw.tail.cell); (try have hq2 := hSw.tail.tail.cell); (try have hq3 := hSw.cell); (try have hq4 := hSw.tail.row); (try have hq5 := hSw.tail.tail.row); (try have hq6 := hSw.row); (try have hq7 := hSw.tail.tail.tail.row); (try clear hSw); go_simp; all_goals with_reducible rfl)
      try simp only [Act.put, List.setIfInBounds_toArray, List.set_cons_zero, List.set_cons_succ]
      refine wpAnyH_take (i := 11) (oi := ({ dst := some 17, op := Go.Op.pick (Go.Operand.tmp 11) (Go.Operand.tmp 16) (Go.Operand.const (Go.Value.bool false)), type := 4, pos := "law.go:106", after := #[{ on := 5, ground := Go.Ground.data }, { on := 10, ground := Go.Ground.data }], guard := none } : Oper)) (v := ?vw19) rfl (by kernel_rfl) (by kernel_rfl) (by kernel_rfl) (fun _ _ _ h => h) (Or.inl ⟨by rfl, ?hz19⟩) (by assumption) ?rs19
      case hz19 => (intro wz hSw; (try have hq1 := hSw.tail.cell); (try have hq2 := hSw.tail.tail.cell); (try have hq3 := hSw.cell); (try have hq4 := hSw.tail.row); (try have hq5 := hSw.tail.tail.row); (try have hq6 := hSw.row); (try have hq7 := hSw.tail.tail.tail.row); (try clear hSw); go_simp; all_goals with_reducible rfl)
      try simp only [Act.put, List.setIfInBounds_toArray, List.set_cons_zero, List.set_cons_succ]
      refine wpAnyH_take (i := 12) (oi := ({ dst := some 18, op := Go.Op.move (Go.Operand.tmp 17), type := 4, pos := "law.go:106", after := #[{ on := 11, ground := Go.Ground.data }, { on := 9, ground := Go.Ground.chain }], guard := none } : Oper)) (v := ?vw20) rfl (by kernel_rfl) (by kernel_rfl) (by kernel_rfl) (fun _ _ _ h => h) (Or.inl ⟨by rfl, ?hz20⟩) (by assumption) ?rs20
      case hz20 => (intro wz hSw; (try have hq1 := hSw.tail.cell); (try have hq2 := hSw.tail.tail.cell); (try have hq3 := hSw.cell); (try have hq4 := hSw.tail.row); (try have hq5 := hSw.tail.tail.row); (try have hq6 := hSw.row); (try have hq7 := hSw.tail.tail.tail.row); (try clear hSw); go_simp; all_goals with_reducible rfl)
      try simp only [Act.put, List.setIfInBounds_toArray, List.set_cons_zero, List.set_cons_succ]
      refine wpAnyH_ready (rs := [13]) (by kernel_rfl) (by simp) ?_
      refine (AllReadyH.cons (o := ({ dst := some 19, op := Go.Op.call { callee := Go.Callee.value (Go.Operand.func 10), args := #[], argTypes := #[] }, type := 4, pos := "law.go:106", after := #[{ on := 12, ground := Go.Ground.chain }, { on := 12, ground := Go.Ground.guard }], guard := some (12, true) } : Oper)) rfl (fun K hK => ?_) AllReadyH.nil)
      go_simp
      (go_at_call 10; refine (awake_any _ (HG.out.below hHeld.below)).mono ?_; rintro e w7 ⟨rfl, hb6⟩)
      refine hK.out _ _ (by first | exact hHeld.more hb6 | exact hHeld | exact below_more hHeld hb6) (fun hHeld1 => ?_)
      clear hHeld; have hHeld := hHeld1; clear hHeld1 hK K
      try simp only [Act.put, List.setIfInBounds_toArray, List.set_cons_zero, List.set_cons_succ]
      refine wpAnyH_take (i := 14) (oi := ({ dst := some 20, op := Go.Op.pick (Go.Operand.tmp 18) (Go.Operand.tmp 19) (Go.Operand.const (Go.Value.bool false)), type := 4, pos := "law.go:106", after := #[{ on := 12, ground := Go.Ground.data }, { on := 13, ground := Go.Ground.data }], guard := none } : Oper)) (v := ?vw21) rfl (by kernel_rfl) (by kernel_rfl) (by kernel_rfl) (fun _ _ _ h => h) (Or.inl ⟨by rfl, ?hz21⟩) (by assumption) ?rs21
      case hz21 => (intro wz hSw; (try have hq1 := hSw.tail.cell); (try have hq2 := hSw.tail.tail.cell); (try have hq3 := hSw.cell); (try have hq4 := hSw.tail.row); (try have hq5 := hSw.tail.tail.row); (try have hq6 := hSw.row); (try have hq7 := hSw.tail.tail.tail.row); (try clear hSw); go_simp; all_goals with_reducible rfl)
      try simp only [Act.put, List.setIfInBounds_toArray, List.set_cons_zero, List.set_cons_succ]
      refine wpAnyH_take (i := 15) (oi := ({ dst := some 2, op := Go.Op.assign (Go.Operand.tmp 20), type := 4, pos := "law.go:106", after := #[{ on := 14, ground := Go.Ground.data }, { on := 13, ground := Go.Ground.chain }, { on := 0, ground := Go.Ground.phase }, { on := 1, ground := Go.Ground.phase }, { on := 2, ground := Go.Ground.phase }, { on := 3, ground := Go.Ground.phase }, { on := 4, ground := Go.Ground.phase }, { on := 5, ground := Go.Ground.phase }, { on := 6, ground := Go.Ground.phase }, { on := 7, ground := Go.Ground.phase }, { on := 8, ground := Go.Ground.phase }, { on := 9, ground := Go.Ground.phase }, { on := 10, ground := Go.Ground.phase }, { on := 11, ground := Go.Ground.phase }, { on := 12, ground := Go.Ground.phase }, { on := 13, ground := Go.Ground.phase }, { on := 14, ground := Go.Ground.phase }], guard := none } : Oper)) (v := ?vw22) rfl (by kernel_rfl) (by kernel_rfl) (by kernel_rfl) (fun _ _ _ h => h) (Or.inl ⟨by rfl, ?hz22⟩) (by assumption) ?rs22
      case hz22 => (intro wz hSw; (try have hq1 := hSw.tail.cell); (try have hq2 := hSw.tail.tail.cell); (try have hq3 := hSw.cell); (try have hq4 := hSw.tail.row); (try have hq5 := hSw.tail.tail.row); (try have hq6 := hSw.row); (try have hq7 := hSw.tail.tail.tail.row); (try clear hSw); go_simp; all_goals with_reducible rfl)
      try simp only [Act.put, List.setIfInBounds_toArray, List.set_cons_zero, List.set_cons_succ]
      refine wpAnyH_done (by kernel_rfl) ?_ _
      go_wp2_with fail
      go_ret
      exact ⟨rfl, hHeld.below⟩
end lawPacketRight
end Go.Proofs.YtbbmfhelncedcaaDoor
