/-
  packet: Same, Copy; slices.Equal at subs.
-/
import Derived.Test.YtangnkhehajikaaGreatDoorPkD
set_option linter.unusedSimpArgs false
set_option linter.unusedVariables false
namespace Go.Proofs.YtangnkhehajikaaGreatDoor
open Go.RowKit
set_option maxRecDepth 100000
def eqSb (f : List UInt8) (q : Int) (f' : List UInt8) (q' : Int) : Bool := f == f' && (q == q' && true)
@[go_sem high] theorem eq_sb (w : World) (f : List UInt8) (q : Int) (f' : List UInt8) (q' : Int) : (Op.equalIn 10000 49 (.agg (SbC f q)) (.agg (SbC f' q'))).run Tryz.prog w = .ok (eqSb f q f' q') w := by
  rw [run_equalIn_agg w 9999 _ _ _ (by kernel_rfl) (by kernel_rfl)]
  simp only [Program.fieldsOf, Tryz.underlying49]
  refine step_str (by decide) (by kernel_rfl) (SbC_0 ..) (SbC_0 ..) ?_
  refine step_int (k' := .u8) (by decide) (by kernel_rfl) (SbC_1 ..) (SbC_1 ..) ?_
  rfl
theorem sb_eq_drop (xs ys : List (List UInt8 × Int)) (k : Nat) (x y : List UInt8 × Int) (hx : xs[k]? = some x) (hy : ys[k]? = some y) : (xs.drop k == ys.drop k) = (eqSb x.1 x.2 y.1 y.2 && (xs.drop (k + 1) == ys.drop (k + 1))) := by
  obtain ⟨h1, h2⟩ := List.getElem?_eq_some_iff.1 hx
  obtain ⟨k1, k2⟩ := List.getElem?_eq_some_iff.1 hy
  rw [List.drop_eq_getElem_cons h1, h2, List.drop_eq_getElem_cons k1, k2]
  obtain ⟨a, b⟩ := x
  obtain ⟨a', b'⟩ := y
  rw [Bool.eq_iff_iff]
  simp [eqSb, and_assoc]
set_option maxHeartbeats 1000000 in
theorem equal_any (A B : Option Addr) (n m c d : Nat) (xs ys : List (List UInt8 × Int)) (w : World) (hx : Subs w A n xs) (hy : Subs w B m ys) (hn : n ≤ 1000000) :
    Calls Tryz.prog 24 #[.slice A n c, .slice B m d] w fun e w' => e = .returned (.bool (xs == ys)) ∧ Below w.heap.size w w' := by
  have hX := Lib.hid hx
  have hY := Lib.hid hy
  have hxl := hx.len
  have hyl := hy.len
  by_cases hnm : n = m
  · subst hnm
    clear hx hy
    have hXL := Lib.hid hxl
    have hYL := Lib.hid hyl
    clear hxl hyl
    go_enter Tryz.func24, Tryz.ntmps24
    go_wp2_with fail
    go_loopw [5, 13] (fun _ i wr => ∃ k : Nat, i = .int .i64 k ∧ k ≤ n ∧ Below w.heap.size w wr ∧ Hid ((xs == ys) = (xs.drop k == ys.drop k))) (fun _ i _ => n - (intOf i).toNat)
    case atStart => exact ⟨0, rfl, by omega, Below.refl _ _, rfl⟩
    case round =>
      obtain ⟨k, rfl, hk, hb, hc⟩ := hrel
      by_cases hlt : k < n
      · have hlt2 : (k : Int) < (n : Int) := by omega
        have hk0 : (0 : Int) ≤ (k : Int) := by omega
        obtain ⟨bx, ox, x, rfl, hx, hbx, hsx, hex⟩ := hX.out.at_ hlt
        obtain ⟨by_, oy, y, rfl, hy, hby, hsy, hey⟩ := hY.out.at_ hlt
        have HD := Lib.hid (sb_eq_drop xs ys k x y hx hy)
        clear hx hy
        cases he : eqSb x.1 x.2 y.1 y.2 with
        | true =>
          rw [he] at HD
          go_wp2_with fail
          refine wp_region_held_drew (S := fun w' => Below w.heap.size w w') (by kernel_rfl) hb.drew (fun hHeld => ?_)
          refine wpAnyH_take (i := 0) (oi := ({ dst := some 16, op := Go.Op.move (Go.Operand.tmp 0), type := 25, pos := "slices.go:25", after := #[], guard := none } : Oper)) (v := ?vw175) rfl (by kernel_rfl) (by kernel_rfl) (by kernel_rfl) (fun _ _ _ h => h) (Or.inl ⟨by rfl, ?hz175⟩) (by assumption) ?rs175
          case hz175 => (intro wz hSw; (try have hq1 := hSw.tail.cell); (try have hq2 := hSw.tail.tail.cell); (try have hq3 := hSw.cell); (try have hq4 := hSw.tail.row); (try have hq5 := hSw.tail.tail.row); (try have hq6 := hSw.row); (try have hq7 := hSw.tail.tail.tail.row); (try clear hSw); go_simp; all_goals with_reducible rfl)
          try simp only [Act.put, List.setIfInBounds_toArray, List.set_cons_zero, List.set_cons_succ]
          refine wpAnyH_take (i := 1) (oi := ({ dst := some 17, op := Go.Op.move (Go.Operand.tmp 5), type := 3, pos := "slices.go:25", after := #[], guard := none } : Oper)) (v := ?vw176) rfl (by kernel_rfl) (by kernel_rfl) (by kernel_rfl) (fun _ _ _ h => h) (Or.inl ⟨by rfl, ?hz176⟩) (by assumption) ?rs176
          case hz176 => (intro wz hSw; (try have hq1 := hSw.tail.cell); (try have hq2 := hSw.tail.tail.cell); (try have hq3 := hSw.cell); (try have hq4 := hSw.tail.row); (try have hq5 := hSw.tail.tail.row); (try have hq6 := hSw.row); (try have hq7 := hSw.tail.tail.tail.row); (try clear hSw); go_simp; all_goals with_reducible rfl)
          try simp only [Act.put, List.setIfInBounds_toArray, List.set_cons_zero, List.set_cons_succ]
          refine wpAnyH_take (i := 2) (oi := ({ dst := some 18, op := Go.Op.indexAddr 25 (Go.Operand.tmp 16) (Go.Operand.tmp 17), type := 0, pos := "slices.go:25", after := #[{ on := 0, ground := Go.Ground.data }, { on := 1, ground := Go.Ground.data }], guard := none } : Oper)) (v := ?vw177) rfl (by kernel_rfl) (by kernel_rfl) (by kernel_rfl) (fun _ _ _ h => h) (Or.inl ⟨by rfl, ?hz177⟩) (by assumption) ?rs177
          case hz177 => (intro wz hSw; (try have hq1 := hSw.tail.cell); (try have hq2 := hSw.tail.tail.cell); (try have hq3 := hSw.cell); (try have hq4 := hSw.tail.row); (try have hq5 := hSw.tail.tail.row); (try have hq6 := hSw.row); (try have hq7 := hSw.tail.tail.tail.row); (try clear hSw); go_simp; all_goals with_reducible rfl)
          try simp only [Act.put, List.setIfInBounds_toArray, List.set_cons_zero, List.set_cons_succ]
          refine wpAnyH_take (i := 3) (oi := ({ dst := some 19, op := Go.Op.load 49 (Go.Operand.tmp 18), type := 49, pos := "slices.go:25", after := #[{ on := 2, ground := Go.Ground.data }], guard := none } : Oper)) (v := ?vw178) rfl (by kernel_rfl) (by kernel_rfl) (by kernel_rfl) (fun _ _ _ h => h) (Or.inl ⟨by rfl, ?hz178⟩) (by assumption) ?rs178
          case hz178 => (intro wz hSw; have z1 := rowAt_below hSw hbx; (try have hq1 := hSw.tail.cell); (try have hq2 := hSw.tail.tail.cell); (try have hq3 := hSw.cell); (try have hq4 := hSw.tail.row); (try have hq5 := hSw.tail.tail.row); (try have hq6 := hSw.row); (try have hq7 := hSw.tail.tail.tail.row); (try clear hSw); go_simp; all_goals with_reducible rfl)
          try simp only [Act.put, List.setIfInBounds_toArray, List.set_cons_zero, List.set_cons_succ]
          refine wpAnyH_take (i := 4) (oi := ({ dst := some 20, op := Go.Op.move (Go.Operand.tmp 1), type := 25, pos := "slices.go:25", after := #[], guard := none } : Oper)) (v := ?vw179) rfl (by kernel_rfl) (by kernel_rfl) (by kernel_rfl) (fun _ _ _ h => h) (Or.inl ⟨by rfl, ?hz179⟩) (by assumption) ?rs179
          case hz179 => (intro wz hSw; (try have hq1 := hSw.tail.cell); (try have hq2 := hSw.tail.tail.cell); (try have hq3 := hSw.cell); (try have hq4 := hSw.tail.row); (try have hq5 := hSw.tail.tail.row); (try have hq6 := hSw.row); (try have hq7 := hSw.tail.tail.tail.row); (try clear hSw); go_simp; all_goals with_reducible rfl)
          try simp only [Act.put, List.setIfInBounds_toArray, List.set_cons_zero, List.set_cons_succ]
          refine wpAnyH_take (i := 5) (oi := ({ dst := some 21, op := Go.Op.move (Go.Operand.tmp 5), type := 3, pos := "slices.go:25", after := #[], guard := none } : Oper)) (v := ?vw180) rfl (by kernel_rfl) (by kernel_rfl) (by kernel_rfl) (fun _ _ _ h => h) (Or.inl ⟨by rfl, ?hz180⟩) (by assumption) ?rs180
          case hz180 => (intro wz hSw; (try have hq1 := hSw.tail.cell); (try have hq2 := hSw.tail.tail.cell); (try have hq3 := hSw.cell); (try have hq4 := hSw.tail.row); (try have hq5 := hSw.tail.tail.row); (try have hq6 := hSw.row); (try have hq7 := hSw.tail.tail.tail.row); (try clear hSw); go_simp; all_goals with_reducible rfl)
          try simp only [Act.put, List.setIfInBounds_toArray, List.set_cons_zero, List.set_cons_succ]
          refine wpAnyH_take (i := 6) (oi := ({ dst := some 22, op := Go.Op.indexAddr 25 (Go.Operand.tmp 20) (Go.Operand.tmp 21), type := 0, pos := "slices.go:25", after := #[{ on := 4, ground := Go.Ground.data }, { on := 5, ground := Go.Ground.data }], guard := none } : Oper)) (v := ?vw181) rfl (by kernel_rfl) (by kernel_rfl) (by kernel_rfl) (fun _ _ _ h => h) (Or.inl ⟨by rfl, ?hz181⟩) (by assumption) ?rs181
          case hz181 => (intro wz hSw; (try have hq1 := hSw.tail.cell); (try have hq2 := hSw.tail.tail.cell); (try have hq3 := hSw.cell); (try have hq4 := hSw.tail.row); (try have hq5 := hSw.tail.tail.row); (try have hq6 := hSw.row); (try have hq7 := hSw.tail.tail.tail.row); (try clear hSw); go_simp; all_goals with_reducible rfl)
          try simp only [Act.put, List.setIfInBounds_toArray, List.set_cons_zero, List.set_cons_succ]
          refine wpAnyH_take (i := 7) (oi := ({ dst := some 23, op := Go.Op.load 49 (Go.Operand.tmp 22), type := 49, pos := "slices.go:25", after := #[{ on := 6, ground := Go.Ground.data }], guard := none } : Oper)) (v := ?vw182) rfl (by kernel_rfl) (by kernel_rfl) (by kernel_rfl) (fun _ _ _ h => h) (Or.inl ⟨by rfl, ?hz182⟩) (by assumption) ?rs182
          case hz182 => (intro wz hSw; have z1 := rowAt_below hSw hby; (try have hq1 := hSw.tail.cell); (try have hq2 := hSw.tail.tail.cell); (try have hq3 := hSw.cell); (try have hq4 := hSw.tail.row); (try have hq5 := hSw.tail.tail.row); (try have hq6 := hSw.row); (try have hq7 := hSw.tail.tail.tail.row); (try clear hSw); go_simp; all_goals with_reducible rfl)
          try simp only [Act.put, List.setIfInBounds_toArray, List.set_cons_zero, List.set_cons_succ]
          refine wpAnyH_take (i := 8) (oi := ({ dst := some 24, op := Go.Op.binOp Go.BinOp.neq 49 (Go.Operand.tmp 19) (Go.Operand.tmp 23) 49, type := 4, pos := "slices.go:25", after := #[{ on := 3, ground := Go.Ground.data }, { on := 7, ground := Go.Ground.data }], guard := none } : Oper)) (v := ?vw183) rfl (by kernel_rfl) (by kernel_rfl) (by kernel_rfl) (fun _ _ _ h => h) (Or.inl ⟨by rfl, ?hz183⟩) (by assumption) ?rs183
          case hz183 => (intro wz hSw; (try have hq1 := hSw.tail.cell); (try have hq2 := hSw.tail.tail.cell); (try have hq3 := hSw.cell); (try have hq4 := hSw.tail.row); (try have hq5 := hSw.tail.tail.row); (try have hq6 := hSw.row); (try have hq7 := hSw.tail.tail.tail.row); (try clear hSw); go_simp; all_goals with_reducible rfl)
          try simp only [Act.put, List.setIfInBounds_toArray, List.set_cons_zero, List.set_cons_succ]
          refine wpAnyH_done (by kernel_rfl) ?_ _
          go_wp2_with fail
          go_roundw
          case rel => exact ⟨k + 1, by go_num, by omega, hHeld, by show _ = _; rw [hc.out, HD.out, Bool.true_and]⟩
          case measure => simp [intOf]; omega
        | false =>
          rw [he] at HD
          go_wp2_with fail
          refine wp_region_held_drew (S := fun w' => Below w.heap.size w w') (by kernel_rfl) hb.drew (fun hHeld => ?_)
          refine wpAnyH_take (i := 0) (oi := ({ dst := some 16, op := Go.Op.move (Go.Operand.tmp 0), type := 25, pos := "slices.go:25", after := #[], guard := none } : Oper)) (v := ?vw184) rfl (by kernel_rfl) (by kernel_rfl) (by kernel_rfl) (fun _ _ _ h => h) (Or.inl ⟨by rfl, ?hz184⟩) (by assumption) ?rs184
          case hz184 => (intro wz hSw; (try have hq1 := hSw.tail.cell); (try have hq2 := hSw.tail.tail.cell); (try have hq3 := hSw.cell); (try have hq4 := hSw.tail.row); (try have hq5 := hSw.tail.tail.row); (try have hq6 := hSw.row); (try have hq7 := hSw.tail.tail.tail.row); (try clear hSw); go_simp; all_goals with_reducible rfl)
          try simp only [Act.put, List.setIfInBounds_toArray, List.set_cons_zero, List.set_cons_succ]
          refine wpAnyH_take (i := 1) (oi := ({ dst := some 17, op := Go.Op.move (Go.Operand.tmp 5), type := 3, pos := "slices.go:25", after := #[], guard := none } : Oper)) (v := ?vw185) rfl (by kernel_rfl) (by kernel_rfl) (by kernel_rfl) (fun _ _ _ h => h) (Or.inl ⟨by rfl, ?hz185⟩) (by assumption) ?rs185
          case hz185 => (intro wz hSw; (try have hq1 := hSw.tail.cell); (try have hq2 := hSw.tail.tail.cell); (try have hq3 := hSw.cell); (try have hq4 := hSw.tail.row); (try have hq5 := hSw.tail.tail.row); (try have hq6 := hSw.row); (try have hq7 := hSw.tail.tail.tail.row); (try clear hSw); go_simp; all_goals with_reducible rfl)
          try simp only [Act.put, List.setIfInBounds_toArray, List.set_cons_zero, List.set_cons_succ]
          refine wpAnyH_take (i := 2) (oi := ({ dst := some 18, op := Go.Op.indexAddr 25 (Go.Operand.tmp 16) (Go.Operand.tmp 17), type := 0, pos := "slices.go:25", after := #[{ on := 0, ground := Go.Ground.data }, { on := 1, ground := Go.Ground.data }], guard := none } : Oper)) (v := ?vw186) rfl (by kernel_rfl) (by kernel_rfl) (by kernel_rfl) (fun _ _ _ h => h) (Or.inl ⟨by rfl, ?hz186⟩) (by assumption) ?rs186
          case hz186 => (intro wz hSw; (try have hq1 := hSw.tail.cell); (try have hq2 := hSw.tail.tail.cell); (try have hq3 := hSw.cell); (try have hq4 := hSw.tail.row); (try have hq5 := hSw.tail.tail.row); (try have hq6 := hSw.row); (try have hq7 := hSw.tail.tail.tail.row); (try clear hSw); go_simp; all_goals with_reducible rfl)
          try simp only [Act.put, List.setIfInBounds_toArray, List.set_cons_zero, List.set_cons_succ]
          refine wpAnyH_take (i := 3) (oi := ({ dst := some 19, op := Go.Op.load 49 (Go.Operand.tmp 18), type := 49, pos := "slices.go:25", after := #[{ on := 2, ground := Go.Ground.data }], guard := none } : Oper)) (v := ?vw187) rfl (by kernel_rfl) (by kernel_rfl) (by kernel_rfl) (fun _ _ _ h => h) (Or.inl ⟨by rfl, ?hz187⟩) (by assumption) ?rs187
          case hz187 => (intro wz hSw; have z1 := rowAt_below hSw hbx; (try have hq1 := hSw.tail.cell); (try have hq2 := hSw.tail.tail.cell); (try have hq3 := hSw.cell); (try have hq4 := hSw.tail.row); (try have hq5 := hSw.tail.tail.row); (try have hq6 := hSw.row); (try have hq7 := hSw.tail.tail.tail.row); (try clear hSw); go_simp; all_goals with_reducible rfl)
          try simp only [Act.put, List.setIfInBounds_toArray, List.set_cons_zero, List.set_cons_succ]
          refine wpAnyH_take (i := 4) (oi := ({ dst := some 20, op := Go.Op.move (Go.Operand.tmp 1), type := 25, pos := "slices.go:25", after := #[], guard := none } : Oper)) (v := ?vw188) rfl (by kernel_rfl) (by kernel_rfl) (by kernel_rfl) (fun _ _ _ h => h) (Or.inl ⟨by rfl, ?hz188⟩) (by assumption) ?rs188
          case hz188 => (intro wz hSw; (try have hq1 := hSw.tail.cell); (try have hq2 := hSw.tail.tail.cell); (try have hq3 := hSw.cell); (try have hq4 := hSw.tail.row); (try have hq5 := hSw.tail.tail.row); (try have hq6 := hSw.row); (try have hq7 := hSw.tail.tail.tail.row); (try clear hSw); go_simp; all_goals with_reducible rfl)
          try simp only [Act.put, List.setIfInBounds_toArray, List.set_cons_zero, List.set_cons_succ]
          refine wpAnyH_take (i := 5) (oi := ({ dst := some 21, op := Go.Op.move (Go.Operand.tmp 5), type := 3, pos := "slices.go:25", after := #[], guard := none } : Oper)) (v := ?vw189) rfl (by kernel_rfl) (by kernel_rfl) (by kernel_rfl) (fun _ _ _ h => h) (Or.inl ⟨by rfl, ?hz189⟩) (by assumption) ?rs189
          case hz189 => (intro wz hSw; (try have hq1 := hSw.tail.cell); (try have hq2 := hSw.tail.tail.cell); (try have hq3 := hSw.cell); (try have hq4 := hSw.tail.row); (try have hq5 := hSw.tail.tail.row); (try have hq6 := hSw.row); (try have hq7 := hSw.tail.tail.tail.row); (try clear hSw); go_simp; all_goals with_reducible rfl)
          try simp only [Act.put, List.setIfInBounds_toArray, List.set_cons_zero, List.set_cons_succ]
          refine wpAnyH_take (i := 6) (oi := ({ dst := some 22, op := Go.Op.indexAddr 25 (Go.Operand.tmp 20) (Go.Operand.tmp 21), type := 0, pos := "slices.go:25", after := #[{ on := 4, ground := Go.Ground.data }, { on := 5, ground := Go.Ground.data }], guard := none } : Oper)) (v := ?vw190) rfl (by kernel_rfl) (by kernel_rfl) (by kernel_rfl) (fun _ _ _ h => h) (Or.inl ⟨by rfl, ?hz190⟩) (by assumption) ?rs190
          case hz190 => (intro wz hSw; (try have hq1 := hSw.tail.cell); (try have hq2 := hSw.tail.tail.cell); (try have hq3 := hSw.cell); (try have hq4 := hSw.tail.row); (try have hq5 := hSw.tail.tail.row); (try have hq6 := hSw.row); (try have hq7 := hSw.tail.tail.tail.row); (try clear hSw); go_simp; all_goals with_reducible rfl)
          try simp only [Act.put, List.setIfInBounds_toArray, List.set_cons_zero, List.set_cons_succ]
          refine wpAnyH_take (i := 7) (oi := ({ dst := some 23, op := Go.Op.load 49 (Go.Operand.tmp 22), type := 49, pos := "slices.go:25", after := #[{ on := 6, ground := Go.Ground.data }], guard := none } : Oper)) (v := ?vw191) rfl (by kernel_rfl) (by kernel_rfl) (by kernel_rfl) (fun _ _ _ h => h) (Or.inl ⟨by rfl, ?hz191⟩) (by assumption) ?rs191
          case hz191 => (intro wz hSw; have z1 := rowAt_below hSw hby; (try have hq1 := hSw.tail.cell); (try have hq2 := hSw.tail.tail.cell); (try have hq3 := hSw.cell); (try have hq4 := hSw.tail.row); (try have hq5 := hSw.tail.tail.row); (try have hq6 := hSw.row); (try have hq7 := hSw.tail.tail.tail.row); (try clear hSw); go_simp; all_goals with_reducible rfl)
          try simp only [Act.put, List.setIfInBounds_toArray, List.set_cons_zero, List.set_cons_succ]
          refine wpAnyH_take (i := 8) (oi := ({ dst := some 24, op := Go.Op.binOp Go.BinOp.neq 49 (Go.Operand.tmp 19) (Go.Operand.tmp 23) 49, type := 4, pos := "slices.go:25", after := #[{ on := 3, ground := Go.Ground.data }, { on := 7, ground := Go.Ground.data }], guard := none } : Oper)) (v := ?vw192) rfl (by kernel_rfl) (by kernel_rfl) (by kernel_rfl) (fun _ _ _ h => h) (Or.inl ⟨by rfl, ?hz192⟩) (by assumption) ?rs192
          case hz192 => (intro wz hSw; (try have hq1 := hSw.tail.cell); (try have hq2 := hSw.tail.tail.cell); (try have hq3 := hSw.cell); (try have hq4 := hSw.tail.row); (try have hq5 := hSw.tail.tail.row); (try have hq6 := hSw.row); (try have hq7 := hSw.tail.tail.tail.row); (try clear hSw); go_simp; all_goals with_reducible rfl)
          try simp only [Act.put, List.setIfInBounds_toArray, List.set_cons_zero, List.set_cons_succ]
          refine wpAnyH_done (by kernel_rfl) ?_ _
          go_wp2_with fail
          go_ret
          exact ⟨ret_bool (by rw [hc.out, HD.out, Bool.false_and]), hHeld⟩
      · have hge : ¬ (k : Int) < (n : Int) := by omega
        have h1 : xs.drop k = [] := List.drop_eq_nil_of_le (by rw [hXL.out]; omega)
        have h2 : ys.drop k = [] := List.drop_eq_nil_of_le (by rw [hYL.out]; omega)
        have HE : Hid ((xs == ys) = true) := by show _ = _; rw [hc.out, h1, h2]; rfl
        clear h1 h2
        go_wp2_with fail
        go_ret
        exact ⟨ret_bool HE.out.symm, hb⟩
  · have hf : (xs == ys) = false := by
      rw [beq_eq_false_iff_ne]
      rintro rfl
      omega
    have HF := Lib.hid hf
    have hne : ((n : Int) == (m : Int)) = false := by simp; omega
    clear hx hy hxl hyl hf
    go_enter Tryz.func24, Tryz.ntmps24
    go_wp2_with fail
    go_ret
    exact ⟨ret_bool HF.out.symm, Below.refl _ _⟩
end Go.Proofs.YtangnkhehajikaaGreatDoor
