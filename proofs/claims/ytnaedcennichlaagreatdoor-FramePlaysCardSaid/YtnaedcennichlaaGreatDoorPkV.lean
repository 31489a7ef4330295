/-
  The document's own Same and Copy.
-/
import Derived.Test.YtnaedcennichlaaGreatDoorPkI
set_option linter.unusedSimpArgs false
set_option linter.unusedVariables false
namespace Go.Proofs.YtnaedcennichlaaGreatDoor
section
open Go.RowKit
def oPkV1 : Oper := ({ dst := some 158, op := Go.Op.fieldAddr 36 (Go.Operand.tmp 2) 19, type := 0, pos := "ref.go:196", after := #[], guard := none } : Oper)
def oPkV2 : Oper := ({ dst := some 159, op := Go.Op.load 34 (Go.Operand.tmp 158), type := 34, pos := "ref.go:196", after := #[{ on := 0, ground := Go.Ground.data }], guard := none } : Oper)
def oPkV3 : Oper := ({ dst := some 160, op := Go.Op.move (Go.Operand.tmp 5), type := 3, pos := "ref.go:196", after := #[], guard := none } : Oper)
def oPkV4 : Oper := ({ dst := some 161, op := Go.Op.indexAddr 34 (Go.Operand.tmp 159) (Go.Operand.tmp 160), type := 0, pos := "ref.go:196", after := #[{ on := 1, ground := Go.Ground.data }, { on := 2, ground := Go.Ground.data }], guard := none } : Oper)
def oPkV5 : Oper := ({ dst := some 162, op := Go.Op.load 42 (Go.Operand.tmp 161), type := 42, pos := "ref.go:196", after := #[{ on := 3, ground := Go.Ground.data }], guard := none } : Oper)
def oPkV6 : Oper := ({ dst := some 163, op := Go.Op.fieldAddr 36 (Go.Operand.tmp 3) 19, type := 0, pos := "ref.go:196", after := #[], guard := none } : Oper)
def oPkV7 : Oper := ({ dst := some 164, op := Go.Op.load 34 (Go.Operand.tmp 163), type := 34, pos := "ref.go:196", after := #[{ on := 5, ground := Go.Ground.data }], guard := none } : Oper)
def oPkV8 : Oper := ({ dst := some 165, op := Go.Op.move (Go.Operand.tmp 5), type := 3, pos := "ref.go:196", after := #[], guard := none } : Oper)
def oPkV9 : Oper := ({ dst := some 166, op := Go.Op.indexAddr 34 (Go.Operand.tmp 164) (Go.Operand.tmp 165), type := 0, pos := "ref.go:196", after := #[{ on := 6, ground := Go.Ground.data }, { on := 7, ground := Go.Ground.data }], guard := none } : Oper)
def oPkV10 : Oper := ({ dst := some 167, op := Go.Op.load 42 (Go.Operand.tmp 166), type := 42, pos := "ref.go:196", after := #[{ on := 8, ground := Go.Ground.data }], guard := none } : Oper)
def oPkV11 : Oper := ({ dst := some 168, op := Go.Op.binOp Go.BinOp.neq 42 (Go.Operand.tmp 162) (Go.Operand.tmp 167) 42, type := 4, pos := "ref.go:196", after := #[{ on := 4, ground := Go.Ground.data }, { on := 9, ground := Go.Ground.data }], guard := none } : Oper)
end
open Go.RowKit
theorem eqMs_self (t l : List UInt8) (q : Int) (r : Bool) : eqMs t l q r t l q r = true := by simp [eqMs]
set_option maxRecDepth 100000 in
set_option maxHeartbeats 16000000 in
theorem refSame_self (p : Pk) (A B : Option Addr) (n c d : Nat) (xs ys : List (List UInt8 × Int)) (w : World) (hx : Subs w A n xs) (hy : Subs w B n ys) (hn : n ≤ 1000000) :
    Calls Tryz.prog 12 #[.agg (PkC p A n c), .agg (PkC p B n d)] w fun e w' => e = .returned (.bool (xs == ys)) ∧ Below w.heap.size w w' := by
  have hK0 := (((Kp.nil w).new (PkC p A n c) 36).new (PkC p B n d) 36).swap
  simp only [World.size_alloc] at hK0
  have hX := Lib.hid hx
  have hY := Lib.hid hy
  have hXL := Lib.hid hx.len
  have hYL := Lib.hid hy.len
  have hms := eqMs_self p.wt p.wl p.wq p.wr
  clear hx hy
  go_enter Tryz.func12, Tryz.ntmps12
  go_upto_region 5 with fail
  obtain ⟨wv, hwv⟩ : ∃ wv : World, wv = ((w.alloc (.cells (PkC p A n c) 36)).alloc (.cells (PkC p B n d) 36)) := ⟨_, rfl⟩
  rw [← hwv] at hK0 ⊢
  clear hwv hms
  go_wp2_with fail
  go_loopw [4, 5] (fun _ i wr => ∃ k : Nat, i = .int .i64 k ∧ k ≤ n ∧ Kp w [(w.heap.size, PkC p A n c, 36), (w.heap.size + 1, PkC p B n d, 36)] wr ∧ Hid ((xs == ys) = (xs.drop k == ys.drop k))) (fun _ i _ => n - (intOf i).toNat)
  case atStart => exact ⟨0, rfl, by omega, hK0, rfl⟩
  case round =>
    clear hK0
    obtain ⟨k, rfl, hk, hK, hc⟩ := hrel
    have e1r := hK.row; have e1f := hK.free; have e1c := hK.cell; have e1l := hK.lt; have e1z := hK.froz
    have e2r := hK.tail.row; have e2f := hK.tail.free; have e2c := hK.tail.cell; have e2l := hK.tail.lt; have e2z := hK.tail.froz
    by_cases hlt : k < n
    · have hlt2 : (k : Int) < (n : Int) := by omega
      have hk0 : (0 : Int) ≤ (k : Int) := by omega
      obtain ⟨bx, ox, x, rfl, hx, hbx, hsx, hex⟩ := hX.out.at_ hlt
      obtain ⟨by_, oy, y, rfl, hy, hby, hsy, hey⟩ := hY.out.at_ hlt
      have HD := Lib.hid (sb_eq_drop xs ys k x y hx hy)
      clear hx hy
      cases he : eqSb x.1 x.2 y.1 y.2 with
      | true =>
        rw [he] at HD
        go_wp2_with fail
        refine wp_region_held_drew (S := Kp w [(w.heap.size, PkC p (some ⟨bx, ox, none⟩) n c, 36), (w.heap.size + 1, PkC p (some ⟨by_, oy, none⟩) n d, 36)]) (by kernel_rfl) hK.drew (fun hHeld => ?_)
        refine tkY 0 oPkV1 ?vw175 rfl (by kernel_rfl) (by kernel_rfl) (by kernel_rfl) (fun _ _ _ h => h) (by rfl) ?hz175 (by assumption) ?rs175
        case hz175 => (intro wz hSw; unfold oPkV1; (try clear hSw); go_simp; all_goals with_reducible rfl)
        try simp only [oPkV1, Act.put, sA, sB, sC]
        refine tkY 1 oPkV2 ?vw176 rfl (by kernel_rfl) (by kernel_rfl) (by kernel_rfl) (fun _ _ _ h => h) (by rfl) ?hz176 (by assumption) ?rs176
        case hz176 => (intro wz hSw; unfold oPkV2; (try have hq1 := hSw.tail.cell); (try have hq2 := hSw.tail.tail.cell); (try have hq3 := hSw.cell); (try have hq4 := hSw.tail.row); (try have hq5 := hSw.tail.tail.row); (try have hq6 := hSw.row); (try have hq7 := hSw.tail.tail.tail.row); (try clear hSw); go_simp; all_goals with_reducible rfl)
        try simp only [oPkV2, Act.put, sA, sB, sC]
        refine tkY 2 oPkV3 ?vw177 rfl (by kernel_rfl) (by kernel_rfl) (by kernel_rfl) (fun _ _ _ h => h) (by rfl) ?hz177 (by assumption) ?rs177
        case hz177 => (intro wz hSw; unfold oPkV3; (try clear hSw); go_simp; all_goals with_reducible rfl)
        try simp only [oPkV3, Act.put, sA, sB, sC]
        refine tkY 3 oPkV4 ?vw178 rfl (by kernel_rfl) (by kernel_rfl) (by kernel_rfl) (fun _ _ _ h => h) (by rfl) ?hz178 (by assumption) ?rs178
        case hz178 => (intro wz hSw; unfold oPkV4; (try clear hSw); go_simp; all_goals with_reducible rfl)
        try simp only [oPkV4, Act.put, sA, sB, sC]
        refine tkY 4 oPkV5 ?vw179 rfl (by kernel_rfl) (by kernel_rfl) (by kernel_rfl) (fun _ _ _ h => h) (by rfl) ?hz179 (by assumption) ?rs179
        case hz179 => (intro wz hSw; unfold oPkV5; have z1 := rowAt_below hSw.below hbx; (try have hq1 := hSw.tail.cell); (try have hq2 := hSw.tail.tail.cell); (try have hq3 := hSw.cell); (try have hq4 := hSw.tail.row); (try have hq5 := hSw.tail.tail.row); (try have hq6 := hSw.row); (try have hq7 := hSw.tail.tail.tail.row); (try clear hSw); go_simp; all_goals with_reducible rfl)
        try simp only [oPkV5, Act.put, sA, sB, sC]
        refine tkY 5 oPkV6 ?vw180 rfl (by kernel_rfl) (by kernel_rfl) (by kernel_rfl) (fun _ _ _ h => h) (by rfl) ?hz180 (by assumption) ?rs180
        case hz180 => (intro wz hSw; unfold oPkV6; (try clear hSw); go_simp; all_goals with_reducible rfl)
        try simp only [oPkV6, Act.put, sA, sB, sC]
        refine tkY 6 oPkV7 ?vw181 rfl (by kernel_rfl) (by kernel_rfl) (by kernel_rfl) (fun _ _ _ h => h) (by rfl) ?hz181 (by assumption) ?rs181
        case hz181 => (intro wz hSw; unfold oPkV7; (try have hq1 := hSw.tail.cell); (try have hq2 := hSw.tail.tail.cell); (try have hq3 := hSw.cell); (try have hq4 := hSw.tail.row); (try have hq5 := hSw.tail.tail.row); (try have hq6 := hSw.row); (try have hq7 := hSw.tail.tail.tail.row); (try clear hSw); go_simp; all_goals with_reducible rfl)
        try simp only [oPkV7, Act.put, sA, sB, sC]
        refine tkY 7 oPkV8 ?vw182 rfl (by kernel_rfl) (by kernel_rfl) (by kernel_rfl) (fun _ _ _ h => h) (by rfl) ?hz182 (by assumption) ?rs182
        case hz182 => (intro wz hSw; unfold oPkV8; (try clear hSw); go_simp; all_goals with_reducible rfl)
        try simp only [oPkV8, Act.put, sA, sB, sC]
        refine tkY 8 oPkV9 ?vw183 rfl (by kernel_rfl) (by kernel_rfl) (by kernel_rfl) (fun _ _ _ h => h) (by rfl) ?hz183 (by assumption) ?rs183
        case hz183 => (intro wz hSw; unfold oPkV9; (try clear hSw); go_simp; all_goals with_reducible rfl)
        try simp only [oPkV9, Act.put, sA, sB, sC]
        refine tkY 9 oPkV10 ?vw184 rfl (by kernel_rfl) (by kernel_rfl) (by kernel_rfl) (fun _ _ _ h => h) (by rfl) ?hz184 (by assumption) ?rs184
        case hz184 => (intro wz hSw; unfold oPkV10; have z1 := rowAt_below hSw.below hby; (try have hq1 := hSw.tail.cell); (try have hq2 := hSw.tail.tail.cell); (try have hq3 := hSw.cell); (try have hq4 := hSw.tail.row); (try have hq5 := hSw.tail.tail.row); (try have hq6 := hSw.row); (try have hq7 := hSw.tail.tail.tail.row); (try clear hSw); go_simp; all_goals with_reducible rfl)
        try simp only [oPkV10, Act.put, sA, sB, sC]
        refine tkY 10 oPkV11 ?vw185 rfl (by kernel_rfl) (by kernel_rfl) (by kernel_rfl) (fun _ _ _ h => h) (by rfl) ?hz185 (by assumption) ?rs185
        case hz185 => (intro wz hSw; unfold oPkV11; (try clear hSw); go_simp; all_goals with_reducible rfl)
        try simp only [oPkV11, Act.put, sA, sB, sC]
        refine wpAnyH_done (by kernel_rfl) ?_ _
        go_wp2_with fail
        go_roundw
        case rel => exact ⟨k + 1, by go_num, by omega, hHeld, by show _ = _; rw [hc.out, HD.out, Bool.true_and]⟩
        case measure => simp [intOf]; omega
      | false =>
        rw [he] at HD
        go_wp2_with fail
        refine wp_region_held_drew (S := Kp w [(w.heap.size, PkC p (some ⟨bx, ox, none⟩) n c, 36), (w.heap.size + 1, PkC p (some ⟨by_, oy, none⟩) n d, 36)]) (by kernel_rfl) hK.drew (fun hHeld => ?_)
        refine tkY 0 oPkV1 ?vw186 rfl (by kernel_rfl) (by kernel_rfl) (by kernel_rfl) (fun _ _ _ h => h) (by rfl) ?hz186 (by assumption) ?rs186
        case hz186 => (intro wz hSw; unfold oPkV1; (try clear hSw); go_simp; all_goals with_reducible rfl)
        try simp only [oPkV1, Act.put, sA, sB, sC]
        refine tkY 1 oPkV2 ?vw187 rfl (by kernel_rfl) (by kernel_rfl) (by kernel_rfl) (fun _ _ _ h => h) (by rfl) ?hz187 (by assumption) ?rs187
        case hz187 => (intro wz hSw; unfold oPkV2; (try have hq1 := hSw.tail.cell); (try have hq2 := hSw.tail.tail.cell); (try have hq3 := hSw.cell); (try have hq4 := hSw.tail.row); (try have hq5 := hSw.tail.tail.row); (try have hq6 := hSw.row); (try have hq7 := hSw.tail.tail.tail.row); (try clear hSw); go_simp; all_goals with_reducible rfl)
        try simp only [oPkV2, Act.put, sA, sB, sC]
        refine tkY 2 oPkV3 ?vw188 rfl (by kernel_rfl) (by kernel_rfl) (by kernel_rfl) (fun _ _ _ h => h) (by rfl) ?hz188 (by assumption) ?rs188
        case hz188 => (intro wz hSw; unfold oPkV3; (try clear hSw); go_simp; all_goals with_reducible rfl)
        try simp only [oPkV3, Act.put, sA, sB, sC]
        refine tkY 3 oPkV4 ?vw189 rfl (by kernel_rfl) (by kernel_rfl) (by kernel_rfl) (fun _ _ _ h => h) (by rfl) ?hz189 (by assumption) ?rs189
        case hz189 => (intro wz hSw; unfold oPkV4; (try clear hSw); go_simp; all_goals with_reducible rfl)
        try simp only [oPkV4, Act.put, sA, sB, sC]
        refine tkY 4 oPkV5 ?vw190 rfl (by kernel_rfl) (by kernel_rfl) (by kernel_rfl) (fun _ _ _ h => h) (by rfl) ?hz190 (by assumption) ?rs190
        case hz190 => (intro wz hSw; unfold oPkV5; have z1 := rowAt_below hSw.below hbx; (try have hq1 := hSw.tail.cell); (try have hq2 := hSw.tail.tail.cell); (try have hq3 := hSw.cell); (try have hq4 := hSw.tail.row); (try have hq5 := hSw.tail.tail.row); (try have hq6 := hSw.row); (try have hq7 := hSw.tail.tail.tail.row); (try clear hSw); go_simp; all_goals with_reducible rfl)
        try simp only [oPkV5, Act.put, sA, sB, sC]
        refine tkY 5 oPkV6 ?vw191 rfl (by kernel_rfl) (by kernel_rfl) (by kernel_rfl) (fun _ _ _ h => h) (by rfl) ?hz191 (by assumption) ?rs191
        case hz191 => (intro wz hSw; unfold oPkV6; (try clear hSw); go_simp; all_goals with_reducible rfl)
        try simp only [oPkV6, Act.put, sA, sB, sC]
        refine tkY 6 oPkV7 ?vw192 rfl (by kernel_rfl) (by kernel_rfl) (by kernel_rfl) (fun _ _ _ h => h) (by rfl) ?hz192 (by assumption) ?rs192
        case hz192 => (intro wz hSw; unfold oPkV7; (try have hq1 := hSw.tail.cell); (try have hq2 := hSw.tail.tail.cell); (try have hq3 := hSw.cell); (try have hq4 := hSw.tail.row); (try have hq5 := hSw.tail.tail.row); (try have hq6 := hSw.row); (try have hq7 := hSw.tail.tail.tail.row); (try clear hSw); go_simp; all_goals with_reducible rfl)
        try simp only [oPkV7, Act.put, sA, sB, sC]
        refine tkY 7 oPkV8 ?vw193 rfl (by kernel_rfl) (by kernel_rfl) (by kernel_rfl) (fun _ _ _ h => h) (by rfl) ?hz193 (by assumption) ?rs193
        case hz193 => (intro wz hSw; unfold oPkV8; (try clear hSw); go_simp; all_goals with_reducible rfl)
        try simp only [oPkV8, Act.put, sA, sB, sC]
        refine tkY 8 oPkV9 ?vw194 rfl (by kernel_rfl) (by kernel_rfl) (by kernel_rfl) (fun _ _ _ h => h) (by rfl) ?hz194 (by assumption) ?rs194
        case hz194 => (intro wz hSw; unfold oPkV9; (try clear hSw); go_simp; all_goals with_reducible rfl)
        try simp only [oPkV9, Act.put, sA, sB, sC]
        refine tkY 9 oPkV10 ?vw195 rfl (by kernel_rfl) (by kernel_rfl) (by kernel_rfl) (fun _ _ _ h => h) (by rfl) ?hz195 (by assumption) ?rs195
        case hz195 => (intro wz hSw; unfold oPkV10; have z1 := rowAt_below hSw.below hby; (try have hq1 := hSw.tail.cell); (try have hq2 := hSw.tail.tail.cell); (try have hq3 := hSw.cell); (try have hq4 := hSw.tail.row); (try have hq5 := hSw.tail.tail.row); (try have hq6 := hSw.row); (try have hq7 := hSw.tail.tail.tail.row); (try clear hSw); go_simp; all_goals with_reducible rfl)
        try simp only [oPkV10, Act.put, sA, sB, sC]
        refine tkY 10 oPkV11 ?vw196 rfl (by kernel_rfl) (by kernel_rfl) (by kernel_rfl) (fun _ _ _ h => h) (by rfl) ?hz196 (by assumption) ?rs196
        case hz196 => (intro wz hSw; unfold oPkV11; (try clear hSw); go_simp; all_goals with_reducible rfl)
        try simp only [oPkV11, Act.put, sA, sB, sC]
        refine wpAnyH_done (by kernel_rfl) ?_ _
        go_wp2_with fail
        go_ret
        exact ⟨ret_bool (by rw [hc.out, HD.out, Bool.false_and]), hHeld.below⟩
    · have hge : ¬ (k : Int) < (n : Int) := by omega
      have h1 : xs.drop k = [] := List.drop_eq_nil_of_le (by rw [hXL.out]; omega)
      have h2 : ys.drop k = [] := List.drop_eq_nil_of_le (by rw [hYL.out]; omega)
      have HE : Hid ((xs == ys) = true) := by show _ = _; rw [hc.out, h1, h2]; rfl
      clear h1 h2
      go_wp2_with fail
      go_ret
      exact ⟨ret_bool HE.out.symm, hK.below⟩
end Go.Proofs.YtnaedcennichlaaGreatDoor
