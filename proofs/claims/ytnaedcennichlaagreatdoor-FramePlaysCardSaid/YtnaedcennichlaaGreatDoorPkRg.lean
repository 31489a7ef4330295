/-
  The document's own Right: which packets may be.
-/
import Derived.Test.YtnaedcennichlaaGreatDoorMe
import Derived.Test.YtnaedcennichlaaGreatDoorMf
set_option linter.unusedSimpArgs false
set_option linter.unusedVariables false
namespace Go.Proofs.YtnaedcennichlaaGreatDoor
section
open Go.RowKit
def oPkRg1 : Oper := ({ dst := some 7, op := Go.Op.move (Go.Operand.tmp 3), type := 9, pos := "ref.go:131", after := #[], guard := none } : Oper)
def oPkRg2 : Oper := ({ dst := some 8, op := Go.Op.binOp Go.BinOp.eql 9 (Go.Operand.tmp 7) (Go.Operand.const (Go.Value.string { data := #[45] })) 9, type := 4, pos := "ref.go:131", after := #[{ on := 0, ground := Go.Ground.data }], guard := none } : Oper)
def oPkRg3 : Oper := ({ dst := some 9, op := Go.Op.move (Go.Operand.tmp 8), type := 4, pos := "ref.go:131", after := #[{ on := 1, ground := Go.Ground.data }], guard := none } : Oper)
def oPkRg4 : Oper := ({ dst := some 10, op := Go.Op.load 36 (Go.Operand.tmp 1), type := 36, pos := "ref.go:131", after := #[{ on := 2, ground := Go.Ground.guard }], guard := some (2, false) } : Oper)
def oPkRg5 : Oper := ({ dst := some 11, op := Go.Op.load 36 (Go.Operand.tmp 1), type := 36, pos := "ref.go:131", after := #[{ on := 2, ground := Go.Ground.guard }], guard := some (2, false) } : Oper)
def oPkRg6 : Oper := ({ dst := some 12, op := Go.Op.call { callee := Go.Callee.value (Go.Operand.func 41), args := #[Go.Operand.tmp 11], argTypes := #[36] }, type := 36, pos := "ref.go:131", after := #[{ on := 4, ground := Go.Ground.data }, { on := 2, ground := Go.Ground.chain }, { on := 2, ground := Go.Ground.guard }], guard := some (2, false) } : Oper)
def oPkRg7 : Oper := ({ dst := some 13, op := Go.Op.call { callee := Go.Callee.value (Go.Operand.func 12), args := #[Go.Operand.tmp 10, Go.Operand.tmp 12], argTypes := #[36, 36] }, type := 4, pos := "ref.go:131", after := #[{ on := 3, ground := Go.Ground.data }, { on := 5, ground := Go.Ground.data }, { on := 5, ground := Go.Ground.chain }, { on := 2, ground := Go.Ground.guard }], guard := some (2, false) } : Oper)
def oPkRg8 : Oper := ({ dst := some 14, op := Go.Op.unOp Go.UnOp.not 4 (Go.Operand.tmp 13), type := 4, pos := "ref.go:131", after := #[{ on := 6, ground := Go.Ground.data }, { on := 2, ground := Go.Ground.guard }], guard := some (2, false) } : Oper)
def oPkRg9 : Oper := ({ dst := some 15, op := Go.Op.pick (Go.Operand.tmp 9) (Go.Operand.const (Go.Value.bool true)) (Go.Operand.tmp 14), type := 4, pos := "ref.go:131", after := #[{ on := 2, ground := Go.Ground.data }, { on := 7, ground := Go.Ground.data }], guard := none } : Oper)
def oPkRg10 : Oper := ({ dst := some 16, op := Go.Op.move (Go.Operand.tmp 15), type := 4, pos := "ref.go:131", after := #[{ on := 8, ground := Go.Ground.data }, { on := 6, ground := Go.Ground.chain }], guard := none } : Oper)
def oPkRg11 : Oper := ({ dst := some 17, op := Go.Op.load 36 (Go.Operand.tmp 1), type := 36, pos := "ref.go:131", after := #[{ on := 9, ground := Go.Ground.guard }], guard := some (9, false) } : Oper)
def oPkRg12 : Oper := ({ dst := some 18, op := Go.Op.call { callee := Go.Callee.value (Go.Operand.func 42), args := #[Go.Operand.tmp 17], argTypes := #[36] }, type := 4, pos := "ref.go:131", after := #[{ on := 10, ground := Go.Ground.data }, { on := 9, ground := Go.Ground.chain }, { on := 9, ground := Go.Ground.guard }], guard := some (9, false) } : Oper)
def oPkRg13 : Oper := ({ dst := some 19, op := Go.Op.unOp Go.UnOp.not 4 (Go.Operand.tmp 18), type := 4, pos := "ref.go:131", after := #[{ on := 11, ground := Go.Ground.data }, { on := 9, ground := Go.Ground.guard }], guard := some (9, false) } : Oper)
def oPkRg14 : Oper := ({ dst := some 20, op := Go.Op.pick (Go.Operand.tmp 16) (Go.Operand.const (Go.Value.bool true)) (Go.Operand.tmp 19), type := 4, pos := "ref.go:131", after := #[{ on := 9, ground := Go.Ground.data }, { on := 12, ground := Go.Ground.data }], guard := none } : Oper)
def oPkRg15 : Oper := ({ dst := some 21, op := Go.Op.move (Go.Operand.tmp 20), type := 4, pos := "ref.go:131", after := #[{ on := 13, ground := Go.Ground.data }, { on := 11, ground := Go.Ground.chain }], guard := none } : Oper)
def oPkRg16 : Oper := ({ dst := some 22, op := Go.Op.fieldAddr 36 (Go.Operand.tmp 1) 2, type := 0, pos := "ref.go:131", after := #[{ on := 14, ground := Go.Ground.guard }], guard := some (14, false) } : Oper)
def oPkRg17 : Oper := ({ dst := some 23, op := Go.Op.load 5 (Go.Operand.tmp 22), type := 5, pos := "ref.go:131", after := #[{ on := 15, ground := Go.Ground.data }, { on := 14, ground := Go.Ground.guard }], guard := some (14, false) } : Oper)
def oPkRg18 : Oper := ({ dst := some 24, op := Go.Op.binOp Go.BinOp.gtr 5 (Go.Operand.tmp 23) (Go.Operand.const (Go.Value.int Go.IntKind.u8 2)) 5, type := 4, pos := "ref.go:131", after := #[{ on := 16, ground := Go.Ground.data }, { on := 14, ground := Go.Ground.guard }], guard := some (14, false) } : Oper)
def oPkRg19 : Oper := ({ dst := some 25, op := Go.Op.pick (Go.Operand.tmp 21) (Go.Operand.const (Go.Value.bool true)) (Go.Operand.tmp 24), type := 4, pos := "ref.go:131", after := #[{ on := 14, ground := Go.Ground.data }, { on := 17, ground := Go.Ground.data }], guard := none } : Oper)
end
open Go.RowKit
def oX (L : List UInt8) (xs : List (List UInt8 × Int)) : List (List UInt8 × Int) := if hasB L 98 = true then xs else []
theorem Subs.only {w : World} {A : Option Addr} {n : Nat} {xs : List (List UInt8 × Int)} (h : Subs w A n xs) (L : List UInt8) : Subs w (oA L A) (oN L n) (oX L xs) := by
  unfold oA oN oX
  cases hasB L 98
  · exact Subs.nil _
  · exact h
def rgS (L : List UInt8) (p : Pk) (xs : List (List UInt8 × Int)) : Bool := eqPk p (onlyP L p) && xs == oX L xs
def rgA (L : List UInt8) (p : Pk) (xs : List (List UInt8 × Int)) : Bool := !(L == [45]) && (rgS L p xs && (lsB p xs && !decide (2 < p.qos)))
def rgC (p : Pk) : Bool := if (p.ty == 1) = true then cnB p else if (p.ty == 2) = true then !decide (5 < p.code) && !(p.present && decide (0 < p.code)) else true
def rgD (L : List UInt8) (p : Pk) : Bool := if (p.ty == 3) = true then nmB p.topic && (!((p.qos == 0) && (p.dup || !(p.id == 0))) && !(decide (0 < p.qos) && (p.id == 0))) else !(hasB L 105 && (p.id == 0))
def rgB (L : List UInt8) (p : Pk) (xs : List (List UInt8 × Int)) : Bool := rgA L p xs && (rgC p && (rgD L p && decide (rrN p xs ≤ 268435455)))
set_option maxRecDepth 100000 in
set_option maxHeartbeats 8000000 in
theorem refRight_eq (p : Pk) (A : Option Addr) (n c k : Nat) (L : List UInt8) (xs : List (List UInt8 × Int)) (r : Bool) (w : World) (hs : Subs w A n xs) (hf : Fit p xs) (hty : p.ty = (k : Int)) (hk : k ≤ 255) (hL : fldF k = L) (hl : L.length ≤ 100) (h : rgB L p xs = r) :
    Calls Tryz.prog 29 #[.agg (PkC p A n c)] w fun e w' => e = .returned (.bool r) ∧ Below w.heap.size w w' := by
  have hK0 := (Kp.nil w).new (PkC p A n c) 36
  obtain ⟨l1, l2, l3, l4, l5, l6, l7, l8, l9⟩ := hf.lens2
  have hn : n ≤ 1000000 := by have := hf.num; have := hs.len; omega
  have hF : ∀ w, Calls Tryz.prog 40 #[.int .u8 p.ty] w fun e w' => e = .returned (.string ⟨L.toArray⟩) ∧ Below w.heap.size w w' := by
    intro w
    rw [hty]
    exact refFields_eq k hk L hL w
  have hO : ∀ w, Calls Tryz.prog 41 #[.agg (PkC p A n c)] w fun e w' => e = .returned (.agg (PkC (onlyP L p) (oA L A) (oN L n) (oN L c))) ∧ Below w.heap.size w w' := fun w => refOnly_any p A n c k L w hty hk hL hl
  have HF := Lib.hid hF
  have HO := Lib.hid hO
  have HS := Lib.hid hs
  have HT := Lib.hid hf
  have H := Lib.hid h
  clear hF hO hs hf hty hk hL h
  go_enter Tryz.func29, Tryz.ntmps29
  go_wp2_with fail
  refine (HF.out _).mono ?_
  rintro e w6 ⟨rfl, hb6⟩
  have hK6 := hK0.more hb6
  clear hb6 hK0 HF
  go_upto_region 2 with fail
  go_cut [25] (fun s25 wx => s25 = .bool (!rgA L p xs) ∧ Kp w [(w.heap.size, PkC p A n c, 36)] wx)
  case first =>
    obtain ⟨dash, hd⟩ : ∃ r, (L == [45]) = r := ⟨_, rfl⟩
    cases dash
    rotate_left
    · have HR : Hid (rgA L p xs = false) := by show _ = _; rw [rgA, hd]; rfl
      refine wp_region_held_drew (S := Kp w [(w.heap.size, PkC p A n c, 36)]) (by kernel_rfl) hK6.drew (fun hHeld => ?_)
      refine tkY 0 oPkRg1 ?vw197 rfl (by kernel_rfl) (by kernel_rfl) (by kernel_rfl) (fun _ _ _ h => h) (by rfl) ?hz197 (by assumption) ?rs197
      case hz197 => (intro wz hSw; unfold oPkRg1; (try clear hSw); go_simp; all_goals with_reducible rfl)
      try simp only [oPkRg1, Act.put, sA, sB, sC]
      refine tkY 1 oPkRg2 ?vw198 rfl (by kernel_rfl) (by kernel_rfl) (by kernel_rfl) (fun _ _ _ h => h) (by rfl) ?hz198 (by assumption) ?rs198
      case hz198 => (intro wz hSw; unfold oPkRg2; (try clear hSw); go_simp; all_goals with_reducible rfl)
      try simp only [oPkRg2, Act.put, sA, sB, sC]
      refine tkY 2 oPkRg3 ?vw199 rfl (by kernel_rfl) (by kernel_rfl) (by kernel_rfl) (fun _ _ _ h => h) (by rfl) ?hz199 (by assumption) ?rs199
      case hz199 => (intro wz hSw; unfold oPkRg3; (try clear hSw); go_simp; all_goals with_reducible rfl)
      try simp only [oPkRg3, Act.put, sA, sB, sC]
      refine wpAnyH_take (i := 3) (oi := oPkRg4) (v := undef) rfl (by kernel_rfl) (by kernel_rfl) (by kernel_rfl) (fun _ _ _ h => h) (Or.inr ⟨by rfl, rfl⟩) (by assumption) ?rt200
      try simp only [oPkRg4, Act.put, sA, sB, sC]
      refine wpAnyH_take (i := 4) (oi := oPkRg5) (v := undef) rfl (by kernel_rfl) (by kernel_rfl) (by kernel_rfl) (fun _ _ _ h => h) (Or.inr ⟨by rfl, rfl⟩) (by assumption) ?rt201
      try simp only [oPkRg5, Act.put, sA, sB, sC]
      refine wpAnyH_take (i := 5) (oi := oPkRg6) (v := undef) rfl (by kernel_rfl) (by kernel_rfl) (by kernel_rfl) (fun _ _ _ h => h) (Or.inr ⟨by rfl, rfl⟩) (by assumption) ?rt202
      try simp only [oPkRg6, Act.put, sA, sB, sC]
      refine wpAnyH_take (i := 6) (oi := oPkRg7) (v := undef) rfl (by kernel_rfl) (by kernel_rfl) (by kernel_rfl) (fun _ _ _ h => h) (Or.inr ⟨by rfl, rfl⟩) (by assumption) ?rt203
      try simp only [oPkRg7, Act.put, sA, sB, sC]
      refine wpAnyH_take (i := 7) (oi := oPkRg8) (v := undef) rfl (by kernel_rfl) (by kernel_rfl) (by kernel_rfl) (fun _ _ _ h => h) (Or.inr ⟨by rfl, rfl⟩) (by assumption) ?rt204
      try simp only [oPkRg8, Act.put, sA, sB, sC]
      refine tkY 8 oPkRg9 ?vw205 rfl (by kernel_rfl) (by kernel_rfl) (by kernel_rfl) (fun _ _ _ h => h) (by rfl) ?hz205 (by assumption) ?rs205
      case hz205 => (intro wz hSw; unfold oPkRg9; (try clear hSw); go_simp; all_goals with_reducible rfl)
      try simp only [oPkRg9, Act.put, sA, sB, sC]
      refine tkY 9 oPkRg10 ?vw206 rfl (by kernel_rfl) (by kernel_rfl) (by kernel_rfl) (fun _ _ _ h => h) (by rfl) ?hz206 (by assumption) ?rs206
      case hz206 => (intro wz hSw; unfold oPkRg10; (try clear hSw); go_simp; all_goals with_reducible rfl)
      try simp only [oPkRg10, Act.put, sA, sB, sC]
      refine wpAnyH_take (i := 10) (oi := oPkRg11) (v := undef) rfl (by kernel_rfl) (by kernel_rfl) (by kernel_rfl) (fun _ _ _ h => h) (Or.inr ⟨by rfl, rfl⟩) (by assumption) ?rt207
      try simp only [oPkRg11, Act.put, sA, sB, sC]
      refine wpAnyH_take (i := 11) (oi := oPkRg12) (v := undef) rfl (by kernel_rfl) (by kernel_rfl) (by kernel_rfl) (fun _ _ _ h => h) (Or.inr ⟨by rfl, rfl⟩) (by assumption) ?rt208
      try simp only [oPkRg12, Act.put, sA, sB, sC]
      refine wpAnyH_take (i := 12) (oi := oPkRg13) (v := undef) rfl (by kernel_rfl) (by kernel_rfl) (by kernel_rfl) (fun _ _ _ h => h) (Or.inr ⟨by rfl, rfl⟩) (by assumption) ?rt209
      try simp only [oPkRg13, Act.put, sA, sB, sC]
      refine tkY 13 oPkRg14 ?vw210 rfl (by kernel_rfl) (by kernel_rfl) (by kernel_rfl) (fun _ _ _ h => h) (by rfl) ?hz210 (by assumption) ?rs210
      case hz210 => (intro wz hSw; unfold oPkRg14; (try clear hSw); go_simp; all_goals with_reducible rfl)
      try simp only [oPkRg14, Act.put, sA, sB, sC]
      refine tkY 14 oPkRg15 ?vw211 rfl (by kernel_rfl) (by kernel_rfl) (by kernel_rfl) (fun _ _ _ h => h) (by rfl) ?hz211 (by assumption) ?rs211
      case hz211 => (intro wz hSw; unfold oPkRg15; (try clear hSw); go_simp; all_goals with_reducible rfl)
      try simp only [oPkRg15, Act.put, sA, sB, sC]
      refine wpAnyH_take (i := 15) (oi := oPkRg16) (v := undef) rfl (by kernel_rfl) (by kernel_rfl) (by kernel_rfl) (fun _ _ _ h => h) (Or.inr ⟨by rfl, rfl⟩) (by assumption) ?rt212
      try simp only [oPkRg16, Act.put, sA, sB, sC]
      refine wpAnyH_take (i := 16) (oi := oPkRg17) (v := undef) rfl (by kernel_rfl) (by kernel_rfl) (by kernel_rfl) (fun _ _ _ h => h) (Or.inr ⟨by rfl, rfl⟩) (by assumption) ?rt213
      try simp only [oPkRg17, Act.put, sA, sB, sC]
      refine wpAnyH_take (i := 17) (oi := oPkRg18) (v := undef) rfl (by kernel_rfl) (by kernel_rfl) (by kernel_rfl) (fun _ _ _ h => h) (Or.inr ⟨by rfl, rfl⟩) (by assumption) ?rt214
      try simp only [oPkRg18, Act.put, sA, sB, sC]
      refine tkY 18 oPkRg19 ?vw215 rfl (by kernel_rfl) (by kernel_rfl) (by kernel_rfl) (fun _ _ _ h => h) (by rfl) ?hz215 (by assumption) ?rs215
      case hz215 => (intro wz hSw; unfold oPkRg19; (try clear hSw); go_simp; all_goals with_reducible rfl)
      try simp only [oPkRg19, Act.put, sA, sB, sC]
      refine wpAnyH_done (by kernel_rfl) ?_ _
      go_wp2_with fail
      go_meet
      case rel => exact ⟨by rw [HR.out]; rfl, hHeld⟩
    · obtain ⟨same, hsm⟩ : ∃ r, rgS L p xs = r := ⟨_, rfl⟩
      cases same
      · have HR : Hid (rgA L p xs = false) := by show _ = _; rw [rgA, hd, hsm]; rfl
        have HSM := Lib.hid hsm
        clear hsm
        refine wp_region_held_drew (S := Kp w [(w.heap.size, PkC p A n c, 36)]) (by kernel_rfl) hK6.drew (fun hHeld => ?_)
        refine tkY 0 oPkRg1 ?vw216 rfl (by kernel_rfl) (by kernel_rfl) (by kernel_rfl) (fun _ _ _ h => h) (by rfl) ?hz216 (by assumption) ?rs216
        case hz216 => (intro wz hSw; unfold oPkRg1; (try clear hSw); go_simp; all_goals with_reducible rfl)
        try simp only [oPkRg1, Act.put, sA, sB, sC]
        refine tkY 1 oPkRg2 ?vw217 rfl (by kernel_rfl) (by kernel_rfl) (by kernel_rfl) (fun _ _ _ h => h) (by rfl) ?hz217 (by assumption) ?rs217
        case hz217 => (intro wz hSw; unfold oPkRg2; (try clear hSw); go_simp; all_goals with_reducible rfl)
        try simp only [oPkRg2, Act.put, sA, sB, sC]
        refine tkY 2 oPkRg3 ?vw218 rfl (by kernel_rfl) (by kernel_rfl) (by kernel_rfl) (fun _ _ _ h => h) (by rfl) ?hz218 (by assumption) ?rs218
        case hz218 => (intro wz hSw; unfold oPkRg3; (try clear hSw); go_simp; all_goals with_reducible rfl)
        try simp only [oPkRg3, Act.put, sA, sB, sC]
        refine tkY 3 oPkRg4 ?vw219 rfl (by kernel_rfl) (by kernel_rfl) (by kernel_rfl) (fun _ _ _ h => h) (by rfl) ?hz219 (by assumption) ?rs219
        case hz219 => (intro wz hSw; unfold oPkRg4; (try have hq1 := hSw.tail.cell); (try have hq2 := hSw.tail.tail.cell); (try have hq3 := hSw.cell); (try have hq4 := hSw.tail.row); (try have hq5 := hSw.tail.tail.row); (try have hq6 := hSw.row); (try have hq7 := hSw.tail.tail.tail.row); (try clear hSw); go_simp; all_goals with_reducible rfl)
        try simp only [oPkRg4, Act.put, sA, sB, sC]
        refine tkY 4 oPkRg5 ?vw220 rfl (by kernel_rfl) (by kernel_rfl) (by kernel_rfl) (fun _ _ _ h => h) (by rfl) ?hz220 (by assumption) ?rs220
        case hz220 => (intro wz hSw; unfold oPkRg5; (try have hq1 := hSw.tail.cell); (try have hq2 := hSw.tail.tail.cell); (try have hq3 := hSw.cell); (try have hq4 := hSw.tail.row); (try have hq5 := hSw.tail.tail.row); (try have hq6 := hSw.row); (try have hq7 := hSw.tail.tail.tail.row); (try clear hSw); go_simp; all_goals with_reducible rfl)
        try simp only [oPkRg5, Act.put, sA, sB, sC]
        refine wpAnyH_ready (rs := [5]) (by kernel_rfl) (by simp) ?_
        refine (AllReadyH.cons (o := oPkRg6) rfl (fun K hK => ?_) AllReadyH.nil)
        unfold oPkRg6
        go_simp
        (go_at_call 41; refine (HO.out _).mono ?_; rintro e w7 ⟨rfl, hb6⟩)
        refine hK.out _ _ (by first | exact hHeld.more hb6 | exact hHeld | exact ⟨_, hK9⟩ | exact below_more hHeld hb6) (fun hHeld1 => ?_)
        clear hHeld; have hHeld := hHeld1; clear hHeld1 hK K
        try simp only [oPkRg6, Act.put, sA, sB, sC]
        refine wpAnyH_ready (rs := [6]) (by kernel_rfl) (by simp) ?_
        refine (AllReadyH.cons (o := oPkRg7) rfl (fun K hK => ?_) AllReadyH.nil)
        unfold oPkRg7
        go_simp
        (go_at_call 12; refine (refSame_eq p _ _ _ n c _ _ xs _ false _ (HS.out.below hHeld.below) ((HS.out.below hHeld.below).only L) hn HSM.out).mono ?_; rintro e w7 ⟨rfl, hb6⟩)
        refine hK.out _ _ (by first | exact hHeld.more hb6 | exact hHeld | exact ⟨_, hK9⟩ | exact below_more hHeld hb6) (fun hHeld1 => ?_)
        clear hHeld; have hHeld := hHeld1; clear hHeld1 hK K
        try simp only [oPkRg7, Act.put, sA, sB, sC]
        refine tkY 7 oPkRg8 ?vw221 rfl (by kernel_rfl) (by kernel_rfl) (by kernel_rfl) (fun _ _ _ h => h) (by rfl) ?hz221 (by assumption) ?rs221
        case hz221 => (intro wz hSw; unfold oPkRg8; (try clear hSw); go_simp; all_goals with_reducible rfl)
        try simp only [oPkRg8, Act.put, sA, sB, sC]
        refine tkY 8 oPkRg9 ?vw222 rfl (by kernel_rfl) (by kernel_rfl) (by kernel_rfl) (fun _ _ _ h => h) (by rfl) ?hz222 (by assumption) ?rs222
        case hz222 => (intro wz hSw; unfold oPkRg9; (try clear hSw); go_simp; all_goals with_reducible rfl)
        try simp only [oPkRg9, Act.put, sA, sB, sC]
        refine tkY 9 oPkRg10 ?vw223 rfl (by kernel_rfl) (by kernel_rfl) (by kernel_rfl) (fun _ _ _ h => h) (by rfl) ?hz223 (by assumption) ?rs223
        case hz223 => (intro wz hSw; unfold oPkRg10; (try clear hSw); go_simp; all_goals with_reducible rfl)
        try simp only [oPkRg10, Act.put, sA, sB, sC]
        refine wpAnyH_take (i := 10) (oi := oPkRg11) (v := undef) rfl (by kernel_rfl) (by kernel_rfl) (by kernel_rfl) (fun _ _ _ h => h) (Or.inr ⟨by rfl, rfl⟩) (by assumption) ?rt224
        try simp only [oPkRg11, Act.put, sA, sB, sC]
        refine wpAnyH_take (i := 11) (oi := oPkRg12) (v := undef) rfl (by kernel_rfl) (by kernel_rfl) (by kernel_rfl) (fun _ _ _ h => h) (Or.inr ⟨by rfl, rfl⟩) (by assumption) ?rt225
        try simp only [oPkRg12, Act.put, sA, sB, sC]
        refine wpAnyH_take (i := 12) (oi := oPkRg13) (v := undef) rfl (by kernel_rfl) (by kernel_rfl) (by kernel_rfl) (fun _ _ _ h => h) (Or.inr ⟨by rfl, rfl⟩) (by assumption) ?rt226
        try simp only [oPkRg13, Act.put, sA, sB, sC]
        refine tkY 13 oPkRg14 ?vw227 rfl (by kernel_rfl) (by kernel_rfl) (by kernel_rfl) (fun _ _ _ h => h) (by rfl) ?hz227 (by assumption) ?rs227
        case hz227 => (intro wz hSw; unfold oPkRg14; (try clear hSw); go_simp; all_goals with_reducible rfl)
        try simp only [oPkRg14, Act.put, sA, sB, sC]
        refine tkY 14 oPkRg15 ?vw228 rfl (by kernel_rfl) (by kernel_rfl) (by kernel_rfl) (fun _ _ _ h => h) (by rfl) ?hz228 (by assumption) ?rs228
        case hz228 => (intro wz hSw; unfold oPkRg15; (try clear hSw); go_simp; all_goals with_reducible rfl)
        try simp only [oPkRg15, Act.put, sA, sB, sC]
        refine wpAnyH_take (i := 15) (oi := oPkRg16) (v := undef) rfl (by kernel_rfl) (by kernel_rfl) (by kernel_rfl) (fun _ _ _ h => h) (Or.inr ⟨by rfl, rfl⟩) (by assumption) ?rt229
        try simp only [oPkRg16, Act.put, sA, sB, sC]
        refine wpAnyH_take (i := 16) (oi := oPkRg17) (v := undef) rfl (by kernel_rfl) (by kernel_rfl) (by kernel_rfl) (fun _ _ _ h => h) (Or.inr ⟨by rfl, rfl⟩) (by assumption) ?rt230
        try simp only [oPkRg17, Act.put, sA, sB, sC]
        refine wpAnyH_take (i := 17) (oi := oPkRg18) (v := undef) rfl (by kernel_rfl) (by kernel_rfl) (by kernel_rfl) (fun _ _ _ h => h) (Or.inr ⟨by rfl, rfl⟩) (by assumption) ?rt231
        try simp only [oPkRg18, Act.put, sA, sB, sC]
        refine tkY 18 oPkRg19 ?vw232 rfl (by kernel_rfl) (by kernel_rfl) (by kernel_rfl) (fun _ _ _ h => h) (by rfl) ?hz232 (by assumption) ?rs232
        case hz232 => (intro wz hSw; unfold oPkRg19; (try clear hSw); go_simp; all_goals with_reducible rfl)
        try simp only [oPkRg19, Act.put, sA, sB, sC]
        refine wpAnyH_done (by kernel_rfl) ?_ _
        go_wp2_with fail
        go_meet
        case rel => exact ⟨by rw [HR.out]; rfl, hHeld⟩
      · obtain ⟨ls, hls⟩ : ∃ r, lsB p xs = r := ⟨_, rfl⟩
        have HSM := Lib.hid hsm
        have HLS := Lib.hid hls
        cases ls
        · have HR : Hid (rgA L p xs = false) := by show _ = _; rw [rgA, hd, hsm, hls]; rfl
          clear hsm hls
          refine wp_region_held_drew (S := Kp w [(w.heap.size, PkC p A n c, 36)]) (by kernel_rfl) hK6.drew (fun hHeld => ?_)
          refine tkY 0 oPkRg1 ?vw233 rfl (by kernel_rfl) (by kernel_rfl) (by kernel_rfl) (fun _ _ _ h => h) (by rfl) ?hz233 (by assumption) ?rs233
          case hz233 => (intro wz hSw; unfold oPkRg1; (try clear hSw); go_simp; all_goals with_reducible rfl)
          try simp only [oPkRg1, Act.put, sA, sB, sC]
          refine tkY 1 oPkRg2 ?vw234 rfl (by kernel_rfl) (by kernel_rfl) (by kernel_rfl) (fun _ _ _ h => h) (by rfl) ?hz234 (by assumption) ?rs234
          case hz234 => (intro wz hSw; unfold oPkRg2; (try clear hSw); go_simp; all_goals with_reducible rfl)
          try simp only [oPkRg2, Act.put, sA, sB, sC]
          refine tkY 2 oPkRg3 ?vw235 rfl (by kernel_rfl) (by kernel_rfl) (by kernel_rfl) (fun _ _ _ h => h) (by rfl) ?hz235 (by assumption) ?rs235
          case hz235 => (intro wz hSw; unfold oPkRg3; (try clear hSw); go_simp; all_goals with_reducible rfl)
          try simp only [oPkRg3, Act.put, sA, sB, sC]
          refine tkY 3 oPkRg4 ?vw236 rfl (by kernel_rfl) (by kernel_rfl) (by kernel_rfl) (fun _ _ _ h => h) (by rfl) ?hz236 (by assumption) ?rs236
          case hz236 => (intro wz hSw; unfold oPkRg4; (try have hq1 := hSw.tail.cell); (try have hq2 := hSw.tail.tail.cell); (try have hq3 := hSw.cell); (try have hq4 := hSw.tail.row); (try have hq5 := hSw.tail.tail.row); (try have hq6 := hSw.row); (try have hq7 := hSw.tail.tail.tail.row); (try clear hSw); go_simp; all_goals with_reducible rfl)
          try simp only [oPkRg4, Act.put, sA, sB, sC]
          refine tkY 4 oPkRg5 ?vw237 rfl (by kernel_rfl) (by kernel_rfl) (by kernel_rfl) (fun _ _ _ h => h) (by rfl) ?hz237 (by assumption) ?rs237
          case hz237 => (intro wz hSw; unfold oPkRg5; (try have hq1 := hSw.tail.cell); (try have hq2 := hSw.tail.tail.cell); (try have hq3 := hSw.cell); (try have hq4 := hSw.tail.row); (try have hq5 := hSw.tail.tail.row); (try have hq6 := hSw.row); (try have hq7 := hSw.tail.tail.tail.row); (try clear hSw); go_simp; all_goals with_reducible rfl)
          try simp only [oPkRg5, Act.put, sA, sB, sC]
          refine wpAnyH_ready (rs := [5]) (by kernel_rfl) (by simp) ?_
          refine (AllReadyH.cons (o := oPkRg6) rfl (fun K hK => ?_) AllReadyH.nil)
          unfold oPkRg6
          go_simp
          (go_at_call 41; refine (HO.out _).mono ?_; rintro e w7 ⟨rfl, hb6⟩)
          refine hK.out _ _ (by first | exact hHeld.more hb6 | exact hHeld | exact ⟨_, hK9⟩ | exact below_more hHeld hb6) (fun hHeld1 => ?_)
          clear hHeld; have hHeld := hHeld1; clear hHeld1 hK K
          try simp only [oPkRg6, Act.put, sA, sB, sC]
          refine wpAnyH_ready (rs := [6]) (by kernel_rfl) (by simp) ?_
          refine (AllReadyH.cons (o := oPkRg7) rfl (fun K hK => ?_) AllReadyH.nil)
          unfold oPkRg7
          go_simp
          (go_at_call 12; refine (refSame_eq p _ _ _ n c _ _ xs _ true _ (HS.out.below hHeld.below) ((HS.out.below hHeld.below).only L) hn HSM.out).mono ?_; rintro e w7 ⟨rfl, hb6⟩)
          refine hK.out _ _ (by first | exact hHeld.more hb6 | exact hHeld | exact ⟨_, hK9⟩ | exact below_more hHeld hb6) (fun hHeld1 => ?_)
          clear hHeld; have hHeld := hHeld1; clear hHeld1 hK K
          try simp only [oPkRg7, Act.put, sA, sB, sC]
          refine tkY 7 oPkRg8 ?vw238 rfl (by kernel_rfl) (by kernel_rfl) (by kernel_rfl) (fun _ _ _ h => h) (by rfl) ?hz238 (by assumption) ?rs238
          case hz238 => (intro wz hSw; unfold oPkRg8; (try clear hSw); go_simp; all_goals with_reducible rfl)
          try simp only [oPkRg8, Act.put, sA, sB, sC]
          refine tkY 8 oPkRg9 ?vw239 rfl (by kernel_rfl) (by kernel_rfl) (by kernel_rfl) (fun _ _ _ h => h) (by rfl) ?hz239 (by assumption) ?rs239
          case hz239 => (intro wz hSw; unfold oPkRg9; (try clear hSw); go_simp; all_goals with_reducible rfl)
          try simp only [oPkRg9, Act.put, sA, sB, sC]
          refine tkY 9 oPkRg10 ?vw240 rfl (by kernel_rfl) (by kernel_rfl) (by kernel_rfl) (fun _ _ _ h => h) (by rfl) ?hz240 (by assumption) ?rs240
          case hz240 => (intro wz hSw; unfold oPkRg10; (try clear hSw); go_simp; all_goals with_reducible rfl)
          try simp only [oPkRg10, Act.put, sA, sB, sC]
          refine tkY 10 oPkRg11 ?vw241 rfl (by kernel_rfl) (by kernel_rfl) (by kernel_rfl) (fun _ _ _ h => h) (by rfl) ?hz241 (by assumption) ?rs241
          case hz241 => (intro wz hSw; unfold oPkRg11; (try have hq1 := hSw.tail.cell); (try have hq2 := hSw.tail.tail.cell); (try have hq3 := hSw.cell); (try have hq4 := hSw.tail.row); (try have hq5 := hSw.tail.tail.row); (try have hq6 := hSw.row); (try have hq7 := hSw.tail.tail.tail.row); (try clear hSw); go_simp; all_goals with_reducible rfl)
          try simp only [oPkRg11, Act.put, sA, sB, sC]
          refine wpAnyH_ready (rs := [11]) (by kernel_rfl) (by simp) ?_
          refine (AllReadyH.cons (o := oPkRg12) rfl (fun K hK => ?_) AllReadyH.nil)
          unfold oPkRg12
          go_simp
          (go_at_call 42; refine (refLists_eq p _ n c xs false _ (HS.out.below hHeld.below) HT.out HLS.out).mono ?_; rintro e w7 ⟨rfl, hb6⟩)
          refine hK.out _ _ (by first | exact hHeld.more hb6 | exact hHeld | exact ⟨_, hK9⟩ | exact below_more hHeld hb6) (fun hHeld1 => ?_)
          clear hHeld; have hHeld := hHeld1; clear hHeld1 hK K
          try simp only [oPkRg12, Act.put, sA, sB, sC]
          refine tkY 12 oPkRg13 ?vw242 rfl (by kernel_rfl) (by kernel_rfl) (by kernel_rfl) (fun _ _ _ h => h) (by rfl) ?hz242 (by assumption) ?rs242
          case hz242 => (intro wz hSw; unfold oPkRg13; (try clear hSw); go_simp; all_goals with_reducible rfl)
          try simp only [oPkRg13, Act.put, sA, sB, sC]
          refine tkY 13 oPkRg14 ?vw243 rfl (by kernel_rfl) (by kernel_rfl) (by kernel_rfl) (fun _ _ _ h => h) (by rfl) ?hz243 (by assumption) ?rs243
          case hz243 => (intro wz hSw; unfold oPkRg14; (try clear hSw); go_simp; all_goals with_reducible rfl)
          try simp only [oPkRg14, Act.put, sA, sB, sC]
          refine tkY 14 oPkRg15 ?vw244 rfl (by kernel_rfl) (by kernel_rfl) (by kernel_rfl) (fun _ _ _ h => h) (by rfl) ?hz244 (by assumption) ?rs244
          case hz244 => (intro wz hSw; unfold oPkRg15; (try clear hSw); go_simp; all_goals with_reducible rfl)
          try simp only [oPkRg15, Act.put, sA, sB, sC]
          refine wpAnyH_take (i := 15) (oi := oPkRg16) (v := undef) rfl (by kernel_rfl) (by kernel_rfl) (by kernel_rfl) (fun _ _ _ h => h) (Or.inr ⟨by rfl, rfl⟩) (by assumption) ?rt245
          try simp only [oPkRg16, Act.put, sA, sB, sC]
          refine wpAnyH_take (i := 16) (oi := oPkRg17) (v := undef) rfl (by kernel_rfl) (by kernel_rfl) (by kernel_rfl) (fun _ _ _ h => h) (Or.inr ⟨by rfl, rfl⟩) (by assumption) ?rt246
          try simp only [oPkRg17, Act.put, sA, sB, sC]
          refine wpAnyH_take (i := 17) (oi := oPkRg18) (v := undef) rfl (by kernel_rfl) (by kernel_rfl) (by kernel_rfl) (fun _ _ _ h => h) (Or.inr ⟨by rfl, rfl⟩) (by assumption) ?rt247
          try simp only [oPkRg18, Act.put, sA, sB, sC]
          refine tkY 18 oPkRg19 ?vw248 rfl (by kernel_rfl) (by kernel_rfl) (by kernel_rfl) (fun _ _ _ h => h) (by rfl) ?hz248 (by assumption) ?rs248
          case hz248 => (intro wz hSw; unfold oPkRg19; (try clear hSw); go_simp; all_goals with_reducible rfl)
          try simp only [oPkRg19, Act.put, sA, sB, sC]
          refine wpAnyH_done (by kernel_rfl) ?_ _
          go_wp2_with fail
          go_meet
          case rel => exact ⟨by rw [HR.out]; rfl, hHeld⟩
        · obtain ⟨q2, hq2⟩ : ∃ r, decide (2 < p.qos) = r := ⟨_, rfl⟩
          have HR : Hid (rgA L p xs = !q2) := by show _ = _; rw [rgA, hd, hsm, hls, hq2]; rfl
          clear hsm hls
          refine wp_region_held_drew (S := Kp w [(w.heap.size, PkC p A n c, 36)]) (by kernel_rfl) hK6.drew (fun hHeld => ?_)
          refine tkY 0 oPkRg1 ?vw249 rfl (by kernel_rfl) (by kernel_rfl) (by kernel_rfl) (fun _ _ _ h => h) (by rfl) ?hz249 (by assumption) ?rs249
          case hz249 => (intro wz hSw; unfold oPkRg1; (try clear hSw); go_simp; all_goals with_reducible rfl)
          try simp only [oPkRg1, Act.put, sA, sB, sC]
          refine tkY 1 oPkRg2 ?vw250 rfl (by kernel_rfl) (by kernel_rfl) (by kernel_rfl) (fun _ _ _ h => h) (by rfl) ?hz250 (by assumption) ?rs250
          case hz250 => (intro wz hSw; unfold oPkRg2; (try clear hSw); go_simp; all_goals with_reducible rfl)
          try simp only [oPkRg2, Act.put, sA, sB, sC]
          refine tkY 2 oPkRg3 ?vw251 rfl (by kernel_rfl) (by kernel_rfl) (by kernel_rfl) (fun _ _ _ h => h) (by rfl) ?hz251 (by assumption) ?rs251
          case hz251 => (intro wz hSw; unfold oPkRg3; (try clear hSw); go_simp; all_goals with_reducible rfl)
          try simp only [oPkRg3, Act.put, sA, sB, sC]
          refine tkY 3 oPkRg4 ?vw252 rfl (by kernel_rfl) (by kernel_rfl) (by kernel_rfl) (fun _ _ _ h => h) (by rfl) ?hz252 (by assumption) ?rs252
          case hz252 => (intro wz hSw; unfold oPkRg4; (try have hq1 := hSw.tail.cell); (try have hq2 := hSw.tail.tail.cell); (try have hq3 := hSw.cell); (try have hq4 := hSw.tail.row); (try have hq5 := hSw.tail.tail.row); (try have hq6 := hSw.row); (try have hq7 := hSw.tail.tail.tail.row); (try clear hSw); go_simp; all_goals with_reducible rfl)
          try simp only [oPkRg4, Act.put, sA, sB, sC]
          refine tkY 4 oPkRg5 ?vw253 rfl (by kernel_rfl) (by kernel_rfl) (by kernel_rfl) (fun _ _ _ h => h) (by rfl) ?hz253 (by assumption) ?rs253
          case hz253 => (intro wz hSw; unfold oPkRg5; (try have hq1 := hSw.tail.cell); (try have hq2 := hSw.tail.tail.cell); (try have hq3 := hSw.cell); (try have hq4 := hSw.tail.row); (try have hq5 := hSw.tail.tail.row); (try have hq6 := hSw.row); (try have hq7 := hSw.tail.tail.tail.row); (try clear hSw); go_simp; all_goals with_reducible rfl)
          try simp only [oPkRg5, Act.put, sA, sB, sC]
          refine wpAnyH_ready (rs := [5]) (by kernel_rfl) (by simp) ?_
          refine (AllReadyH.cons (o := oPkRg6) rfl (fun K hK => ?_) AllReadyH.nil)
          unfold oPkRg6
          go_simp
          (go_at_call 41; refine (HO.out _).mono ?_; rintro e w7 ⟨rfl, hb6⟩)
          refine hK.out _ _ (by first | exact hHeld.more hb6 | exact hHeld | exact ⟨_, hK9⟩ | exact below_more hHeld hb6) (fun hHeld1 => ?_)
          clear hHeld; have hHeld := hHeld1; clear hHeld1 hK K
          try simp only [oPkRg6, Act.put, sA, sB, sC]
          refine wpAnyH_ready (rs := [6]) (by kernel_rfl) (by simp) ?_
          refine (AllReadyH.cons (o := oPkRg7) rfl (fun K hK => ?_) AllReadyH.nil)
          unfold oPkRg7
          go_simp
          (go_at_call 12; refine (refSame_eq p _ _ _ n c _ _ xs _ true _ (HS.out.below hHeld.below) ((HS.out.below hHeld.below).only L) hn HSM.out).mono ?_; rintro e w7 ⟨rfl, hb6⟩)
          refine hK.out _ _ (by first | exact hHeld.more hb6 | exact hHeld | exact ⟨_, hK9⟩ | exact below_more hHeld hb6) (fun hHeld1 => ?_)
          clear hHeld; have hHeld := hHeld1; clear hHeld1 hK K
          try simp only [oPkRg7, Act.put, sA, sB, sC]
          refine tkY 7 oPkRg8 ?vw254 rfl (by kernel_rfl) (by kernel_rfl) (by kernel_rfl) (fun _ _ _ h => h) (by rfl) ?hz254 (by assumption) ?rs254
          case hz254 => (intro wz hSw; unfold oPkRg8; (try clear hSw); go_simp; all_goals with_reducible rfl)
          try simp only [oPkRg8, Act.put, sA, sB, sC]
          refine tkY 8 oPkRg9 ?vw255 rfl (by kernel_rfl) (by kernel_rfl) (by kernel_rfl) (fun _ _ _ h => h) (by rfl) ?hz255 (by assumption) ?rs255
          case hz255 => (intro wz hSw; unfold oPkRg9; (try clear hSw); go_simp; all_goals with_reducible rfl)
          try simp only [oPkRg9, Act.put, sA, sB, sC]
          refine tkY 9 oPkRg10 ?vw256 rfl (by kernel_rfl) (by kernel_rfl) (by kernel_rfl) (fun _ _ _ h => h) (by rfl) ?hz256 (by assumption) ?rs256
          case hz256 => (intro wz hSw; unfold oPkRg10; (try clear hSw); go_simp; all_goals with_reducible rfl)
          try simp only [oPkRg10, Act.put, sA, sB, sC]
          refine tkY 10 oPkRg11 ?vw257 rfl (by kernel_rfl) (by kernel_rfl) (by kernel_rfl) (fun _ _ _ h => h) (by rfl) ?hz257 (by assumption) ?rs257
          case hz257 => (intro wz hSw; unfold oPkRg11; (try have hq1 := hSw.tail.cell); (try have hq2 := hSw.tail.tail.cell); (try have hq3 := hSw.cell); (try have hq4 := hSw.tail.row); (try have hq5 := hSw.tail.tail.row); (try have hq6 := hSw.row); (try have hq7 := hSw.tail.tail.tail.row); (try clear hSw); go_simp; all_goals with_reducible rfl)
          try simp only [oPkRg11, Act.put, sA, sB, sC]
          refine wpAnyH_ready (rs := [11]) (by kernel_rfl) (by simp) ?_
          refine (AllReadyH.cons (o := oPkRg12) rfl (fun K hK => ?_) AllReadyH.nil)
          unfold oPkRg12
          go_simp
          (go_at_call 42; refine (refLists_eq p _ n c xs true _ (HS.out.below hHeld.below) HT.out HLS.out).mono ?_; rintro e w7 ⟨rfl, hb6⟩)
          refine hK.out _ _ (by first | exact hHeld.more hb6 | exact hHeld | exact ⟨_, hK9⟩ | exact below_more hHeld hb6) (fun hHeld1 => ?_)
          clear hHeld; have hHeld := hHeld1; clear hHeld1 hK K
          try simp only [oPkRg12, Act.put, sA, sB, sC]
          refine tkY 12 oPkRg13 ?vw258 rfl (by kernel_rfl) (by kernel_rfl) (by kernel_rfl) (fun _ _ _ h => h) (by rfl) ?hz258 (by assumption) ?rs258
          case hz258 => (intro wz hSw; unfold oPkRg13; (try clear hSw); go_simp; all_goals with_reducible rfl)
          try simp only [oPkRg13, Act.put, sA, sB, sC]
          refine tkY 13 oPkRg14 ?vw259 rfl (by kernel_rfl) (by kernel_rfl) (by kernel_rfl) (fun _ _ _ h => h) (by rfl) ?hz259 (by assumption) ?rs259
          case hz259 => (intro wz hSw; unfold oPkRg14; (try clear hSw); go_simp; all_goals with_reducible rfl)
          try simp only [oPkRg14, Act.put, sA, sB, sC]
          refine tkY 14 oPkRg15 ?vw260 rfl (by kernel_rfl) (by kernel_rfl) (by kernel_rfl) (fun _ _ _ h => h) (by rfl) ?hz260 (by assumption) ?rs260
          case hz260 => (intro wz hSw; unfold oPkRg15; (try clear hSw); go_simp; all_goals with_reducible rfl)
          try simp only [oPkRg15, Act.put, sA, sB, sC]
          refine tkY 15 oPkRg16 ?vw261 rfl (by kernel_rfl) (by kernel_rfl) (by kernel_rfl) (fun _ _ _ h => h) (by rfl) ?hz261 (by assumption) ?rs261
          case hz261 => (intro wz hSw; unfold oPkRg16; (try clear hSw); go_simp; all_goals with_reducible rfl)
          try simp only [oPkRg16, Act.put, sA, sB, sC]
          refine tkY 16 oPkRg17 ?vw262 rfl (by kernel_rfl) (by kernel_rfl) (by kernel_rfl) (fun _ _ _ h => h) (by rfl) ?hz262 (by assumption) ?rs262
          case hz262 => (intro wz hSw; unfold oPkRg17; (try have hq1 := hSw.tail.cell); (try have hq2 := hSw.tail.tail.cell); (try have hq3 := hSw.cell); (try have hq4 := hSw.tail.row); (try have hq5 := hSw.tail.tail.row); (try have hq6 := hSw.row); (try have hq7 := hSw.tail.tail.tail.row); (try clear hSw); go_simp; all_goals with_reducible rfl)
          try simp only [oPkRg17, Act.put, sA, sB, sC]
          refine tkY 17 oPkRg18 ?vw263 rfl (by kernel_rfl) (by kernel_rfl) (by kernel_rfl) (fun _ _ _ h => h) (by rfl) ?hz263 (by assumption) ?rs263
          case hz263 => (intro wz hSw; unfold oPkRg18; (try clear hSw); go_simp; all_goals with_reducible rfl)
          try simp only [oPkRg18, Act.put, sA, sB, sC]
          refine tkY 18 oPkRg19 ?vw264 rfl (by kernel_rfl) (by kernel_rfl) (by kernel_rfl) (fun _ _ _ h => h) (by rfl) ?hz264 (by assumption) ?rs264
          case hz264 => (intro wz hSw; unfold oPkRg19; (try clear hSw); go_simp; all_goals with_reducible rfl)
          try simp only [oPkRg19, Act.put, sA, sB, sC]
          refine wpAnyH_done (by kernel_rfl) ?_ _
          go_wp2_with fail
          go_meet
          case rel => exact ⟨by rw [HR.out]; cases q2 <;> rfl, hHeld⟩
  obtain ⟨rfl, hK1⟩ := hcut
  clear hK6
  cases hA : rgA L p xs with
  | false =>
    have HB : Hid (false = r) := by show _ = _; rw [← H.out, rgB, hA]; rfl
    clear hA
    go_wp2_with fail
    go_ret
    exact ⟨by rw [← HB.out]; rfl, hK1.below⟩
  | true =>
  have HA := Lib.hid hA
  clear hA
  go_upto_region 4 with fail
  have p1r := hK1.row; have p1f := hK1.free; have p1c := hK1.cell; have p1l := hK1.lt; have p1z := hK1.froz
  go_cut [52] (fun s52 wx => s52 = .bool (!rgC p) ∧ Kp w [(w.heap.size, PkC p A n c, 36)] wx)
  case first =>
    obtain ⟨t1, h1⟩ : ∃ r, (p.ty == 1) = r := ⟨_, rfl⟩
    cases t1
    · obtain ⟨t2, h2⟩ : ∃ r, (p.ty == 2) = r := ⟨_, rfl⟩
      cases t2
      · have HC : Hid (rgC p = true) := by show _ = _; rw [rgC, if_f h1, if_f h2]
        go_wp2_with fail
        go_meet
        case rel => exact ⟨by rw [HC.out]; rfl, hK1⟩
      · obtain ⟨d5, h5⟩ : ∃ r, decide (5 < p.code) = r := ⟨_, rfl⟩
        obtain ⟨d0, h0⟩ : ∃ r, decide (0 < p.code) = r := ⟨_, rfl⟩
        obtain ⟨pr, hp⟩ : ∃ r, p.present = r := ⟨_, rfl⟩
        have HC : Hid (rgC p = (!d5 && !(pr && d0))) := by show _ = _; rw [rgC, if_f h1, if_t h2, h5, h0, hp]
        cases d5 <;> cases pr
        all_goals
          go_wp2_with fail
          go_meet
          case rel => exact ⟨by rw [HC.out]; cases d0 <;> rfl, hK1⟩
    · obtain ⟨cn, hcn⟩ : ∃ r, cnB p = r := ⟨_, rfl⟩
      have h2 : (p.ty == 2) = false := by rw [beq_iff_eq] at h1; rw [h1]; rfl
      have HC : Hid (rgC p = cn) := by show _ = _; rw [rgC, if_t h1, hcn]
      have HCN := Lib.hid hcn
      clear hcn
      go_wp2_with fail
      refine (refConnect_eq p A n c cn _ l3 l4 l5 l6 l7 HCN.out).mono ?_
      rintro e w7 ⟨rfl, hb6⟩
      have hK7 := hK1.more hb6
      clear hb6 p1r p1f p1c p1l p1z
      have p1r := hK7.row; have p1f := hK7.free; have p1c := hK7.cell; have p1l := hK7.lt; have p1z := hK7.froz
      cases cn
      all_goals
        go_wp2_with fail
        go_meet
        case rel => exact ⟨by rw [HC.out]; rfl, hK7⟩
  obtain ⟨rfl, hK2⟩ := hcut
  clear hK1 p1r p1f p1c p1l p1z
  cases hA : rgC p with
  | false =>
    have HB : Hid (false = r) := by show _ = _; rw [← H.out, rgB, hA, Bool.false_and, Bool.and_false]
    clear hA
    go_wp2_with fail
    go_ret
    exact ⟨by rw [← HB.out]; rfl, hK2.below⟩
  | true =>
  have HC := Lib.hid hA
  clear hA
  go_upto_region 6 with fail
  have p1r := hK2.row; have p1f := hK2.free; have p1c := hK2.cell; have p1l := hK2.lt; have p1z := hK2.froz
  obtain ⟨t3, h3⟩ : ∃ r, (p.ty == 3) = r := ⟨_, rfl⟩
  have HH : Hid ((rgD L p && decide (rrN p xs ≤ 268435455)) = r) := by show _ = _; rw [← H.out, rgB, HA.out, HC.out]; rfl
  clear H HA HC
  cases t3
  · obtain ⟨hi, hhi⟩ : ∃ r, hasB L 105 = r := ⟨_, rfl⟩
    have HI := Lib.hid hhi
    obtain ⟨i0, hi0⟩ : ∃ r, (p.id == 0) = r := ⟨_, rfl⟩
    have HD : Hid (rgD L p = !(hi && i0)) := by show _ = _; rw [rgD, if_f h3, hhi, hi0]
    clear hhi
    go_wp2_with fail
    refine (has_eq L 105 hi _ (by omega) HI.out).mono ?_
    rintro e w7 ⟨rfl, rfl⟩
    cases hi <;> cases i0
    rotate_right
    · have HB : Hid (false = r) := by show _ = _; rw [← HH.out, HD.out]; rfl
      go_wp2_with fail
      go_ret
      exact ⟨by rw [← HB.out]; rfl, hK2.below⟩
    all_goals
      have HB : Hid (decide (rrN p xs ≤ 268435455) = r) := by show _ = _; rw [← HH.out, HD.out]; rfl
      go_wp2_with fail
      refine (refRest_any p A n c xs _ (HS.out.below hK2.below) HT.out).mono ?_
      rintro e w8 ⟨rfl, hb6⟩
      go_wp2_with fail
      go_ret
      exact ⟨by rw [← HB.out]; rfl, below_more hK2.below hb6⟩
  · obtain ⟨nm, hnm⟩ : ∃ r, nmB p.topic = r := ⟨_, rfl⟩
    have HNM := Lib.hid hnm
    obtain ⟨i0, hi0⟩ : ∃ r, (p.id == 0) = r := ⟨_, rfl⟩
    obtain ⟨q0, hq0⟩ : ∃ r, (p.qos == 0) = r := ⟨_, rfl⟩
    obtain ⟨du, hdu⟩ : ∃ r, p.dup = r := ⟨_, rfl⟩
    obtain ⟨qp, hqp⟩ : ∃ r, decide (0 < p.qos) = r := ⟨_, rfl⟩
    have gi := b_any hi0
    have HD : Hid (rgD L p = (nm && (!(q0 && (du || !i0)) && !(qp && i0)))) := by show _ = _; rw [rgD, if_t h3, hnm, hi0, hq0, hdu, hqp]
    clear hnm
    go_upto_region 7 with fail
    go_cut [83] (fun s83 wx => s83 = .bool (!rgD L p) ∧ Kp w [(w.heap.size, PkC p A n c, 36)] wx)
    case first =>
      go_wp2_with fail
      refine (refName_eq p.topic nm _ (by omega) HNM.out).mono ?_
      rintro e w7 ⟨rfl, hb6⟩
      have hK7 := hK2.more hb6
      clear hb6 hK2 p1r p1f p1c p1l p1z
      have p1r := hK7.row; have p1f := hK7.free; have p1c := hK7.cell; have p1l := hK7.lt; have p1z := hK7.froz
      cases nm
      · go_wp2_with fail
        go_meet
        case rel => exact ⟨by rw [HD.out]; rfl, hK7⟩
      · cases q0 <;> cases du <;> cases i0 <;> cases qp
        all_goals
          simp only [Bool.not_true, Bool.not_false] at gi
          go_wp2_with fail
          go_meet
          case rel => exact ⟨by rw [HD.out]; rfl, hK7⟩
    obtain ⟨rfl, hK7⟩ := hcut
    clear hK2 p1r p1f p1c p1l p1z
    cases hA : rgD L p with
    | false =>
      have HB : Hid (false = r) := by show _ = _; rw [← HH.out, hA]; rfl
      clear hA
      go_wp2_with fail
      go_ret
      exact ⟨by rw [← HB.out]; rfl, hK7.below⟩
    | true =>
    have HB : Hid (decide (rrN p xs ≤ 268435455) = r) := by show _ = _; rw [← HH.out, hA]; rfl
    clear hA
    have p1r := hK7.row; have p1f := hK7.free; have p1c := hK7.cell; have p1l := hK7.lt; have p1z := hK7.froz
    go_wp2_with fail
    refine (refRest_any p A n c xs _ (HS.out.below hK7.below) HT.out).mono ?_
    rintro e w8 ⟨rfl, hb6⟩
    go_wp2_with fail
    go_ret
    exact ⟨by rw [← HB.out]; rfl, below_more hK7.below hb6⟩
end Go.Proofs.YtnaedcennichlaaGreatDoor
