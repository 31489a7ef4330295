/-
  packet: takeConnect.
-/
import Derived.Test.YtnaedcennichlaaGreatDoorPkB
import Derived.StillTailTactics
import Derived.Deep.Cut
import Derived.Deep.DeepCutAuto
set_option linter.unusedSimpArgs false
set_option linter.unusedVariables false
namespace Go.Proofs.YtnaedcennichlaaGreatDoor
section
open Go.RowKit
def oPkE1 : Oper := ({ dst := some 4, op := Go.Op.fieldAddr 36 (Go.Operand.tmp 1) 7, type := 0, pos := "packet.go:107", after := #[], guard := none } : Oper)
def oPkE2 : Oper := ({ dst := some 5, op := Go.Op.load 5 (Go.Operand.tmp 4), type := 5, pos := "packet.go:107", after := #[{ on := 0, ground := Go.Ground.data }], guard := none } : Oper)
def oPkE3 : Oper := ({ dst := some 6, op := Go.Op.binOp Go.BinOp.eql 5 (Go.Operand.tmp 5) (Go.Operand.const (Go.Value.int Go.IntKind.u8 4)) 5, type := 4, pos := "packet.go:107", after := #[{ on := 1, ground := Go.Ground.data }], guard := none } : Oper)
def oPkE4 : Oper := ({ dst := some 7, op := Go.Op.move (Go.Operand.tmp 6), type := 4, pos := "packet.go:107", after := #[{ on := 2, ground := Go.Ground.data }], guard := none } : Oper)
def oPkE5 : Oper := ({ dst := some 8, op := Go.Op.fieldAddr 36 (Go.Operand.tmp 1) 10, type := 0, pos := "packet.go:107", after := #[{ on := 3, ground := Go.Ground.guard }], guard := some (3, true) } : Oper)
def oPkE6 : Oper := ({ dst := some 9, op := Go.Op.load 9 (Go.Operand.tmp 8), type := 9, pos := "packet.go:107", after := #[{ on := 4, ground := Go.Ground.data }, { on := 3, ground := Go.Ground.guard }], guard := some (3, true) } : Oper)
def oPkE7 : Oper := ({ dst := some 20, op := Go.Op.fieldAddr 36 (Go.Operand.tmp 1) 10, type := 0, pos := "packet.go:107", after := #[], guard := none } : Oper)
def oPkE8 : Oper := ({ dst := some 21, op := Go.Op.load 9 (Go.Operand.tmp 20), type := 9, pos := "packet.go:107", after := #[{ on := 16, ground := Go.Ground.data }], guard := none } : Oper)
def oPkE9 : Oper := ({ dst := some 3, op := Go.Op.alloc 109, type := 0, pos := "packet.go:107", after := #[], guard := none } : Oper)
def oPkE10 : Oper := ({ dst := some 10, op := Go.Op.call { callee := Go.Callee.value (Go.Operand.func 74), args := #[Go.Operand.tmp 9], argTypes := #[9] }, type := 4, pos := "packet.go:108", after := #[{ on := 5, ground := Go.Ground.data }, { on := 3, ground := Go.Ground.chain }, { on := 3, ground := Go.Ground.guard }], guard := some (3, true) } : Oper)
def oPkE11 : Oper := ({ dst := some 11, op := Go.Op.pick (Go.Operand.tmp 7) (Go.Operand.tmp 10) (Go.Operand.const (Go.Value.bool false)), type := 4, pos := "packet.go:107", after := #[{ on := 3, ground := Go.Ground.data }, { on := 6, ground := Go.Ground.data }], guard := none } : Oper)
def oPkE12 : Oper := ({ dst := some 12, op := Go.Op.move (Go.Operand.tmp 11), type := 4, pos := "packet.go:107", after := #[{ on := 7, ground := Go.Ground.data }, { on := 6, ground := Go.Ground.chain }], guard := none } : Oper)
def oPkE13 : Oper := ({ dst := some 13, op := Go.Op.load 36 (Go.Operand.tmp 1), type := 36, pos := "packet.go:107", after := #[{ on := 8, ground := Go.Ground.guard }], guard := some (8, true) } : Oper)
def oPkE14 : Oper := ({ dst := some 14, op := Go.Op.call { callee := Go.Callee.value (Go.Operand.func 95), args := #[Go.Operand.tmp 13], argTypes := #[36] }, type := 4, pos := "packet.go:108", after := #[{ on := 9, ground := Go.Ground.data }, { on := 8, ground := Go.Ground.chain }, { on := 8, ground := Go.Ground.guard }], guard := some (8, true) } : Oper)
def oPkE15 : Oper := ({ dst := some 15, op := Go.Op.pick (Go.Operand.tmp 12) (Go.Operand.tmp 14) (Go.Operand.const (Go.Value.bool false)), type := 4, pos := "packet.go:107", after := #[{ on := 8, ground := Go.Ground.data }, { on := 10, ground := Go.Ground.data }], guard := none } : Oper)
def oPkE16 : Oper := ({ dst := some 16, op := Go.Op.move (Go.Operand.tmp 15), type := 4, pos := "packet.go:107", after := #[{ on := 11, ground := Go.Ground.data }, { on := 10, ground := Go.Ground.chain }], guard := none } : Oper)
def oPkE17 : Oper := ({ dst := some 17, op := Go.Op.load 36 (Go.Operand.tmp 1), type := 36, pos := "packet.go:107", after := #[{ on := 12, ground := Go.Ground.guard }], guard := some (12, true) } : Oper)
def oPkE18 : Oper := ({ dst := some 18, op := Go.Op.call { callee := Go.Callee.value (Go.Operand.func 96), args := #[Go.Operand.tmp 17], argTypes := #[36] }, type := 4, pos := "packet.go:108", after := #[{ on := 13, ground := Go.Ground.data }, { on := 12, ground := Go.Ground.chain }, { on := 12, ground := Go.Ground.guard }], guard := some (12, true) } : Oper)
def oPkE19 : Oper := ({ dst := some 19, op := Go.Op.pick (Go.Operand.tmp 16) (Go.Operand.tmp 18) (Go.Operand.const (Go.Value.bool false)), type := 4, pos := "packet.go:107", after := #[{ on := 12, ground := Go.Ground.data }, { on := 14, ground := Go.Ground.data }], guard := none } : Oper)
def oPkE20 : Oper := ({ dst := some 22, op := Go.Op.call { callee := Go.Callee.value (Go.Operand.func 97), args := #[Go.Operand.tmp 21], argTypes := #[9] }, type := 3, pos := "packet.go:109", after := #[{ on := 17, ground := Go.Ground.data }, { on := 14, ground := Go.Ground.chain }], guard := none } : Oper)
def oPkE21 : Oper := ({ dst := some 23, op := Go.Op.binOp Go.BinOp.add 3 (Go.Operand.const (Go.Value.int Go.IntKind.i64 10)) (Go.Operand.tmp 22) 3, type := 3, pos := "packet.go:107", after := #[{ on := 18, ground := Go.Ground.data }], guard := none } : Oper)
def oPkE22 : Oper := ({ dst := some 24, op := Go.Op.build 109 #[(0, Go.Operand.tmp 19), (1, Go.Operand.tmp 23)], type := 109, pos := "packet.go:107", after := #[{ on := 15, ground := Go.Ground.data }, { on := 19, ground := Go.Ground.data }], guard := none } : Oper)
def oPkE23 : Oper := ({ dst := none, op := Go.Op.store 109 (Go.Operand.tmp 3) (Go.Operand.tmp 24), type := 0, pos := "packet.go:107", after := #[{ on := 21, ground := Go.Ground.data }, { on := 20, ground := Go.Ground.data }, { on := 18, ground := Go.Ground.chain }, { on := 0, ground := Go.Ground.phase }, { on := 1, ground := Go.Ground.phase }, { on := 2, ground := Go.Ground.phase }, { on := 3, ground := Go.Ground.phase }, { on := 4, ground := Go.Ground.phase }, { on := 5, ground := Go.Ground.phase }, { on := 6, ground := Go.Ground.phase }, { on := 7, ground := Go.Ground.phase }, { on := 8, ground := Go.Ground.phase }, { on := 9, ground := Go.Ground.phase }, { on := 10, ground := Go.Ground.phase }, { on := 11, ground := Go.Ground.phase }, { on := 12, ground := Go.Ground.phase }, { on := 13, ground := Go.Ground.phase }, { on := 14, ground := Go.Ground.phase }, { on := 15, ground := Go.Ground.phase }, { on := 16, ground := Go.Ground.phase }, { on := 17, ground := Go.Ground.phase }, { on := 18, ground := Go.Ground.phase }, { on := 19, ground := Go.Ground.phase }, { on := 20, ground := Go.Ground.phase }, { on := 21, ground := Go.Ground.phase }], guard := none } : Oper)
end
open Go.RowKit
set_option maxRecDepth 100000
theorem fieldLen_still2 (l : List UInt8) (w : World) (hl : l.length ≤ 1000000000) :
    Calls Tryz.prog 97 #[.string ⟨l.toArray⟩] w fun e w' => e = .returned (.int .i64 (fldB l)) ∧ w' = w := (fieldLen_any l w hl).mono fun _ _ ⟨h1, h2⟩ => ⟨h1, h2.symm⟩
theorem rightWill_eq (p : Pk) (A : Option Addr) (n c : Nat) (b : Bool) (w : World) (ht : p.wt.length ≤ 1000000000) (hl : p.wl.length ≤ 1000000000) (h : wlB p = b) :
    Calls Tryz.prog 95 #[.agg (PkC p A n c)] w fun e w' => e = .returned (.bool b) ∧ Below w.heap.size w w' := h ▸ rightWill_any p A n c w ht hl
theorem fldB_bd (l : List UInt8) (h : l.length ≤ 100000) : 2 ≤ fldB l ∧ fldB l ≤ 100002 := by unfold fldB; omega
set_option maxHeartbeats 8000000 in
theorem takeConnect_any (p : Pk) (A : Option Addr) (n c : Nat) (w : World) (h1 : p.client.length ≤ 100000) (h2 : p.wt.length ≤ 100000) (h3 : p.wl.length ≤ 100000) (h4 : p.user.length ≤ 100000) (h5 : p.pass.length ≤ 100000) :
    Calls Tryz.prog 85 #[.agg (PkC p A n c)] w fun e w' => e = .returned (.agg (TkC (conR p) (conB p) (conL p) A n c)) ∧ Below w.heap.size w w' := by
  have hK0 := (((Kp.nil w).new (PkC p A n c) 36).new (TkC false 0 zPk none 0 0) 109).swap
  simp only [World.size_alloc] at hK0
  have f1 := fldB_bd p.client h1; have f2 := fldB_bd p.wt h2; have f3 := fldB_bd p.wl h3; have f4 := fldB_bd p.user h4; have f5 := fldB_bd p.pass h5
  have hwr : IntKind.i64.wrap (10 + fldB p.client) = 10 + fldB p.client := IntWalk.i64_in _ (by omega)
  go_enter Tryz.func85, Tryz.ntmps85
  go_upto_region 1 with fail
  obtain ⟨wv, hwv⟩ : ∃ wv : World, wv = ((w.alloc (.cells (PkC p A n c) 36)).alloc (.cells (TkC false 0 zPk none 0 0) 109)) := ⟨_, rfl⟩
  rw [← hwv] at hK0 ⊢
  clear hwv
  go_cut [3] (fun s3 wx => ∃ (h : Nat) (r : Bool) (b : Int), s3 = .pointer (some ⟨h, 0, none⟩) ∧ Kp w [(h, TkC r b zPk none 0 0, 109), (w.heap.size, PkC p A n c, 36), (w.heap.size + 1, TkC false 0 zPk none 0 0, 109)] wx ∧ w.heap.size < h ∧ w.heap.size + 1 < h ∧ Hid (r = conR p) ∧ Hid (b = 10 + fldB p.client))
  case first =>
    by_cases hlv : p.level = 4
    · have hl4 : (p.level == 4) = true := by simpa using hlv
      cases hv : valB p.client with
      | false =>
        have HC : Hid (conR p = false) := by show conR p = _; unfold conR; rw [hl4, hv]; rfl
        have HV := Lib.hid hv
        clear hv
        refine wp_region_held_drew (S := Kp w [(w.heap.size, PkC p A n c, 36), (w.heap.size + 1, TkC false 0 zPk none 0 0, 109)]) (by kernel_rfl) hK0.drew (fun hHeld => ?_)
        obtain ⟨wd, hwd⟩ : ∃ wd : World, wd = wv.drew := ⟨_, rfl⟩
        rw [← hwd] at hHeld ⊢
        clear hwd hK0
        refine tkY 0 oPkE1 ?vw47 rfl (by kernel_rfl) (by kernel_rfl) (by kernel_rfl) (fun _ _ _ h => h) (by rfl) ?hz47 (by assumption) ?rs47
        case hz47 => (intro wz hSw; unfold oPkE1; (try clear hSw); go_simp; all_goals with_reducible rfl)
        try simp only [oPkE1, Act.put, sA, sB, sC]
        refine tkY 1 oPkE2 ?vw48 rfl (by kernel_rfl) (by kernel_rfl) (by kernel_rfl) (fun _ _ _ h => h) (by rfl) ?hz48 (by assumption) ?rs48
        case hz48 => (intro wz hSw; unfold oPkE2; (try have hq1 := hSw.tail.cell); (try have hq2 := hSw.tail.tail.cell); (try have hq3 := hSw.cell); (try have hq4 := hSw.tail.row); (try have hq5 := hSw.tail.tail.row); (try have hq6 := hSw.row); (try have hq7 := hSw.tail.tail.tail.row); (try clear hSw); go_simp; all_goals with_reducible rfl)
        try simp only [oPkE2, Act.put, sA, sB, sC]
        refine tkY 2 oPkE3 ?vw49 rfl (by kernel_rfl) (by kernel_rfl) (by kernel_rfl) (fun _ _ _ h => h) (by rfl) ?hz49 (by assumption) ?rs49
        case hz49 => (intro wz hSw; unfold oPkE3; (try clear hSw); go_simp; all_goals with_reducible rfl)
        try simp only [oPkE3, Act.put, sA, sB, sC]
        refine tkY 3 oPkE4 ?vw50 rfl (by kernel_rfl) (by kernel_rfl) (by kernel_rfl) (fun _ _ _ h => h) (by rfl) ?hz50 (by assumption) ?rs50
        case hz50 => (intro wz hSw; unfold oPkE4; (try clear hSw); go_simp; all_goals with_reducible rfl)
        try simp only [oPkE4, Act.put, sA, sB, sC]
        refine tkY 4 oPkE5 ?vw51 rfl (by kernel_rfl) (by kernel_rfl) (by kernel_rfl) (fun _ _ _ h => h) (by rfl) ?hz51 (by assumption) ?rs51
        case hz51 => (intro wz hSw; unfold oPkE5; (try clear hSw); go_simp; all_goals with_reducible rfl)
        try simp only [oPkE5, Act.put, sA, sB, sC]
        refine tkY 5 oPkE6 ?vw52 rfl (by kernel_rfl) (by kernel_rfl) (by kernel_rfl) (fun _ _ _ h => h) (by rfl) ?hz52 (by assumption) ?rs52
        case hz52 => (intro wz hSw; unfold oPkE6; (try have hq1 := hSw.tail.cell); (try have hq2 := hSw.tail.tail.cell); (try have hq3 := hSw.cell); (try have hq4 := hSw.tail.row); (try have hq5 := hSw.tail.tail.row); (try have hq6 := hSw.row); (try have hq7 := hSw.tail.tail.tail.row); (try clear hSw); go_simp; all_goals with_reducible rfl)
        try simp only [oPkE6, Act.put, sA, sB, sC]
        refine tkY 16 oPkE7 ?vw53 rfl (by kernel_rfl) (by kernel_rfl) (by kernel_rfl) (fun _ _ _ h => h) (by rfl) ?hz53 (by assumption) ?rs53
        case hz53 => (intro wz hSw; unfold oPkE7; (try clear hSw); go_simp; all_goals with_reducible rfl)
        try simp only [oPkE7, Act.put, sA, sB, sC]
        refine tkY 17 oPkE8 ?vw54 rfl (by kernel_rfl) (by kernel_rfl) (by kernel_rfl) (fun _ _ _ h => h) (by rfl) ?hz54 (by assumption) ?rs54
        case hz54 => (intro wz hSw; unfold oPkE8; (try have hq1 := hSw.tail.cell); (try have hq2 := hSw.tail.tail.cell); (try have hq3 := hSw.cell); (try have hq4 := hSw.tail.row); (try have hq5 := hSw.tail.tail.row); (try have hq6 := hSw.row); (try have hq7 := hSw.tail.tail.tail.row); (try clear hSw); go_simp; all_goals with_reducible rfl)
        try simp only [oPkE8, Act.put, sA, sB, sC]
        refine wpAnyH_ready (rs := [6, 21]) (by kernel_rfl) (by simp) ?_
        refine (AllReadyH.cons (o := oPkE10) rfl (fun K hK => ?_) (AllReadyH.cons (o := oPkE9) rfl (fun K hK => ?_) AllReadyH.nil))
        · skip
          unfold oPkE10
          go_simp
          (go_at_call 74; refine (textValid_eq p.client false _ (by omega) HV.out).mono ?_; rintro e w6 ⟨rfl, hb6⟩)
          refine hK.out _ _ (by first | exact hHeld.more hb6 | exact hHeld | exact ⟨_, hK9⟩ | exact below_more hHeld hb6) (fun hHeld1 => ?_)
          clear hHeld; have hHeld := hHeld1; clear hHeld1 hK K
          try simp only [oPkE10, Act.put, sA, sB, sC]
          refine tkY 7 oPkE11 ?vw55 rfl (by kernel_rfl) (by kernel_rfl) (by kernel_rfl) (fun _ _ _ h => h) (by rfl) ?hz55 (by assumption) ?rs55
          case hz55 => (intro wz hSw; unfold oPkE11; (try clear hSw); go_simp; all_goals with_reducible rfl)
          try simp only [oPkE11, Act.put, sA, sB, sC]
          refine tkY 8 oPkE12 ?vw56 rfl (by kernel_rfl) (by kernel_rfl) (by kernel_rfl) (fun _ _ _ h => h) (by rfl) ?hz56 (by assumption) ?rs56
          case hz56 => (intro wz hSw; unfold oPkE12; (try clear hSw); go_simp; all_goals with_reducible rfl)
          try simp only [oPkE12, Act.put, sA, sB, sC]
          refine wpAnyH_take (i := 9) (oi := oPkE13) (v := undef) rfl (by kernel_rfl) (by kernel_rfl) (by kernel_rfl) (fun _ _ _ h => h) (Or.inr ⟨by rfl, rfl⟩) (by assumption) ?rt57
          try simp only [oPkE13, Act.put, sA, sB, sC]
          refine wpAnyH_take (i := 10) (oi := oPkE14) (v := undef) rfl (by kernel_rfl) (by kernel_rfl) (by kernel_rfl) (fun _ _ _ h => h) (Or.inr ⟨by rfl, rfl⟩) (by assumption) ?rt58
          try simp only [oPkE14, Act.put, sA, sB, sC]
          refine tkY 11 oPkE15 ?vw59 rfl (by kernel_rfl) (by kernel_rfl) (by kernel_rfl) (fun _ _ _ h => h) (by rfl) ?hz59 (by assumption) ?rs59
          case hz59 => (intro wz hSw; unfold oPkE15; (try clear hSw); go_simp; all_goals with_reducible rfl)
          try simp only [oPkE15, Act.put, sA, sB, sC]
          refine tkY 12 oPkE16 ?vw60 rfl (by kernel_rfl) (by kernel_rfl) (by kernel_rfl) (fun _ _ _ h => h) (by rfl) ?hz60 (by assumption) ?rs60
          case hz60 => (intro wz hSw; unfold oPkE16; (try clear hSw); go_simp; all_goals with_reducible rfl)
          try simp only [oPkE16, Act.put, sA, sB, sC]
          refine wpAnyH_take (i := 13) (oi := oPkE17) (v := undef) rfl (by kernel_rfl) (by kernel_rfl) (by kernel_rfl) (fun _ _ _ h => h) (Or.inr ⟨by rfl, rfl⟩) (by assumption) ?rt61
          try simp only [oPkE17, Act.put, sA, sB, sC]
          refine wpAnyH_take (i := 14) (oi := oPkE18) (v := undef) rfl (by kernel_rfl) (by kernel_rfl) (by kernel_rfl) (fun _ _ _ h => h) (Or.inr ⟨by rfl, rfl⟩) (by assumption) ?rt62
          try simp only [oPkE18, Act.put, sA, sB, sC]
          refine tkY 15 oPkE19 ?vw63 rfl (by kernel_rfl) (by kernel_rfl) (by kernel_rfl) (fun _ _ _ h => h) (by rfl) ?hz63 (by assumption) ?rs63
          case hz63 => (intro wz hSw; unfold oPkE19; (try clear hSw); go_simp; all_goals with_reducible rfl)
          try simp only [oPkE19, Act.put, sA, sB, sC]
          refine wpAnyH_ready (rs := [18, 21]) (by kernel_rfl) (by simp) ?_
          refine (AllReadyH.cons (o := oPkE20) rfl (fun K hK => ?_) (AllReadyH.cons (o := oPkE9) rfl (fun K hK => ?_) AllReadyH.nil))
          · skip
            unfold oPkE20
            go_simp
            (go_at_call 97; refine (fieldLen_any _ _ (by omega)).mono ?_; rintro e w6 ⟨rfl, rfl⟩)
            refine hK.out _ _ (by first | exact hHeld.more hb6 | exact hHeld | exact ⟨_, hK9⟩ | exact below_more hHeld hb6) (fun hHeld1 => ?_)
            clear hHeld; have hHeld := hHeld1; clear hHeld1 hK K
            try simp only [oPkE20, Act.put, sA, sB, sC]
            refine tkY 19 oPkE21 ?vw64 rfl (by kernel_rfl) (by kernel_rfl) (by kernel_rfl) (fun _ _ _ h => h) (by rfl) ?hz64 (by assumption) ?rs64
            case hz64 => (intro wz hSw; unfold oPkE21; (try clear hSw); go_simp; all_goals with_reducible rfl)
            try simp only [oPkE21, Act.put, sA, sB, sC]
            refine tkY 20 oPkE22 ?vw65 rfl (by kernel_rfl) (by kernel_rfl) (by kernel_rfl) (fun _ _ _ h => h) (by rfl) ?hz65 (by assumption) ?rs65
            case hz65 => (intro wz hSw; unfold oPkE22; (try clear hSw); go_simp; all_goals with_reducible rfl)
            try simp only [oPkE22, Act.put, sA, sB, sC]
            refine wpAnyH_ready (rs := [21]) (by kernel_rfl) (by simp) ?_
            refine (AllReadyH.cons (o := oPkE9) rfl (fun K hK => ?_) AllReadyH.nil)
            have hOld := hHeld
            unfold oPkE9
            go_simp
            refine hK.out _ _ (hOld.new _ _).tail (fun hHeld1 => ?_)
            refine wpAnyH_more (S2 := Kq _ _ _) (fun _ h => h.tail) ⟨_, _, _, _, _, _, hOld.new _ _⟩ (fun hHeld2 => ?_)
            have hal0 := hOld.lt; have hal1 := hOld.tail.lt; have hal2 := Nat.ne_of_lt hal0; have hal3 := Nat.ne_of_gt hal0; have hal4 := Nat.ne_of_lt hal1; have hal5 := Nat.ne_of_gt hal1; clear hHeld hHeld1; have hHeld := hHeld2; have hPrev := hOld; clear hHeld2 hK K hOld
            try simp only [oPkE9, Act.put, sA, sB, sC]
            refine wpAnyH_ready (rs := [22]) (by kernel_rfl) (by simp) ?_
            refine AllReadyH.cons (o := oPkE23) rfl (fun K hK => ?_) AllReadyH.nil
            unfold oPkE23
            obtain ⟨r0, b0, q0, A0, n0, c0, hH⟩ := hHeld
            have e1 := hH.row; have e2 := hH.free; have e3 := hH.cell; have e4 := hH.lt; have e5 := hH.froz
            have t1 := hH.tail.row; have t2 := hH.tail.free; have t3 := hH.tail.cell; have t4 := hH.tail.lt; have t5 := hH.tail.froz
            have p1 := hPrev.row; have p2 := hPrev.free; have p3 := hPrev.cell; have p4 := hPrev.lt; have p5 := hPrev.froz
            have q1 := hPrev.tail.row; have q2 := hPrev.tail.free; have q3 := hPrev.tail.cell; have q4 := hPrev.tail.lt; have q5 := hPrev.tail.froz
            have s1 := hH.tail.tail.row; have s2 := hH.tail.tail.free; have s3 := hH.tail.tail.cell; have s4 := hH.tail.tail.lt; have s5 := hH.tail.tail.froz
            go_simp
            refine hK.out _ _ ?_ (fun hHeld1 => ?_)
            · first | exact Kq.set ⟨_, _, _, _, _, _, hH⟩ (by intro x hx; simp at hx; rcases hx with rfl | rfl <;> (simp; omega)) _ _ _ _ _ _ | exact ⟨_, _, _, _, _, _, hPrev.new _ _⟩
            clear hHeld1 hK K
            try simp only [oPkE23, Act.put, sA, sB, sC]
            refine wpAnyH_done (by kernel_rfl) ?_ _
            have hbw := hH.below
            clear e1 e2 e3 e5 t1 t2 t3 t5 s1 s2 s3 s5 p1 p2 p3 p5 q1 q2 q3 q5
            go_wp2_with fail
            go_meet
            case rel =>
              first
              | exact ⟨_, _, _, rfl, hH.set (by intro x hx; simp at hx; rcases hx with rfl | rfl <;> (simp; omega)) _, by omega, by omega, HC.out.symm, rfl⟩
              | exact ⟨_, _, _, rfl, hPrev.new _ _, by omega, by omega, HC.out.symm, rfl⟩
          · skip
            have hOld := hHeld
            unfold oPkE9
            go_simp
            refine hK.out _ _ (hOld.new _ _).tail (fun hHeld1 => ?_)
            refine wpAnyH_more (S2 := Kq _ _ _) (fun _ h => h.tail) ⟨_, _, _, _, _, _, hOld.new _ _⟩ (fun hHeld2 => ?_)
            have hal0 := hOld.lt; have hal1 := hOld.tail.lt; have hal2 := Nat.ne_of_lt hal0; have hal3 := Nat.ne_of_gt hal0; have hal4 := Nat.ne_of_lt hal1; have hal5 := Nat.ne_of_gt hal1; clear hHeld hHeld1; have hHeld := hHeld2; have hPrev := hOld; clear hHeld2 hK K hOld
            try simp only [oPkE9, Act.put, sA, sB, sC]
            refine wpAnyH_ready (rs := [18]) (by kernel_rfl) (by simp) ?_
            refine (AllReadyH.cons (o := oPkE20) rfl (fun K hK => ?_) AllReadyH.nil)
            unfold oPkE20
            go_simp
            (go_at_call 97; refine (fieldLen_any _ _ (by omega)).mono ?_; rintro e w6 ⟨rfl, rfl⟩)
            refine hK.out _ _ (by first | exact hHeld.more hb6 | exact hHeld | exact ⟨_, hK9⟩ | exact below_more hHeld hb6) (fun hHeld1 => ?_)
            clear hHeld; have hHeld := hHeld1; clear hHeld1 hK K
            try simp only [oPkE20, Act.put, sA, sB, sC]
            refine tkY 19 oPkE21 ?vw66 rfl (by kernel_rfl) (by kernel_rfl) (by kernel_rfl) (fun _ _ _ h => h) (by rfl) ?hz66 (by assumption) ?rs66
            case hz66 => (intro wz hSw; unfold oPkE21; (try clear hSw); go_simp; all_goals with_reducible rfl)
            try simp only [oPkE21, Act.put, sA, sB, sC]
            refine tkY 20 oPkE22 ?vw67 rfl (by kernel_rfl) (by kernel_rfl) (by kernel_rfl) (fun _ _ _ h => h) (by rfl) ?hz67 (by assumption) ?rs67
            case hz67 => (intro wz hSw; unfold oPkE22; (try clear hSw); go_simp; all_goals with_reducible rfl)
            try simp only [oPkE22, Act.put, sA, sB, sC]
            refine wpAnyH_ready (rs := [22]) (by kernel_rfl) (by simp) ?_
            refine AllReadyH.cons (o := oPkE23) rfl (fun K hK => ?_) AllReadyH.nil
            unfold oPkE23
            obtain ⟨r0, b0, q0, A0, n0, c0, hH⟩ := hHeld
            have e1 := hH.row; have e2 := hH.free; have e3 := hH.cell; have e4 := hH.lt; have e5 := hH.froz
            have t1 := hH.tail.row; have t2 := hH.tail.free; have t3 := hH.tail.cell; have t4 := hH.tail.lt; have t5 := hH.tail.froz
            have p1 := hPrev.row; have p2 := hPrev.free; have p3 := hPrev.cell; have p4 := hPrev.lt; have p5 := hPrev.froz
            have q1 := hPrev.tail.row; have q2 := hPrev.tail.free; have q3 := hPrev.tail.cell; have q4 := hPrev.tail.lt; have q5 := hPrev.tail.froz
            have s1 := hH.tail.tail.row; have s2 := hH.tail.tail.free; have s3 := hH.tail.tail.cell; have s4 := hH.tail.tail.lt; have s5 := hH.tail.tail.froz
            go_simp
            refine hK.out _ _ ?_ (fun hHeld1 => ?_)
            · first | exact Kq.set ⟨_, _, _, _, _, _, hH⟩ (by intro x hx; simp at hx; rcases hx with rfl | rfl <;> (simp; omega)) _ _ _ _ _ _ | exact ⟨_, _, _, _, _, _, hPrev.new _ _⟩
            clear hHeld1 hK K
            try simp only [oPkE23, Act.put, sA, sB, sC]
            refine wpAnyH_done (by kernel_rfl) ?_ _
            have hbw := hH.below
            clear e1 e2 e3 e5 t1 t2 t3 t5 s1 s2 s3 s5 p1 p2 p3 p5 q1 q2 q3 q5
            go_wp2_with fail
            go_meet
            case rel =>
              first
              | exact ⟨_, _, _, rfl, hH.set (by intro x hx; simp at hx; rcases hx with rfl | rfl <;> (simp; omega)) _, by omega, by omega, HC.out.symm, rfl⟩
              | exact ⟨_, _, _, rfl, hPrev.new _ _, by omega, by omega, HC.out.symm, rfl⟩
        · skip
          have hOld := hHeld
          unfold oPkE9
          go_simp
          refine hK.out _ _ (hOld.new _ _).tail (fun hHeld1 => ?_)
          refine wpAnyH_more (S2 := Kq _ _ _) (fun _ h => h.tail) ⟨_, _, _, _, _, _, hOld.new _ _⟩ (fun hHeld2 => ?_)
          have hal0 := hOld.lt; have hal1 := hOld.tail.lt; have hal2 := Nat.ne_of_lt hal0; have hal3 := Nat.ne_of_gt hal0; have hal4 := Nat.ne_of_lt hal1; have hal5 := Nat.ne_of_gt hal1; clear hHeld hHeld1; have hHeld := hHeld2; have hPrev := hOld; clear hHeld2 hK K hOld
          try simp only [oPkE9, Act.put, sA, sB, sC]
          refine wpAnyH_ready (rs := [6]) (by kernel_rfl) (by simp) ?_
          refine (AllReadyH.cons (o := oPkE10) rfl (fun K hK => ?_) AllReadyH.nil)
          unfold oPkE10
          go_simp
          (go_at_call 74; refine (textValid_eq p.client false _ (by omega) HV.out).mono ?_; rintro e w6 ⟨rfl, hb6⟩)
          refine hK.out _ _ (by first | exact hHeld.more hb6 | exact hHeld | exact ⟨_, hK9⟩ | exact below_more hHeld hb6) (fun hHeld1 => ?_)
          clear hHeld; have hHeld := hHeld1; clear hHeld1 hK K
          try simp only [oPkE10, Act.put, sA, sB, sC]
          refine tkY 7 oPkE11 ?vw68 rfl (by kernel_rfl) (by kernel_rfl) (by kernel_rfl) (fun _ _ _ h => h) (by rfl) ?hz68 (by assumption) ?rs68
          case hz68 => (intro wz hSw; unfold oPkE11; (try clear hSw); go_simp; all_goals with_reducible rfl)
          try simp only [oPkE11, Act.put, sA, sB, sC]
          refine tkY 8 oPkE12 ?vw69 rfl (by kernel_rfl) (by kernel_rfl) (by kernel_rfl) (fun _ _ _ h => h) (by rfl) ?hz69 (by assumption) ?rs69
          case hz69 => (intro wz hSw; unfold oPkE12; (try clear hSw); go_simp; all_goals with_reducible rfl)
          try simp only [oPkE12, Act.put, sA, sB, sC]
          refine wpAnyH_take (i := 9) (oi := oPkE13) (v := undef) rfl (by kernel_rfl) (by kernel_rfl) (by kernel_rfl) (fun _ _ _ h => h) (Or.inr ⟨by rfl, rfl⟩) (by assumption) ?rt70
          try simp only [oPkE13, Act.put, sA, sB, sC]
          refine wpAnyH_take (i := 10) (oi := oPkE14) (v := undef) rfl (by kernel_rfl) (by kernel_rfl) (by kernel_rfl) (fun _ _ _ h => h) (Or.inr ⟨by rfl, rfl⟩) (by assumption) ?rt71
          try simp only [oPkE14, Act.put, sA, sB, sC]
          refine tkY 11 oPkE15 ?vw72 rfl (by kernel_rfl) (by kernel_rfl) (by kernel_rfl) (fun _ _ _ h => h) (by rfl) ?hz72 (by assumption) ?rs72
          case hz72 => (intro wz hSw; unfold oPkE15; (try clear hSw); go_simp; all_goals with_reducible rfl)
          try simp only [oPkE15, Act.put, sA, sB, sC]
          refine tkY 12 oPkE16 ?vw73 rfl (by kernel_rfl) (by kernel_rfl) (by kernel_rfl) (fun _ _ _ h => h) (by rfl) ?hz73 (by assumption) ?rs73
          case hz73 => (intro wz hSw; unfold oPkE16; (try clear hSw); go_simp; all_goals with_reducible rfl)
          try simp only [oPkE16, Act.put, sA, sB, sC]
          refine wpAnyH_take (i := 13) (oi := oPkE17) (v := undef) rfl (by kernel_rfl) (by kernel_rfl) (by kernel_rfl) (fun _ _ _ h => h) (Or.inr ⟨by rfl, rfl⟩) (by assumption) ?rt74
          try simp only [oPkE17, Act.put, sA, sB, sC]
          refine wpAnyH_take (i := 14) (oi := oPkE18) (v := undef) rfl (by kernel_rfl) (by kernel_rfl) (by kernel_rfl) (fun _ _ _ h => h) (Or.inr ⟨by rfl, rfl⟩) (by assumption) ?rt75
          try simp only [oPkE18, Act.put, sA, sB, sC]
          refine tkY 15 oPkE19 ?vw76 rfl (by kernel_rfl) (by kernel_rfl) (by kernel_rfl) (fun _ _ _ h => h) (by rfl) ?hz76 (by assumption) ?rs76
          case hz76 => (intro wz hSw; unfold oPkE19; (try clear hSw); go_simp; all_goals with_reducible rfl)
          try simp only [oPkE19, Act.put, sA, sB, sC]
          refine wpAnyH_ready (rs := [18]) (by kernel_rfl) (by simp) ?_
          refine (AllReadyH.cons (o := oPkE20) rfl (fun K hK => ?_) AllReadyH.nil)
          unfold oPkE20
          go_simp
          (go_at_call 97; refine (fieldLen_any _ _ (by omega)).mono ?_; rintro e w6 ⟨rfl, rfl⟩)
          refine hK.out _ _ (by first | exact hHeld.more hb6 | exact hHeld | exact ⟨_, hK9⟩ | exact below_more hHeld hb6) (fun hHeld1 => ?_)
          clear hHeld; have hHeld := hHeld1; clear hHeld1 hK K
          try simp only [oPkE20, Act.put, sA, sB, sC]
          refine tkY 19 oPkE21 ?vw77 rfl (by kernel_rfl) (by kernel_rfl) (by kernel_rfl) (fun _ _ _ h => h) (by rfl) ?hz77 (by assumption) ?rs77
          case hz77 => (intro wz hSw; unfold oPkE21; (try clear hSw); go_simp; all_goals with_reducible rfl)
          try simp only [oPkE21, Act.put, sA, sB, sC]
          refine tkY 20 oPkE22 ?vw78 rfl (by kernel_rfl) (by kernel_rfl) (by kernel_rfl) (fun _ _ _ h => h) (by rfl) ?hz78 (by assumption) ?rs78
          case hz78 => (intro wz hSw; unfold oPkE22; (try clear hSw); go_simp; all_goals with_reducible rfl)
          try simp only [oPkE22, Act.put, sA, sB, sC]
          refine wpAnyH_ready (rs := [22]) (by kernel_rfl) (by simp) ?_
          refine AllReadyH.cons (o := oPkE23) rfl (fun K hK => ?_) AllReadyH.nil
          unfold oPkE23
          obtain ⟨r0, b0, q0, A0, n0, c0, hH⟩ := hHeld
          have e1 := hH.row; have e2 := hH.free; have e3 := hH.cell; have e4 := hH.lt; have e5 := hH.froz
          have t1 := hH.tail.row; have t2 := hH.tail.free; have t3 := hH.tail.cell; have t4 := hH.tail.lt; have t5 := hH.tail.froz
          have p1 := hPrev.row; have p2 := hPrev.free; have p3 := hPrev.cell; have p4 := hPrev.lt; have p5 := hPrev.froz
          have q1 := hPrev.tail.row; have q2 := hPrev.tail.free; have q3 := hPrev.tail.cell; have q4 := hPrev.tail.lt; have q5 := hPrev.tail.froz
          have s1 := hH.tail.tail.row; have s2 := hH.tail.tail.free; have s3 := hH.tail.tail.cell; have s4 := hH.tail.tail.lt; have s5 := hH.tail.tail.froz
          go_simp
          refine hK.out _ _ ?_ (fun hHeld1 => ?_)
          · first | exact Kq.set ⟨_, _, _, _, _, _, hH⟩ (by intro x hx; simp at hx; rcases hx with rfl | rfl <;> (simp; omega)) _ _ _ _ _ _ | exact ⟨_, _, _, _, _, _, hPrev.new _ _⟩
          clear hHeld1 hK K
          try simp only [oPkE23, Act.put, sA, sB, sC]
          refine wpAnyH_done (by kernel_rfl) ?_ _
          have hbw := hH.below
          clear e1 e2 e3 e5 t1 t2 t3 t5 s1 s2 s3 s5 p1 p2 p3 p5 q1 q2 q3 q5
          go_wp2_with fail
          go_meet
          case rel =>
            first
            | exact ⟨_, _, _, rfl, hH.set (by intro x hx; simp at hx; rcases hx with rfl | rfl <;> (simp; omega)) _, by omega, by omega, HC.out.symm, rfl⟩
            | exact ⟨_, _, _, rfl, hPrev.new _ _, by omega, by omega, HC.out.symm, rfl⟩
      | true =>
        cases hw : wlB p with
        | false =>
          have HC : Hid (conR p = false) := by show conR p = _; unfold conR; rw [hl4, hv, hw]; rfl
          have HV := Lib.hid hv
          have HW := Lib.hid hw
          clear hv hw
          refine wp_region_held_drew (S := Kp w [(w.heap.size, PkC p A n c, 36), (w.heap.size + 1, TkC false 0 zPk none 0 0, 109)]) (by kernel_rfl) hK0.drew (fun hHeld => ?_)
          obtain ⟨wd, hwd⟩ : ∃ wd : World, wd = wv.drew := ⟨_, rfl⟩
          rw [← hwd] at hHeld ⊢
          clear hwd hK0
          refine tkY 0 oPkE1 ?vw79 rfl (by kernel_rfl) (by kernel_rfl) (by kernel_rfl) (fun _ _ _ h => h) (by rfl) ?hz79 (by assumption) ?rs79
          case hz79 => (intro wz hSw; unfold oPkE1; (try clear hSw); go_simp; all_goals with_reducible rfl)
          try simp only [oPkE1, Act.put, sA, sB, sC]
          refine tkY 1 oPkE2 ?vw80 rfl (by kernel_rfl) (by kernel_rfl) (by kernel_rfl) (fun _ _ _ h => h) (by rfl) ?hz80 (by assumption) ?rs80
          case hz80 => (intro wz hSw; unfold oPkE2; (try have hq1 := hSw.tail.cell); (try have hq2 := hSw.tail.tail.cell); (try have hq3 := hSw.cell); (try have hq4 := hSw.tail.row); (try have hq5 := hSw.tail.tail.row); (try have hq6 := hSw.row); (try have hq7 := hSw.tail.tail.tail.row); (try clear hSw); go_simp; all_goals with_reducible rfl)
          try simp only [oPkE2, Act.put, sA, sB, sC]
          refine tkY 2 oPkE3 ?vw81 rfl (by kernel_rfl) (by kernel_rfl) (by kernel_rfl) (fun _ _ _ h => h) (by rfl) ?hz81 (by assumption) ?rs81
          case hz81 => (intro wz hSw; unfold oPkE3; (try clear hSw); go_simp; all_goals with_reducible rfl)
          try simp only [oPkE3, Act.put, sA, sB, sC]
          refine tkY 3 oPkE4 ?vw82 rfl (by kernel_rfl) (by kernel_rfl) (by kernel_rfl) (fun _ _ _ h => h) (by rfl) ?hz82 (by assumption) ?rs82
          case hz82 => (intro wz hSw; unfold oPkE4; (try clear hSw); go_simp; all_goals with_reducible rfl)
          try simp only [oPkE4, Act.put, sA, sB, sC]
          refine tkY 4 oPkE5 ?vw83 rfl (by kernel_rfl) (by kernel_rfl) (by kernel_rfl) (fun _ _ _ h => h) (by rfl) ?hz83 (by assumption) ?rs83
          case hz83 => (intro wz hSw; unfold oPkE5; (try clear hSw); go_simp; all_goals with_reducible rfl)
          try simp only [oPkE5, Act.put, sA, sB, sC]
          refine tkY 5 oPkE6 ?vw84 rfl (by kernel_rfl) (by kernel_rfl) (by kernel_rfl) (fun _ _ _ h => h) (by rfl) ?hz84 (by assumption) ?rs84
          case hz84 => (intro wz hSw; unfold oPkE6; (try have hq1 := hSw.tail.cell); (try have hq2 := hSw.tail.tail.cell); (try have hq3 := hSw.cell); (try have hq4 := hSw.tail.row); (try have hq5 := hSw.tail.tail.row); (try have hq6 := hSw.row); (try have hq7 := hSw.tail.tail.tail.row); (try clear hSw); go_simp; all_goals with_reducible rfl)
          try simp only [oPkE6, Act.put, sA, sB, sC]
          refine tkY 16 oPkE7 ?vw85 rfl (by kernel_rfl) (by kernel_rfl) (by kernel_rfl) (fun _ _ _ h => h) (by rfl) ?hz85 (by assumption) ?rs85
          case hz85 => (intro wz hSw; unfold oPkE7; (try clear hSw); go_simp; all_goals with_reducible rfl)
          try simp only [oPkE7, Act.put, sA, sB, sC]
          refine tkY 17 oPkE8 ?vw86 rfl (by kernel_rfl) (by kernel_rfl) (by kernel_rfl) (fun _ _ _ h => h) (by rfl) ?hz86 (by assumption) ?rs86
          case hz86 => (intro wz hSw; unfold oPkE8; (try have hq1 := hSw.tail.cell); (try have hq2 := hSw.tail.tail.cell); (try have hq3 := hSw.cell); (try have hq4 := hSw.tail.row); (try have hq5 := hSw.tail.tail.row); (try have hq6 := hSw.row); (try have hq7 := hSw.tail.tail.tail.row); (try clear hSw); go_simp; all_goals with_reducible rfl)
          try simp only [oPkE8, Act.put, sA, sB, sC]
          refine wpAnyH_ready (rs := [6, 21]) (by kernel_rfl) (by simp) ?_
          refine (AllReadyH.cons (o := oPkE10) rfl (fun K hK => ?_) (AllReadyH.cons (o := oPkE9) rfl (fun K hK => ?_) AllReadyH.nil))
          · skip
            unfold oPkE10
            go_simp
            (go_at_call 74; refine (textValid_eq p.client true _ (by omega) HV.out).mono ?_; rintro e w6 ⟨rfl, hb6⟩)
            refine hK.out _ _ (by first | exact hHeld.more hb6 | exact hHeld | exact ⟨_, hK9⟩ | exact below_more hHeld hb6) (fun hHeld1 => ?_)
            clear hHeld; have hHeld := hHeld1; clear hHeld1 hK K
            try simp only [oPkE10, Act.put, sA, sB, sC]
            refine tkY 7 oPkE11 ?vw87 rfl (by kernel_rfl) (by kernel_rfl) (by kernel_rfl) (fun _ _ _ h => h) (by rfl) ?hz87 (by assumption) ?rs87
            case hz87 => (intro wz hSw; unfold oPkE11; (try clear hSw); go_simp; all_goals with_reducible rfl)
            try simp only [oPkE11, Act.put, sA, sB, sC]
            refine tkY 8 oPkE12 ?vw88 rfl (by kernel_rfl) (by kernel_rfl) (by kernel_rfl) (fun _ _ _ h => h) (by rfl) ?hz88 (by assumption) ?rs88
            case hz88 => (intro wz hSw; unfold oPkE12; (try clear hSw); go_simp; all_goals with_reducible rfl)
            try simp only [oPkE12, Act.put, sA, sB, sC]
            refine tkY 9 oPkE13 ?vw89 rfl (by kernel_rfl) (by kernel_rfl) (by kernel_rfl) (fun _ _ _ h => h) (by rfl) ?hz89 (by assumption) ?rs89
            case hz89 => (intro wz hSw; unfold oPkE13; (try have hq1 := hSw.tail.cell); (try have hq2 := hSw.tail.tail.cell); (try have hq3 := hSw.cell); (try have hq4 := hSw.tail.row); (try have hq5 := hSw.tail.tail.row); (try have hq6 := hSw.row); (try have hq7 := hSw.tail.tail.tail.row); (try clear hSw); go_simp; all_goals with_reducible rfl)
            try simp only [oPkE13, Act.put, sA, sB, sC]
            refine wpAnyH_ready (rs := [10, 21]) (by kernel_rfl) (by simp) ?_
            refine (AllReadyH.cons (o := oPkE14) rfl (fun K hK => ?_) (AllReadyH.cons (o := oPkE9) rfl (fun K hK => ?_) AllReadyH.nil))
            · skip
              unfold oPkE14
              go_simp
              (go_at_call 95; refine (rightWill_eq p A n c false _ (by omega) (by omega) HW.out).mono ?_; rintro e w6 ⟨rfl, hb6⟩)
              refine hK.out _ _ (by first | exact hHeld.more hb6 | exact hHeld | exact ⟨_, hK9⟩ | exact below_more hHeld hb6) (fun hHeld1 => ?_)
              clear hHeld; have hHeld := hHeld1; clear hHeld1 hK K
              try simp only [oPkE14, Act.put, sA, sB, sC]
              refine tkY 11 oPkE15 ?vw90 rfl (by kernel_rfl) (by kernel_rfl) (by kernel_rfl) (fun _ _ _ h => h) (by rfl) ?hz90 (by assumption) ?rs90
              case hz90 => (intro wz hSw; unfold oPkE15; (try clear hSw); go_simp; all_goals with_reducible rfl)
              try simp only [oPkE15, Act.put, sA, sB, sC]
              refine tkY 12 oPkE16 ?vw91 rfl (by kernel_rfl) (by kernel_rfl) (by kernel_rfl) (fun _ _ _ h => h) (by rfl) ?hz91 (by assumption) ?rs91
              case hz91 => (intro wz hSw; unfold oPkE16; (try clear hSw); go_simp; all_goals with_reducible rfl)
              try simp only [oPkE16, Act.put, sA, sB, sC]
              refine wpAnyH_take (i := 13) (oi := oPkE17) (v := undef) rfl (by kernel_rfl) (by kernel_rfl) (by kernel_rfl) (fun _ _ _ h => h) (Or.inr ⟨by rfl, rfl⟩) (by assumption) ?rt92
              try simp only [oPkE17, Act.put, sA, sB, sC]
              refine wpAnyH_take (i := 14) (oi := oPkE18) (v := undef) rfl (by kernel_rfl) (by kernel_rfl) (by kernel_rfl) (fun _ _ _ h => h) (Or.inr ⟨by rfl, rfl⟩) (by assumption) ?rt93
              try simp only [oPkE18, Act.put, sA, sB, sC]
              refine tkY 15 oPkE19 ?vw94 rfl (by kernel_rfl) (by kernel_rfl) (by kernel_rfl) (fun _ _ _ h => h) (by rfl) ?hz94 (by assumption) ?rs94
              case hz94 => (intro wz hSw; unfold oPkE19; (try clear hSw); go_simp; all_goals with_reducible rfl)
              try simp only [oPkE19, Act.put, sA, sB, sC]
              refine wpAnyH_ready (rs := [18, 21]) (by kernel_rfl) (by simp) ?_
              refine (AllReadyH.cons (o := oPkE20) rfl (fun K hK => ?_) (AllReadyH.cons (o := oPkE9) rfl (fun K hK => ?_) AllReadyH.nil))
              · skip
                unfold oPkE20
                go_simp
                (go_at_call 97; refine (fieldLen_any _ _ (by omega)).mono ?_; rintro e w6 ⟨rfl, rfl⟩)
                refine hK.out _ _ (by first | exact hHeld.more hb6 | exact hHeld | exact ⟨_, hK9⟩ | exact below_more hHeld hb6) (fun hHeld1 => ?_)
                clear hHeld; have hHeld := hHeld1; clear hHeld1 hK K
                try simp only [oPkE20, Act.put, sA, sB, sC]
                refine tkY 19 oPkE21 ?vw95 rfl (by kernel_rfl) (by kernel_rfl) (by kernel_rfl) (fun _ _ _ h => h) (by rfl) ?hz95 (by assumption) ?rs95
                case hz95 => (intro wz hSw; unfold oPkE21; (try clear hSw); go_simp; all_goals with_reducible rfl)
                try simp only [oPkE21, Act.put, sA, sB, sC]
                refine tkY 20 oPkE22 ?vw96 rfl (by kernel_rfl) (by kernel_rfl) (by kernel_rfl) (fun _ _ _ h => h) (by rfl) ?hz96 (by assumption) ?rs96
                case hz96 => (intro wz hSw; unfold oPkE22; (try clear hSw); go_simp; all_goals with_reducible rfl)
                try simp only [oPkE22, Act.put, sA, sB, sC]
                refine wpAnyH_ready (rs := [21]) (by kernel_rfl) (by simp) ?_
                refine (AllReadyH.cons (o := oPkE9) rfl (fun K hK => ?_) AllReadyH.nil)
                have hOld := hHeld
                unfold oPkE9
                go_simp
                refine hK.out _ _ (hOld.new _ _).tail (fun hHeld1 => ?_)
                refine wpAnyH_more (S2 := Kq _ _ _) (fun _ h => h.tail) ⟨_, _, _, _, _, _, hOld.new _ _⟩ (fun hHeld2 => ?_)
                have hal0 := hOld.lt; have hal1 := hOld.tail.lt; have hal2 := Nat.ne_of_lt hal0; have hal3 := Nat.ne_of_gt hal0; have hal4 := Nat.ne_of_lt hal1; have hal5 := Nat.ne_of_gt hal1; clear hHeld hHeld1; have hHeld := hHeld2; have hPrev := hOld; clear hHeld2 hK K hOld
                try simp only [oPkE9, Act.put, sA, sB, sC]
                refine wpAnyH_ready (rs := [22]) (by kernel_rfl) (by simp) ?_
                refine AllReadyH.cons (o := oPkE23) rfl (fun K hK => ?_) AllReadyH.nil
                unfold oPkE23
                obtain ⟨r0, b0, q0, A0, n0, c0, hH⟩ := hHeld
                have e1 := hH.row; have e2 := hH.free; have e3 := hH.cell; have e4 := hH.lt; have e5 := hH.froz
                have t1 := hH.tail.row; have t2 := hH.tail.free; have t3 := hH.tail.cell; have t4 := hH.tail.lt; have t5 := hH.tail.froz
                have p1 := hPrev.row; have p2 := hPrev.free; have p3 := hPrev.cell; have p4 := hPrev.lt; have p5 := hPrev.froz
                have q1 := hPrev.tail.row; have q2 := hPrev.tail.free; have q3 := hPrev.tail.cell; have q4 := hPrev.tail.lt; have q5 := hPrev.tail.froz
                have s1 := hH.tail.tail.row; have s2 := hH.tail.tail.free; have s3 := hH.tail.tail.cell; have s4 := hH.tail.tail.lt; have s5 := hH.tail.tail.froz
                go_simp
                refine hK.out _ _ ?_ (fun hHeld1 => ?_)
                · first | exact Kq.set ⟨_, _, _, _, _, _, hH⟩ (by intro x hx; simp at hx; rcases hx with rfl | rfl <;> (simp; omega)) _ _ _ _ _ _ | exact ⟨_, _, _, _, _, _, hPrev.new _ _⟩
                clear hHeld1 hK K
                try simp only [oPkE23, Act.put, sA, sB, sC]
                refine wpAnyH_done (by kernel_rfl) ?_ _
                have hbw := hH.below
                clear e1 e2 e3 e5 t1 t2 t3 t5 s1 s2 s3 s5 p1 p2 p3 p5 q1 q2 q3 q5
                go_wp2_with fail
                go_meet
                case rel =>
                  first
                  | exact ⟨_, _, _, rfl, hH.set (by intro x hx; simp at hx; rcases hx with rfl | rfl <;> (simp; omega)) _, by omega, by omega, HC.out.symm, rfl⟩
                  | exact ⟨_, _, _, rfl, hPrev.new _ _, by omega, by omega, HC.out.symm, rfl⟩
              · skip
                have hOld := hHeld
                unfold oPkE9
                go_simp
                refine hK.out _ _ (hOld.new _ _).tail (fun hHeld1 => ?_)
                refine wpAnyH_more (S2 := Kq _ _ _) (fun _ h => h.tail) ⟨_, _, _, _, _, _, hOld.new _ _⟩ (fun hHeld2 => ?_)
                have hal0 := hOld.lt; have hal1 := hOld.tail.lt; have hal2 := Nat.ne_of_lt hal0; have hal3 := Nat.ne_of_gt hal0; have hal4 := Nat.ne_of_lt hal1; have hal5 := Nat.ne_of_gt hal1; clear hHeld hHeld1; have hHeld := hHeld2; have hPrev := hOld; clear hHeld2 hK K hOld
                try simp only [oPkE9, Act.put, sA, sB, sC]
                refine wpAnyH_ready (rs := [18]) (by kernel_rfl) (by simp) ?_
                refine (AllReadyH.cons (o := oPkE20) rfl (fun K hK => ?_) AllReadyH.nil)
                unfold oPkE20
                go_simp
                (go_at_call 97; refine (fieldLen_any _ _ (by omega)).mono ?_; rintro e w6 ⟨rfl, rfl⟩)
                refine hK.out _ _ (by first | exact hHeld.more hb6 | exact hHeld | exact ⟨_, hK9⟩ | exact below_more hHeld hb6) (fun hHeld1 => ?_)
                clear hHeld; have hHeld := hHeld1; clear hHeld1 hK K
                try simp only [oPkE20, Act.put, sA, sB, sC]
                refine tkY 19 oPkE21 ?vw97 rfl (by kernel_rfl) (by kernel_rfl) (by kernel_rfl) (fun _ _ _ h => h) (by rfl) ?hz97 (by assumption) ?rs97
                case hz97 => (intro wz hSw; unfold oPkE21; (try clear hSw); go_simp; all_goals with_reducible rfl)
                try simp only [oPkE21, Act.put, sA, sB, sC]
                refine tkY 20 oPkE22 ?vw98 rfl (by kernel_rfl) (by kernel_rfl) (by kernel_rfl) (fun _ _ _ h => h) (by rfl) ?hz98 (by assumption) ?rs98
                case hz98 => (intro wz hSw; unfold oPkE22; (try clear hSw); go_simp; all_goals with_reducible rfl)
                try simp only [oPkE22, Act.put, sA, sB, sC]
                refine wpAnyH_ready (rs := [22]) (by kernel_rfl) (by simp) ?_
                refine AllReadyH.cons (o := oPkE23) rfl (fun K hK => ?_) AllReadyH.nil
                unfold oPkE23
                obtain ⟨r0, b0, q0, A0, n0, c0, hH⟩ := hHeld
                have e1 := hH.row; have e2 := hH.free; have e3 := hH.cell; have e4 := hH.lt; have e5 := hH.froz
                have t1 := hH.tail.row; have t2 := hH.tail.free; have t3 := hH.tail.cell; have t4 := hH.tail.lt; have t5 := hH.tail.froz
                have p1 := hPrev.row; have p2 := hPrev.free; have p3 := hPrev.cell; have p4 := hPrev.lt; have p5 := hPrev.froz
                have q1 := hPrev.tail.row; have q2 := hPrev.tail.free; have q3 := hPrev.tail.cell; have q4 := hPrev.tail.lt; have q5 := hPrev.tail.froz
                have s1 := hH.tail.tail.row; have s2 := hH.tail.tail.free; have s3 := hH.tail.tail.cell; have s4 := hH.tail.tail.lt; have s5 := hH.tail.tail.froz
                go_simp
                refine hK.out _ _ ?_ (fun hHeld1 => ?_)
                · first | exact Kq.set ⟨_, _, _, _, _, _, hH⟩ (by intro x hx; simp at hx; rcases hx with rfl | rfl <;> (simp; omega)) _ _ _ _ _ _ | exact ⟨_, _, _, _, _, _, hPrev.new _ _⟩
                clear hHeld1 hK K
                try simp only [oPkE23, Act.put, sA, sB, sC]
                refine wpAnyH_done (by kernel_rfl) ?_ _
                have hbw := hH.below
                clear e1 e2 e3 e5 t1 t2 t3 t5 s1 s2 s3 s5 p1 p2 p3 p5 q1 q2 q3 q5
                go_wp2_with fail
                go_meet
                case rel =>
                  first
                  | exact ⟨_, _, _, rfl, hH.set (by intro x hx; simp at hx; rcases hx with rfl | rfl <;> (simp; omega)) _, by omega, by omega, HC.out.symm, rfl⟩
                  | exact ⟨_, _, _, rfl, hPrev.new _ _, by omega, by omega, HC.out.symm, rfl⟩
            · skip
              have hOld := hHeld
              unfold oPkE9
              go_simp
              refine hK.out _ _ (hOld.new _ _).tail (fun hHeld1 => ?_)
              refine wpAnyH_more (S2 := Kq _ _ _) (fun _ h => h.tail) ⟨_, _, _, _, _, _, hOld.new _ _⟩ (fun hHeld2 => ?_)
              have hal0 := hOld.lt; have hal1 := hOld.tail.lt; have hal2 := Nat.ne_of_lt hal0; have hal3 := Nat.ne_of_gt hal0; have hal4 := Nat.ne_of_lt hal1; have hal5 := Nat.ne_of_gt hal1; clear hHeld hHeld1; have hHeld := hHeld2; have hPrev := hOld; clear hHeld2 hK K hOld
              try simp only [oPkE9, Act.put, sA, sB, sC]
              refine wpAnyH_ready (rs := [10]) (by kernel_rfl) (by simp) ?_
              refine (AllReadyH.cons (o := oPkE14) rfl (fun K hK => ?_) AllReadyH.nil)
              unfold oPkE14
              go_simp
              (go_at_call 95; refine (rightWill_eq p A n c false _ (by omega) (by omega) HW.out).mono ?_; rintro e w6 ⟨rfl, hb6⟩)
              refine hK.out _ _ (by first | exact hHeld.more hb6 | exact hHeld | exact ⟨_, hK9⟩ | exact below_more hHeld hb6) (fun hHeld1 => ?_)
              clear hHeld; have hHeld := hHeld1; clear hHeld1 hK K
              try simp only [oPkE14, Act.put, sA, sB, sC]
              refine tkY 11 oPkE15 ?vw99 rfl (by kernel_rfl) (by kernel_rfl) (by kernel_rfl) (fun _ _ _ h => h) (by rfl) ?hz99 (by assumption) ?rs99
              case hz99 => (intro wz hSw; unfold oPkE15; (try clear hSw); go_simp; all_goals with_reducible rfl)
              try simp only [oPkE15, Act.put, sA, sB, sC]
              refine tkY 12 oPkE16 ?vw100 rfl (by kernel_rfl) (by kernel_rfl) (by kernel_rfl) (fun _ _ _ h => h) (by rfl) ?hz100 (by assumption) ?rs100
              case hz100 => (intro wz hSw; unfold oPkE16; (try clear hSw); go_simp; all_goals with_reducible rfl)
              try simp only [oPkE16, Act.put, sA, sB, sC]
              refine wpAnyH_take (i := 13) (oi := oPkE17) (v := undef) rfl (by kernel_rfl) (by kernel_rfl) (by kernel_rfl) (fun _ _ _ h => h) (Or.inr ⟨by rfl, rfl⟩) (by assumption) ?rt101
              try simp only [oPkE17, Act.put, sA, sB, sC]
              refine wpAnyH_take (i := 14) (oi := oPkE18) (v := undef) rfl (by kernel_rfl) (by kernel_rfl) (by kernel_rfl) (fun _ _ _ h => h) (Or.inr ⟨by rfl, rfl⟩) (by assumption) ?rt102
              try simp only [oPkE18, Act.put, sA, sB, sC]
              refine tkY 15 oPkE19 ?vw103 rfl (by kernel_rfl) (by kernel_rfl) (by kernel_rfl) (fun _ _ _ h => h) (by rfl) ?hz103 (by assumption) ?rs103
              case hz103 => (intro wz hSw; unfold oPkE19; (try clear hSw); go_simp; all_goals with_reducible rfl)
              try simp only [oPkE19, Act.put, sA, sB, sC]
              refine wpAnyH_ready (rs := [18]) (by kernel_rfl) (by simp) ?_
              refine (AllReadyH.cons (o := oPkE20) rfl (fun K hK => ?_) AllReadyH.nil)
              unfold oPkE20
              go_simp
              (go_at_call 97; refine (fieldLen_any _ _ (by omega)).mono ?_; rintro e w6 ⟨rfl, rfl⟩)
              refine hK.out _ _ (by first | exact hHeld.more hb6 | exact hHeld | exact ⟨_, hK9⟩ | exact below_more hHeld hb6) (fun hHeld1 => ?_)
              clear hHeld; have hHeld := hHeld1; clear hHeld1 hK K
              try simp only [oPkE20, Act.put, sA, sB, sC]
              refine tkY 19 oPkE21 ?vw104 rfl (by kernel_rfl) (by kernel_rfl) (by kernel_rfl) (fun _ _ _ h => h) (by rfl) ?hz104 (by assumption) ?rs104
              case hz104 => (intro wz hSw; unfold oPkE21; (try clear hSw); go_simp; all_goals with_reducible rfl)
              try simp only [oPkE21, Act.put, sA, sB, sC]
              refine tkY 20 oPkE22 ?vw105 rfl (by kernel_rfl) (by kernel_rfl) (by kernel_rfl) (fun _ _ _ h => h) (by rfl) ?hz105 (by assumption) ?rs105
              case hz105 => (intro wz hSw; unfold oPkE22; (try clear hSw); go_simp; all_goals with_reducible rfl)
              try simp only [oPkE22, Act.put, sA, sB, sC]
              refine wpAnyH_ready (rs := [22]) (by kernel_rfl) (by simp) ?_
              refine AllReadyH.cons (o := oPkE23) rfl (fun K hK => ?_) AllReadyH.nil
              unfold oPkE23
              obtain ⟨r0, b0, q0, A0, n0, c0, hH⟩ := hHeld
              have e1 := hH.row; have e2 := hH.free; have e3 := hH.cell; have e4 := hH.lt; have e5 := hH.froz
              have t1 := hH.tail.row; have t2 := hH.tail.free; have t3 := hH.tail.cell; have t4 := hH.tail.lt; have t5 := hH.tail.froz
              have p1 := hPrev.row; have p2 := hPrev.free; have p3 := hPrev.cell; have p4 := hPrev.lt; have p5 := hPrev.froz
              have q1 := hPrev.tail.row; have q2 := hPrev.tail.free; have q3 := hPrev.tail.cell; have q4 := hPrev.tail.lt; have q5 := hPrev.tail.froz
              have s1 := hH.tail.tail.row; have s2 := hH.tail.tail.free; have s3 := hH.tail.tail.cell; have s4 := hH.tail.tail.lt; have s5 := hH.tail.tail.froz
              go_simp
              refine hK.out _ _ ?_ (fun hHeld1 => ?_)
              · first | exact Kq.set ⟨_, _, _, _, _, _, hH⟩ (by intro x hx; simp at hx; rcases hx with rfl | rfl <;> (simp; omega)) _ _ _ _ _ _ | exact ⟨_, _, _, _, _, _, hPrev.new _ _⟩
              clear hHeld1 hK K
              try simp only [oPkE23, Act.put, sA, sB, sC]
              refine wpAnyH_done (by kernel_rfl) ?_ _
              have hbw := hH.below
              clear e1 e2 e3 e5 t1 t2 t3 t5 s1 s2 s3 s5 p1 p2 p3 p5 q1 q2 q3 q5
              go_wp2_with fail
              go_meet
              case rel =>
                first
                | exact ⟨_, _, _, rfl, hH.set (by intro x hx; simp at hx; rcases hx with rfl | rfl <;> (simp; omega)) _, by omega, by omega, HC.out.symm, rfl⟩
                | exact ⟨_, _, _, rfl, hPrev.new _ _, by omega, by omega, HC.out.symm, rfl⟩
          · skip
            have hOld := hHeld
            unfold oPkE9
            go_simp
            refine hK.out _ _ (hOld.new _ _).tail (fun hHeld1 => ?_)
            refine wpAnyH_more (S2 := Kq _ _ _) (fun _ h => h.tail) ⟨_, _, _, _, _, _, hOld.new _ _⟩ (fun hHeld2 => ?_)
            have hal0 := hOld.lt; have hal1 := hOld.tail.lt; have hal2 := Nat.ne_of_lt hal0; have hal3 := Nat.ne_of_gt hal0; have hal4 := Nat.ne_of_lt hal1; have hal5 := Nat.ne_of_gt hal1; clear hHeld hHeld1; have hHeld := hHeld2; have hPrev := hOld; clear hHeld2 hK K hOld
            try simp only [oPkE9, Act.put, sA, sB, sC]
            refine wpAnyH_ready (rs := [6]) (by kernel_rfl) (by simp) ?_
            refine (AllReadyH.cons (o := oPkE10) rfl (fun K hK => ?_) AllReadyH.nil)
            unfold oPkE10
            go_simp
            (go_at_call 74; refine (textValid_eq p.client true _ (by omega) HV.out).mono ?_; rintro e w6 ⟨rfl, hb6⟩)
            refine hK.out _ _ (by first | exact hHeld.more hb6 | exact hHeld | exact ⟨_, hK9⟩ | exact below_more hHeld hb6) (fun hHeld1 => ?_)
            clear hHeld; have hHeld := hHeld1; clear hHeld1 hK K
            try simp only [oPkE10, Act.put, sA, sB, sC]
            refine tkY 7 oPkE11 ?vw106 rfl (by kernel_rfl) (by kernel_rfl) (by kernel_rfl) (fun _ _ _ h => h) (by rfl) ?hz106 (by assumption) ?rs106
            case hz106 => (intro wz hSw; unfold oPkE11; (try clear hSw); go_simp; all_goals with_reducible rfl)
            try simp only [oPkE11, Act.put, sA, sB, sC]
            refine tkY 8 oPkE12 ?vw107 rfl (by kernel_rfl) (by kernel_rfl) (by kernel_rfl) (fun _ _ _ h => h) (by rfl) ?hz107 (by assumption) ?rs107
            case hz107 => (intro wz hSw; unfold oPkE12; (try clear hSw); go_simp; all_goals with_reducible rfl)
            try simp only [oPkE12, Act.put, sA, sB, sC]
            refine tkY 9 oPkE13 ?vw108 rfl (by kernel_rfl) (by kernel_rfl) (by kernel_rfl) (fun _ _ _ h => h) (by rfl) ?hz108 (by assumption) ?rs108
            case hz108 => (intro wz hSw; unfold oPkE13; (try have hq1 := hSw.tail.cell); (try have hq2 := hSw.tail.tail.cell); (try have hq3 := hSw.cell); (try have hq4 := hSw.tail.row); (try have hq5 := hSw.tail.tail.row); (try have hq6 := hSw.row); (try have hq7 := hSw.tail.tail.tail.row); (try clear hSw); go_simp; all_goals with_reducible rfl)
            try simp only [oPkE13, Act.put, sA, sB, sC]
            refine wpAnyH_ready (rs := [10]) (by kernel_rfl) (by simp) ?_
            refine (AllReadyH.cons (o := oPkE14) rfl (fun K hK => ?_) AllReadyH.nil)
            unfold oPkE14
            go_simp
            (go_at_call 95; refine (rightWill_eq p A n c false _ (by omega) (by omega) HW.out).mono ?_; rintro e w6 ⟨rfl, hb6⟩)
            refine hK.out _ _ (by first | exact hHeld.more hb6 | exact hHeld | exact ⟨_, hK9⟩ | exact below_more hHeld hb6) (fun hHeld1 => ?_)
            clear hHeld; have hHeld := hHeld1; clear hHeld1 hK K
            try simp only [oPkE14, Act.put, sA, sB, sC]
            refine tkY 11 oPkE15 ?vw109 rfl (by kernel_rfl) (by kernel_rfl) (by kernel_rfl) (fun _ _ _ h => h) (by rfl) ?hz109 (by assumption) ?rs109
            case hz109 => (intro wz hSw; unfold oPkE15; (try clear hSw); go_simp; all_goals with_reducible rfl)
            try simp only [oPkE15, Act.put, sA, sB, sC]
            refine tkY 12 oPkE16 ?vw110 rfl (by kernel_rfl) (by kernel_rfl) (by kernel_rfl) (fun _ _ _ h => h) (by rfl) ?hz110 (by assumption) ?rs110
            case hz110 => (intro wz hSw; unfold oPkE16; (try clear hSw); go_simp; all_goals with_reducible rfl)
            try simp only [oPkE16, Act.put, sA, sB, sC]
            refine wpAnyH_take (i := 13) (oi := oPkE17) (v := undef) rfl (by kernel_rfl) (by kernel_rfl) (by kernel_rfl) (fun _ _ _ h => h) (Or.inr ⟨by rfl, rfl⟩) (by assumption) ?rt111
            try simp only [oPkE17, Act.put, sA, sB, sC]
            refine wpAnyH_take (i := 14) (oi := oPkE18) (v := undef) rfl (by kernel_rfl) (by kernel_rfl) (by kernel_rfl) (fun _ _ _ h => h) (Or.inr ⟨by rfl, rfl⟩) (by assumption) ?rt112
            try simp only [oPkE18, Act.put, sA, sB, sC]
            refine tkY 15 oPkE19 ?vw113 rfl (by kernel_rfl) (by kernel_rfl) (by kernel_rfl) (fun _ _ _ h => h) (by rfl) ?hz113 (by assumption) ?rs113
            case hz113 => (intro wz hSw; unfold oPkE19; (try clear hSw); go_simp; all_goals with_reducible rfl)
            try simp only [oPkE19, Act.put, sA, sB, sC]
            refine wpAnyH_ready (rs := [18]) (by kernel_rfl) (by simp) ?_
            refine (AllReadyH.cons (o := oPkE20) rfl (fun K hK => ?_) AllReadyH.nil)
            unfold oPkE20
            go_simp
            (go_at_call 97; refine (fieldLen_any _ _ (by omega)).mono ?_; rintro e w6 ⟨rfl, rfl⟩)
            refine hK.out _ _ (by first | exact hHeld.more hb6 | exact hHeld | exact ⟨_, hK9⟩ | exact below_more hHeld hb6) (fun hHeld1 => ?_)
            clear hHeld; have hHeld := hHeld1; clear hHeld1 hK K
            try simp only [oPkE20, Act.put, sA, sB, sC]
            refine tkY 19 oPkE21 ?vw114 rfl (by kernel_rfl) (by kernel_rfl) (by kernel_rfl) (fun _ _ _ h => h) (by rfl) ?hz114 (by assumption) ?rs114
            case hz114 => (intro wz hSw; unfold oPkE21; (try clear hSw); go_simp; all_goals with_reducible rfl)
            try simp only [oPkE21, Act.put, sA, sB, sC]
            refine tkY 20 oPkE22 ?vw115 rfl (by kernel_rfl) (by kernel_rfl) (by kernel_rfl) (fun _ _ _ h => h) (by rfl) ?hz115 (by assumption) ?rs115
            case hz115 => (intro wz hSw; unfold oPkE22; (try clear hSw); go_simp; all_goals with_reducible rfl)
            try simp only [oPkE22, Act.put, sA, sB, sC]
            refine wpAnyH_ready (rs := [22]) (by kernel_rfl) (by simp) ?_
            refine AllReadyH.cons (o := oPkE23) rfl (fun K hK => ?_) AllReadyH.nil
            unfold oPkE23
            obtain ⟨r0, b0, q0, A0, n0, c0, hH⟩ := hHeld
            have e1 := hH.row; have e2 := hH.free; have e3 := hH.cell; have e4 := hH.lt; have e5 := hH.froz
            have t1 := hH.tail.row; have t2 := hH.tail.free; have t3 := hH.tail.cell; have t4 := hH.tail.lt; have t5 := hH.tail.froz
            have p1 := hPrev.row; have p2 := hPrev.free; have p3 := hPrev.cell; have p4 := hPrev.lt; have p5 := hPrev.froz
            have q1 := hPrev.tail.row; have q2 := hPrev.tail.free; have q3 := hPrev.tail.cell; have q4 := hPrev.tail.lt; have q5 := hPrev.tail.froz
            have s1 := hH.tail.tail.row; have s2 := hH.tail.tail.free; have s3 := hH.tail.tail.cell; have s4 := hH.tail.tail.lt; have s5 := hH.tail.tail.froz
            go_simp
            refine hK.out _ _ ?_ (fun hHeld1 => ?_)
            · first | exact Kq.set ⟨_, _, _, _, _, _, hH⟩ (by intro x hx; simp at hx; rcases hx with rfl | rfl <;> (simp; omega)) _ _ _ _ _ _ | exact ⟨_, _, _, _, _, _, hPrev.new _ _⟩
            clear hHeld1 hK K
            try simp only [oPkE23, Act.put, sA, sB, sC]
            refine wpAnyH_done (by kernel_rfl) ?_ _
            have hbw := hH.below
            clear e1 e2 e3 e5 t1 t2 t3 t5 s1 s2 s3 s5 p1 p2 p3 p5 q1 q2 q3 q5
            go_wp2_with fail
            go_meet
            case rel =>
              first
              | exact ⟨_, _, _, rfl, hH.set (by intro x hx; simp at hx; rcases hx with rfl | rfl <;> (simp; omega)) _, by omega, by omega, HC.out.symm, rfl⟩
              | exact ⟨_, _, _, rfl, hPrev.new _ _, by omega, by omega, HC.out.symm, rfl⟩
        | true =>
          have HC : Hid (conR p = lgB p) := by show conR p = _; unfold conR; rw [hl4, hv, hw]; rfl
          have HV := Lib.hid hv
          have HW := Lib.hid hw
          clear hv hw
          refine wp_region_held_drew (S := Kp w [(w.heap.size, PkC p A n c, 36), (w.heap.size + 1, TkC false 0 zPk none 0 0, 109)]) (by kernel_rfl) hK0.drew (fun hHeld => ?_)
          obtain ⟨wd, hwd⟩ : ∃ wd : World, wd = wv.drew := ⟨_, rfl⟩
          rw [← hwd] at hHeld ⊢
          clear hwd hK0
          refine tkY 0 oPkE1 ?vw116 rfl (by kernel_rfl) (by kernel_rfl) (by kernel_rfl) (fun _ _ _ h => h) (by rfl) ?hz116 (by assumption) ?rs116
          case hz116 => (intro wz hSw; unfold oPkE1; (try clear hSw); go_simp; all_goals with_reducible rfl)
          try simp only [oPkE1, Act.put, sA, sB, sC]
          refine tkY 1 oPkE2 ?vw117 rfl (by kernel_rfl) (by kernel_rfl) (by kernel_rfl) (fun _ _ _ h => h) (by rfl) ?hz117 (by assumption) ?rs117
          case hz117 => (intro wz hSw; unfold oPkE2; (try have hq1 := hSw.tail.cell); (try have hq2 := hSw.tail.tail.cell); (try have hq3 := hSw.cell); (try have hq4 := hSw.tail.row); (try have hq5 := hSw.tail.tail.row); (try have hq6 := hSw.row); (try have hq7 := hSw.tail.tail.tail.row); (try clear hSw); go_simp; all_goals with_reducible rfl)
          try simp only [oPkE2, Act.put, sA, sB, sC]
          refine tkY 2 oPkE3 ?vw118 rfl (by kernel_rfl) (by kernel_rfl) (by kernel_rfl) (fun _ _ _ h => h) (by rfl) ?hz118 (by assumption) ?rs118
          case hz118 => (intro wz hSw; unfold oPkE3; (try clear hSw); go_simp; all_goals with_reducible rfl)
          try simp only [oPkE3, Act.put, sA, sB, sC]
          refine tkY 3 oPkE4 ?vw119 rfl (by kernel_rfl) (by kernel_rfl) (by kernel_rfl) (fun _ _ _ h => h) (by rfl) ?hz119 (by assumption) ?rs119
          case hz119 => (intro wz hSw; unfold oPkE4; (try clear hSw); go_simp; all_goals with_reducible rfl)
          try simp only [oPkE4, Act.put, sA, sB, sC]
          refine tkY 4 oPkE5 ?vw120 rfl (by kernel_rfl) (by kernel_rfl) (by kernel_rfl) (fun _ _ _ h => h) (by rfl) ?hz120 (by assumption) ?rs120
          case hz120 => (intro wz hSw; unfold oPkE5; (try clear hSw); go_simp; all_goals with_reducible rfl)
          try simp only [oPkE5, Act.put, sA, sB, sC]
          refine tkY 5 oPkE6 ?vw121 rfl (by kernel_rfl) (by kernel_rfl) (by kernel_rfl) (fun _ _ _ h => h) (by rfl) ?hz121 (by assumption) ?rs121
          case hz121 => (intro wz hSw; unfold oPkE6; (try have hq1 := hSw.tail.cell); (try have hq2 := hSw.tail.tail.cell); (try have hq3 := hSw.cell); (try have hq4 := hSw.tail.row); (try have hq5 := hSw.tail.tail.row); (try have hq6 := hSw.row); (try have hq7 := hSw.tail.tail.tail.row); (try clear hSw); go_simp; all_goals with_reducible rfl)
          try simp only [oPkE6, Act.put, sA, sB, sC]
          refine tkY 16 oPkE7 ?vw122 rfl (by kernel_rfl) (by kernel_rfl) (by kernel_rfl) (fun _ _ _ h => h) (by rfl) ?hz122 (by assumption) ?rs122
          case hz122 => (intro wz hSw; unfold oPkE7; (try clear hSw); go_simp; all_goals with_reducible rfl)
          try simp only [oPkE7, Act.put, sA, sB, sC]
          refine tkY 17 oPkE8 ?vw123 rfl (by kernel_rfl) (by kernel_rfl) (by kernel_rfl) (fun _ _ _ h => h) (by rfl) ?hz123 (by assumption) ?rs123
          case hz123 => (intro wz hSw; unfold oPkE8; (try have hq1 := hSw.tail.cell); (try have hq2 := hSw.tail.tail.cell); (try have hq3 := hSw.cell); (try have hq4 := hSw.tail.row); (try have hq5 := hSw.tail.tail.row); (try have hq6 := hSw.row); (try have hq7 := hSw.tail.tail.tail.row); (try clear hSw); go_simp; all_goals with_reducible rfl)
          try simp only [oPkE8, Act.put, sA, sB, sC]
          refine wpAnyH_ready (rs := [6, 21]) (by kernel_rfl) (by simp) ?_
          refine (AllReadyH.cons (o := oPkE10) rfl (fun K hK => ?_) (AllReadyH.cons (o := oPkE9) rfl (fun K hK => ?_) AllReadyH.nil))
          · skip
            unfold oPkE10
            go_simp
            (go_at_call 74; refine (textValid_eq p.client true _ (by omega) HV.out).mono ?_; rintro e w6 ⟨rfl, hb6⟩)
            refine hK.out _ _ (by first | exact hHeld.more hb6 | exact hHeld | exact ⟨_, hK9⟩ | exact below_more hHeld hb6) (fun hHeld1 => ?_)
            clear hHeld; have hHeld := hHeld1; clear hHeld1 hK K
            try simp only [oPkE10, Act.put, sA, sB, sC]
            refine tkY 7 oPkE11 ?vw124 rfl (by kernel_rfl) (by kernel_rfl) (by kernel_rfl) (fun _ _ _ h => h) (by rfl) ?hz124 (by assumption) ?rs124
            case hz124 => (intro wz hSw; unfold oPkE11; (try clear hSw); go_simp; all_goals with_reducible rfl)
            try simp only [oPkE11, Act.put, sA, sB, sC]
            refine tkY 8 oPkE12 ?vw125 rfl (by kernel_rfl) (by kernel_rfl) (by kernel_rfl) (fun _ _ _ h => h) (by rfl) ?hz125 (by assumption) ?rs125
            case hz125 => (intro wz hSw; unfold oPkE12; (try clear hSw); go_simp; all_goals with_reducible rfl)
            try simp only [oPkE12, Act.put, sA, sB, sC]
            refine tkY 9 oPkE13 ?vw126 rfl (by kernel_rfl) (by kernel_rfl) (by kernel_rfl) (fun _ _ _ h => h) (by rfl) ?hz126 (by assumption) ?rs126
            case hz126 => (intro wz hSw; unfold oPkE13; (try have hq1 := hSw.tail.cell); (try have hq2 := hSw.tail.tail.cell); (try have hq3 := hSw.cell); (try have hq4 := hSw.tail.row); (try have hq5 := hSw.tail.tail.row); (try have hq6 := hSw.row); (try have hq7 := hSw.tail.tail.tail.row); (try clear hSw); go_simp; all_goals with_reducible rfl)
            try simp only [oPkE13, Act.put, sA, sB, sC]
            refine wpAnyH_ready (rs := [10, 21]) (by kernel_rfl) (by simp) ?_
            refine (AllReadyH.cons (o := oPkE14) rfl (fun K hK => ?_) (AllReadyH.cons (o := oPkE9) rfl (fun K hK => ?_) AllReadyH.nil))
            · skip
              unfold oPkE14
              go_simp
              (go_at_call 95; refine (rightWill_eq p A n c true _ (by omega) (by omega) HW.out).mono ?_; rintro e w6 ⟨rfl, hb6⟩)
              refine hK.out _ _ (by first | exact hHeld.more hb6 | exact hHeld | exact ⟨_, hK9⟩ | exact below_more hHeld hb6) (fun hHeld1 => ?_)
              clear hHeld; have hHeld := hHeld1; clear hHeld1 hK K
              try simp only [oPkE14, Act.put, sA, sB, sC]
              refine tkY 11 oPkE15 ?vw127 rfl (by kernel_rfl) (by kernel_rfl) (by kernel_rfl) (fun _ _ _ h => h) (by rfl) ?hz127 (by assumption) ?rs127
              case hz127 => (intro wz hSw; unfold oPkE15; (try clear hSw); go_simp; all_goals with_reducible rfl)
              try simp only [oPkE15, Act.put, sA, sB, sC]
              refine tkY 12 oPkE16 ?vw128 rfl (by kernel_rfl) (by kernel_rfl) (by kernel_rfl) (fun _ _ _ h => h) (by rfl) ?hz128 (by assumption) ?rs128
              case hz128 => (intro wz hSw; unfold oPkE16; (try clear hSw); go_simp; all_goals with_reducible rfl)
              try simp only [oPkE16, Act.put, sA, sB, sC]
              refine tkY 13 oPkE17 ?vw129 rfl (by kernel_rfl) (by kernel_rfl) (by kernel_rfl) (fun _ _ _ h => h) (by rfl) ?hz129 (by assumption) ?rs129
              case hz129 => (intro wz hSw; unfold oPkE17; (try have hq1 := hSw.tail.cell); (try have hq2 := hSw.tail.tail.cell); (try have hq3 := hSw.cell); (try have hq4 := hSw.tail.row); (try have hq5 := hSw.tail.tail.row); (try have hq6 := hSw.row); (try have hq7 := hSw.tail.tail.tail.row); (try clear hSw); go_simp; all_goals with_reducible rfl)
              try simp only [oPkE17, Act.put, sA, sB, sC]
              refine wpAnyH_ready (rs := [14, 21]) (by kernel_rfl) (by simp) ?_
              refine (AllReadyH.cons (o := oPkE18) rfl (fun K hK => ?_) (AllReadyH.cons (o := oPkE9) rfl (fun K hK => ?_) AllReadyH.nil))
              · skip
                unfold oPkE18
                go_simp
                (go_at_call 96; refine (rightLogin_any p A n c _ (by omega) (by omega)).mono ?_; rintro e w6 ⟨rfl, hb6⟩)
                refine hK.out _ _ (by first | exact hHeld.more hb6 | exact hHeld | exact ⟨_, hK9⟩ | exact below_more hHeld hb6) (fun hHeld1 => ?_)
                clear hHeld; have hHeld := hHeld1; clear hHeld1 hK K
                try simp only [oPkE18, Act.put, sA, sB, sC]
                refine tkY 15 oPkE19 ?vw130 rfl (by kernel_rfl) (by kernel_rfl) (by kernel_rfl) (fun _ _ _ h => h) (by rfl) ?hz130 (by assumption) ?rs130
                case hz130 => (intro wz hSw; unfold oPkE19; (try clear hSw); go_simp; all_goals with_reducible rfl)
                try simp only [oPkE19, Act.put, sA, sB, sC]
                refine wpAnyH_ready (rs := [18, 21]) (by kernel_rfl) (by simp) ?_
                refine (AllReadyH.cons (o := oPkE20) rfl (fun K hK => ?_) (AllReadyH.cons (o := oPkE9) rfl (fun K hK => ?_) AllReadyH.nil))
                · skip
                  unfold oPkE20
                  go_simp
                  (go_at_call 97; refine (fieldLen_any _ _ (by omega)).mono ?_; rintro e w6 ⟨rfl, rfl⟩)
                  refine hK.out _ _ (by first | exact hHeld.more hb6 | exact hHeld | exact ⟨_, hK9⟩ | exact below_more hHeld hb6) (fun hHeld1 => ?_)
                  clear hHeld; have hHeld := hHeld1; clear hHeld1 hK K
                  try simp only [oPkE20, Act.put, sA, sB, sC]
                  refine tkY 19 oPkE21 ?vw131 rfl (by kernel_rfl) (by kernel_rfl) (by kernel_rfl) (fun _ _ _ h => h) (by rfl) ?hz131 (by assumption) ?rs131
                  case hz131 => (intro wz hSw; unfold oPkE21; (try clear hSw); go_simp; all_goals with_reducible rfl)
                  try simp only [oPkE21, Act.put, sA, sB, sC]
                  refine tkY 20 oPkE22 ?vw132 rfl (by kernel_rfl) (by kernel_rfl) (by kernel_rfl) (fun _ _ _ h => h) (by rfl) ?hz132 (by assumption) ?rs132
                  case hz132 => (intro wz hSw; unfold oPkE22; (try clear hSw); go_simp; all_goals with_reducible rfl)
                  try simp only [oPkE22, Act.put, sA, sB, sC]
                  refine wpAnyH_ready (rs := [21]) (by kernel_rfl) (by simp) ?_
                  refine (AllReadyH.cons (o := oPkE9) rfl (fun K hK => ?_) AllReadyH.nil)
                  have hOld := hHeld
                  unfold oPkE9
                  go_simp
                  refine hK.out _ _ (hOld.new _ _).tail (fun hHeld1 => ?_)
                  refine wpAnyH_more (S2 := Kq _ _ _) (fun _ h => h.tail) ⟨_, _, _, _, _, _, hOld.new _ _⟩ (fun hHeld2 => ?_)
                  have hal0 := hOld.lt; have hal1 := hOld.tail.lt; have hal2 := Nat.ne_of_lt hal0; have hal3 := Nat.ne_of_gt hal0; have hal4 := Nat.ne_of_lt hal1; have hal5 := Nat.ne_of_gt hal1; clear hHeld hHeld1; have hHeld := hHeld2; have hPrev := hOld; clear hHeld2 hK K hOld
                  try simp only [oPkE9, Act.put, sA, sB, sC]
                  refine wpAnyH_ready (rs := [22]) (by kernel_rfl) (by simp) ?_
                  refine AllReadyH.cons (o := oPkE23) rfl (fun K hK => ?_) AllReadyH.nil
                  unfold oPkE23
                  obtain ⟨r0, b0, q0, A0, n0, c0, hH⟩ := hHeld
                  have e1 := hH.row; have e2 := hH.free; have e3 := hH.cell; have e4 := hH.lt; have e5 := hH.froz
                  have t1 := hH.tail.row; have t2 := hH.tail.free; have t3 := hH.tail.cell; have t4 := hH.tail.lt; have t5 := hH.tail.froz
                  have p1 := hPrev.row; have p2 := hPrev.free; have p3 := hPrev.cell; have p4 := hPrev.lt; have p5 := hPrev.froz
                  have q1 := hPrev.tail.row; have q2 := hPrev.tail.free; have q3 := hPrev.tail.cell; have q4 := hPrev.tail.lt; have q5 := hPrev.tail.froz
                  have s1 := hH.tail.tail.row; have s2 := hH.tail.tail.free; have s3 := hH.tail.tail.cell; have s4 := hH.tail.tail.lt; have s5 := hH.tail.tail.froz
                  go_simp
                  refine hK.out _ _ ?_ (fun hHeld1 => ?_)
                  · first | exact Kq.set ⟨_, _, _, _, _, _, hH⟩ (by intro x hx; simp at hx; rcases hx with rfl | rfl <;> (simp; omega)) _ _ _ _ _ _ | exact ⟨_, _, _, _, _, _, hPrev.new _ _⟩
                  clear hHeld1 hK K
                  try simp only [oPkE23, Act.put, sA, sB, sC]
                  refine wpAnyH_done (by kernel_rfl) ?_ _
                  have hbw := hH.below
                  clear e1 e2 e3 e5 t1 t2 t3 t5 s1 s2 s3 s5 p1 p2 p3 p5 q1 q2 q3 q5
                  go_wp2_with fail
                  go_meet
                  case rel =>
                    first
                    | exact ⟨_, _, _, rfl, hH.set (by intro x hx; simp at hx; rcases hx with rfl | rfl <;> (simp; omega)) _, by omega, by omega, HC.out.symm, rfl⟩
                    | exact ⟨_, _, _, rfl, hPrev.new _ _, by omega, by omega, HC.out.symm, rfl⟩
                · skip
                  have hOld := hHeld
                  unfold oPkE9
                  go_simp
                  refine hK.out _ _ (hOld.new _ _).tail (fun hHeld1 => ?_)
                  refine wpAnyH_more (S2 := Kq _ _ _) (fun _ h => h.tail) ⟨_, _, _, _, _, _, hOld.new _ _⟩ (fun hHeld2 => ?_)
                  have hal0 := hOld.lt; have hal1 := hOld.tail.lt; have hal2 := Nat.ne_of_lt hal0; have hal3 := Nat.ne_of_gt hal0; have hal4 := Nat.ne_of_lt hal1; have hal5 := Nat.ne_of_gt hal1; clear hHeld hHeld1; have hHeld := hHeld2; have hPrev := hOld; clear hHeld2 hK K hOld
                  try simp only [oPkE9, Act.put, sA, sB, sC]
                  refine wpAnyH_ready (rs := [18]) (by kernel_rfl) (by simp) ?_
                  refine (AllReadyH.cons (o := oPkE20) rfl (fun K hK => ?_) AllReadyH.nil)
                  unfold oPkE20
                  go_simp
                  (go_at_call 97; refine (fieldLen_any _ _ (by omega)).mono ?_; rintro e w6 ⟨rfl, rfl⟩)
                  refine hK.out _ _ (by first | exact hHeld.more hb6 | exact hHeld | exact ⟨_, hK9⟩ | exact below_more hHeld hb6) (fun hHeld1 => ?_)
                  clear hHeld; have hHeld := hHeld1; clear hHeld1 hK K
                  try simp only [oPkE20, Act.put, sA, sB, sC]
                  refine tkY 19 oPkE21 ?vw133 rfl (by kernel_rfl) (by kernel_rfl) (by kernel_rfl) (fun _ _ _ h => h) (by rfl) ?hz133 (by assumption) ?rs133
                  case hz133 => (intro wz hSw; unfold oPkE21; (try clear hSw); go_simp; all_goals with_reducible rfl)
                  try simp only [oPkE21, Act.put, sA, sB, sC]
                  refine tkY 20 oPkE22 ?vw134 rfl (by kernel_rfl) (by kernel_rfl) (by kernel_rfl) (fun _ _ _ h => h) (by rfl) ?hz134 (by assumption) ?rs134
                  case hz134 => (intro wz hSw; unfold oPkE22; (try clear hSw); go_simp; all_goals with_reducible rfl)
                  try simp only [oPkE22, Act.put, sA, sB, sC]
                  refine wpAnyH_ready (rs := [22]) (by kernel_rfl) (by simp) ?_
                  refine AllReadyH.cons (o := oPkE23) rfl (fun K hK => ?_) AllReadyH.nil
                  unfold oPkE23
                  obtain ⟨r0, b0, q0, A0, n0, c0, hH⟩ := hHeld
                  have e1 := hH.row; have e2 := hH.free; have e3 := hH.cell; have e4 := hH.lt; have e5 := hH.froz
                  have t1 := hH.tail.row; have t2 := hH.tail.free; have t3 := hH.tail.cell; have t4 := hH.tail.lt; have t5 := hH.tail.froz
                  have p1 := hPrev.row; have p2 := hPrev.free; have p3 := hPrev.cell; have p4 := hPrev.lt; have p5 := hPrev.froz
                  have q1 := hPrev.tail.row; have q2 := hPrev.tail.free; have q3 := hPrev.tail.cell; have q4 := hPrev.tail.lt; have q5 := hPrev.tail.froz
                  have s1 := hH.tail.tail.row; have s2 := hH.tail.tail.free; have s3 := hH.tail.tail.cell; have s4 := hH.tail.tail.lt; have s5 := hH.tail.tail.froz
                  go_simp
                  refine hK.out _ _ ?_ (fun hHeld1 => ?_)
                  · first | exact Kq.set ⟨_, _, _, _, _, _, hH⟩ (by intro x hx; simp at hx; rcases hx with rfl | rfl <;> (simp; omega)) _ _ _ _ _ _ | exact ⟨_, _, _, _, _, _, hPrev.new _ _⟩
                  clear hHeld1 hK K
                  try simp only [oPkE23, Act.put, sA, sB, sC]
                  refine wpAnyH_done (by kernel_rfl) ?_ _
                  have hbw := hH.below
                  clear e1 e2 e3 e5 t1 t2 t3 t5 s1 s2 s3 s5 p1 p2 p3 p5 q1 q2 q3 q5
                  go_wp2_with fail
                  go_meet
                  case rel =>
                    first
                    | exact ⟨_, _, _, rfl, hH.set (by intro x hx; simp at hx; rcases hx with rfl | rfl <;> (simp; omega)) _, by omega, by omega, HC.out.symm, rfl⟩
                    | exact ⟨_, _, _, rfl, hPrev.new _ _, by omega, by omega, HC.out.symm, rfl⟩
              · skip
                have hOld := hHeld
                unfold oPkE9
                go_simp
                refine hK.out _ _ (hOld.new _ _).tail (fun hHeld1 => ?_)
                refine wpAnyH_more (S2 := Kq _ _ _) (fun _ h => h.tail) ⟨_, _, _, _, _, _, hOld.new _ _⟩ (fun hHeld2 => ?_)
                have hal0 := hOld.lt; have hal1 := hOld.tail.lt; have hal2 := Nat.ne_of_lt hal0; have hal3 := Nat.ne_of_gt hal0; have hal4 := Nat.ne_of_lt hal1; have hal5 := Nat.ne_of_gt hal1; clear hHeld hHeld1; have hHeld := hHeld2; have hPrev := hOld; clear hHeld2 hK K hOld
                try simp only [oPkE9, Act.put, sA, sB, sC]
                refine wpAnyH_ready (rs := [14]) (by kernel_rfl) (by simp) ?_
                refine (AllReadyH.cons (o := oPkE18) rfl (fun K hK => ?_) AllReadyH.nil)
                unfold oPkE18
                go_simp
                (go_at_call 96; refine (rightLogin_any p A n c _ (by omega) (by omega)).mono ?_; rintro e w6 ⟨rfl, hb6⟩)
                refine hK.out _ _ (by first | exact hHeld.more hb6 | exact hHeld | exact ⟨_, hK9⟩ | exact below_more hHeld hb6) (fun hHeld1 => ?_)
                clear hHeld; have hHeld := hHeld1; clear hHeld1 hK K
                try simp only [oPkE18, Act.put, sA, sB, sC]
                refine tkY 15 oPkE19 ?vw135 rfl (by kernel_rfl) (by kernel_rfl) (by kernel_rfl) (fun _ _ _ h => h) (by rfl) ?hz135 (by assumption) ?rs135
                case hz135 => (intro wz hSw; unfold oPkE19; (try clear hSw); go_simp; all_goals with_reducible rfl)
                try simp only [oPkE19, Act.put, sA, sB, sC]
                refine wpAnyH_ready (rs := [18]) (by kernel_rfl) (by simp) ?_
                refine (AllReadyH.cons (o := oPkE20) rfl (fun K hK => ?_) AllReadyH.nil)
                unfold oPkE20
                go_simp
                (go_at_call 97; refine (fieldLen_any _ _ (by omega)).mono ?_; rintro e w6 ⟨rfl, rfl⟩)
                refine hK.out _ _ (by first | exact hHeld.more hb6 | exact hHeld | exact ⟨_, hK9⟩ | exact below_more hHeld hb6) (fun hHeld1 => ?_)
                clear hHeld; have hHeld := hHeld1; clear hHeld1 hK K
                try simp only [oPkE20, Act.put, sA, sB, sC]
                refine tkY 19 oPkE21 ?vw136 rfl (by kernel_rfl) (by kernel_rfl) (by kernel_rfl) (fun _ _ _ h => h) (by rfl) ?hz136 (by assumption) ?rs136
                case hz136 => (intro wz hSw; unfold oPkE21; (try clear hSw); go_simp; all_goals with_reducible rfl)
                try simp only [oPkE21, Act.put, sA, sB, sC]
                refine tkY 20 oPkE22 ?vw137 rfl (by kernel_rfl) (by kernel_rfl) (by kernel_rfl) (fun _ _ _ h => h) (by rfl) ?hz137 (by assumption) ?rs137
                case hz137 => (intro wz hSw; unfold oPkE22; (try clear hSw); go_simp; all_goals with_reducible rfl)
                try simp only [oPkE22, Act.put, sA, sB, sC]
                refine wpAnyH_ready (rs := [22]) (by kernel_rfl) (by simp) ?_
                refine AllReadyH.cons (o := oPkE23) rfl (fun K hK => ?_) AllReadyH.nil
                unfold oPkE23
                obtain ⟨r0, b0, q0, A0, n0, c0, hH⟩ := hHeld
                have e1 := hH.row; have e2 := hH.free; have e3 := hH.cell; have e4 := hH.lt; have e5 := hH.froz
                have t1 := hH.tail.row; have t2 := hH.tail.free; have t3 := hH.tail.cell; have t4 := hH.tail.lt; have t5 := hH.tail.froz
                have p1 := hPrev.row; have p2 := hPrev.free; have p3 := hPrev.cell; have p4 := hPrev.lt; have p5 := hPrev.froz
                have q1 := hPrev.tail.row; have q2 := hPrev.tail.free; have q3 := hPrev.tail.cell; have q4 := hPrev.tail.lt; have q5 := hPrev.tail.froz
                have s1 := hH.tail.tail.row; have s2 := hH.tail.tail.free; have s3 := hH.tail.tail.cell; have s4 := hH.tail.tail.lt; have s5 := hH.tail.tail.froz
                go_simp
                refine hK.out _ _ ?_ (fun hHeld1 => ?_)
                · first | exact Kq.set ⟨_, _, _, _, _, _, hH⟩ (by intro x hx; simp at hx; rcases hx with rfl | rfl <;> (simp; omega)) _ _ _ _ _ _ | exact ⟨_, _, _, _, _, _, hPrev.new _ _⟩
                clear hHeld1 hK K
                try simp only [oPkE23, Act.put, sA, sB, sC]
                refine wpAnyH_done (by kernel_rfl) ?_ _
                have hbw := hH.below
                clear e1 e2 e3 e5 t1 t2 t3 t5 s1 s2 s3 s5 p1 p2 p3 p5 q1 q2 q3 q5
                go_wp2_with fail
                go_meet
                case rel =>
                  first
                  | exact ⟨_, _, _, rfl, hH.set (by intro x hx; simp at hx; rcases hx with rfl | rfl <;> (simp; omega)) _, by omega, by omega, HC.out.symm, rfl⟩
                  | exact ⟨_, _, _, rfl, hPrev.new _ _, by omega, by omega, HC.out.symm, rfl⟩
            · skip
              have hOld := hHeld
              unfold oPkE9
              go_simp
              refine hK.out _ _ (hOld.new _ _).tail (fun hHeld1 => ?_)
              refine wpAnyH_more (S2 := Kq _ _ _) (fun _ h => h.tail) ⟨_, _, _, _, _, _, hOld.new _ _⟩ (fun hHeld2 => ?_)
              have hal0 := hOld.lt; have hal1 := hOld.tail.lt; have hal2 := Nat.ne_of_lt hal0; have hal3 := Nat.ne_of_gt hal0; have hal4 := Nat.ne_of_lt hal1; have hal5 := Nat.ne_of_gt hal1; clear hHeld hHeld1; have hHeld := hHeld2; have hPrev := hOld; clear hHeld2 hK K hOld
              try simp only [oPkE9, Act.put, sA, sB, sC]
              refine wpAnyH_ready (rs := [10]) (by kernel_rfl) (by simp) ?_
              refine (AllReadyH.cons (o := oPkE14) rfl (fun K hK => ?_) AllReadyH.nil)
              unfold oPkE14
              go_simp
              (go_at_call 95; refine (rightWill_eq p A n c true _ (by omega) (by omega) HW.out).mono ?_; rintro e w6 ⟨rfl, hb6⟩)
              refine hK.out _ _ (by first | exact hHeld.more hb6 | exact hHeld | exact ⟨_, hK9⟩ | exact below_more hHeld hb6) (fun hHeld1 => ?_)
              clear hHeld; have hHeld := hHeld1; clear hHeld1 hK K
              try simp only [oPkE14, Act.put, sA, sB, sC]
              refine tkY 11 oPkE15 ?vw138 rfl (by kernel_rfl) (by kernel_rfl) (by kernel_rfl) (fun _ _ _ h => h) (by rfl) ?hz138 (by assumption) ?rs138
              case hz138 => (intro wz hSw; unfold oPkE15; (try clear hSw); go_simp; all_goals with_reducible rfl)
              try simp only [oPkE15, Act.put, sA, sB, sC]
              refine tkY 12 oPkE16 ?vw139 rfl (by kernel_rfl) (by kernel_rfl) (by kernel_rfl) (fun _ _ _ h => h) (by rfl) ?hz139 (by assumption) ?rs139
              case hz139 => (intro wz hSw; unfold oPkE16; (try clear hSw); go_simp; all_goals with_reducible rfl)
              try simp only [oPkE16, Act.put, sA, sB, sC]
              refine tkY 13 oPkE17 ?vw140 rfl (by kernel_rfl) (by kernel_rfl) (by kernel_rfl) (fun _ _ _ h => h) (by rfl) ?hz140 (by assumption) ?rs140
              case hz140 => (intro wz hSw; unfold oPkE17; (try have hq1 := hSw.tail.cell); (try have hq2 := hSw.tail.tail.cell); (try have hq3 := hSw.cell); (try have hq4 := hSw.tail.row); (try have hq5 := hSw.tail.tail.row); (try have hq6 := hSw.row); (try have hq7 := hSw.tail.tail.tail.row); (try clear hSw); go_simp; all_goals with_reducible rfl)
              try simp only [oPkE17, Act.put, sA, sB, sC]
              refine wpAnyH_ready (rs := [14]) (by kernel_rfl) (by simp) ?_
              refine (AllReadyH.cons (o := oPkE18) rfl (fun K hK => ?_) AllReadyH.nil)
              unfold oPkE18
              go_simp
              (go_at_call 96; refine (rightLogin_any p A n c _ (by omega) (by omega)).mono ?_; rintro e w6 ⟨rfl, hb6⟩)
              refine hK.out _ _ (by first | exact hHeld.more hb6 | exact hHeld | exact ⟨_, hK9⟩ | exact below_more hHeld hb6) (fun hHeld1 => ?_)
              clear hHeld; have hHeld := hHeld1; clear hHeld1 hK K
              try simp only [oPkE18, Act.put, sA, sB, sC]
              refine tkY 15 oPkE19 ?vw141 rfl (by kernel_rfl) (by kernel_rfl) (by kernel_rfl) (fun _ _ _ h => h) (by rfl) ?hz141 (by assumption) ?rs141
              case hz141 => (intro wz hSw; unfold oPkE19; (try clear hSw); go_simp; all_goals with_reducible rfl)
              try simp only [oPkE19, Act.put, sA, sB, sC]
              refine wpAnyH_ready (rs := [18]) (by kernel_rfl) (by simp) ?_
              refine (AllReadyH.cons (o := oPkE20) rfl (fun K hK => ?_) AllReadyH.nil)
              unfold oPkE20
              go_simp
              (go_at_call 97; refine (fieldLen_any _ _ (by omega)).mono ?_; rintro e w6 ⟨rfl, rfl⟩)
              refine hK.out _ _ (by first | exact hHeld.more hb6 | exact hHeld | exact ⟨_, hK9⟩ | exact below_more hHeld hb6) (fun hHeld1 => ?_)
              clear hHeld; have hHeld := hHeld1; clear hHeld1 hK K
              try simp only [oPkE20, Act.put, sA, sB, sC]
              refine tkY 19 oPkE21 ?vw142 rfl (by kernel_rfl) (by kernel_rfl) (by kernel_rfl) (fun _ _ _ h => h) (by rfl) ?hz142 (by assumption) ?rs142
              case hz142 => (intro wz hSw; unfold oPkE21; (try clear hSw); go_simp; all_goals with_reducible rfl)
              try simp only [oPkE21, Act.put, sA, sB, sC]
              refine tkY 20 oPkE22 ?vw143 rfl (by kernel_rfl) (by kernel_rfl) (by kernel_rfl) (fun _ _ _ h => h) (by rfl) ?hz143 (by assumption) ?rs143
              case hz143 => (intro wz hSw; unfold oPkE22; (try clear hSw); go_simp; all_goals with_reducible rfl)
              try simp only [oPkE22, Act.put, sA, sB, sC]
              refine wpAnyH_ready (rs := [22]) (by kernel_rfl) (by simp) ?_
              refine AllReadyH.cons (o := oPkE23) rfl (fun K hK => ?_) AllReadyH.nil
              unfold oPkE23
              obtain ⟨r0, b0, q0, A0, n0, c0, hH⟩ := hHeld
              have e1 := hH.row; have e2 := hH.free; have e3 := hH.cell; have e4 := hH.lt; have e5 := hH.froz
              have t1 := hH.tail.row; have t2 := hH.tail.free; have t3 := hH.tail.cell; have t4 := hH.tail.lt; have t5 := hH.tail.froz
              have p1 := hPrev.row; have p2 := hPrev.free; have p3 := hPrev.cell; have p4 := hPrev.lt; have p5 := hPrev.froz
              have q1 := hPrev.tail.row; have q2 := hPrev.tail.free; have q3 := hPrev.tail.cell; have q4 := hPrev.tail.lt; have q5 := hPrev.tail.froz
              have s1 := hH.tail.tail.row; have s2 := hH.tail.tail.free; have s3 := hH.tail.tail.cell; have s4 := hH.tail.tail.lt; have s5 := hH.tail.tail.froz
              go_simp
              refine hK.out _ _ ?_ (fun hHeld1 => ?_)
              · first | exact Kq.set ⟨_, _, _, _, _, _, hH⟩ (by intro x hx; simp at hx; rcases hx with rfl | rfl <;> (simp; omega)) _ _ _ _ _ _ | exact ⟨_, _, _, _, _, _, hPrev.new _ _⟩
              clear hHeld1 hK K
              try simp only [oPkE23, Act.put, sA, sB, sC]
              refine wpAnyH_done (by kernel_rfl) ?_ _
              have hbw := hH.below
              clear e1 e2 e3 e5 t1 t2 t3 t5 s1 s2 s3 s5 p1 p2 p3 p5 q1 q2 q3 q5
              go_wp2_with fail
              go_meet
              case rel =>
                first
                | exact ⟨_, _, _, rfl, hH.set (by intro x hx; simp at hx; rcases hx with rfl | rfl <;> (simp; omega)) _, by omega, by omega, HC.out.symm, rfl⟩
                | exact ⟨_, _, _, rfl, hPrev.new _ _, by omega, by omega, HC.out.symm, rfl⟩
          · skip
            have hOld := hHeld
            unfold oPkE9
            go_simp
            refine hK.out _ _ (hOld.new _ _).tail (fun hHeld1 => ?_)
            refine wpAnyH_more (S2 := Kq _ _ _) (fun _ h => h.tail) ⟨_, _, _, _, _, _, hOld.new _ _⟩ (fun hHeld2 => ?_)
            have hal0 := hOld.lt; have hal1 := hOld.tail.lt; have hal2 := Nat.ne_of_lt hal0; have hal3 := Nat.ne_of_gt hal0; have hal4 := Nat.ne_of_lt hal1; have hal5 := Nat.ne_of_gt hal1; clear hHeld hHeld1; have hHeld := hHeld2; have hPrev := hOld; clear hHeld2 hK K hOld
            try simp only [oPkE9, Act.put, sA, sB, sC]
            refine wpAnyH_ready (rs := [6]) (by kernel_rfl) (by simp) ?_
            refine (AllReadyH.cons (o := oPkE10) rfl (fun K hK => ?_) AllReadyH.nil)
            unfold oPkE10
            go_simp
            (go_at_call 74; refine (textValid_eq p.client true _ (by omega) HV.out).mono ?_; rintro e w6 ⟨rfl, hb6⟩)
            refine hK.out _ _ (by first | exact hHeld.more hb6 | exact hHeld | exact ⟨_, hK9⟩ | exact below_more hHeld hb6) (fun hHeld1 => ?_)
            clear hHeld; have hHeld := hHeld1; clear hHeld1 hK K
            try simp only [oPkE10, Act.put, sA, sB, sC]
            refine tkY 7 oPkE11 ?vw144 rfl (by kernel_rfl) (by kernel_rfl) (by kernel_rfl) (fun _ _ _ h => h) (by rfl) ?hz144 (by assumption) ?rs144
            case hz144 => (intro wz hSw; unfold oPkE11; (try clear hSw); go_simp; all_goals with_reducible rfl)
            try simp only [oPkE11, Act.put, sA, sB, sC]
            refine tkY 8 oPkE12 ?vw145 rfl (by kernel_rfl) (by kernel_rfl) (by kernel_rfl) (fun _ _ _ h => h) (by rfl) ?hz145 (by assumption) ?rs145
            case hz145 => (intro wz hSw; unfold oPkE12; (try clear hSw); go_simp; all_goals with_reducible rfl)
            try simp only [oPkE12, Act.put, sA, sB, sC]
            refine tkY 9 oPkE13 ?vw146 rfl (by kernel_rfl) (by kernel_rfl) (by kernel_rfl) (fun _ _ _ h => h) (by rfl) ?hz146 (by assumption) ?rs146
            case hz146 => (intro wz hSw; unfold oPkE13; (try have hq1 := hSw.tail.cell); (try have hq2 := hSw.tail.tail.cell); (try have hq3 := hSw.cell); (try have hq4 := hSw.tail.row); (try have hq5 := hSw.tail.tail.row); (try have hq6 := hSw.row); (try have hq7 := hSw.tail.tail.tail.row); (try clear hSw); go_simp; all_goals with_reducible rfl)
            try simp only [oPkE13, Act.put, sA, sB, sC]
            refine wpAnyH_ready (rs := [10]) (by kernel_rfl) (by simp) ?_
            refine (AllReadyH.cons (o := oPkE14) rfl (fun K hK => ?_) AllReadyH.nil)
            unfold oPkE14
            go_simp
            (go_at_call 95; refine (rightWill_eq p A n c true _ (by omega) (by omega) HW.out).mono ?_; rintro e w6 ⟨rfl, hb6⟩)
            refine hK.out _ _ (by first | exact hHeld.more hb6 | exact hHeld | exact ⟨_, hK9⟩ | exact below_more hHeld hb6) (fun hHeld1 => ?_)
            clear hHeld; have hHeld := hHeld1; clear hHeld1 hK K
            try simp only [oPkE14, Act.put, sA, sB, sC]
            refine tkY 11 oPkE15 ?vw147 rfl (by kernel_rfl) (by kernel_rfl) (by kernel_rfl) (fun _ _ _ h => h) (by rfl) ?hz147 (by assumption) ?rs147
            case hz147 => (intro wz hSw; unfold oPkE15; (try clear hSw); go_simp; all_goals with_reducible rfl)
            try simp only [oPkE15, Act.put, sA, sB, sC]
            refine tkY 12 oPkE16 ?vw148 rfl (by kernel_rfl) (by kernel_rfl) (by kernel_rfl) (fun _ _ _ h => h) (by rfl) ?hz148 (by assumption) ?rs148
            case hz148 => (intro wz hSw; unfold oPkE16; (try clear hSw); go_simp; all_goals with_reducible rfl)
            try simp only [oPkE16, Act.put, sA, sB, sC]
            refine tkY 13 oPkE17 ?vw149 rfl (by kernel_rfl) (by kernel_rfl) (by kernel_rfl) (fun _ _ _ h => h) (by rfl) ?hz149 (by assumption) ?rs149
            case hz149 => (intro wz hSw; unfold oPkE17; (try have hq1 := hSw.tail.cell); (try have hq2 := hSw.tail.tail.cell); (try have hq3 := hSw.cell); (try have hq4 := hSw.tail.row); (try have hq5 := hSw.tail.tail.row); (try have hq6 := hSw.row); (try have hq7 := hSw.tail.tail.tail.row); (try clear hSw); go_simp; all_goals with_reducible rfl)
            try simp only [oPkE17, Act.put, sA, sB, sC]
            refine wpAnyH_ready (rs := [14]) (by kernel_rfl) (by simp) ?_
            refine (AllReadyH.cons (o := oPkE18) rfl (fun K hK => ?_) AllReadyH.nil)
            unfold oPkE18
            go_simp
            (go_at_call 96; refine (rightLogin_any p A n c _ (by omega) (by omega)).mono ?_; rintro e w6 ⟨rfl, hb6⟩)
            refine hK.out _ _ (by first | exact hHeld.more hb6 | exact hHeld | exact ⟨_, hK9⟩ | exact below_more hHeld hb6) (fun hHeld1 => ?_)
            clear hHeld; have hHeld := hHeld1; clear hHeld1 hK K
            try simp only [oPkE18, Act.put, sA, sB, sC]
            refine tkY 15 oPkE19 ?vw150 rfl (by kernel_rfl) (by kernel_rfl) (by kernel_rfl) (fun _ _ _ h => h) (by rfl) ?hz150 (by assumption) ?rs150
            case hz150 => (intro wz hSw; unfold oPkE19; (try clear hSw); go_simp; all_goals with_reducible rfl)
            try simp only [oPkE19, Act.put, sA, sB, sC]
            refine wpAnyH_ready (rs := [18]) (by kernel_rfl) (by simp) ?_
            refine (AllReadyH.cons (o := oPkE20) rfl (fun K hK => ?_) AllReadyH.nil)
            unfold oPkE20
            go_simp
            (go_at_call 97; refine (fieldLen_any _ _ (by omega)).mono ?_; rintro e w6 ⟨rfl, rfl⟩)
            refine hK.out _ _ (by first | exact hHeld.more hb6 | exact hHeld | exact ⟨_, hK9⟩ | exact below_more hHeld hb6) (fun hHeld1 => ?_)
            clear hHeld; have hHeld := hHeld1; clear hHeld1 hK K
            try simp only [oPkE20, Act.put, sA, sB, sC]
            refine tkY 19 oPkE21 ?vw151 rfl (by kernel_rfl) (by kernel_rfl) (by kernel_rfl) (fun _ _ _ h => h) (by rfl) ?hz151 (by assumption) ?rs151
            case hz151 => (intro wz hSw; unfold oPkE21; (try clear hSw); go_simp; all_goals with_reducible rfl)
            try simp only [oPkE21, Act.put, sA, sB, sC]
            refine tkY 20 oPkE22 ?vw152 rfl (by kernel_rfl) (by kernel_rfl) (by kernel_rfl) (fun _ _ _ h => h) (by rfl) ?hz152 (by assumption) ?rs152
            case hz152 => (intro wz hSw; unfold oPkE22; (try clear hSw); go_simp; all_goals with_reducible rfl)
            try simp only [oPkE22, Act.put, sA, sB, sC]
            refine wpAnyH_ready (rs := [22]) (by kernel_rfl) (by simp) ?_
            refine AllReadyH.cons (o := oPkE23) rfl (fun K hK => ?_) AllReadyH.nil
            unfold oPkE23
            obtain ⟨r0, b0, q0, A0, n0, c0, hH⟩ := hHeld
            have e1 := hH.row; have e2 := hH.free; have e3 := hH.cell; have e4 := hH.lt; have e5 := hH.froz
            have t1 := hH.tail.row; have t2 := hH.tail.free; have t3 := hH.tail.cell; have t4 := hH.tail.lt; have t5 := hH.tail.froz
            have p1 := hPrev.row; have p2 := hPrev.free; have p3 := hPrev.cell; have p4 := hPrev.lt; have p5 := hPrev.froz
            have q1 := hPrev.tail.row; have q2 := hPrev.tail.free; have q3 := hPrev.tail.cell; have q4 := hPrev.tail.lt; have q5 := hPrev.tail.froz
            have s1 := hH.tail.tail.row; have s2 := hH.tail.tail.free; have s3 := hH.tail.tail.cell; have s4 := hH.tail.tail.lt; have s5 := hH.tail.tail.froz
            go_simp
            refine hK.out _ _ ?_ (fun hHeld1 => ?_)
            · first | exact Kq.set ⟨_, _, _, _, _, _, hH⟩ (by intro x hx; simp at hx; rcases hx with rfl | rfl <;> (simp; omega)) _ _ _ _ _ _ | exact ⟨_, _, _, _, _, _, hPrev.new _ _⟩
            clear hHeld1 hK K
            try simp only [oPkE23, Act.put, sA, sB, sC]
            refine wpAnyH_done (by kernel_rfl) ?_ _
            have hbw := hH.below
            clear e1 e2 e3 e5 t1 t2 t3 t5 s1 s2 s3 s5 p1 p2 p3 p5 q1 q2 q3 q5
            go_wp2_with fail
            go_meet
            case rel =>
              first
              | exact ⟨_, _, _, rfl, hH.set (by intro x hx; simp at hx; rcases hx with rfl | rfl <;> (simp; omega)) _, by omega, by omega, HC.out.symm, rfl⟩
              | exact ⟨_, _, _, rfl, hPrev.new _ _, by omega, by omega, HC.out.symm, rfl⟩
    · have hl4 : (p.level == 4) = false := by simpa using hlv
      have HC : Hid (conR p = false) := by show conR p = _; unfold conR; rw [hl4]; rfl
      refine wp_region_held_drew (S := Kp w [(w.heap.size, PkC p A n c, 36), (w.heap.size + 1, TkC false 0 zPk none 0 0, 109)]) (by kernel_rfl) hK0.drew (fun hHeld => ?_)
      obtain ⟨wd, hwd⟩ : ∃ wd : World, wd = wv.drew := ⟨_, rfl⟩
      rw [← hwd] at hHeld ⊢
      clear hwd hK0
      refine tkY 0 oPkE1 ?vw153 rfl (by kernel_rfl) (by kernel_rfl) (by kernel_rfl) (fun _ _ _ h => h) (by rfl) ?hz153 (by assumption) ?rs153
      case hz153 => (intro wz hSw; unfold oPkE1; (try clear hSw); go_simp; all_goals with_reducible rfl)
      try simp only [oPkE1, Act.put, sA, sB, sC]
      refine tkY 1 oPkE2 ?vw154 rfl (by kernel_rfl) (by kernel_rfl) (by kernel_rfl) (fun _ _ _ h => h) (by rfl) ?hz154 (by assumption) ?rs154
      case hz154 => (intro wz hSw; unfold oPkE2; (try have hq1 := hSw.tail.cell); (try have hq2 := hSw.tail.tail.cell); (try have hq3 := hSw.cell); (try have hq4 := hSw.tail.row); (try have hq5 := hSw.tail.tail.row); (try have hq6 := hSw.row); (try have hq7 := hSw.tail.tail.tail.row); (try clear hSw); go_simp; all_goals with_reducible rfl)
      try simp only [oPkE2, Act.put, sA, sB, sC]
      refine tkY 2 oPkE3 ?vw155 rfl (by kernel_rfl) (by kernel_rfl) (by kernel_rfl) (fun _ _ _ h => h) (by rfl) ?hz155 (by assumption) ?rs155
      case hz155 => (intro wz hSw; unfold oPkE3; (try clear hSw); go_simp; all_goals with_reducible rfl)
      try simp only [oPkE3, Act.put, sA, sB, sC]
      refine tkY 3 oPkE4 ?vw156 rfl (by kernel_rfl) (by kernel_rfl) (by kernel_rfl) (fun _ _ _ h => h) (by rfl) ?hz156 (by assumption) ?rs156
      case hz156 => (intro wz hSw; unfold oPkE4; (try clear hSw); go_simp; all_goals with_reducible rfl)
      try simp only [oPkE4, Act.put, sA, sB, sC]
      refine wpAnyH_take (i := 4) (oi := oPkE5) (v := undef) rfl (by kernel_rfl) (by kernel_rfl) (by kernel_rfl) (fun _ _ _ h => h) (Or.inr ⟨by rfl, rfl⟩) (by assumption) ?rt157
      try simp only [oPkE5, Act.put, sA, sB, sC]
      refine wpAnyH_take (i := 5) (oi := oPkE6) (v := undef) rfl (by kernel_rfl) (by kernel_rfl) (by kernel_rfl) (fun _ _ _ h => h) (Or.inr ⟨by rfl, rfl⟩) (by assumption) ?rt158
      try simp only [oPkE6, Act.put, sA, sB, sC]
      refine wpAnyH_take (i := 6) (oi := oPkE10) (v := undef) rfl (by kernel_rfl) (by kernel_rfl) (by kernel_rfl) (fun _ _ _ h => h) (Or.inr ⟨by rfl, rfl⟩) (by assumption) ?rt159
      try simp only [oPkE10, Act.put, sA, sB, sC]
      refine tkY 7 oPkE11 ?vw160 rfl (by kernel_rfl) (by kernel_rfl) (by kernel_rfl) (fun _ _ _ h => h) (by rfl) ?hz160 (by assumption) ?rs160
      case hz160 => (intro wz hSw; unfold oPkE11; (try clear hSw); go_simp; all_goals with_reducible rfl)
      try simp only [oPkE11, Act.put, sA, sB, sC]
      refine tkY 8 oPkE12 ?vw161 rfl (by kernel_rfl) (by kernel_rfl) (by kernel_rfl) (fun _ _ _ h => h) (by rfl) ?hz161 (by assumption) ?rs161
      case hz161 => (intro wz hSw; unfold oPkE12; (try clear hSw); go_simp; all_goals with_reducible rfl)
      try simp only [oPkE12, Act.put, sA, sB, sC]
      refine wpAnyH_take (i := 9) (oi := oPkE13) (v := undef) rfl (by kernel_rfl) (by kernel_rfl) (by kernel_rfl) (fun _ _ _ h => h) (Or.inr ⟨by rfl, rfl⟩) (by assumption) ?rt162
      try simp only [oPkE13, Act.put, sA, sB, sC]
      refine wpAnyH_take (i := 10) (oi := oPkE14) (v := undef) rfl (by kernel_rfl) (by kernel_rfl) (by kernel_rfl) (fun _ _ _ h => h) (Or.inr ⟨by rfl, rfl⟩) (by assumption) ?rt163
      try simp only [oPkE14, Act.put, sA, sB, sC]
      refine tkY 11 oPkE15 ?vw164 rfl (by kernel_rfl) (by kernel_rfl) (by kernel_rfl) (fun _ _ _ h => h) (by rfl) ?hz164 (by assumption) ?rs164
      case hz164 => (intro wz hSw; unfold oPkE15; (try clear hSw); go_simp; all_goals with_reducible rfl)
      try simp only [oPkE15, Act.put, sA, sB, sC]
      refine tkY 12 oPkE16 ?vw165 rfl (by kernel_rfl) (by kernel_rfl) (by kernel_rfl) (fun _ _ _ h => h) (by rfl) ?hz165 (by assumption) ?rs165
      case hz165 => (intro wz hSw; unfold oPkE16; (try clear hSw); go_simp; all_goals with_reducible rfl)
      try simp only [oPkE16, Act.put, sA, sB, sC]
      refine wpAnyH_take (i := 13) (oi := oPkE17) (v := undef) rfl (by kernel_rfl) (by kernel_rfl) (by kernel_rfl) (fun _ _ _ h => h) (Or.inr ⟨by rfl, rfl⟩) (by assumption) ?rt166
      try simp only [oPkE17, Act.put, sA, sB, sC]
      refine wpAnyH_take (i := 14) (oi := oPkE18) (v := undef) rfl (by kernel_rfl) (by kernel_rfl) (by kernel_rfl) (fun _ _ _ h => h) (Or.inr ⟨by rfl, rfl⟩) (by assumption) ?rt167
      try simp only [oPkE18, Act.put, sA, sB, sC]
      refine tkY 15 oPkE19 ?vw168 rfl (by kernel_rfl) (by kernel_rfl) (by kernel_rfl) (fun _ _ _ h => h) (by rfl) ?hz168 (by assumption) ?rs168
      case hz168 => (intro wz hSw; unfold oPkE19; (try clear hSw); go_simp; all_goals with_reducible rfl)
      try simp only [oPkE19, Act.put, sA, sB, sC]
      refine tkY 16 oPkE7 ?vw169 rfl (by kernel_rfl) (by kernel_rfl) (by kernel_rfl) (fun _ _ _ h => h) (by rfl) ?hz169 (by assumption) ?rs169
      case hz169 => (intro wz hSw; unfold oPkE7; (try clear hSw); go_simp; all_goals with_reducible rfl)
      try simp only [oPkE7, Act.put, sA, sB, sC]
      refine tkY 17 oPkE8 ?vw170 rfl (by kernel_rfl) (by kernel_rfl) (by kernel_rfl) (fun _ _ _ h => h) (by rfl) ?hz170 (by assumption) ?rs170
      case hz170 => (intro wz hSw; unfold oPkE8; (try have hq1 := hSw.tail.cell); (try have hq2 := hSw.tail.tail.cell); (try have hq3 := hSw.cell); (try have hq4 := hSw.tail.row); (try have hq5 := hSw.tail.tail.row); (try have hq6 := hSw.row); (try have hq7 := hSw.tail.tail.tail.row); (try clear hSw); go_simp; all_goals with_reducible rfl)
      try simp only [oPkE8, Act.put, sA, sB, sC]
      refine wpAnyH_ready (rs := [18, 21]) (by kernel_rfl) (by simp) ?_
      refine (AllReadyH.cons (o := oPkE20) rfl (fun K hK => ?_) (AllReadyH.cons (o := oPkE9) rfl (fun K hK => ?_) AllReadyH.nil))
      · skip
        unfold oPkE20
        go_simp
        (go_at_call 97; refine (fieldLen_any _ _ (by omega)).mono ?_; rintro e w6 ⟨rfl, rfl⟩)
        refine hK.out _ _ (by first | exact hHeld.more hb6 | exact hHeld | exact ⟨_, hK9⟩ | exact below_more hHeld hb6) (fun hHeld1 => ?_)
        clear hHeld; have hHeld := hHeld1; clear hHeld1 hK K
        try simp only [oPkE20, Act.put, sA, sB, sC]
        refine tkY 19 oPkE21 ?vw171 rfl (by kernel_rfl) (by kernel_rfl) (by kernel_rfl) (fun _ _ _ h => h) (by rfl) ?hz171 (by assumption) ?rs171
        case hz171 => (intro wz hSw; unfold oPkE21; (try clear hSw); go_simp; all_goals with_reducible rfl)
        try simp only [oPkE21, Act.put, sA, sB, sC]
        refine tkY 20 oPkE22 ?vw172 rfl (by kernel_rfl) (by kernel_rfl) (by kernel_rfl) (fun _ _ _ h => h) (by rfl) ?hz172 (by assumption) ?rs172
        case hz172 => (intro wz hSw; unfold oPkE22; (try clear hSw); go_simp; all_goals with_reducible rfl)
        try simp only [oPkE22, Act.put, sA, sB, sC]
        refine wpAnyH_ready (rs := [21]) (by kernel_rfl) (by simp) ?_
        refine (AllReadyH.cons (o := oPkE9) rfl (fun K hK => ?_) AllReadyH.nil)
        have hOld := hHeld
        unfold oPkE9
        go_simp
        refine hK.out _ _ (hOld.new _ _).tail (fun hHeld1 => ?_)
        refine wpAnyH_more (S2 := Kq _ _ _) (fun _ h => h.tail) ⟨_, _, _, _, _, _, hOld.new _ _⟩ (fun hHeld2 => ?_)
        have hal0 := hOld.lt; have hal1 := hOld.tail.lt; have hal2 := Nat.ne_of_lt hal0; have hal3 := Nat.ne_of_gt hal0; have hal4 := Nat.ne_of_lt hal1; have hal5 := Nat.ne_of_gt hal1; clear hHeld hHeld1; have hHeld := hHeld2; have hPrev := hOld; clear hHeld2 hK K hOld
        try simp only [oPkE9, Act.put, sA, sB, sC]
        refine wpAnyH_ready (rs := [22]) (by kernel_rfl) (by simp) ?_
        refine AllReadyH.cons (o := oPkE23) rfl (fun K hK => ?_) AllReadyH.nil
        unfold oPkE23
        obtain ⟨r0, b0, q0, A0, n0, c0, hH⟩ := hHeld
        have e1 := hH.row; have e2 := hH.free; have e3 := hH.cell; have e4 := hH.lt; have e5 := hH.froz
        have t1 := hH.tail.row; have t2 := hH.tail.free; have t3 := hH.tail.cell; have t4 := hH.tail.lt; have t5 := hH.tail.froz
        have p1 := hPrev.row; have p2 := hPrev.free; have p3 := hPrev.cell; have p4 := hPrev.lt; have p5 := hPrev.froz
        have q1 := hPrev.tail.row; have q2 := hPrev.tail.free; have q3 := hPrev.tail.cell; have q4 := hPrev.tail.lt; have q5 := hPrev.tail.froz
        have s1 := hH.tail.tail.row; have s2 := hH.tail.tail.free; have s3 := hH.tail.tail.cell; have s4 := hH.tail.tail.lt; have s5 := hH.tail.tail.froz
        go_simp
        refine hK.out _ _ ?_ (fun hHeld1 => ?_)
        · first | exact Kq.set ⟨_, _, _, _, _, _, hH⟩ (by intro x hx; simp at hx; rcases hx with rfl | rfl <;> (simp; omega)) _ _ _ _ _ _ | exact ⟨_, _, _, _, _, _, hPrev.new _ _⟩
        clear hHeld1 hK K
        try simp only [oPkE23, Act.put, sA, sB, sC]
        refine wpAnyH_done (by kernel_rfl) ?_ _
        have hbw := hH.below
        clear e1 e2 e3 e5 t1 t2 t3 t5 s1 s2 s3 s5 p1 p2 p3 p5 q1 q2 q3 q5
        go_wp2_with fail
        go_meet
        case rel =>
          first
          | exact ⟨_, _, _, rfl, hH.set (by intro x hx; simp at hx; rcases hx with rfl | rfl <;> (simp; omega)) _, by omega, by omega, HC.out.symm, rfl⟩
          | exact ⟨_, _, _, rfl, hPrev.new _ _, by omega, by omega, HC.out.symm, rfl⟩
      · skip
        have hOld := hHeld
        unfold oPkE9
        go_simp
        refine hK.out _ _ (hOld.new _ _).tail (fun hHeld1 => ?_)
        refine wpAnyH_more (S2 := Kq _ _ _) (fun _ h => h.tail) ⟨_, _, _, _, _, _, hOld.new _ _⟩ (fun hHeld2 => ?_)
        have hal0 := hOld.lt; have hal1 := hOld.tail.lt; have hal2 := Nat.ne_of_lt hal0; have hal3 := Nat.ne_of_gt hal0; have hal4 := Nat.ne_of_lt hal1; have hal5 := Nat.ne_of_gt hal1; clear hHeld hHeld1; have hHeld := hHeld2; have hPrev := hOld; clear hHeld2 hK K hOld
        try simp only [oPkE9, Act.put, sA, sB, sC]
        refine wpAnyH_ready (rs := [18]) (by kernel_rfl) (by simp) ?_
        refine (AllReadyH.cons (o := oPkE20) rfl (fun K hK => ?_) AllReadyH.nil)
        unfold oPkE20
        go_simp
        (go_at_call 97; refine (fieldLen_any _ _ (by omega)).mono ?_; rintro e w6 ⟨rfl, rfl⟩)
        refine hK.out _ _ (by first | exact hHeld.more hb6 | exact hHeld | exact ⟨_, hK9⟩ | exact below_more hHeld hb6) (fun hHeld1 => ?_)
        clear hHeld; have hHeld := hHeld1; clear hHeld1 hK K
        try simp only [oPkE20, Act.put, sA, sB, sC]
        refine tkY 19 oPkE21 ?vw173 rfl (by kernel_rfl) (by kernel_rfl) (by kernel_rfl) (fun _ _ _ h => h) (by rfl) ?hz173 (by assumption) ?rs173
        case hz173 => (intro wz hSw; unfold oPkE21; (try clear hSw); go_simp; all_goals with_reducible rfl)
        try simp only [oPkE21, Act.put, sA, sB, sC]
        refine tkY 20 oPkE22 ?vw174 rfl (by kernel_rfl) (by kernel_rfl) (by kernel_rfl) (fun _ _ _ h => h) (by rfl) ?hz174 (by assumption) ?rs174
        case hz174 => (intro wz hSw; unfold oPkE22; (try clear hSw); go_simp; all_goals with_reducible rfl)
        try simp only [oPkE22, Act.put, sA, sB, sC]
        refine wpAnyH_ready (rs := [22]) (by kernel_rfl) (by simp) ?_
        refine AllReadyH.cons (o := oPkE23) rfl (fun K hK => ?_) AllReadyH.nil
        unfold oPkE23
        obtain ⟨r0, b0, q0, A0, n0, c0, hH⟩ := hHeld
        have e1 := hH.row; have e2 := hH.free; have e3 := hH.cell; have e4 := hH.lt; have e5 := hH.froz
        have t1 := hH.tail.row; have t2 := hH.tail.free; have t3 := hH.tail.cell; have t4 := hH.tail.lt; have t5 := hH.tail.froz
        have p1 := hPrev.row; have p2 := hPrev.free; have p3 := hPrev.cell; have p4 := hPrev.lt; have p5 := hPrev.froz
        have q1 := hPrev.tail.row; have q2 := hPrev.tail.free; have q3 := hPrev.tail.cell; have q4 := hPrev.tail.lt; have q5 := hPrev.tail.froz
        have s1 := hH.tail.tail.row; have s2 := hH.tail.tail.free; have s3 := hH.tail.tail.cell; have s4 := hH.tail.tail.lt; have s5 := hH.tail.tail.froz
        go_simp
        refine hK.out _ _ ?_ (fun hHeld1 => ?_)
        · first | exact Kq.set ⟨_, _, _, _, _, _, hH⟩ (by intro x hx; simp at hx; rcases hx with rfl | rfl <;> (simp; omega)) _ _ _ _ _ _ | exact ⟨_, _, _, _, _, _, hPrev.new _ _⟩
        clear hHeld1 hK K
        try simp only [oPkE23, Act.put, sA, sB, sC]
        refine wpAnyH_done (by kernel_rfl) ?_ _
        have hbw := hH.below
        clear e1 e2 e3 e5 t1 t2 t3 t5 s1 s2 s3 s5 p1 p2 p3 p5 q1 q2 q3 q5
        go_wp2_with fail
        go_meet
        case rel =>
          first
          | exact ⟨_, _, _, rfl, hH.set (by intro x hx; simp at hx; rcases hx with rfl | rfl <;> (simp; omega)) _, by omega, by omega, HC.out.symm, rfl⟩
          | exact ⟨_, _, _, rfl, hPrev.new _ _, by omega, by omega, HC.out.symm, rfl⟩
  case rest =>
    clear hK0 hwr
    obtain ⟨h, r, b, rfl, hK, hl0, hl1, HR, HB⟩ := hcut
    have e1r := hK.row; have e1f := hK.free; have e1c := hK.cell; have e1l := hK.lt; have e1z := hK.froz
    have e2r := hK.tail.row; have e2f := hK.tail.free; have e2c := hK.tail.cell; have e2l := hK.tail.lt; have e2z := hK.tail.froz
    have e3r := hK.tail.tail.row; have e3f := hK.tail.tail.free; have e3c := hK.tail.tail.cell; have e3l := hK.tail.tail.lt; have e3z := hK.tail.tail.froz
    have hbk := hK.below
    have n1 : ¬ w.heap.size = h := by omega
    have n2 : ¬ w.heap.size + 1 = h := by omega
    have n3 : ¬ h = w.heap.size := by omega
    have n4 : ¬ h = w.heap.size + 1 := by omega
    cases hW : p.hasWill <;> cases hU : p.hasUser <;> cases hP : p.hasPass
    · go_wp2_with fail
      refine ret_tk 2 _ _ _ _ (conB p) _ (conL p) A n c rfl rfl (by go_simp; rfl) rfl HR.out ?_ rfl ⟨rfl, ?_⟩
      · have hb := HB.out
        unfold conB
        rw [hW, hU, hP]
        simp only [if_true, Bool.false_eq_true, if_false]
        first | omega | (unfold wrap64; omega)
      · repeat (first | exact hbk | refine Below.drew ?_ | refine below_setRow ?_ (by omega) _ | refine Below.alloc ?_ (by simp; omega) _)
    · go_wp2_with fail
      refine wp_region_still_tail 7 (by kernel_rfl) (by kernel_rfl) ?_
      change wpStill _ _ (World.drew _) _ _ _
      simp only [List.take_succ_cons, List.take_zero, List.drop_succ_cons, List.drop_zero]
      repeat still_step
      still_call (fieldLen_still2 _ _ (by omega))
      repeat still_step
      refine wpStill_nil ?_
      change wpList _ _ _ _ _ (World.drew _)
      go_wp2_with fail
      refine ret_tk 2 _ _ _ _ (conB p) _ (conL p) A n c rfl rfl (by go_simp; rfl) rfl HR.out ?_ rfl ⟨rfl, ?_⟩
      · have hb := HB.out
        unfold conB
        rw [hW, hU, hP]
        simp only [if_true, Bool.false_eq_true, if_false]
        first | omega | (unfold wrap64; omega)
      · repeat (first | exact hbk | refine Below.drew ?_ | refine below_setRow ?_ (by omega) _ | refine Below.alloc ?_ (by simp; omega) _)
    · go_wp2_with fail
      refine wp_region_still_tail 7 (by kernel_rfl) (by kernel_rfl) ?_
      change wpStill _ _ (World.drew _) _ _ _
      simp only [List.take_succ_cons, List.take_zero, List.drop_succ_cons, List.drop_zero]
      repeat still_step
      still_call (fieldLen_still2 _ _ (by omega))
      repeat still_step
      refine wpStill_nil ?_
      change wpList _ _ _ _ _ (World.drew _)
      go_wp2_with fail
      refine ret_tk 2 _ _ _ _ (conB p) _ (conL p) A n c rfl rfl (by go_simp; rfl) rfl HR.out ?_ rfl ⟨rfl, ?_⟩
      · have hb := HB.out
        unfold conB
        rw [hW, hU, hP]
        simp only [if_true, Bool.false_eq_true, if_false]
        first | omega | (unfold wrap64; omega)
      · repeat (first | exact hbk | refine Below.drew ?_ | refine below_setRow ?_ (by omega) _ | refine Below.alloc ?_ (by simp; omega) _)
    · go_wp2_with fail
      refine wp_region_still_tail 7 (by kernel_rfl) (by kernel_rfl) ?_
      change wpStill _ _ (World.drew _) _ _ _
      simp only [List.take_succ_cons, List.take_zero, List.drop_succ_cons, List.drop_zero]
      repeat still_step
      still_call (fieldLen_still2 _ _ (by omega))
      repeat still_step
      refine wpStill_nil ?_
      change wpList _ _ _ _ _ (World.drew _)
      go_wp2_with fail
      refine wp_region_still_tail 7 (by kernel_rfl) (by kernel_rfl) ?_
      change wpStill _ _ (World.drew _) _ _ _
      simp only [List.take_succ_cons, List.take_zero, List.drop_succ_cons, List.drop_zero]
      repeat still_step
      still_call (fieldLen_still2 _ _ (by omega))
      repeat still_step
      refine wpStill_nil ?_
      change wpList _ _ _ _ _ (World.drew _)
      go_wp2_with fail
      refine ret_tk 2 _ _ _ _ (conB p) _ (conL p) A n c rfl rfl (by go_simp; rfl) rfl HR.out ?_ rfl ⟨rfl, ?_⟩
      · have hb := HB.out
        unfold conB
        rw [hW, hU, hP]
        simp only [if_true, Bool.false_eq_true, if_false]
        first | omega | (unfold wrap64; omega)
      · repeat (first | exact hbk | refine Below.drew ?_ | refine below_setRow ?_ (by omega) _ | refine Below.alloc ?_ (by simp; omega) _)
    · go_wp2_with fail
      refine wp_region_still_tail 13 (by kernel_rfl) (by kernel_rfl) ?_
      change wpStill _ _ (World.drew _) _ _ _
      simp only [List.take_succ_cons, List.take_zero, List.drop_succ_cons, List.drop_zero]
      repeat still_step
      still_call (fieldLen_still2 _ _ (by omega))
      repeat still_step
      still_call (fieldLen_still2 _ _ (by omega))
      repeat still_step
      refine wpStill_nil ?_
      change wpList _ _ _ _ _ (World.drew _)
      go_wp2_with fail
      refine ret_tk 2 _ _ _ _ (conB p) _ (conL p) A n c rfl rfl (by go_simp; rfl) rfl HR.out ?_ rfl ⟨rfl, ?_⟩
      · have hb := HB.out
        unfold conB
        rw [hW, hU, hP]
        simp only [if_true, Bool.false_eq_true, if_false]
        first | omega | (unfold wrap64; omega)
      · repeat (first | exact hbk | refine Below.drew ?_ | refine below_setRow ?_ (by omega) _ | refine Below.alloc ?_ (by simp; omega) _)
    · go_wp2_with fail
      refine wp_region_still_tail 13 (by kernel_rfl) (by kernel_rfl) ?_
      change wpStill _ _ (World.drew _) _ _ _
      simp only [List.take_succ_cons, List.take_zero, List.drop_succ_cons, List.drop_zero]
      repeat still_step
      still_call (fieldLen_still2 _ _ (by omega))
      repeat still_step
      still_call (fieldLen_still2 _ _ (by omega))
      repeat still_step
      refine wpStill_nil ?_
      change wpList _ _ _ _ _ (World.drew _)
      go_wp2_with fail
      refine wp_region_still_tail 7 (by kernel_rfl) (by kernel_rfl) ?_
      change wpStill _ _ (World.drew _) _ _ _
      simp only [List.take_succ_cons, List.take_zero, List.drop_succ_cons, List.drop_zero]
      repeat still_step
      still_call (fieldLen_still2 _ _ (by omega))
      repeat still_step
      refine wpStill_nil ?_
      change wpList _ _ _ _ _ (World.drew _)
      go_wp2_with fail
      refine ret_tk 2 _ _ _ _ (conB p) _ (conL p) A n c rfl rfl (by go_simp; rfl) rfl HR.out ?_ rfl ⟨rfl, ?_⟩
      · have hb := HB.out
        unfold conB
        rw [hW, hU, hP]
        simp only [if_true, Bool.false_eq_true, if_false]
        first | omega | (unfold wrap64; omega)
      · repeat (first | exact hbk | refine Below.drew ?_ | refine below_setRow ?_ (by omega) _ | refine Below.alloc ?_ (by simp; omega) _)
    · go_wp2_with fail
      refine wp_region_still_tail 13 (by kernel_rfl) (by kernel_rfl) ?_
      change wpStill _ _ (World.drew _) _ _ _
      simp only [List.take_succ_cons, List.take_zero, List.drop_succ_cons, List.drop_zero]
      repeat still_step
      still_call (fieldLen_still2 _ _ (by omega))
      repeat still_step
      still_call (fieldLen_still2 _ _ (by omega))
      repeat still_step
      refine wpStill_nil ?_
      change wpList _ _ _ _ _ (World.drew _)
      go_wp2_with fail
      refine wp_region_still_tail 7 (by kernel_rfl) (by kernel_rfl) ?_
      change wpStill _ _ (World.drew _) _ _ _
      simp only [List.take_succ_cons, List.take_zero, List.drop_succ_cons, List.drop_zero]
      repeat still_step
      still_call (fieldLen_still2 _ _ (by omega))
      repeat still_step
      refine wpStill_nil ?_
      change wpList _ _ _ _ _ (World.drew _)
      go_wp2_with fail
      refine ret_tk 2 _ _ _ _ (conB p) _ (conL p) A n c rfl rfl (by go_simp; rfl) rfl HR.out ?_ rfl ⟨rfl, ?_⟩
      · have hb := HB.out
        unfold conB
        rw [hW, hU, hP]
        simp only [if_true, Bool.false_eq_true, if_false]
        first | omega | (unfold wrap64; omega)
      · repeat (first | exact hbk | refine Below.drew ?_ | refine below_setRow ?_ (by omega) _ | refine Below.alloc ?_ (by simp; omega) _)
    · go_wp2_with fail
      refine wp_region_still_tail 13 (by kernel_rfl) (by kernel_rfl) ?_
      change wpStill _ _ (World.drew _) _ _ _
      simp only [List.take_succ_cons, List.take_zero, List.drop_succ_cons, List.drop_zero]
      repeat still_step
      still_call (fieldLen_still2 _ _ (by omega))
      repeat still_step
      still_call (fieldLen_still2 _ _ (by omega))
      repeat still_step
      refine wpStill_nil ?_
      change wpList _ _ _ _ _ (World.drew _)
      go_wp2_with fail
      refine wp_region_still_tail 7 (by kernel_rfl) (by kernel_rfl) ?_
      change wpStill _ _ (World.drew _) _ _ _
      simp only [List.take_succ_cons, List.take_zero, List.drop_succ_cons, List.drop_zero]
      repeat still_step
      still_call (fieldLen_still2 _ _ (by omega))
      repeat still_step
      refine wpStill_nil ?_
      change wpList _ _ _ _ _ (World.drew _)
      go_wp2_with fail
      refine wp_region_still_tail 7 (by kernel_rfl) (by kernel_rfl) ?_
      change wpStill _ _ (World.drew _) _ _ _
      simp only [List.take_succ_cons, List.take_zero, List.drop_succ_cons, List.drop_zero]
      repeat still_step
      still_call (fieldLen_still2 _ _ (by omega))
      repeat still_step
      refine wpStill_nil ?_
      change wpList _ _ _ _ _ (World.drew _)
      go_wp2_with fail
      refine ret_tk 2 _ _ _ _ (conB p) _ (conL p) A n c rfl rfl (by go_simp; rfl) rfl HR.out ?_ rfl ⟨rfl, ?_⟩
      · have hb := HB.out
        unfold conB
        rw [hW, hU, hP]
        simp only [if_true, Bool.false_eq_true, if_false]
        first | omega | (unfold wrap64; omega)
      · repeat (first | exact hbk | refine Below.drew ?_ | refine below_setRow ?_ (by omega) _ | refine Below.alloc ?_ (by simp; omega) _)
end Go.Proofs.YtnaedcennichlaaGreatDoor
