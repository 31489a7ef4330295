/-
  packet: takePublish.
-/
import Derived.Test.YtnaedcennichlaaGreatDoorPkA
set_option linter.unusedSimpArgs false
set_option linter.unusedVariables false
namespace Go.Proofs.YtnaedcennichlaaGreatDoor
section
open Go.RowKit
def oPkC1 : Oper := ({ dst := some 4, op := Go.Op.fieldAddr 36 (Go.Operand.tmp 1) 5, type := 0, pos := "packet.go:135", after := #[], guard := none } : Oper)
def oPkC2 : Oper := ({ dst := some 5, op := Go.Op.load 9 (Go.Operand.tmp 4), type := 9, pos := "packet.go:135", after := #[{ on := 0, ground := Go.Ground.data }], guard := none } : Oper)
def oPkC3 : Oper := ({ dst := some 12, op := Go.Op.fieldAddr 36 (Go.Operand.tmp 1) 5, type := 0, pos := "packet.go:135", after := #[], guard := none } : Oper)
def oPkC4 : Oper := ({ dst := some 13, op := Go.Op.load 9 (Go.Operand.tmp 12), type := 9, pos := "packet.go:135", after := #[{ on := 8, ground := Go.Ground.data }], guard := none } : Oper)
def oPkC5 : Oper := ({ dst := some 15, op := Go.Op.fieldAddr 36 (Go.Operand.tmp 1) 6, type := 0, pos := "packet.go:135", after := #[], guard := none } : Oper)
def oPkC6 : Oper := ({ dst := some 16, op := Go.Op.load 9 (Go.Operand.tmp 15), type := 9, pos := "packet.go:135", after := #[{ on := 11, ground := Go.Ground.data }], guard := none } : Oper)
def oPkC7 : Oper := ({ dst := some 17, op := Go.Op.call { callee := Go.Callee.builtin Go.Builtin.len, args := #[Go.Operand.tmp 16], argTypes := #[9] }, type := 3, pos := "packet.go:135", after := #[{ on := 12, ground := Go.Ground.data }], guard := none } : Oper)
def oPkC8 : Oper := ({ dst := some 3, op := Go.Op.alloc 109, type := 0, pos := "packet.go:135", after := #[], guard := none } : Oper)
def oPkC9 : Oper := ({ dst := some 6, op := Go.Op.call { callee := Go.Callee.value (Go.Operand.func 98), args := #[Go.Operand.tmp 5], argTypes := #[9] }, type := 4, pos := "packet.go:135", after := #[{ on := 1, ground := Go.Ground.data }], guard := none } : Oper)
def oPkC10 : Oper := ({ dst := some 7, op := Go.Op.move (Go.Operand.tmp 6), type := 4, pos := "packet.go:135", after := #[{ on := 2, ground := Go.Ground.data }, { on := 2, ground := Go.Ground.chain }], guard := none } : Oper)
def oPkC11 : Oper := ({ dst := some 8, op := Go.Op.fieldAddr 36 (Go.Operand.tmp 1) 2, type := 0, pos := "packet.go:135", after := #[{ on := 3, ground := Go.Ground.guard }], guard := some (3, true) } : Oper)
def oPkC12 : Oper := ({ dst := some 9, op := Go.Op.load 5 (Go.Operand.tmp 8), type := 5, pos := "packet.go:135", after := #[{ on := 4, ground := Go.Ground.data }, { on := 3, ground := Go.Ground.guard }], guard := some (3, true) } : Oper)
def oPkC13 : Oper := ({ dst := some 10, op := Go.Op.binOp Go.BinOp.leq 5 (Go.Operand.tmp 9) (Go.Operand.const (Go.Value.int Go.IntKind.u8 2)) 5, type := 4, pos := "packet.go:135", after := #[{ on := 5, ground := Go.Ground.data }, { on := 3, ground := Go.Ground.guard }], guard := some (3, true) } : Oper)
def oPkC14 : Oper := ({ dst := some 11, op := Go.Op.pick (Go.Operand.tmp 7) (Go.Operand.tmp 10) (Go.Operand.const (Go.Value.bool false)), type := 4, pos := "packet.go:135", after := #[{ on := 3, ground := Go.Ground.data }, { on := 6, ground := Go.Ground.data }], guard := none } : Oper)
def oPkC15 : Oper := ({ dst := some 14, op := Go.Op.call { callee := Go.Callee.value (Go.Operand.func 97), args := #[Go.Operand.tmp 13], argTypes := #[9] }, type := 3, pos := "packet.go:135", after := #[{ on := 9, ground := Go.Ground.data }, { on := 3, ground := Go.Ground.chain }], guard := none } : Oper)
def oPkC16 : Oper := ({ dst := some 18, op := Go.Op.binOp Go.BinOp.add 3 (Go.Operand.tmp 14) (Go.Operand.tmp 17) 3, type := 3, pos := "packet.go:135", after := #[{ on := 10, ground := Go.Ground.data }, { on := 13, ground := Go.Ground.data }], guard := none } : Oper)
def oPkC17 : Oper := ({ dst := some 19, op := Go.Op.build 109 #[(0, Go.Operand.tmp 11), (1, Go.Operand.tmp 18)], type := 109, pos := "packet.go:135", after := #[{ on := 7, ground := Go.Ground.data }, { on := 14, ground := Go.Ground.data }], guard := none } : Oper)
def oPkC18 : Oper := ({ dst := none, op := Go.Op.store 109 (Go.Operand.tmp 3) (Go.Operand.tmp 19), type := 0, pos := "packet.go:135", after := #[{ on := 16, ground := Go.Ground.data }, { on := 15, ground := Go.Ground.data }, { on := 10, ground := Go.Ground.chain }, { on := 0, ground := Go.Ground.phase }, { on := 1, ground := Go.Ground.phase }, { on := 2, ground := Go.Ground.phase }, { on := 3, ground := Go.Ground.phase }, { on := 4, ground := Go.Ground.phase }, { on := 5, ground := Go.Ground.phase }, { on := 6, ground := Go.Ground.phase }, { on := 7, ground := Go.Ground.phase }, { on := 8, ground := Go.Ground.phase }, { on := 9, ground := Go.Ground.phase }, { on := 10, ground := Go.Ground.phase }, { on := 11, ground := Go.Ground.phase }, { on := 12, ground := Go.Ground.phase }, { on := 13, ground := Go.Ground.phase }, { on := 14, ground := Go.Ground.phase }, { on := 15, ground := Go.Ground.phase }, { on := 16, ground := Go.Ground.phase }], guard := none } : Oper)
end
open Go.RowKit
set_option maxRecDepth 100000
set_option maxHeartbeats 2000000 in
theorem takePublish_any (p : Pk) (A : Option Addr) (n c : Nat) (w : World) (ht : p.topic.length ≤ 100000) (hl : p.load.length ≤ 100000) :
    Calls Tryz.prog 87 #[.agg (PkC p A n c)] w fun e w' => e = .returned (.agg (TkC (pubR p) (pubB p) (pubL p) A n c)) ∧ Below w.heap.size w w' := by
  have hK0 := (((Kp.nil w).new (PkC p A n c) 36).new (TkC false 0 zPk none 0 0) 109).swap
  simp only [World.size_alloc] at hK0
  have hwr : IntKind.i64.wrap (fldB p.topic + (p.load.length : Int)) = fldB p.topic + (p.load.length : Int) := IntWalk.i64_in _ (by unfold fldB; omega)
  cases hn : nmB p.topic with
  | true =>
    have HN := Lib.hid hn
    clear hn
    go_enter Tryz.func87, Tryz.ntmps87
    go_wp2_with fail
    obtain ⟨wv, hwv⟩ : ∃ wv : World, wv = ((w.alloc (.cells (PkC p A n c) 36)).alloc (.cells (TkC false 0 zPk none 0 0) 109)) := ⟨_, rfl⟩
    rw [← hwv] at hK0 ⊢
    refine wp_region_held_drew (S := Kp w [(w.heap.size, PkC p A n c, 36), (w.heap.size + 1, TkC false 0 zPk none 0 0, 109)]) (by kernel_rfl) hK0.drew (fun hHeld => ?_)
    obtain ⟨wd, hwd⟩ : ∃ wd : World, wd = wv.drew := ⟨_, rfl⟩
    rw [← hwd] at hHeld ⊢
    clear hwd hwv hK0
    refine tkY 0 oPkC1 ?vw1 rfl (by kernel_rfl) (by kernel_rfl) (by kernel_rfl) (fun _ _ _ h => h) (by rfl) ?hz1 (by assumption) ?rs1
    case hz1 => (intro wz hSw; unfold oPkC1; (try clear hSw); go_simp; all_goals with_reducible rfl)
    try simp only [oPkC1, Act.put, sA, sB, sC]
    refine tkY 1 oPkC2 ?vw2 rfl (by kernel_rfl) (by kernel_rfl) (by kernel_rfl) (fun _ _ _ h => h) (by rfl) ?hz2 (by assumption) ?rs2
    case hz2 => (intro wz hSw; unfold oPkC2; (try have hq1 := hSw.tail.cell); (try have hq2 := hSw.tail.tail.cell); (try have hq3 := hSw.cell); (try have hq4 := hSw.tail.row); (try have hq5 := hSw.tail.tail.row); (try have hq6 := hSw.row); (try have hq7 := hSw.tail.tail.tail.row); (try clear hSw); go_simp; all_goals with_reducible rfl)
    try simp only [oPkC2, Act.put, sA, sB, sC]
    refine tkY 8 oPkC3 ?vw3 rfl (by kernel_rfl) (by kernel_rfl) (by kernel_rfl) (fun _ _ _ h => h) (by rfl) ?hz3 (by assumption) ?rs3
    case hz3 => (intro wz hSw; unfold oPkC3; (try clear hSw); go_simp; all_goals with_reducible rfl)
    try simp only [oPkC3, Act.put, sA, sB, sC]
    refine tkY 9 oPkC4 ?vw4 rfl (by kernel_rfl) (by kernel_rfl) (by kernel_rfl) (fun _ _ _ h => h) (by rfl) ?hz4 (by assumption) ?rs4
    case hz4 => (intro wz hSw; unfold oPkC4; (try have hq1 := hSw.tail.cell); (try have hq2 := hSw.tail.tail.cell); (try have hq3 := hSw.cell); (try have hq4 := hSw.tail.row); (try have hq5 := hSw.tail.tail.row); (try have hq6 := hSw.row); (try have hq7 := hSw.tail.tail.tail.row); (try clear hSw); go_simp; all_goals with_reducible rfl)
    try simp only [oPkC4, Act.put, sA, sB, sC]
    refine tkY 11 oPkC5 ?vw5 rfl (by kernel_rfl) (by kernel_rfl) (by kernel_rfl) (fun _ _ _ h => h) (by rfl) ?hz5 (by assumption) ?rs5
    case hz5 => (intro wz hSw; unfold oPkC5; (try clear hSw); go_simp; all_goals with_reducible rfl)
    try simp only [oPkC5, Act.put, sA, sB, sC]
    refine tkY 12 oPkC6 ?vw6 rfl (by kernel_rfl) (by kernel_rfl) (by kernel_rfl) (fun _ _ _ h => h) (by rfl) ?hz6 (by assumption) ?rs6
    case hz6 => (intro wz hSw; unfold oPkC6; (try have hq1 := hSw.tail.cell); (try have hq2 := hSw.tail.tail.cell); (try have hq3 := hSw.cell); (try have hq4 := hSw.tail.row); (try have hq5 := hSw.tail.tail.row); (try have hq6 := hSw.row); (try have hq7 := hSw.tail.tail.tail.row); (try clear hSw); go_simp; all_goals with_reducible rfl)
    try simp only [oPkC6, Act.put, sA, sB, sC]
    refine tkY 13 oPkC7 ?vw7 rfl (by kernel_rfl) (by kernel_rfl) (by kernel_rfl) (fun _ _ _ h => h) (by rfl) ?hz7 (by assumption) ?rs7
    case hz7 => (intro wz hSw; unfold oPkC7; (try clear hSw); go_simp; all_goals with_reducible rfl)
    try simp only [oPkC7, Act.put, sA, sB, sC]
    refine wpAnyH_ready (rs := [2, 16]) (by kernel_rfl) (by simp) ?_
    refine (AllReadyH.cons (o := oPkC9) rfl (fun K hK => ?_) (AllReadyH.cons (o := oPkC8) rfl (fun K hK => ?_) AllReadyH.nil))
    · skip
      unfold oPkC9
      go_simp
      (go_at_call 98; refine (isName_eq _ true _ (by omega) HN.out).mono ?_; rintro e w6 ⟨rfl, hb6⟩)
      refine hK.out _ _ (by first | exact hHeld.more hb6 | exact hHeld | exact ⟨_, hK9⟩ | exact below_more hHeld hb6) (fun hHeld1 => ?_)
      clear hHeld; have hHeld := hHeld1; clear hHeld1 hK K
      try simp only [oPkC9, Act.put, sA, sB, sC]
      refine tkY 3 oPkC10 ?vw8 rfl (by kernel_rfl) (by kernel_rfl) (by kernel_rfl) (fun _ _ _ h => h) (by rfl) ?hz8 (by assumption) ?rs8
      case hz8 => (intro wz hSw; unfold oPkC10; (try clear hSw); go_simp; all_goals with_reducible rfl)
      try simp only [oPkC10, Act.put, sA, sB, sC]
      refine tkY 4 oPkC11 ?vw9 rfl (by kernel_rfl) (by kernel_rfl) (by kernel_rfl) (fun _ _ _ h => h) (by rfl) ?hz9 (by assumption) ?rs9
      case hz9 => (intro wz hSw; unfold oPkC11; (try clear hSw); go_simp; all_goals with_reducible rfl)
      try simp only [oPkC11, Act.put, sA, sB, sC]
      refine tkY 5 oPkC12 ?vw10 rfl (by kernel_rfl) (by kernel_rfl) (by kernel_rfl) (fun _ _ _ h => h) (by rfl) ?hz10 (by assumption) ?rs10
      case hz10 => (intro wz hSw; unfold oPkC12; (try have hq1 := hSw.tail.cell); (try have hq2 := hSw.tail.tail.cell); (try have hq3 := hSw.cell); (try have hq4 := hSw.tail.row); (try have hq5 := hSw.tail.tail.row); (try have hq6 := hSw.row); (try have hq7 := hSw.tail.tail.tail.row); (try clear hSw); go_simp; all_goals with_reducible rfl)
      try simp only [oPkC12, Act.put, sA, sB, sC]
      refine tkY 6 oPkC13 ?vw11 rfl (by kernel_rfl) (by kernel_rfl) (by kernel_rfl) (fun _ _ _ h => h) (by rfl) ?hz11 (by assumption) ?rs11
      case hz11 => (intro wz hSw; unfold oPkC13; (try clear hSw); go_simp; all_goals with_reducible rfl)
      try simp only [oPkC13, Act.put, sA, sB, sC]
      refine tkY 7 oPkC14 ?vw12 rfl (by kernel_rfl) (by kernel_rfl) (by kernel_rfl) (fun _ _ _ h => h) (by rfl) ?hz12 (by assumption) ?rs12
      case hz12 => (intro wz hSw; unfold oPkC14; (try clear hSw); go_simp; all_goals with_reducible rfl)
      try simp only [oPkC14, Act.put, sA, sB, sC]
      refine wpAnyH_ready (rs := [10, 16]) (by kernel_rfl) (by simp) ?_
      refine (AllReadyH.cons (o := oPkC15) rfl (fun K hK => ?_) (AllReadyH.cons (o := oPkC8) rfl (fun K hK => ?_) AllReadyH.nil))
      · skip
        unfold oPkC15
        go_simp
        (go_at_call 97; refine (fieldLen_any _ _ (by omega)).mono ?_; rintro e w6 ⟨rfl, rfl⟩)
        refine hK.out _ _ (by first | exact hHeld.more hb6 | exact hHeld | exact ⟨_, hK9⟩ | exact below_more hHeld hb6) (fun hHeld1 => ?_)
        clear hHeld; have hHeld := hHeld1; clear hHeld1 hK K
        try simp only [oPkC15, Act.put, sA, sB, sC]
        refine tkY 14 oPkC16 ?vw13 rfl (by kernel_rfl) (by kernel_rfl) (by kernel_rfl) (fun _ _ _ h => h) (by rfl) ?hz13 (by assumption) ?rs13
        case hz13 => (intro wz hSw; unfold oPkC16; (try clear hSw); go_simp; all_goals with_reducible rfl)
        try simp only [oPkC16, Act.put, sA, sB, sC]
        refine tkY 15 oPkC17 ?vw14 rfl (by kernel_rfl) (by kernel_rfl) (by kernel_rfl) (fun _ _ _ h => h) (by rfl) ?hz14 (by assumption) ?rs14
        case hz14 => (intro wz hSw; unfold oPkC17; (try clear hSw); go_simp; all_goals with_reducible rfl)
        try simp only [oPkC17, Act.put, sA, sB, sC]
        refine wpAnyH_ready (rs := [16]) (by kernel_rfl) (by simp) ?_
        refine (AllReadyH.cons (o := oPkC8) rfl (fun K hK => ?_) AllReadyH.nil)
        have hOld := hHeld
        unfold oPkC8
        go_simp
        refine hK.out _ _ (hOld.new _ _).tail (fun hHeld1 => ?_)
        refine wpAnyH_more (S2 := Kq _ _ _) (fun _ h => h.tail) ⟨_, _, _, _, _, _, hOld.new _ _⟩ (fun hHeld2 => ?_)
        have hal0 := hOld.lt; have hal1 := hOld.tail.lt; have hal2 := Nat.ne_of_lt hal0; have hal3 := Nat.ne_of_gt hal0; have hal4 := Nat.ne_of_lt hal1; have hal5 := Nat.ne_of_gt hal1; clear hHeld hHeld1; have hHeld := hHeld2; have hPrev := hOld; clear hHeld2 hK K hOld
        try simp only [oPkC8, Act.put, sA, sB, sC]
        refine wpAnyH_ready (rs := [17]) (by kernel_rfl) (by simp) ?_
        refine AllReadyH.cons (o := oPkC18) rfl (fun K hK => ?_) AllReadyH.nil
        unfold oPkC18
        obtain ⟨r0, b0, q0, A0, n0, c0, hH⟩ := hHeld
        have e1 := hH.row; have e2 := hH.free; have e3 := hH.cell; have e4 := hH.lt; have e5 := hH.froz
        have t1 := hH.tail.row; have t2 := hH.tail.free; have t3 := hH.tail.cell; have t4 := hH.tail.lt; have t5 := hH.tail.froz
        have p1 := hPrev.row; have p2 := hPrev.free; have p3 := hPrev.cell; have p4 := hPrev.lt; have p5 := hPrev.froz
        have q1 := hPrev.tail.row; have q2 := hPrev.tail.free; have q3 := hPrev.tail.cell; have q4 := hPrev.tail.lt; have q5 := hPrev.tail.froz
        have s1 := hH.tail.tail.row; have s2 := hH.tail.tail.free; have s3 := hH.tail.tail.cell; have s4 := hH.tail.tail.lt; have s5 := hH.tail.tail.froz
        go_simp
        refine hK.out _ _ ?_ (fun hHeld1 => ?_)
        · first | exact Kq.set ⟨_, _, _, _, _, _, hH⟩ (by intro x hx; simp at hx; rcases hx with rfl | rfl <;> (simp; omega)) _ _ _ _ _ _ | exact ⟨_, _, _, _, _, _, hPrev.new _ _⟩
        clear hHeld1 hK K
        try simp only [oPkC18, Act.put, sA, sB, sC]
        refine wpAnyH_done (by kernel_rfl) ?_ _
        have hbw := hH.below
        have hbp := hPrev.below
        by_cases hqv : 0 < p.qos
        · have hq : decide (0 < p.qos) = true := by simpa using hqv
          have h0 : decide (p.qos ≤ 0) = false := by simp; omega
          go_wp2_with fail
          all_goals
            refine ret_tk 2 _ _ (pubR p) _ (pubB p) _ (pubL p) A n c rfl rfl (by go_simp; rfl) rfl ?_ ?_ ?_ ⟨rfl, ?_⟩
            · clear e1 e2 e3 e5 t1 t2 t3 t5 s1 s2 s3 s5 p1 p2 p3 p5 q1 q2 q3 q5
              unfold pubR
              rw [HN.out, h0]
              simp [*]
              try (intro hh; omega)
            · unfold pubB
              rw [if_pos hqv]
              first | rfl | omega | (rw [IntWalk.wrap64_in _ (by unfold fldB; omega)]) 
            · unfold pubL
              rw [if_pos hqv]
            · repeat (first | exact hbw | exact hbp | refine below_setRow ?_ (by omega) _ | refine Below.alloc ?_ (by simp; omega) _)
        · have hq : decide (0 < p.qos) = false := by simpa using hqv
          have h0 : decide (p.qos ≤ 0) = true := by simp; omega
          go_wp2_with fail
          all_goals
            refine ret_tk 2 _ _ (pubR p) _ (pubB p) _ (pubL p) A n c rfl rfl (by go_simp; rfl) rfl ?_ ?_ ?_ ⟨rfl, ?_⟩
            · clear e1 e2 e3 e5 t1 t2 t3 t5 s1 s2 s3 s5 p1 p2 p3 p5 q1 q2 q3 q5
              unfold pubR
              rw [HN.out, h0]
              simp [*]
              try (intro hh; omega)
            · unfold pubB
              rw [if_neg (by omega)]
              first | rfl | omega | (rw [IntWalk.wrap64_in _ (by unfold fldB; omega)]) 
            · unfold pubL
              rw [if_neg (by omega)]
            · repeat (first | exact hbw | exact hbp | refine below_setRow ?_ (by omega) _ | refine Below.alloc ?_ (by simp; omega) _)
      · skip
        have hOld := hHeld
        unfold oPkC8
        go_simp
        refine hK.out _ _ (hOld.new _ _).tail (fun hHeld1 => ?_)
        refine wpAnyH_more (S2 := Kq _ _ _) (fun _ h => h.tail) ⟨_, _, _, _, _, _, hOld.new _ _⟩ (fun hHeld2 => ?_)
        have hal0 := hOld.lt; have hal1 := hOld.tail.lt; have hal2 := Nat.ne_of_lt hal0; have hal3 := Nat.ne_of_gt hal0; have hal4 := Nat.ne_of_lt hal1; have hal5 := Nat.ne_of_gt hal1; clear hHeld hHeld1; have hHeld := hHeld2; have hPrev := hOld; clear hHeld2 hK K hOld
        try simp only [oPkC8, Act.put, sA, sB, sC]
        refine wpAnyH_ready (rs := [10]) (by kernel_rfl) (by simp) ?_
        refine (AllReadyH.cons (o := oPkC15) rfl (fun K hK => ?_) AllReadyH.nil)
        unfold oPkC15
        go_simp
        (go_at_call 97; refine (fieldLen_any _ _ (by omega)).mono ?_; rintro e w6 ⟨rfl, rfl⟩)
        refine hK.out _ _ (by first | exact hHeld.more hb6 | exact hHeld | exact ⟨_, hK9⟩ | exact below_more hHeld hb6) (fun hHeld1 => ?_)
        clear hHeld; have hHeld := hHeld1; clear hHeld1 hK K
        try simp only [oPkC15, Act.put, sA, sB, sC]
        refine tkY 14 oPkC16 ?vw15 rfl (by kernel_rfl) (by kernel_rfl) (by kernel_rfl) (fun _ _ _ h => h) (by rfl) ?hz15 (by assumption) ?rs15
        case hz15 => (intro wz hSw; unfold oPkC16; (try clear hSw); go_simp; all_goals with_reducible rfl)
        try simp only [oPkC16, Act.put, sA, sB, sC]
        refine tkY 15 oPkC17 ?vw16 rfl (by kernel_rfl) (by kernel_rfl) (by kernel_rfl) (fun _ _ _ h => h) (by rfl) ?hz16 (by assumption) ?rs16
        case hz16 => (intro wz hSw; unfold oPkC17; (try clear hSw); go_simp; all_goals with_reducible rfl)
        try simp only [oPkC17, Act.put, sA, sB, sC]
        refine wpAnyH_ready (rs := [17]) (by kernel_rfl) (by simp) ?_
        refine AllReadyH.cons (o := oPkC18) rfl (fun K hK => ?_) AllReadyH.nil
        unfold oPkC18
        obtain ⟨r0, b0, q0, A0, n0, c0, hH⟩ := hHeld
        have e1 := hH.row; have e2 := hH.free; have e3 := hH.cell; have e4 := hH.lt; have e5 := hH.froz
        have t1 := hH.tail.row; have t2 := hH.tail.free; have t3 := hH.tail.cell; have t4 := hH.tail.lt; have t5 := hH.tail.froz
        have p1 := hPrev.row; have p2 := hPrev.free; have p3 := hPrev.cell; have p4 := hPrev.lt; have p5 := hPrev.froz
        have q1 := hPrev.tail.row; have q2 := hPrev.tail.free; have q3 := hPrev.tail.cell; have q4 := hPrev.tail.lt; have q5 := hPrev.tail.froz
        have s1 := hH.tail.tail.row; have s2 := hH.tail.tail.free; have s3 := hH.tail.tail.cell; have s4 := hH.tail.tail.lt; have s5 := hH.tail.tail.froz
        go_simp
        refine hK.out _ _ ?_ (fun hHeld1 => ?_)
        · first | exact Kq.set ⟨_, _, _, _, _, _, hH⟩ (by intro x hx; simp at hx; rcases hx with rfl | rfl <;> (simp; omega)) _ _ _ _ _ _ | exact ⟨_, _, _, _, _, _, hPrev.new _ _⟩
        clear hHeld1 hK K
        try simp only [oPkC18, Act.put, sA, sB, sC]
        refine wpAnyH_done (by kernel_rfl) ?_ _
        have hbw := hH.below
        have hbp := hPrev.below
        by_cases hqv : 0 < p.qos
        · have hq : decide (0 < p.qos) = true := by simpa using hqv
          have h0 : decide (p.qos ≤ 0) = false := by simp; omega
          go_wp2_with fail
          all_goals
            refine ret_tk 2 _ _ (pubR p) _ (pubB p) _ (pubL p) A n c rfl rfl (by go_simp; rfl) rfl ?_ ?_ ?_ ⟨rfl, ?_⟩
            · clear e1 e2 e3 e5 t1 t2 t3 t5 s1 s2 s3 s5 p1 p2 p3 p5 q1 q2 q3 q5
              unfold pubR
              rw [HN.out, h0]
              simp [*]
              try (intro hh; omega)
            · unfold pubB
              rw [if_pos hqv]
              first | rfl | omega | (rw [IntWalk.wrap64_in _ (by unfold fldB; omega)]) 
            · unfold pubL
              rw [if_pos hqv]
            · repeat (first | exact hbw | exact hbp | refine below_setRow ?_ (by omega) _ | refine Below.alloc ?_ (by simp; omega) _)
        · have hq : decide (0 < p.qos) = false := by simpa using hqv
          have h0 : decide (p.qos ≤ 0) = true := by simp; omega
          go_wp2_with fail
          all_goals
            refine ret_tk 2 _ _ (pubR p) _ (pubB p) _ (pubL p) A n c rfl rfl (by go_simp; rfl) rfl ?_ ?_ ?_ ⟨rfl, ?_⟩
            · clear e1 e2 e3 e5 t1 t2 t3 t5 s1 s2 s3 s5 p1 p2 p3 p5 q1 q2 q3 q5
              unfold pubR
              rw [HN.out, h0]
              simp [*]
              try (intro hh; omega)
            · unfold pubB
              rw [if_neg (by omega)]
              first | rfl | omega | (rw [IntWalk.wrap64_in _ (by unfold fldB; omega)]) 
            · unfold pubL
              rw [if_neg (by omega)]
            · repeat (first | exact hbw | exact hbp | refine below_setRow ?_ (by omega) _ | refine Below.alloc ?_ (by simp; omega) _)
    · skip
      have hOld := hHeld
      unfold oPkC8
      go_simp
      refine hK.out _ _ (hOld.new _ _).tail (fun hHeld1 => ?_)
      refine wpAnyH_more (S2 := Kq _ _ _) (fun _ h => h.tail) ⟨_, _, _, _, _, _, hOld.new _ _⟩ (fun hHeld2 => ?_)
      have hal0 := hOld.lt; have hal1 := hOld.tail.lt; have hal2 := Nat.ne_of_lt hal0; have hal3 := Nat.ne_of_gt hal0; have hal4 := Nat.ne_of_lt hal1; have hal5 := Nat.ne_of_gt hal1; clear hHeld hHeld1; have hHeld := hHeld2; have hPrev := hOld; clear hHeld2 hK K hOld
      try simp only [oPkC8, Act.put, sA, sB, sC]
      refine wpAnyH_ready (rs := [2]) (by kernel_rfl) (by simp) ?_
      refine (AllReadyH.cons (o := oPkC9) rfl (fun K hK => ?_) AllReadyH.nil)
      unfold oPkC9
      go_simp
      (go_at_call 98; refine (isName_eq _ true _ (by omega) HN.out).mono ?_; rintro e w6 ⟨rfl, hb6⟩)
      refine hK.out _ _ (by first | exact hHeld.more hb6 | exact hHeld | exact ⟨_, hK9⟩ | exact below_more hHeld hb6) (fun hHeld1 => ?_)
      clear hHeld; have hHeld := hHeld1; clear hHeld1 hK K
      try simp only [oPkC9, Act.put, sA, sB, sC]
      refine tkY 3 oPkC10 ?vw17 rfl (by kernel_rfl) (by kernel_rfl) (by kernel_rfl) (fun _ _ _ h => h) (by rfl) ?hz17 (by assumption) ?rs17
      case hz17 => (intro wz hSw; unfold oPkC10; (try clear hSw); go_simp; all_goals with_reducible rfl)
      try simp only [oPkC10, Act.put, sA, sB, sC]
      refine tkY 4 oPkC11 ?vw18 rfl (by kernel_rfl) (by kernel_rfl) (by kernel_rfl) (fun _ _ _ h => h) (by rfl) ?hz18 (by assumption) ?rs18
      case hz18 => (intro wz hSw; unfold oPkC11; (try clear hSw); go_simp; all_goals with_reducible rfl)
      try simp only [oPkC11, Act.put, sA, sB, sC]
      refine tkY 5 oPkC12 ?vw19 rfl (by kernel_rfl) (by kernel_rfl) (by kernel_rfl) (fun _ _ _ h => h) (by rfl) ?hz19 (by assumption) ?rs19
      case hz19 => (intro wz hSw; unfold oPkC12; (try have hq1 := hSw.tail.cell); (try have hq2 := hSw.tail.tail.cell); (try have hq3 := hSw.cell); (try have hq4 := hSw.tail.row); (try have hq5 := hSw.tail.tail.row); (try have hq6 := hSw.row); (try have hq7 := hSw.tail.tail.tail.row); (try clear hSw); go_simp; all_goals with_reducible rfl)
      try simp only [oPkC12, Act.put, sA, sB, sC]
      refine tkY 6 oPkC13 ?vw20 rfl (by kernel_rfl) (by kernel_rfl) (by kernel_rfl) (fun _ _ _ h => h) (by rfl) ?hz20 (by assumption) ?rs20
      case hz20 => (intro wz hSw; unfold oPkC13; (try clear hSw); go_simp; all_goals with_reducible rfl)
      try simp only [oPkC13, Act.put, sA, sB, sC]
      refine tkY 7 oPkC14 ?vw21 rfl (by kernel_rfl) (by kernel_rfl) (by kernel_rfl) (fun _ _ _ h => h) (by rfl) ?hz21 (by assumption) ?rs21
      case hz21 => (intro wz hSw; unfold oPkC14; (try clear hSw); go_simp; all_goals with_reducible rfl)
      try simp only [oPkC14, Act.put, sA, sB, sC]
      refine wpAnyH_ready (rs := [10]) (by kernel_rfl) (by simp) ?_
      refine (AllReadyH.cons (o := oPkC15) rfl (fun K hK => ?_) AllReadyH.nil)
      unfold oPkC15
      go_simp
      (go_at_call 97; refine (fieldLen_any _ _ (by omega)).mono ?_; rintro e w6 ⟨rfl, rfl⟩)
      refine hK.out _ _ (by first | exact hHeld.more hb6 | exact hHeld | exact ⟨_, hK9⟩ | exact below_more hHeld hb6) (fun hHeld1 => ?_)
      clear hHeld; have hHeld := hHeld1; clear hHeld1 hK K
      try simp only [oPkC15, Act.put, sA, sB, sC]
      refine tkY 14 oPkC16 ?vw22 rfl (by kernel_rfl) (by kernel_rfl) (by kernel_rfl) (fun _ _ _ h => h) (by rfl) ?hz22 (by assumption) ?rs22
      case hz22 => (intro wz hSw; unfold oPkC16; (try clear hSw); go_simp; all_goals with_reducible rfl)
      try simp only [oPkC16, Act.put, sA, sB, sC]
      refine tkY 15 oPkC17 ?vw23 rfl (by kernel_rfl) (by kernel_rfl) (by kernel_rfl) (fun _ _ _ h => h) (by rfl) ?hz23 (by assumption) ?rs23
      case hz23 => (intro wz hSw; unfold oPkC17; (try clear hSw); go_simp; all_goals with_reducible rfl)
      try simp only [oPkC17, Act.put, sA, sB, sC]
      refine wpAnyH_ready (rs := [17]) (by kernel_rfl) (by simp) ?_
      refine AllReadyH.cons (o := oPkC18) rfl (fun K hK => ?_) AllReadyH.nil
      unfold oPkC18
      obtain ⟨r0, b0, q0, A0, n0, c0, hH⟩ := hHeld
      have e1 := hH.row; have e2 := hH.free; have e3 := hH.cell; have e4 := hH.lt; have e5 := hH.froz
      have t1 := hH.tail.row; have t2 := hH.tail.free; have t3 := hH.tail.cell; have t4 := hH.tail.lt; have t5 := hH.tail.froz
      have p1 := hPrev.row; have p2 := hPrev.free; have p3 := hPrev.cell; have p4 := hPrev.lt; have p5 := hPrev.froz
      have q1 := hPrev.tail.row; have q2 := hPrev.tail.free; have q3 := hPrev.tail.cell; have q4 := hPrev.tail.lt; have q5 := hPrev.tail.froz
      have s1 := hH.tail.tail.row; have s2 := hH.tail.tail.free; have s3 := hH.tail.tail.cell; have s4 := hH.tail.tail.lt; have s5 := hH.tail.tail.froz
      go_simp
      refine hK.out _ _ ?_ (fun hHeld1 => ?_)
      · first | exact Kq.set ⟨_, _, _, _, _, _, hH⟩ (by intro x hx; simp at hx; rcases hx with rfl | rfl <;> (simp; omega)) _ _ _ _ _ _ | exact ⟨_, _, _, _, _, _, hPrev.new _ _⟩
      clear hHeld1 hK K
      try simp only [oPkC18, Act.put, sA, sB, sC]
      refine wpAnyH_done (by kernel_rfl) ?_ _
      have hbw := hH.below
      have hbp := hPrev.below
      by_cases hqv : 0 < p.qos
      · have hq : decide (0 < p.qos) = true := by simpa using hqv
        have h0 : decide (p.qos ≤ 0) = false := by simp; omega
        go_wp2_with fail
        all_goals
          refine ret_tk 2 _ _ (pubR p) _ (pubB p) _ (pubL p) A n c rfl rfl (by go_simp; rfl) rfl ?_ ?_ ?_ ⟨rfl, ?_⟩
          · clear e1 e2 e3 e5 t1 t2 t3 t5 s1 s2 s3 s5 p1 p2 p3 p5 q1 q2 q3 q5
            unfold pubR
            rw [HN.out, h0]
            simp [*]
            try (intro hh; omega)
          · unfold pubB
            rw [if_pos hqv]
            first | rfl | omega | (rw [IntWalk.wrap64_in _ (by unfold fldB; omega)]) 
          · unfold pubL
            rw [if_pos hqv]
          · repeat (first | exact hbw | exact hbp | refine below_setRow ?_ (by omega) _ | refine Below.alloc ?_ (by simp; omega) _)
      · have hq : decide (0 < p.qos) = false := by simpa using hqv
        have h0 : decide (p.qos ≤ 0) = true := by simp; omega
        go_wp2_with fail
        all_goals
          refine ret_tk 2 _ _ (pubR p) _ (pubB p) _ (pubL p) A n c rfl rfl (by go_simp; rfl) rfl ?_ ?_ ?_ ⟨rfl, ?_⟩
          · clear e1 e2 e3 e5 t1 t2 t3 t5 s1 s2 s3 s5 p1 p2 p3 p5 q1 q2 q3 q5
            unfold pubR
            rw [HN.out, h0]
            simp [*]
            try (intro hh; omega)
          · unfold pubB
            rw [if_neg (by omega)]
            first | rfl | omega | (rw [IntWalk.wrap64_in _ (by unfold fldB; omega)]) 
          · unfold pubL
            rw [if_neg (by omega)]
          · repeat (first | exact hbw | exact hbp | refine below_setRow ?_ (by omega) _ | refine Below.alloc ?_ (by simp; omega) _)
  | false =>
    have HN := Lib.hid hn
    clear hn
    go_enter Tryz.func87, Tryz.ntmps87
    go_wp2_with fail
    obtain ⟨wv, hwv⟩ : ∃ wv : World, wv = ((w.alloc (.cells (PkC p A n c) 36)).alloc (.cells (TkC false 0 zPk none 0 0) 109)) := ⟨_, rfl⟩
    rw [← hwv] at hK0 ⊢
    refine wp_region_held_drew (S := Kp w [(w.heap.size, PkC p A n c, 36), (w.heap.size + 1, TkC false 0 zPk none 0 0, 109)]) (by kernel_rfl) hK0.drew (fun hHeld => ?_)
    obtain ⟨wd, hwd⟩ : ∃ wd : World, wd = wv.drew := ⟨_, rfl⟩
    rw [← hwd] at hHeld ⊢
    clear hwd hwv hK0
    refine tkY 0 oPkC1 ?vw24 rfl (by kernel_rfl) (by kernel_rfl) (by kernel_rfl) (fun _ _ _ h => h) (by rfl) ?hz24 (by assumption) ?rs24
    case hz24 => (intro wz hSw; unfold oPkC1; (try clear hSw); go_simp; all_goals with_reducible rfl)
    try simp only [oPkC1, Act.put, sA, sB, sC]
    refine tkY 1 oPkC2 ?vw25 rfl (by kernel_rfl) (by kernel_rfl) (by kernel_rfl) (fun _ _ _ h => h) (by rfl) ?hz25 (by assumption) ?rs25
    case hz25 => (intro wz hSw; unfold oPkC2; (try have hq1 := hSw.tail.cell); (try have hq2 := hSw.tail.tail.cell); (try have hq3 := hSw.cell); (try have hq4 := hSw.tail.row); (try have hq5 := hSw.tail.tail.row); (try have hq6 := hSw.row); (try have hq7 := hSw.tail.tail.tail.row); (try clear hSw); go_simp; all_goals with_reducible rfl)
    try simp only [oPkC2, Act.put, sA, sB, sC]
    refine tkY 8 oPkC3 ?vw26 rfl (by kernel_rfl) (by kernel_rfl) (by kernel_rfl) (fun _ _ _ h => h) (by rfl) ?hz26 (by assumption) ?rs26
    case hz26 => (intro wz hSw; unfold oPkC3; (try clear hSw); go_simp; all_goals with_reducible rfl)
    try simp only [oPkC3, Act.put, sA, sB, sC]
    refine tkY 9 oPkC4 ?vw27 rfl (by kernel_rfl) (by kernel_rfl) (by kernel_rfl) (fun _ _ _ h => h) (by rfl) ?hz27 (by assumption) ?rs27
    case hz27 => (intro wz hSw; unfold oPkC4; (try have hq1 := hSw.tail.cell); (try have hq2 := hSw.tail.tail.cell); (try have hq3 := hSw.cell); (try have hq4 := hSw.tail.row); (try have hq5 := hSw.tail.tail.row); (try have hq6 := hSw.row); (try have hq7 := hSw.tail.tail.tail.row); (try clear hSw); go_simp; all_goals with_reducible rfl)
    try simp only [oPkC4, Act.put, sA, sB, sC]
    refine tkY 11 oPkC5 ?vw28 rfl (by kernel_rfl) (by kernel_rfl) (by kernel_rfl) (fun _ _ _ h => h) (by rfl) ?hz28 (by assumption) ?rs28
    case hz28 => (intro wz hSw; unfold oPkC5; (try clear hSw); go_simp; all_goals with_reducible rfl)
    try simp only [oPkC5, Act.put, sA, sB, sC]
    refine tkY 12 oPkC6 ?vw29 rfl (by kernel_rfl) (by kernel_rfl) (by kernel_rfl) (fun _ _ _ h => h) (by rfl) ?hz29 (by assumption) ?rs29
    case hz29 => (intro wz hSw; unfold oPkC6; (try have hq1 := hSw.tail.cell); (try have hq2 := hSw.tail.tail.cell); (try have hq3 := hSw.cell); (try have hq4 := hSw.tail.row); (try have hq5 := hSw.tail.tail.row); (try have hq6 := hSw.row); (try have hq7 := hSw.tail.tail.tail.row); (try clear hSw); go_simp; all_goals with_reducible rfl)
    try simp only [oPkC6, Act.put, sA, sB, sC]
    refine tkY 13 oPkC7 ?vw30 rfl (by kernel_rfl) (by kernel_rfl) (by kernel_rfl) (fun _ _ _ h => h) (by rfl) ?hz30 (by assumption) ?rs30
    case hz30 => (intro wz hSw; unfold oPkC7; (try clear hSw); go_simp; all_goals with_reducible rfl)
    try simp only [oPkC7, Act.put, sA, sB, sC]
    refine wpAnyH_ready (rs := [2, 16]) (by kernel_rfl) (by simp) ?_
    refine (AllReadyH.cons (o := oPkC9) rfl (fun K hK => ?_) (AllReadyH.cons (o := oPkC8) rfl (fun K hK => ?_) AllReadyH.nil))
    · skip
      unfold oPkC9
      go_simp
      (go_at_call 98; refine (isName_eq _ false _ (by omega) HN.out).mono ?_; rintro e w6 ⟨rfl, hb6⟩)
      refine hK.out _ _ (by first | exact hHeld.more hb6 | exact hHeld | exact ⟨_, hK9⟩ | exact below_more hHeld hb6) (fun hHeld1 => ?_)
      clear hHeld; have hHeld := hHeld1; clear hHeld1 hK K
      try simp only [oPkC9, Act.put, sA, sB, sC]
      refine tkY 3 oPkC10 ?vw31 rfl (by kernel_rfl) (by kernel_rfl) (by kernel_rfl) (fun _ _ _ h => h) (by rfl) ?hz31 (by assumption) ?rs31
      case hz31 => (intro wz hSw; unfold oPkC10; (try clear hSw); go_simp; all_goals with_reducible rfl)
      try simp only [oPkC10, Act.put, sA, sB, sC]
      refine wpAnyH_take (i := 4) (oi := oPkC11) (v := undef) rfl (by kernel_rfl) (by kernel_rfl) (by kernel_rfl) (fun _ _ _ h => h) (Or.inr ⟨by rfl, rfl⟩) (by assumption) ?rt32
      try simp only [oPkC11, Act.put, sA, sB, sC]
      refine wpAnyH_take (i := 5) (oi := oPkC12) (v := undef) rfl (by kernel_rfl) (by kernel_rfl) (by kernel_rfl) (fun _ _ _ h => h) (Or.inr ⟨by rfl, rfl⟩) (by assumption) ?rt33
      try simp only [oPkC12, Act.put, sA, sB, sC]
      refine wpAnyH_take (i := 6) (oi := oPkC13) (v := undef) rfl (by kernel_rfl) (by kernel_rfl) (by kernel_rfl) (fun _ _ _ h => h) (Or.inr ⟨by rfl, rfl⟩) (by assumption) ?rt34
      try simp only [oPkC13, Act.put, sA, sB, sC]
      refine tkY 7 oPkC14 ?vw35 rfl (by kernel_rfl) (by kernel_rfl) (by kernel_rfl) (fun _ _ _ h => h) (by rfl) ?hz35 (by assumption) ?rs35
      case hz35 => (intro wz hSw; unfold oPkC14; (try clear hSw); go_simp; all_goals with_reducible rfl)
      try simp only [oPkC14, Act.put, sA, sB, sC]
      refine wpAnyH_ready (rs := [10, 16]) (by kernel_rfl) (by simp) ?_
      refine (AllReadyH.cons (o := oPkC15) rfl (fun K hK => ?_) (AllReadyH.cons (o := oPkC8) rfl (fun K hK => ?_) AllReadyH.nil))
      · skip
        unfold oPkC15
        go_simp
        (go_at_call 97; refine (fieldLen_any _ _ (by omega)).mono ?_; rintro e w6 ⟨rfl, rfl⟩)
        refine hK.out _ _ (by first | exact hHeld.more hb6 | exact hHeld | exact ⟨_, hK9⟩ | exact below_more hHeld hb6) (fun hHeld1 => ?_)
        clear hHeld; have hHeld := hHeld1; clear hHeld1 hK K
        try simp only [oPkC15, Act.put, sA, sB, sC]
        refine tkY 14 oPkC16 ?vw36 rfl (by kernel_rfl) (by kernel_rfl) (by kernel_rfl) (fun _ _ _ h => h) (by rfl) ?hz36 (by assumption) ?rs36
        case hz36 => (intro wz hSw; unfold oPkC16; (try clear hSw); go_simp; all_goals with_reducible rfl)
        try simp only [oPkC16, Act.put, sA, sB, sC]
        refine tkY 15 oPkC17 ?vw37 rfl (by kernel_rfl) (by kernel_rfl) (by kernel_rfl) (fun _ _ _ h => h) (by rfl) ?hz37 (by assumption) ?rs37
        case hz37 => (intro wz hSw; unfold oPkC17; (try clear hSw); go_simp; all_goals with_reducible rfl)
        try simp only [oPkC17, Act.put, sA, sB, sC]
        refine wpAnyH_ready (rs := [16]) (by kernel_rfl) (by simp) ?_
        refine (AllReadyH.cons (o := oPkC8) rfl (fun K hK => ?_) AllReadyH.nil)
        have hOld := hHeld
        unfold oPkC8
        go_simp
        refine hK.out _ _ (hOld.new _ _).tail (fun hHeld1 => ?_)
        refine wpAnyH_more (S2 := Kq _ _ _) (fun _ h => h.tail) ⟨_, _, _, _, _, _, hOld.new _ _⟩ (fun hHeld2 => ?_)
        have hal0 := hOld.lt; have hal1 := hOld.tail.lt; have hal2 := Nat.ne_of_lt hal0; have hal3 := Nat.ne_of_gt hal0; have hal4 := Nat.ne_of_lt hal1; have hal5 := Nat.ne_of_gt hal1; clear hHeld hHeld1; have hHeld := hHeld2; have hPrev := hOld; clear hHeld2 hK K hOld
        try simp only [oPkC8, Act.put, sA, sB, sC]
        refine wpAnyH_ready (rs := [17]) (by kernel_rfl) (by simp) ?_
        refine AllReadyH.cons (o := oPkC18) rfl (fun K hK => ?_) AllReadyH.nil
        unfold oPkC18
        obtain ⟨r0, b0, q0, A0, n0, c0, hH⟩ := hHeld
        have e1 := hH.row; have e2 := hH.free; have e3 := hH.cell; have e4 := hH.lt; have e5 := hH.froz
        have t1 := hH.tail.row; have t2 := hH.tail.free; have t3 := hH.tail.cell; have t4 := hH.tail.lt; have t5 := hH.tail.froz
        have p1 := hPrev.row; have p2 := hPrev.free; have p3 := hPrev.cell; have p4 := hPrev.lt; have p5 := hPrev.froz
        have q1 := hPrev.tail.row; have q2 := hPrev.tail.free; have q3 := hPrev.tail.cell; have q4 := hPrev.tail.lt; have q5 := hPrev.tail.froz
        have s1 := hH.tail.tail.row; have s2 := hH.tail.tail.free; have s3 := hH.tail.tail.cell; have s4 := hH.tail.tail.lt; have s5 := hH.tail.tail.froz
        go_simp
        refine hK.out _ _ ?_ (fun hHeld1 => ?_)
        · first | exact Kq.set ⟨_, _, _, _, _, _, hH⟩ (by intro x hx; simp at hx; rcases hx with rfl | rfl <;> (simp; omega)) _ _ _ _ _ _ | exact ⟨_, _, _, _, _, _, hPrev.new _ _⟩
        clear hHeld1 hK K
        try simp only [oPkC18, Act.put, sA, sB, sC]
        refine wpAnyH_done (by kernel_rfl) ?_ _
        have hbw := hH.below
        have hbp := hPrev.below
        by_cases hqv : 0 < p.qos
        · have hq : decide (0 < p.qos) = true := by simpa using hqv
          have h0 : decide (p.qos ≤ 0) = false := by simp; omega
          go_wp2_with fail
          all_goals
            refine ret_tk 2 _ _ (pubR p) _ (pubB p) _ (pubL p) A n c rfl rfl (by go_simp; rfl) rfl ?_ ?_ ?_ ⟨rfl, ?_⟩
            · clear e1 e2 e3 e5 t1 t2 t3 t5 s1 s2 s3 s5 p1 p2 p3 p5 q1 q2 q3 q5
              unfold pubR
              rw [HN.out, h0]
              simp [*]
              try (intro hh; omega)
            · unfold pubB
              rw [if_pos hqv]
              first | rfl | omega | (rw [IntWalk.wrap64_in _ (by unfold fldB; omega)]) 
            · unfold pubL
              rw [if_pos hqv]
            · repeat (first | exact hbw | exact hbp | refine below_setRow ?_ (by omega) _ | refine Below.alloc ?_ (by simp; omega) _)
        · have hq : decide (0 < p.qos) = false := by simpa using hqv
          have h0 : decide (p.qos ≤ 0) = true := by simp; omega
          go_wp2_with fail
          all_goals
            refine ret_tk 2 _ _ (pubR p) _ (pubB p) _ (pubL p) A n c rfl rfl (by go_simp; rfl) rfl ?_ ?_ ?_ ⟨rfl, ?_⟩
            · clear e1 e2 e3 e5 t1 t2 t3 t5 s1 s2 s3 s5 p1 p2 p3 p5 q1 q2 q3 q5
              unfold pubR
              rw [HN.out, h0]
              simp [*]
              try (intro hh; omega)
            · unfold pubB
              rw [if_neg (by omega)]
              first | rfl | omega | (rw [IntWalk.wrap64_in _ (by unfold fldB; omega)]) 
            · unfold pubL
              rw [if_neg (by omega)]
            · repeat (first | exact hbw | exact hbp | refine below_setRow ?_ (by omega) _ | refine Below.alloc ?_ (by simp; omega) _)
      · skip
        have hOld := hHeld
        unfold oPkC8
        go_simp
        refine hK.out _ _ (hOld.new _ _).tail (fun hHeld1 => ?_)
        refine wpAnyH_more (S2 := Kq _ _ _) (fun _ h => h.tail) ⟨_, _, _, _, _, _, hOld.new _ _⟩ (fun hHeld2 => ?_)
        have hal0 := hOld.lt; have hal1 := hOld.tail.lt; have hal2 := Nat.ne_of_lt hal0; have hal3 := Nat.ne_of_gt hal0; have hal4 := Nat.ne_of_lt hal1; have hal5 := Nat.ne_of_gt hal1; clear hHeld hHeld1; have hHeld := hHeld2; have hPrev := hOld; clear hHeld2 hK K hOld
        try simp only [oPkC8, Act.put, sA, sB, sC]
        refine wpAnyH_ready (rs := [10]) (by kernel_rfl) (by simp) ?_
        refine (AllReadyH.cons (o := oPkC15) rfl (fun K hK => ?_) AllReadyH.nil)
        unfold oPkC15
        go_simp
        (go_at_call 97; refine (fieldLen_any _ _ (by omega)).mono ?_; rintro e w6 ⟨rfl, rfl⟩)
        refine hK.out _ _ (by first | exact hHeld.more hb6 | exact hHeld | exact ⟨_, hK9⟩ | exact below_more hHeld hb6) (fun hHeld1 => ?_)
        clear hHeld; have hHeld := hHeld1; clear hHeld1 hK K
        try simp only [oPkC15, Act.put, sA, sB, sC]
        refine tkY 14 oPkC16 ?vw38 rfl (by kernel_rfl) (by kernel_rfl) (by kernel_rfl) (fun _ _ _ h => h) (by rfl) ?hz38 (by assumption) ?rs38
        case hz38 => (intro wz hSw; unfold oPkC16; (try clear hSw); go_simp; all_goals with_reducible rfl)
        try simp only [oPkC16, Act.put, sA, sB, sC]
        refine tkY 15 oPkC17 ?vw39 rfl (by kernel_rfl) (by kernel_rfl) (by kernel_rfl) (fun _ _ _ h => h) (by rfl) ?hz39 (by assumption) ?rs39
        case hz39 => (intro wz hSw; unfold oPkC17; (try clear hSw); go_simp; all_goals with_reducible rfl)
        try simp only [oPkC17, Act.put, sA, sB, sC]
        refine wpAnyH_ready (rs := [17]) (by kernel_rfl) (by simp) ?_
        refine AllReadyH.cons (o := oPkC18) rfl (fun K hK => ?_) AllReadyH.nil
        unfold oPkC18
        obtain ⟨r0, b0, q0, A0, n0, c0, hH⟩ := hHeld
        have e1 := hH.row; have e2 := hH.free; have e3 := hH.cell; have e4 := hH.lt; have e5 := hH.froz
        have t1 := hH.tail.row; have t2 := hH.tail.free; have t3 := hH.tail.cell; have t4 := hH.tail.lt; have t5 := hH.tail.froz
        have p1 := hPrev.row; have p2 := hPrev.free; have p3 := hPrev.cell; have p4 := hPrev.lt; have p5 := hPrev.froz
        have q1 := hPrev.tail.row; have q2 := hPrev.tail.free; have q3 := hPrev.tail.cell; have q4 := hPrev.tail.lt; have q5 := hPrev.tail.froz
        have s1 := hH.tail.tail.row; have s2 := hH.tail.tail.free; have s3 := hH.tail.tail.cell; have s4 := hH.tail.tail.lt; have s5 := hH.tail.tail.froz
        go_simp
        refine hK.out _ _ ?_ (fun hHeld1 => ?_)
        · first | exact Kq.set ⟨_, _, _, _, _, _, hH⟩ (by intro x hx; simp at hx; rcases hx with rfl | rfl <;> (simp; omega)) _ _ _ _ _ _ | exact ⟨_, _, _, _, _, _, hPrev.new _ _⟩
        clear hHeld1 hK K
        try simp only [oPkC18, Act.put, sA, sB, sC]
        refine wpAnyH_done (by kernel_rfl) ?_ _
        have hbw := hH.below
        have hbp := hPrev.below
        by_cases hqv : 0 < p.qos
        · have hq : decide (0 < p.qos) = true := by simpa using hqv
          have h0 : decide (p.qos ≤ 0) = false := by simp; omega
          go_wp2_with fail
          all_goals
            refine ret_tk 2 _ _ (pubR p) _ (pubB p) _ (pubL p) A n c rfl rfl (by go_simp; rfl) rfl ?_ ?_ ?_ ⟨rfl, ?_⟩
            · clear e1 e2 e3 e5 t1 t2 t3 t5 s1 s2 s3 s5 p1 p2 p3 p5 q1 q2 q3 q5
              unfold pubR
              rw [HN.out, h0]
              simp [*]
              try (intro hh; omega)
            · unfold pubB
              rw [if_pos hqv]
              first | rfl | omega | (rw [IntWalk.wrap64_in _ (by unfold fldB; omega)]) 
            · unfold pubL
              rw [if_pos hqv]
            · repeat (first | exact hbw | exact hbp | refine below_setRow ?_ (by omega) _ | refine Below.alloc ?_ (by simp; omega) _)
        · have hq : decide (0 < p.qos) = false := by simpa using hqv
          have h0 : decide (p.qos ≤ 0) = true := by simp; omega
          go_wp2_with fail
          all_goals
            refine ret_tk 2 _ _ (pubR p) _ (pubB p) _ (pubL p) A n c rfl rfl (by go_simp; rfl) rfl ?_ ?_ ?_ ⟨rfl, ?_⟩
            · clear e1 e2 e3 e5 t1 t2 t3 t5 s1 s2 s3 s5 p1 p2 p3 p5 q1 q2 q3 q5
              unfold pubR
              rw [HN.out, h0]
              simp [*]
              try (intro hh; omega)
            · unfold pubB
              rw [if_neg (by omega)]
              first | rfl | omega | (rw [IntWalk.wrap64_in _ (by unfold fldB; omega)]) 
            · unfold pubL
              rw [if_neg (by omega)]
            · repeat (first | exact hbw | exact hbp | refine below_setRow ?_ (by omega) _ | refine Below.alloc ?_ (by simp; omega) _)
    · skip
      have hOld := hHeld
      unfold oPkC8
      go_simp
      refine hK.out _ _ (hOld.new _ _).tail (fun hHeld1 => ?_)
      refine wpAnyH_more (S2 := Kq _ _ _) (fun _ h => h.tail) ⟨_, _, _, _, _, _, hOld.new _ _⟩ (fun hHeld2 => ?_)
      have hal0 := hOld.lt; have hal1 := hOld.tail.lt; have hal2 := Nat.ne_of_lt hal0; have hal3 := Nat.ne_of_gt hal0; have hal4 := Nat.ne_of_lt hal1; have hal5 := Nat.ne_of_gt hal1; clear hHeld hHeld1; have hHeld := hHeld2; have hPrev := hOld; clear hHeld2 hK K hOld
      try simp only [oPkC8, Act.put, sA, sB, sC]
      refine wpAnyH_ready (rs := [2]) (by kernel_rfl) (by simp) ?_
      refine (AllReadyH.cons (o := oPkC9) rfl (fun K hK => ?_) AllReadyH.nil)
      unfold oPkC9
      go_simp
      (go_at_call 98; refine (isName_eq _ false _ (by omega) HN.out).mono ?_; rintro e w6 ⟨rfl, hb6⟩)
      refine hK.out _ _ (by first | exact hHeld.more hb6 | exact hHeld | exact ⟨_, hK9⟩ | exact below_more hHeld hb6) (fun hHeld1 => ?_)
      clear hHeld; have hHeld := hHeld1; clear hHeld1 hK K
      try simp only [oPkC9, Act.put, sA, sB, sC]
      refine tkY 3 oPkC10 ?vw40 rfl (by kernel_rfl) (by kernel_rfl) (by kernel_rfl) (fun _ _ _ h => h) (by rfl) ?hz40 (by assumption) ?rs40
      case hz40 => (intro wz hSw; unfold oPkC10; (try clear hSw); go_simp; all_goals with_reducible rfl)
      try simp only [oPkC10, Act.put, sA, sB, sC]
      refine wpAnyH_take (i := 4) (oi := oPkC11) (v := undef) rfl (by kernel_rfl) (by kernel_rfl) (by kernel_rfl) (fun _ _ _ h => h) (Or.inr ⟨by rfl, rfl⟩) (by assumption) ?rt41
      try simp only [oPkC11, Act.put, sA, sB, sC]
      refine wpAnyH_take (i := 5) (oi := oPkC12) (v := undef) rfl (by kernel_rfl) (by kernel_rfl) (by kernel_rfl) (fun _ _ _ h => h) (Or.inr ⟨by rfl, rfl⟩) (by assumption) ?rt42
      try simp only [oPkC12, Act.put, sA, sB, sC]
      refine wpAnyH_take (i := 6) (oi := oPkC13) (v := undef) rfl (by kernel_rfl) (by kernel_rfl) (by kernel_rfl) (fun _ _ _ h => h) (Or.inr ⟨by rfl, rfl⟩) (by assumption) ?rt43
      try simp only [oPkC13, Act.put, sA, sB, sC]
      refine tkY 7 oPkC14 ?vw44 rfl (by kernel_rfl) (by kernel_rfl) (by kernel_rfl) (fun _ _ _ h => h) (by rfl) ?hz44 (by assumption) ?rs44
      case hz44 => (intro wz hSw; unfold oPkC14; (try clear hSw); go_simp; all_goals with_reducible rfl)
      try simp only [oPkC14, Act.put, sA, sB, sC]
      refine wpAnyH_ready (rs := [10]) (by kernel_rfl) (by simp) ?_
      refine (AllReadyH.cons (o := oPkC15) rfl (fun K hK => ?_) AllReadyH.nil)
      unfold oPkC15
      go_simp
      (go_at_call 97; refine (fieldLen_any _ _ (by omega)).mono ?_; rintro e w6 ⟨rfl, rfl⟩)
      refine hK.out _ _ (by first | exact hHeld.more hb6 | exact hHeld | exact ⟨_, hK9⟩ | exact below_more hHeld hb6) (fun hHeld1 => ?_)
      clear hHeld; have hHeld := hHeld1; clear hHeld1 hK K
      try simp only [oPkC15, Act.put, sA, sB, sC]
      refine tkY 14 oPkC16 ?vw45 rfl (by kernel_rfl) (by kernel_rfl) (by kernel_rfl) (fun _ _ _ h => h) (by rfl) ?hz45 (by assumption) ?rs45
      case hz45 => (intro wz hSw; unfold oPkC16; (try clear hSw); go_simp; all_goals with_reducible rfl)
      try simp only [oPkC16, Act.put, sA, sB, sC]
      refine tkY 15 oPkC17 ?vw46 rfl (by kernel_rfl) (by kernel_rfl) (by kernel_rfl) (fun _ _ _ h => h) (by rfl) ?hz46 (by assumption) ?rs46
      case hz46 => (intro wz hSw; unfold oPkC17; (try clear hSw); go_simp; all_goals with_reducible rfl)
      try simp only [oPkC17, Act.put, sA, sB, sC]
      refine wpAnyH_ready (rs := [17]) (by kernel_rfl) (by simp) ?_
      refine AllReadyH.cons (o := oPkC18) rfl (fun K hK => ?_) AllReadyH.nil
      unfold oPkC18
      obtain ⟨r0, b0, q0, A0, n0, c0, hH⟩ := hHeld
      have e1 := hH.row; have e2 := hH.free; have e3 := hH.cell; have e4 := hH.lt; have e5 := hH.froz
      have t1 := hH.tail.row; have t2 := hH.tail.free; have t3 := hH.tail.cell; have t4 := hH.tail.lt; have t5 := hH.tail.froz
      have p1 := hPrev.row; have p2 := hPrev.free; have p3 := hPrev.cell; have p4 := hPrev.lt; have p5 := hPrev.froz
      have q1 := hPrev.tail.row; have q2 := hPrev.tail.free; have q3 := hPrev.tail.cell; have q4 := hPrev.tail.lt; have q5 := hPrev.tail.froz
      have s1 := hH.tail.tail.row; have s2 := hH.tail.tail.free; have s3 := hH.tail.tail.cell; have s4 := hH.tail.tail.lt; have s5 := hH.tail.tail.froz
      go_simp
      refine hK.out _ _ ?_ (fun hHeld1 => ?_)
      · first | exact Kq.set ⟨_, _, _, _, _, _, hH⟩ (by intro x hx; simp at hx; rcases hx with rfl | rfl <;> (simp; omega)) _ _ _ _ _ _ | exact ⟨_, _, _, _, _, _, hPrev.new _ _⟩
      clear hHeld1 hK K
      try simp only [oPkC18, Act.put, sA, sB, sC]
      refine wpAnyH_done (by kernel_rfl) ?_ _
      have hbw := hH.below
      have hbp := hPrev.below
      by_cases hqv : 0 < p.qos
      · have hq : decide (0 < p.qos) = true := by simpa using hqv
        have h0 : decide (p.qos ≤ 0) = false := by simp; omega
        go_wp2_with fail
        all_goals
          refine ret_tk 2 _ _ (pubR p) _ (pubB p) _ (pubL p) A n c rfl rfl (by go_simp; rfl) rfl ?_ ?_ ?_ ⟨rfl, ?_⟩
          · clear e1 e2 e3 e5 t1 t2 t3 t5 s1 s2 s3 s5 p1 p2 p3 p5 q1 q2 q3 q5
            unfold pubR
            rw [HN.out, h0]
            simp [*]
            try (intro hh; omega)
          · unfold pubB
            rw [if_pos hqv]
            first | rfl | omega | (rw [IntWalk.wrap64_in _ (by unfold fldB; omega)]) 
          · unfold pubL
            rw [if_pos hqv]
          · repeat (first | exact hbw | exact hbp | refine below_setRow ?_ (by omega) _ | refine Below.alloc ?_ (by simp; omega) _)
      · have hq : decide (0 < p.qos) = false := by simpa using hqv
        have h0 : decide (p.qos ≤ 0) = true := by simp; omega
        go_wp2_with fail
        all_goals
          refine ret_tk 2 _ _ (pubR p) _ (pubB p) _ (pubL p) A n c rfl rfl (by go_simp; rfl) rfl ?_ ?_ ?_ ⟨rfl, ?_⟩
          · clear e1 e2 e3 e5 t1 t2 t3 t5 s1 s2 s3 s5 p1 p2 p3 p5 q1 q2 q3 q5
            unfold pubR
            rw [HN.out, h0]
            simp [*]
            try (intro hh; omega)
          · unfold pubB
            rw [if_neg (by omega)]
            first | rfl | omega | (rw [IntWalk.wrap64_in _ (by unfold fldB; omega)]) 
          · unfold pubL
            rw [if_neg (by omega)]
          · repeat (first | exact hbw | exact hbp | refine below_setRow ?_ (by omega) _ | refine Below.alloc ?_ (by simp; omega) _)
end Go.Proofs.YtnaedcennichlaaGreatDoor
