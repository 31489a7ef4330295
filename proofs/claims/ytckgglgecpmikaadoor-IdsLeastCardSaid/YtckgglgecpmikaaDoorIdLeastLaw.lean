/-
  IdsLeast: each id that is told was free, and all lesser ones were taken. The card, without a bound: for every input.
-/
import Derived.Test.YtckgglgecpmikaaDoorIdHelp
import Derived.Test.YtckgglgecpmikaaDoorIdFrame
import Derived.Test.YtckgglgecpmikaaDoorTie
import Derived.Test.YtckgglgecpmikaaDoorCards
import Derived.SevenTiedAt
import Derived.ProofKit
import Derived.Deep.OwnRows
set_option linter.unusedSimpArgs false
set_option linter.unusedVariables false
namespace Go.Proofs.YtckgglgecpmikaaDoor
section
open Go.RowKit
def oIdLeastLaw1 : Oper := ({ dst := some 27, op := Go.Op.move (Go.Operand.tmp 3), type := 22, pos := "outright.go:18", after := #[], guard := none } : Oper)
def oIdLeastLaw2 : Oper := ({ dst := some 28, op := Go.Op.move (Go.Operand.tmp 0), type := 30, pos := "outright.go:18", after := #[], guard := none } : Oper)
def oIdLeastLaw3 : Oper := ({ dst := some 29, op := Go.Op.move (Go.Operand.tmp 6), type := 3, pos := "outright.go:18", after := #[], guard := none } : Oper)
def oIdLeastLaw4 : Oper := ({ dst := some 30, op := Go.Op.indexAddr 30 (Go.Operand.tmp 28) (Go.Operand.tmp 29), type := 0, pos := "outright.go:18", after := #[{ on := 1, ground := Go.Ground.data }, { on := 2, ground := Go.Ground.data }], guard := none } : Oper)
def oIdLeastLaw5 : Oper := ({ dst := some 31, op := Go.Op.load 25 (Go.Operand.tmp 30), type := 25, pos := "outright.go:18", after := #[{ on := 3, ground := Go.Ground.data }], guard := none } : Oper)
def oIdLeastLaw6 : Oper := ({ dst := some 33, op := Go.Op.move (Go.Operand.tmp 4), type := 45, pos := "outright.go:18", after := #[], guard := none } : Oper)
def oIdLeastLaw7 : Oper := ({ dst := some 34, op := Go.Op.move (Go.Operand.tmp 0), type := 30, pos := "outright.go:18", after := #[], guard := none } : Oper)
def oIdLeastLaw8 : Oper := ({ dst := some 35, op := Go.Op.move (Go.Operand.tmp 6), type := 3, pos := "outright.go:18", after := #[], guard := none } : Oper)
def oIdLeastLaw9 : Oper := ({ dst := some 36, op := Go.Op.indexAddr 30 (Go.Operand.tmp 34) (Go.Operand.tmp 35), type := 0, pos := "outright.go:18", after := #[{ on := 7, ground := Go.Ground.data }, { on := 8, ground := Go.Ground.data }], guard := none } : Oper)
def oIdLeastLaw10 : Oper := ({ dst := some 37, op := Go.Op.load 25 (Go.Operand.tmp 36), type := 25, pos := "outright.go:18", after := #[{ on := 9, ground := Go.Ground.data }], guard := none } : Oper)
def oIdLeastLaw11 : Oper := ({ dst := some 38, op := Go.Op.indexAddr 45 (Go.Operand.tmp 33) (Go.Operand.tmp 37), type := 0, pos := "outright.go:18", after := #[{ on := 6, ground := Go.Ground.data }, { on := 10, ground := Go.Ground.data }], guard := none } : Oper)
def oIdLeastLaw12 : Oper := ({ dst := some 39, op := Go.Op.load 4 (Go.Operand.tmp 38), type := 4, pos := "outright.go:18", after := #[{ on := 11, ground := Go.Ground.data }], guard := none } : Oper)
def oIdLeastLaw13 : Oper := ({ dst := some 32, op := Go.Op.call { callee := Go.Callee.value (Go.Operand.func 12), args := #[Go.Operand.tmp 27, Go.Operand.tmp 31], argTypes := #[22, 25] }, type := 4, pos := "outright.go:18", after := #[{ on := 0, ground := Go.Ground.data }, { on := 4, ground := Go.Ground.data }], guard := none } : Oper)
def oIdLeastLaw14 : Oper := ({ dst := some 40, op := Go.Op.binOp Go.BinOp.neq 4 (Go.Operand.tmp 32) (Go.Operand.tmp 39) 4, type := 4, pos := "outright.go:18", after := #[{ on := 5, ground := Go.Ground.data }, { on := 12, ground := Go.Ground.data }], guard := none } : Oper)
end
open Go.RowKit Go.ChangeShapes Go.WideShapes Go.ChangeAt
namespace lawIdsLeast
theorem infoB : (Tryd.prog.info? 4).map (fun i => (i.zero, i.size, i.bytes)) = some (some (.bool false), 1, 1) := by kernel_rfl
theorem wpList_makeB {P : Program} {w : World} {ops : Array Oper} {rest : List Oper} {o : Oper} {a : Act} {Q : Exit → Act → World → Prop} (hgd : o.guard = none) (x y : Operand) (T : TypeId)
    (ho : o.op = Op.makeSlice T x y) {e : TypeId} {z : Value} {bytes : Nat} (hT : P.underlying T = some (.slice e)) (hE : (P.info? e).map (fun i => (i.zero, i.size, i.bytes)) = some (some z, 1, bytes)) (hz : z.cells = #[z])
    (N : Int) (n : Nat) (hN : N = (n : Int)) (hx : a.eval x = .int .i64 N) (hy : a.eval y = .int .i64 N) (hb : bytes * n ≤ 281474976710656) (hn : n ≤ 9223372036854775807)
    (h : ∀ W, W.rowIs w.heap.size e n (fun _ => z) → Below w.heap.size w W → W.heap.size = w.heap.size + 1 → wpList P ops Q rest (a.put o.dst (.slice (some ⟨w.heap.size, 0, none⟩) n n)) W) : wpList P ops Q (o :: rest) a w := by
  refine wpList_plain hgd fun K hK' => ?_
  subst hN
  have hrun := run_make_row' (P := P) T e z bytes hT hE hz .i64 .i64 n hb hn w
  unfold Oper.wp
  simp [execOp, ho, hx, hy, hrun, Result.andThen]
  exact hK' _ _ (h _ (World.rowIs_made w z n e) (below_alloc (Below.refl _ _) _) (by simp))
/-- The pool, and the row that says what is taken. -/
structure PR (B : Nat) (w0 w : World) (t : Nat) (F : Nat → Prop) (L : List Nat) (b : Nat) : Prop where
  pi : PI w t F L
  below : Below B w0 w
  own : ∀ b, F b → B ≤ b
  size : B ≤ w.heap.size
  row : w.rowIs b 4 65536 (fun j => .bool (decide (j ∈ L)))
  off : ¬ F b
  new : B ≤ b
section
variable {B t b : Nat} {w0 w w' : World} {F : Nat → Prop} {L M : List Nat} {e : Ending}
/-- Behind a call on the pool and a store to the row. -/
theorem PR.next {F' : Nat → Prop} (h : PR B w0 w t F L b) (hP : PI w' t F' M) (hU : Outs w w' F) (hV : ∀ x, F' x → F x ∨ w.heap.size ≤ x) (i : Nat) (r : Bool) (hM : ∀ j, decide (j ∈ M) = if j = i then r else decide (j ∈ L)) :
    PR B w0 (w'.setCell ⟨b, i, none⟩ (.bool r)) t F' M b := by
  have hoff : ¬ F' b := fun hf => by
    rcases hV b hf with h2 | h2
    · exact h.off h2
    · have := h.row.lt; omega
  refine ⟨hP.keep fun b' hb' => heap_setCell_other w' ⟨b, i, none⟩ b' _ (fun e => hoff (by have e2 : b' = b := e; rwa [← e2])), (h.below.trans (hU.below (B := B) (fun b _ hf => h.own b hf) h.size)).setCell (p := ⟨b, i, none⟩) h.new _, fun x hx => ?_, Nat.le_trans h.size (by simpa [World.setCell] using hU.size), ?_, hoff, h.new⟩
  · rcases hV x hx with h2 | h2
    · exact h.own x h2
    · have := h.size; omega
  · refine ((h.row.of_block (hU.block b h.row.lt h.off)).set i (.bool r)).congr fun j _ => ?_
    show (if j = i then Value.bool r else .bool (decide (j ∈ L))) = .bool (decide (j ∈ M))
    rw [hM]
    split <;> rfl
theorem PR.bl (h : PR B w0 w t F L b) (hb : Below w.heap.size w w') : PR B w0 w' t F L b :=
  ⟨h.pi.below hb, h.below.trans (hb.mono h.size), h.own, Nat.le_trans h.size hb.size, h.row.of_block (hb.block b h.row.lt), h.off, h.new⟩
end
theorem del_dec (z j : Nat) (L : List Nat) : decide (j ∈ delN z L) = if j = z then false else decide (j ∈ L) := by
  split
  · next h => exact decide_eq_false (fun hm => ((del_mem z j L).1 hm).2 h)
  · next h => rw [decide_eq_decide, del_mem]; exact ⟨fun k => k.1, fun k => ⟨k, h⟩⟩
theorem ins_dec (z j : Nat) (L : List Nat) : decide (j ∈ insO ltN z L) = if j = z then true else decide (j ∈ L) := by
  split
  · next h => exact decide_eq_true ((ins_mem z j L).2 (Or.inl h))
  · next h => rw [decide_eq_decide, ins_mem]; exact ⟨fun k => k.resolve_left h, Or.inr⟩
theorem new_row {w : World} {b : Nat} (h : w.rowIs b 4 65536 (fun _ => .bool false)) : w.rowIs b 4 65536 (fun j => .bool (decide (j ∈ ([] : List Nat)))) :=
  h.congr fun j _ => by simp
set_option maxRecDepth 1000000 in
set_option maxHeartbeats 8000000 in
theorem walk (w : World) (hG : GloT w) (A : Option Addr) (n c : Nat) (l : List Nat) (hs : Vals w A n (l.map fun (x : Nat) => Value.int .u16 (x : Int))) (hc : n ≤ c) (hn : n ≤ 9223372036854775807) (hi : Hid (∀ x ∈ l, x ≤ 65535)) :
    Calls Tryd.prog 5 #[.slice A n c] w fun e w' => e = .returned (.bool true) ∧ Below w.heap.size w w' := by
  have HG := Lib.hid hG
  have HS := Lib.hid hs
  clear hG hs
  by_cases h400 : n ≤ 400
  · have hnI : ¬ (n : Int) > 400 := by omega
    go_enter Tryd.func5, Tryd.ntmps5
    go_wp2_with fail
    refine (iNew _).mono ?_
    rintro e w1 ⟨t, F, rfl, hT, hb1, hF⟩
    have HT := Lib.hid hT
    have HF := Lib.hid hF
    have hs1 := hb1.size
    clear hT hF
    go_wp2_with (at_make; refine wpList_makeB rfl _ _ 45 rfl Tryd.underlying45 infoB rfl 65536 65536 rfl rfl rfl (by decide) (by decide) ?_)
    intro W hrow hbW hsz
    obtain ⟨b, hb⟩ : ∃ b, b = w1.heap.size := ⟨_, rfl⟩
    have hPR : PR w.heap.size w W t F [] b := ⟨HT.out.below hbW, below_more hb1 hbW, HF.out, by omega, by rw [hb]; exact new_row hrow, fun hf => by have := HT.out.lt b hf; omega, by omega⟩
    have HPR := Lib.hid hPR
    rw [← hb]
    clear hrow hbW hsz hPR hb hb1 hs1 hnI
    go_wp2_with fail
    go_loopw [5, 6] (fun m i wr => ∃ (k : Nat) (F : Nat → Prop) (L : List Nat), i = .int .i64 k ∧ m = .int .i64 (L.length : Nat) ∧ k ≤ n ∧ L.length ≤ k ∧ PR w.heap.size w wr t F L b) (fun _ i _ => n - (intOf i).toNat)
    case atStart => exact ⟨0, F, [], rfl, rfl, by omega, Nat.le_refl _, HPR.out⟩
    case round =>
      clear HPR HT HF
      obtain ⟨k, F, L, rfl, rfl, hk, hLk, hP⟩ := hrel
      have HP := Lib.hid hP
      by_cases hlt : k < n
      · obtain ⟨b1, o1, x, rfl, hx, hat⟩ := HS.out.at_ hlt
        have hb1l : b1 < w.heap.size := World.block_lt_of_cell? _ _ hat
        rw [List.getElem?_map, Option.map_eq_some_iff] at hx
        obtain ⟨z, hz, rfl⟩ := hx
        have hz65 := hi.out z (List.mem_of_getElem? hz)
        have hcx := (hP.below.cell hb1l).trans hat
        have hkI : (k : Int) < (n : Int) := by omega
        have hk0 : (0 : Int) ≤ (k : Int) := by omega
        have hzI : (z : Int) < 65536 := by omega
        have hz0 : (0 : Int) ≤ (z : Int) := by omega
        have HAT := Lib.hid hat
        have hb1b : ¬ b = b1 := by have := hP.new; omega
        have hb1F : ∀ b', F b' → b' ≠ b1 := fun b' hf e => by have := hP.own b' hf; omega
        clear hz hat
        by_cases hzz : z = 0
        · subst hzz
          obtain ⟨id, hid⟩ := lst_ex L hP.pi.srt (fun i hi => (hP.pi.pos i hi).1)
          have hidl := hid.len
          have hid1 := hid.pos
          have hl : L.length < 65535 := by omega
          have HID := Lib.hid hid
          have hP2 : PR w.heap.size w wr t F L b := hP
          clear hid hP
          go_wp2_with fail
          refine (iTake HP.out.pi (HG.out.below HP.out.below) id _ hl HID.out rfl).mono ?_
          rintro e w4 ⟨F4, rfl, hP4, hU4, hV4⟩
          have hPN := HP.out.next hP4 hU4 hV4 id true (ins_dec id · L)
          have hrow4 := HP.out.row.of_block (hU4.block b HP.out.row.lt HP.out.off)
          have q2 : w4.cell? ⟨b, id, none⟩ = some (.bool false) := by
            rw [hrow4.cell (by omega)]
            exact congrArg some (congrArg Value.bool (decide_eq_false HID.out.no))
          have hfr := hrow4.frozen id
          have HPN := Lib.hid hPN
          have HROW := Lib.hid hrow4
          have hI1 : ¬ (id : Int) < 1 := by omega
          have hI2 : ¬ (id : Int) > (L.length : Int) + 1 := by omega
          have hI3 : (id : Int) < 65536 := by omega
          have hI4 : (0 : Int) ≤ (id : Int) := by omega
          clear hPN hP4 hU4 hV4 hrow4 hP2 hcx hzI hz0 hz65 hb1F
          go_wp2_with fail
          go_loopw [9] (fun i wr => ∃ j : Nat, i = .int .u16 j ∧ 1 ≤ j ∧ j ≤ id ∧ w4 = wr) (fun i _ => id - (intOf i).toNat)
          case atStart => exact ⟨1, rfl, by omega, by omega, rfl⟩
          case round =>
            obtain ⟨j, rfl, hj1, hj2, rfl⟩ := hrel
            by_cases hjl : j < id
            · have q3 : w4.cell? ⟨b, j, none⟩ = some (.bool true) := by
                rw [HROW.out.cell (by omega)]
                exact congrArg some (congrArg Value.bool (decide_eq_true (HID.out.low j hj1 hjl)))
              have hjI : (j : Int) < (id : Int) := by omega
              have hj0 : (0 : Int) ≤ (j : Int) := by omega
              have hj6 : (j : Int) < 65536 := by omega
              go_wp2_with fail
              go_roundw
              case rel => exact ⟨j + 1, by go_num, by omega, by omega, trivial⟩
              case measure => simp [intOf]; omega
            · obtain rfl : j = id := by omega
              go_wp2_with fail
              go_roundw
              case rel => exact ⟨k + 1, F4, insO ltN j L, by go_num, by rw [ins_len']; go_num, by omega, by rw [ins_len']; omega, HPN.out⟩
              case measure => simp [intOf]; omega
        · have hne : ((z : Int) != 0) = true := by simp; omega
          obtain ⟨s, hs⟩ : ∃ s, decide (z ∈ L) = s := ⟨_, rfl⟩
          have hcb := hP.row.cell (show z < 65536 by omega)
          rw [hs] at hcb
          have hss : (s != s) = false := by cases s <;> rfl
          have HSS := Lib.hid hs
          have HBF := Lib.hid hb1F
          clear hs hP hb1F
          go_wp2_with fail
          refine wp_region_held_drew (S := (fun w' => w'.cell? ⟨b1, o1 + k, none⟩ = some (.int .u16 (z : Int)) ∧ w'.cell? ⟨b, z, none⟩ = some (.bool s))) (by kernel_rfl) (⟨hcx, hcb⟩) (fun hHeld => ?_)
          obtain ⟨wd, hwd⟩ : ∃ wd, wd = wr.drew := ⟨_, rfl⟩
          have hbd : Below wr.heap.size wr wd := by rw [hwd]; exact (Below.refl _ _).drew
          rw [← hwd] at hHeld ⊢
          clear hwd hcx hcb
          have HPd := Lib.hid (HP.out.bl hbd)
          refine tkY 0 oIdLeastLaw1 ?vv3_7_0 rfl (by kernel_rfl) (by kernel_rfl) (by kernel_rfl) (fun _ _ _ h => h) (by rfl) ?hy3_7_0 (by assumption) ?rest3_7_0
          case hy3_7_0 => (intro w hSw; unfold oIdLeastLaw1; (try dsimp only at hSw); (try go_split_ands); go_simp; all_goals with_reducible rfl)
          try simp only [oIdLeastLaw1, Act.put, sA, sB, sC]
          refine tkY 1 oIdLeastLaw2 ?vv3_7_1 rfl (by kernel_rfl) (by kernel_rfl) (by kernel_rfl) (fun _ _ _ h => h) (by rfl) ?hy3_7_1 (by assumption) ?rest3_7_1
          case hy3_7_1 => (intro w hSw; unfold oIdLeastLaw2; (try dsimp only at hSw); (try go_split_ands); go_simp; all_goals with_reducible rfl)
          try simp only [oIdLeastLaw2, Act.put, sA, sB, sC]
          refine tkY 2 oIdLeastLaw3 ?vv3_7_2 rfl (by kernel_rfl) (by kernel_rfl) (by kernel_rfl) (fun _ _ _ h => h) (by rfl) ?hy3_7_2 (by assumption) ?rest3_7_2
          case hy3_7_2 => (intro w hSw; unfold oIdLeastLaw3; (try dsimp only at hSw); (try go_split_ands); go_simp; all_goals with_reducible rfl)
          try simp only [oIdLeastLaw3, Act.put, sA, sB, sC]
          refine tkY 3 oIdLeastLaw4 ?vv3_7_3 rfl (by kernel_rfl) (by kernel_rfl) (by kernel_rfl) (fun _ _ _ h => h) (by rfl) ?hy3_7_3 (by assumption) ?rest3_7_3
          case hy3_7_3 => (intro w hSw; unfold oIdLeastLaw4; (try dsimp only at hSw); (try go_split_ands); go_simp; all_goals with_reducible rfl)
          try simp only [oIdLeastLaw4, Act.put, sA, sB, sC]
          refine tkY 4 oIdLeastLaw5 ?vv3_8_4 rfl (by kernel_rfl) (by kernel_rfl) (by kernel_rfl) (fun _ _ _ h => h) (by rfl) ?hy3_8_4 (by assumption) ?rest3_8_4
          case hy3_8_4 => (intro w hSw; unfold oIdLeastLaw5; (try dsimp only at hSw); have q9 := hSw.1; clear hSw; go_simp; all_goals with_reducible rfl)
          try simp only [oIdLeastLaw5, Act.put, sA, sB, sC]
          refine tkY 6 oIdLeastLaw6 ?vv3_9_6 rfl (by kernel_rfl) (by kernel_rfl) (by kernel_rfl) (fun _ _ _ h => h) (by rfl) ?hy3_9_6 (by assumption) ?rest3_9_6
          case hy3_9_6 => (intro w hSw; unfold oIdLeastLaw6; (try dsimp only at hSw); (try go_split_ands); go_simp; all_goals with_reducible rfl)
          try simp only [oIdLeastLaw6, Act.put, sA, sB, sC]
          refine tkY 7 oIdLeastLaw7 ?vv3_9_7 rfl (by kernel_rfl) (by kernel_rfl) (by kernel_rfl) (fun _ _ _ h => h) (by rfl) ?hy3_9_7 (by assumption) ?rest3_9_7
          case hy3_9_7 => (intro w hSw; unfold oIdLeastLaw7; (try dsimp only at hSw); (try go_split_ands); go_simp; all_goals with_reducible rfl)
          try simp only [oIdLeastLaw7, Act.put, sA, sB, sC]
          refine tkY 8 oIdLeastLaw8 ?vv3_9_8 rfl (by kernel_rfl) (by kernel_rfl) (by kernel_rfl) (fun _ _ _ h => h) (by rfl) ?hy3_9_8 (by assumption) ?rest3_9_8
          case hy3_9_8 => (intro w hSw; unfold oIdLeastLaw8; (try dsimp only at hSw); (try go_split_ands); go_simp; all_goals with_reducible rfl)
          try simp only [oIdLeastLaw8, Act.put, sA, sB, sC]
          refine tkY 9 oIdLeastLaw9 ?vv3_9_9 rfl (by kernel_rfl) (by kernel_rfl) (by kernel_rfl) (fun _ _ _ h => h) (by rfl) ?hy3_9_9 (by assumption) ?rest3_9_9
          case hy3_9_9 => (intro w hSw; unfold oIdLeastLaw9; (try dsimp only at hSw); (try go_split_ands); go_simp; all_goals with_reducible rfl)
          try simp only [oIdLeastLaw9, Act.put, sA, sB, sC]
          refine tkY 10 oIdLeastLaw10 ?vv3_10_10 rfl (by kernel_rfl) (by kernel_rfl) (by kernel_rfl) (fun _ _ _ h => h) (by rfl) ?hy3_10_10 (by assumption) ?rest3_10_10
          case hy3_10_10 => (intro w hSw; unfold oIdLeastLaw10; (try dsimp only at hSw); have q9 := hSw.1; clear hSw; go_simp; all_goals with_reducible rfl)
          try simp only [oIdLeastLaw10, Act.put, sA, sB, sC]
          refine tkY 11 oIdLeastLaw11 ?vv3_11_11 rfl (by kernel_rfl) (by kernel_rfl) (by kernel_rfl) (fun _ _ _ h => h) (by rfl) ?hy3_11_11 (by assumption) ?rest3_11_11
          case hy3_11_11 => (intro w hSw; unfold oIdLeastLaw11; (try dsimp only at hSw); (try go_split_ands); go_simp; all_goals with_reducible rfl)
          try simp only [oIdLeastLaw11, Act.put, sA, sB, sC]
          refine tkY 12 oIdLeastLaw12 ?vv3_12_12 rfl (by kernel_rfl) (by kernel_rfl) (by kernel_rfl) (fun _ _ _ h => h) (by rfl) ?hy3_12_12 (by assumption) ?rest3_12_12
          case hy3_12_12 => (intro w hSw; unfold oIdLeastLaw12; (try dsimp only at hSw); have q9 := hSw.2; clear hSw; go_simp; all_goals with_reducible rfl)
          try simp only [oIdLeastLaw12, Act.put, sA, sB, sC]
          refine wpAnyH_ready (rs := [5]) (by kernel_rfl) (by simp) ?_
          refine AllReadyH.cons (o := oIdLeastLaw13) rfl (fun K hK => ?_) AllReadyH.nil
          unfold oIdLeastLaw13
          go_simp
          (go_at_call 12; refine (iFree_any HPd.out.pi z s hz65 HSS.out).mono ?_; rintro e w4 ⟨F4, rfl, hP4, hU4, hV4⟩)
          refine hK.out _ _ ?_ (fun hHeld => ?_)
          · (exact ⟨hU4.cell _ _ hHeld.1 (fun hf => HBF.out _ hf rfl), hU4.cell _ _ hHeld.2 HPd.out.off⟩)
          clear hK K
          try simp only [oIdLeastLaw13, Act.put, sA, sB, sC]
          refine tkY 13 oIdLeastLaw14 ?vv3_13_13 rfl (by kernel_rfl) (by kernel_rfl) (by kernel_rfl) (fun _ _ _ h => h) (by rfl) ?hy3_13_13 (by assumption) ?rest3_13_13
          case hy3_13_13 => (intro w hSw; unfold oIdLeastLaw14; (try dsimp only at hSw); (try go_split_ands); go_simp; all_goals with_reducible rfl)
          try simp only [oIdLeastLaw14, Act.put, sA, sB, sC]
          refine wpAnyH_done (by kernel_rfl) ?_ _
          have q1 := hHeld.1
          have q2 := hHeld.2
          have hfr := (HPd.out.row.of_block (hU4.block b HPd.out.row.lt HPd.out.off)).frozen z
          have hPN := HPd.out.next hP4 hU4 hV4 z false (del_dec z · L)
          have HPN := Lib.hid hPN
          clear hHeld hP4 hU4 hV4 hss hPN
          cases s with
          | true =>
            have hm : z ∈ L := of_decide_eq_true HSS.out
            have hdl := del_len HP.out.pi.srt hm
            have hL1 : (1 : Int) ≤ (L.length : Int) := by omega
            clear hm
            go_wp2_with fail
            go_roundw
            case rel => exact ⟨k + 1, F4, delN z L, by go_num, by congr 1; omega, by omega, by omega, HPN.out⟩
            case measure => simp [intOf]; omega
          | false =>
            have hm : z ∉ L := of_decide_eq_false HSS.out
            have hdn := del_no hm
            rw [hdn] at HPN
            clear hm hdn
            go_wp2_with fail
            go_roundw
            case rel => exact ⟨k + 1, F4, L, by go_num, rfl, by omega, by omega, HPN.out⟩
            case measure => simp [intOf]; omega
      · have HLL := iLen hP.pi
        have hbw := hP.below
        have heq : ((L.length : Int) == (L.length : Int)) = true := by simp
        have HIL := Lib.hid HLL
        clear HLL hP
        go_wp2_with fail
        refine HIL.out.mono ?_
        rintro e w5 ⟨rfl, rfl⟩
        go_wp2_with fail
        refine (awake_any _ (HG.out.below hbw)).mono ?_
        rintro e w6 ⟨rfl, hb6⟩
        have hb7 := below_more hbw hb6
        go_wp2_with fail
        go_ret
        exact ⟨rfl, hb7⟩
  · have hnI : (n : Int) > 400 := by omega
    go_enter Tryd.func5, Tryd.ntmps5
    go_wp2_with fail
    refine (awake_any _ HG.out).mono ?_
    rintro e w6 ⟨rfl, hb6⟩
    go_wp2_with fail
    go_ret
    exact ⟨rfl, hb6⟩
set_option maxRecDepth 100000 in
theorem lifted (os : Os) (started : os.Started) (H : Type) (enc : TypeId × Value → H) :
    ReturnsInHanded {} Tryd.checked os 5 .any (fun w args => (Rows.idsLeastSpec.pre enc Tryd.prog Tryd.f5 [] false w args ∧ laidMetH Tryd.prog laidL w) ∧ sizedMet enc Tryd.prog Tryd.f5 (OpenSpec.ofChange Rows.idsLeastSpec) false w args)
      (Rows.idsLeastSpec.post enc Tryd.prog Tryd.f5 false true false false) := by
  refine handed_laidT (C := Tryd.checked) (X := fun w _ => laidMetH Tryd.prog laidL w) own_none started (by kernel_rfl) Tryd.func5 (laidT_witness os Rows.idsLeastSpec #[.slice none 0 0] (by kernel_rfl) (by kernel_rfl) (by kernel_rfl)) ?_
  intro W base args ds gs before hval0 hW hlm
  have hval : ∀ (j : Nat) t v, Tryd.f5.params[j]? = some t → args[j]? = some v → Value.okWide Tryd.prog W .any base t v := hval0
  have hWk := hW
  obtain ⟨p, q, hA0, hV, hbef, _, _⟩ := hWk
  have hA : DataW.TrodAll enc Tryd.prog W 0 (fun _ => true) true Tryd.f5.params.toList args.toList ds p := hA0
  obtain ⟨rfl, rfl⟩ := trodVars_none hV
  rw [Tryd.params5] at hA hval
  obtain ⟨v0, vs0, d0, ds0, p0, q0, hargs, rfl, hp0, h0, r0⟩ := trodAll_cons hA
  obtain ⟨rfl, rfl, hpn⟩ := trodAll_nil r0
  obtain rfl : args = #[v0] := by cases args; simp_all
  obtain ⟨A0, n0, c0, l0, rfl, hs0, _, hc0, hn0, hi0⟩ := open_U16s Tryd.underlying30 Tryd.underlying25 cells_u16 (hval 0 30 v0 rfl rfl) h0
  refine (walk W (glot_of hlm) A0 n0 c0 l0 hs0 hc0 (by unfold maxLen at hn0; omega) hi0).mono fun e W' ⟨he, hg⟩ => ?_
  subst he
  exact ⟨_, rfl, law_post laid_out (by kernel_rfl) rfl (by kernel_rfl) Tryd.underlying4 hW rfl hg⟩

theorem over : Rows.idsLeastRow.holds Tryd.pinned (OpenSpec.ofChange Rows.idsLeastSpec) :=
  OpenClaim.holds_of_wide 5 Tryd.f5 rfl rfl rfl rfl rfl rfl rfl ⟨rfl, rfl, rfl, rfl, rfl⟩ rfl rfl rfl rfl rfl (by kernel_rfl) Tryd.func5 (by kernel_rfl)
    (of_decide_eq_true (by kernel_rfl)) (by unfold Func.isWrapper; first | (rw [if_pos (by decide +kernel)]; kernel_rfl) | (rw [if_neg (by decide +kernel)]; exact ⟨rfl, rfl⟩))
    (fun os started H enc _ => lifted os started H enc)

/-- THE STATEMENT: the card. -/
theorem proved : Rows.IdsLeastCardSaid :=
  Claim7.holds_tied_plain_at .later [] [.data] true Rows.idsLeastCard.stood.harness false over (fun _ h => by cases h) (by kernel_rfl) (fun _ h => by cases h) idsLeast_row_tie rfl ⟨rfl, rfl⟩ (by kernel_rfl) rfl
    (fun f fn hf hfn => by
      obtain rfl : f = 5 := Option.some.inj ((show Tryd.prog.funcNamed Rows.idsLeastRow.func = some 5 by kernel_rfl).symm.trans hf) |>.symm
      obtain rfl : fn = Tryd.f5 := (Option.some.inj (Tryd.func5.symm.trans hfn)).symm
      exact ⟨by kernel_rfl, fun j t ht => by
        have hm : t ∈ Tryd.f5.params.toList := by simpa using Array.mem_of_getElem? ht
        have hall : (Tryd.f5.params.toList.all fun u => !Tryd.prog.wantsStandIn u) = true := by kernel_rfl
        exact (show Tryd.prog.wantsStandIn t = false by simpa using List.all_eq_true.1 hall t hm)⟩)
    (by kernel_rfl)
end lawIdsLeast
end Go.Proofs.YtckgglgecpmikaaDoor
