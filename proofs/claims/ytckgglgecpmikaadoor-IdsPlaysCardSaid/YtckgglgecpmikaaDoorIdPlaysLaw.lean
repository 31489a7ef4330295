/-
  IdsPlays: whatever is taken and freed: each answer is the document's, and the ids that are taken are. The card, without a bound: for every input.
-/
import Derived.Test.YtckgglgecpmikaaDoorIdRef
import Derived.Test.YtckgglgecpmikaaDoorIdFrame
import Derived.Test.YtckgglgecpmikaaDoorTie
import Derived.Test.YtckgglgecpmikaaDoorCards
import Derived.SevenTiedAt
import Derived.ProofKit
set_option linter.unusedSimpArgs false
set_option linter.unusedVariables false
namespace Go.Proofs.YtckgglgecpmikaaDoor
section
open Go.RowKit
def oIdPlaysLaw1 : Oper := ({ dst := some 83, op := Go.Op.move (Go.Operand.tmp 3), type := 22, pos := "law.go:101", after := #[], guard := none } : Oper)
def oIdPlaysLaw2 : Oper := ({ dst := some 85, op := Go.Op.move (Go.Operand.tmp 4), type := 39, pos := "law.go:101", after := #[], guard := none } : Oper)
def oIdPlaysLaw3 : Oper := ({ dst := some 86, op := Go.Op.nilCheck (Go.Operand.tmp 85), type := 0, pos := "law.go:101", after := #[{ on := 2, ground := Go.Ground.data }], guard := none } : Oper)
def oIdPlaysLaw4 : Oper := ({ dst := some 87, op := Go.Op.fieldAddr 42 (Go.Operand.tmp 86) 0, type := 0, pos := "law.go:101", after := #[{ on := 3, ground := Go.Ground.data }], guard := none } : Oper)
def oIdPlaysLaw5 : Oper := ({ dst := some 88, op := Go.Op.load 30 (Go.Operand.tmp 87), type := 30, pos := "law.go:101", after := #[{ on := 4, ground := Go.Ground.data }], guard := none } : Oper)
def oIdPlaysLaw6 : Oper := ({ dst := some 89, op := Go.Op.call { callee := Go.Callee.builtin Go.Builtin.len, args := #[Go.Operand.tmp 88], argTypes := #[30] }, type := 3, pos := "law.go:101", after := #[{ on := 5, ground := Go.Ground.data }], guard := none } : Oper)
def oIdPlaysLaw7 : Oper := ({ dst := some 84, op := Go.Op.call { callee := Go.Callee.value (Go.Operand.func 11), args := #[Go.Operand.tmp 83], argTypes := #[22] }, type := 3, pos := "law.go:101", after := #[{ on := 0, ground := Go.Ground.data }], guard := none } : Oper)
def oIdPlaysLaw8 : Oper := ({ dst := some 90, op := Go.Op.binOp Go.BinOp.neq 3 (Go.Operand.tmp 84) (Go.Operand.tmp 89) 3, type := 4, pos := "law.go:101", after := #[{ on := 1, ground := Go.Ground.data }, { on := 6, ground := Go.Ground.data }], guard := none } : Oper)
def oIdPlaysLaw9 : Oper := ({ dst := some 47, op := Go.Op.move (Go.Operand.tmp 3), type := 22, pos := "law.go:98", after := #[], guard := none } : Oper)
def oIdPlaysLaw10 : Oper := ({ dst := some 48, op := Go.Op.move (Go.Operand.tmp 0), type := 30, pos := "law.go:98", after := #[], guard := none } : Oper)
def oIdPlaysLaw11 : Oper := ({ dst := some 49, op := Go.Op.move (Go.Operand.tmp 5), type := 3, pos := "law.go:98", after := #[], guard := none } : Oper)
def oIdPlaysLaw12 : Oper := ({ dst := some 50, op := Go.Op.indexAddr 30 (Go.Operand.tmp 48) (Go.Operand.tmp 49), type := 0, pos := "law.go:98", after := #[{ on := 1, ground := Go.Ground.data }, { on := 2, ground := Go.Ground.data }], guard := none } : Oper)
def oIdPlaysLaw13 : Oper := ({ dst := some 51, op := Go.Op.load 25 (Go.Operand.tmp 50), type := 25, pos := "law.go:98", after := #[{ on := 3, ground := Go.Ground.data }], guard := none } : Oper)
def oIdPlaysLaw14 : Oper := ({ dst := some 53, op := Go.Op.move (Go.Operand.tmp 4), type := 39, pos := "law.go:98", after := #[], guard := none } : Oper)
def oIdPlaysLaw15 : Oper := ({ dst := some 54, op := Go.Op.move (Go.Operand.tmp 0), type := 30, pos := "law.go:98", after := #[], guard := none } : Oper)
def oIdPlaysLaw16 : Oper := ({ dst := some 55, op := Go.Op.move (Go.Operand.tmp 5), type := 3, pos := "law.go:98", after := #[], guard := none } : Oper)
def oIdPlaysLaw17 : Oper := ({ dst := some 56, op := Go.Op.indexAddr 30 (Go.Operand.tmp 54) (Go.Operand.tmp 55), type := 0, pos := "law.go:98", after := #[{ on := 7, ground := Go.Ground.data }, { on := 8, ground := Go.Ground.data }], guard := none } : Oper)
def oIdPlaysLaw18 : Oper := ({ dst := some 57, op := Go.Op.load 25 (Go.Operand.tmp 56), type := 25, pos := "law.go:98", after := #[{ on := 9, ground := Go.Ground.data }], guard := none } : Oper)
def oIdPlaysLaw19 : Oper := ({ dst := some 52, op := Go.Op.call { callee := Go.Callee.value (Go.Operand.func 13), args := #[Go.Operand.tmp 47, Go.Operand.tmp 51], argTypes := #[22, 25] }, type := 4, pos := "law.go:98", after := #[{ on := 0, ground := Go.Ground.data }, { on := 4, ground := Go.Ground.data }], guard := none } : Oper)
def oIdPlaysLaw20 : Oper := ({ dst := some 58, op := Go.Op.call { callee := Go.Callee.value (Go.Operand.func 18), args := #[Go.Operand.tmp 53, Go.Operand.tmp 57], argTypes := #[39, 25] }, type := 4, pos := "law.go:98", after := #[{ on := 6, ground := Go.Ground.data }, { on := 10, ground := Go.Ground.data }, { on := 5, ground := Go.Ground.chain }], guard := none } : Oper)
def oIdPlaysLaw21 : Oper := ({ dst := some 59, op := Go.Op.binOp Go.BinOp.neq 4 (Go.Operand.tmp 52) (Go.Operand.tmp 58) 4, type := 4, pos := "law.go:98", after := #[{ on := 5, ground := Go.Ground.data }, { on := 11, ground := Go.Ground.data }], guard := none } : Oper)
def oIdPlaysLaw22 : Oper := ({ dst := some 60, op := Go.Op.move (Go.Operand.tmp 59), type := 4, pos := "law.go:98", after := #[{ on := 12, ground := Go.Ground.data }, { on := 11, ground := Go.Ground.chain }], guard := none } : Oper)
def oIdPlaysLaw23 : Oper := ({ dst := some 61, op := Go.Op.move (Go.Operand.tmp 3), type := 22, pos := "law.go:98", after := #[{ on := 13, ground := Go.Ground.guard }], guard := some (13, false) } : Oper)
def oIdPlaysLaw24 : Oper := ({ dst := some 62, op := Go.Op.move (Go.Operand.tmp 0), type := 30, pos := "law.go:98", after := #[{ on := 13, ground := Go.Ground.guard }], guard := some (13, false) } : Oper)
def oIdPlaysLaw25 : Oper := ({ dst := some 63, op := Go.Op.move (Go.Operand.tmp 5), type := 3, pos := "law.go:98", after := #[{ on := 13, ground := Go.Ground.guard }], guard := some (13, false) } : Oper)
def oIdPlaysLaw26 : Oper := ({ dst := some 64, op := Go.Op.indexAddr 30 (Go.Operand.tmp 62) (Go.Operand.tmp 63), type := 0, pos := "law.go:98", after := #[{ on := 15, ground := Go.Ground.data }, { on := 16, ground := Go.Ground.data }, { on := 13, ground := Go.Ground.guard }], guard := some (13, false) } : Oper)
def oIdPlaysLaw27 : Oper := ({ dst := some 65, op := Go.Op.load 25 (Go.Operand.tmp 64), type := 25, pos := "law.go:98", after := #[{ on := 17, ground := Go.Ground.data }, { on := 13, ground := Go.Ground.guard }], guard := some (13, false) } : Oper)
def oIdPlaysLaw28 : Oper := ({ dst := some 67, op := Go.Op.move (Go.Operand.tmp 4), type := 39, pos := "law.go:98", after := #[{ on := 13, ground := Go.Ground.guard }], guard := some (13, false) } : Oper)
def oIdPlaysLaw29 : Oper := ({ dst := some 68, op := Go.Op.move (Go.Operand.tmp 0), type := 30, pos := "law.go:98", after := #[{ on := 13, ground := Go.Ground.guard }], guard := some (13, false) } : Oper)
def oIdPlaysLaw30 : Oper := ({ dst := some 69, op := Go.Op.move (Go.Operand.tmp 5), type := 3, pos := "law.go:98", after := #[{ on := 13, ground := Go.Ground.guard }], guard := some (13, false) } : Oper)
def oIdPlaysLaw31 : Oper := ({ dst := some 70, op := Go.Op.indexAddr 30 (Go.Operand.tmp 68) (Go.Operand.tmp 69), type := 0, pos := "law.go:98", after := #[{ on := 21, ground := Go.Ground.data }, { on := 22, ground := Go.Ground.data }, { on := 13, ground := Go.Ground.guard }], guard := some (13, false) } : Oper)
def oIdPlaysLaw32 : Oper := ({ dst := some 71, op := Go.Op.load 25 (Go.Operand.tmp 70), type := 25, pos := "law.go:98", after := #[{ on := 23, ground := Go.Ground.data }, { on := 13, ground := Go.Ground.guard }], guard := some (13, false) } : Oper)
def oIdPlaysLaw33 : Oper := ({ dst := some 66, op := Go.Op.call { callee := Go.Callee.value (Go.Operand.func 12), args := #[Go.Operand.tmp 61, Go.Operand.tmp 65], argTypes := #[22, 25] }, type := 4, pos := "law.go:98", after := #[{ on := 14, ground := Go.Ground.data }, { on := 18, ground := Go.Ground.data }, { on := 13, ground := Go.Ground.chain }, { on := 13, ground := Go.Ground.guard }], guard := some (13, false) } : Oper)
def oIdPlaysLaw34 : Oper := ({ dst := some 72, op := Go.Op.call { callee := Go.Callee.value (Go.Operand.func 19), args := #[Go.Operand.tmp 67, Go.Operand.tmp 71], argTypes := #[39, 25] }, type := 4, pos := "law.go:98", after := #[{ on := 20, ground := Go.Ground.data }, { on := 24, ground := Go.Ground.data }, { on := 19, ground := Go.Ground.chain }, { on := 13, ground := Go.Ground.guard }], guard := some (13, false) } : Oper)
def oIdPlaysLaw35 : Oper := ({ dst := some 73, op := Go.Op.binOp Go.BinOp.neq 4 (Go.Operand.tmp 66) (Go.Operand.tmp 72) 4, type := 4, pos := "law.go:98", after := #[{ on := 19, ground := Go.Ground.data }, { on := 25, ground := Go.Ground.data }, { on := 13, ground := Go.Ground.guard }], guard := some (13, false) } : Oper)
def oIdPlaysLaw36 : Oper := ({ dst := some 74, op := Go.Op.pick (Go.Operand.tmp 60) (Go.Operand.const (Go.Value.bool true)) (Go.Operand.tmp 73), type := 4, pos := "law.go:98", after := #[{ on := 13, ground := Go.Ground.data }, { on := 26, ground := Go.Ground.data }], guard := none } : Oper)
def oIdPlaysLaw37 : Oper := ({ dst := some 75, op := Go.Op.move (Go.Operand.tmp 74), type := 4, pos := "law.go:98", after := #[{ on := 27, ground := Go.Ground.data }, { on := 25, ground := Go.Ground.chain }], guard := none } : Oper)
def oIdPlaysLaw38 : Oper := ({ dst := some 76, op := Go.Op.move (Go.Operand.tmp 3), type := 22, pos := "law.go:98", after := #[{ on := 28, ground := Go.Ground.guard }], guard := some (28, false) } : Oper)
def oIdPlaysLaw39 : Oper := ({ dst := some 77, op := Go.Op.move (Go.Operand.tmp 0), type := 30, pos := "law.go:98", after := #[{ on := 28, ground := Go.Ground.guard }], guard := some (28, false) } : Oper)
def oIdPlaysLaw40 : Oper := ({ dst := some 78, op := Go.Op.move (Go.Operand.tmp 5), type := 3, pos := "law.go:98", after := #[{ on := 28, ground := Go.Ground.guard }], guard := some (28, false) } : Oper)
def oIdPlaysLaw41 : Oper := ({ dst := some 79, op := Go.Op.indexAddr 30 (Go.Operand.tmp 77) (Go.Operand.tmp 78), type := 0, pos := "law.go:98", after := #[{ on := 30, ground := Go.Ground.data }, { on := 31, ground := Go.Ground.data }, { on := 28, ground := Go.Ground.guard }], guard := some (28, false) } : Oper)
def oIdPlaysLaw42 : Oper := ({ dst := some 80, op := Go.Op.load 25 (Go.Operand.tmp 79), type := 25, pos := "law.go:98", after := #[{ on := 32, ground := Go.Ground.data }, { on := 28, ground := Go.Ground.guard }], guard := some (28, false) } : Oper)
def oIdPlaysLaw43 : Oper := ({ dst := some 81, op := Go.Op.call { callee := Go.Callee.value (Go.Operand.func 13), args := #[Go.Operand.tmp 76, Go.Operand.tmp 80], argTypes := #[22, 25] }, type := 4, pos := "law.go:98", after := #[{ on := 29, ground := Go.Ground.data }, { on := 33, ground := Go.Ground.data }, { on := 28, ground := Go.Ground.chain }, { on := 28, ground := Go.Ground.guard }], guard := some (28, false) } : Oper)
def oIdPlaysLaw44 : Oper := ({ dst := some 82, op := Go.Op.pick (Go.Operand.tmp 75) (Go.Operand.const (Go.Value.bool true)) (Go.Operand.tmp 81), type := 4, pos := "law.go:98", after := #[{ on := 28, ground := Go.Ground.data }, { on := 34, ground := Go.Ground.data }], guard := none } : Oper)
end
open Go.RowKit Go.ChangeShapes Go.WideShapes Go.ChangeAt
namespace lawIdsPlays
/-- Both pools, with the same ids, apart from each other. -/
structure DI (B : Nat) (w0 w : World) (t : Nat) (F : Nat → Prop) (g : Nat) (R : Nat → Prop) (L : List Nat) : Prop where
  own : OwnP B w0 w t F L
  ri : RI w g R L
  rB : ∀ b, R b → B ≤ b
  dis : ∀ b, F b → ¬ R b
section
variable {B t g : Nat} {w0 w w1 w2 : World} {F F1 R : Nat → Prop} {L M : List Nat} {e : Ending} {v : Value}
theorem DI.bl (h : DI B w0 w t F g R L) (hb : Below w.heap.size w w1) : DI B w0 w1 t F g R L := ⟨h.own.bl hb, h.ri.below hb, h.rB, h.dis⟩
theorem DI.mid (h : DI B w0 w t F g R L) (hU : Outs w w1 F) : RI w1 g R L := h.ri.outs hU fun b hb hf => h.dis b hf hb
theorem DI.step (h : DI B w0 w t F g R L) (hP : PI w1 t F1 M) (hU : Outs w w1 F) (hV : ∀ x, F1 x → F x ∨ w.heap.size ≤ x) (k : RkP w1 g R M v e w2) : ∃ R2, e = .returned v ∧ DI B w0 w2 t F1 g R2 M ∧ Outs w1 w2 R := by
  obtain ⟨R2, he, hR, hU2, hV2⟩ := k
  have h1 := h.own.next hP hU hV
  have hF1 : ∀ b, F1 b → ¬ R b := fun b hb hr => by
    rcases hV b hb with h2 | h2
    · exact h.dis b h2 hr
    · have := h.ri.lt b hr; omega
  refine ⟨R2, he, ⟨⟨hP.outs hU2 hF1, h1.below.trans (hU2.below (B := B) (fun b _ hf => h.rB b hf) h1.size), h1.own, Nat.le_trans h1.size hU2.size⟩, hR, fun b hb => ?_, fun b hb hr => ?_⟩, hU2⟩
  · rcases hV2 b hb with h2 | h2
    · exact h.rB b h2
    · have := h1.size; omega
  · rcases hV2 b hr with h2 | h2
    · exact hF1 b hb h2
    · have := hP.lt b hb; omega
theorem DI.cell (h : DI B w0 w t F g R L) : ∃ A c, w.cell? ⟨g, 0, none⟩ = some (.slice A L.length c) ∧ Vals w A L.length (L.map u16V) := by
  obtain ⟨v, h1, h2, _, _⟩ := h.ri
  obtain ⟨A, c, rfl, _, hV, _, _⟩ := vrow_form h2
  exact ⟨A, c, cell_of_row w g 0 _ _ _ h1, hV⟩
end
set_option maxRecDepth 100000 in
set_option maxHeartbeats 16000000 in
theorem walk (w : World) (hG : GloT w) (A : Option Addr) (n c : Nat) (l : List Nat) (hs : Vals w A n (l.map fun (x : Nat) => Value.int .u16 (x : Int))) (hc : n ≤ c) (hn : n ≤ 9223372036854775807) (hi : Hid (∀ x ∈ l, x ≤ 65535)) :
    Calls Tryd.prog 4 #[.slice A n c] w fun e w' => e = .returned (.bool true) ∧ Below w.heap.size w w' := by
  have HG := Lib.hid hG
  have HS : Hid (Vals w A n (l.map u16V)) := hs
  clear hG hs
  by_cases h400 : n ≤ 400
  · have hnI : ¬ (n : Int) > 400 := by omega
    go_enter Tryd.func4, Tryd.ntmps4
    go_wp2_with fail
    refine (iNew _).mono ?_
    intro e w1 hN
    obtain ⟨t, F, rfl, hP0⟩ := hN.own
    clear hN
    have HP0 := Lib.hid hP0
    clear hP0
    go_wp2_with fail
    refine (rNew _).mono ?_
    rintro e w2 ⟨g, R, rfl, hR, hb2, hRB⟩
    have hD0 : DI w.heap.size w w2 t F g R [] := ⟨HP0.out.bl hb2, hR, fun b hb => by have := hRB b hb; have := HP0.out.size; omega, fun b hf hr => by have := hRB b hr; have := HP0.out.pi.lt b hf; omega⟩
    have HD0 := Lib.hid hD0
    clear hD0 hR hb2 hRB hnI
    go_wp2_with fail
    go_loopw [5] (fun i wr => ∃ (k : Nat) (F R : Nat → Prop) (L : List Nat), i = .int .i64 k ∧ k ≤ n ∧ L.length ≤ k ∧ DI w.heap.size w wr t F g R L) (fun i _ => n - (intOf i).toNat)
    case atStart => exact ⟨0, F, R, [], rfl, by omega, Nat.le_refl _, HD0.out⟩
    case round =>
      clear HD0 HP0
      obtain ⟨k, F, R, L, rfl, hk, hLk, hD⟩ := hrel
      have HD := Lib.hid hD
      by_cases hlt : k < n
      · obtain ⟨b1, o1, x, rfl, hx, hat⟩ := HS.out.at_ hlt
        have hb1l : b1 < w.heap.size := World.block_lt_of_cell? _ _ hat
        rw [List.getElem?_map, Option.map_eq_some_iff] at hx
        obtain ⟨z, hz, rfl⟩ := hx
        have hz65 := hi.out z (List.mem_of_getElem? hz)
        have hcx : wr.cell? ⟨b1, o1 + k, none⟩ = some (.int .u16 (z : Int)) := (hD.own.below.cell hb1l).trans hat
        have hkI : (k : Int) < (n : Int) := by omega
        have hk0 : (0 : Int) ≤ (k : Int) := by omega
        have HCX := Lib.hid hcx
        have HSR := Lib.hid hD.own.pi.srt
        have HPS := Lib.hid hD.own.pi.pos
        have HBF : Hid (∀ b', F b' → b' ≠ b1) := fun b' hf e => by have := hD.own.own b' hf; omega
        have HBR : Hid (∀ b', R b' → b' ≠ b1) := fun b' hf e => by have := hD.rB b' hf; omega
        clear hz hat hD
        by_cases hzz : z = 0
        · subst hzz
          obtain ⟨id, hid⟩ := lst_ex L HSR.out (fun i hi => (HPS.out i hi).1)
          have hidl := hid.len
          have hid1 := hid.pos
          obtain ⟨kk, rfl⟩ : ∃ kk, id = kk + 1 := ⟨id - 1, by omega⟩
          have hl : L.length < 65535 := by omega
          obtain ⟨M, hM⟩ : ∃ M, insO ltN (kk + 1) L = M := ⟨_, rfl⟩
          have hML : Hid (M.length ≤ k + 1) := by show _ ≤ _; rw [← hM, ins_len']; omega
          have HM := Lib.hid hM
          have HID := Lib.hid hid
          clear hid hM
          go_wp2_with fail
          refine (iTake HD.out.own.pi (HG.out.below HD.out.own.below) (kk + 1) M hl HID.out HM.out).mono ?_
          rintro e w4 ⟨F4, rfl, hP4, hU4, hV4⟩
          have HP4 := Lib.hid hP4
          have HU4 := Lib.hid hU4
          have HV4 := Lib.hid hV4
          clear hP4 hU4 hV4 hcx
          go_wp2_with fail
          refine (rTake (HD.out.mid HU4.out) HSR.out HPS.out kk M hl HID.out HM.out).mono ?_
          intro e w7 hK
          obtain ⟨R4, rfl, hD7, _⟩ := HD.out.step HP4.out HU4.out HV4.out hK
          have HD7 := Lib.hid hD7
          clear hK hD7
          obtain ⟨A7, c7, hcl7, _⟩ := HD7.out.cell
          have hnn : ((M.length : Int) != (M.length : Int)) = false := by simp
          have HLEN := Lib.hid (iLen HD7.out.own.pi)
          go_wp2_with fail
          refine wp_region_held_drew (S := (fun w' => w'.cell? ⟨g, 0, none⟩ = some (.slice A7 M.length c7))) (by kernel_rfl) (hcl7) (fun hHeld => ?_)
          obtain ⟨wd7, hwd7⟩ : ∃ wd, wd = w7.drew := ⟨_, rfl⟩
          have hbd7 : Below w7.heap.size w7 wd7 := by rw [hwd7]; exact (Below.refl _ _).drew
          rw [← hwd7] at hHeld ⊢
          have HD8 := Lib.hid (HD7.out.bl hbd7)
          clear hwd7 hcl7 HLEN
          refine tkY 0 oIdPlaysLaw1 ?vv8_62_0 rfl (by kernel_rfl) (by kernel_rfl) (by kernel_rfl) (fun _ _ _ h => h) (by rfl) ?hy8_62_0 (by assumption) ?rest8_62_0
          case hy8_62_0 => (intro w hSw; unfold oIdPlaysLaw1; (try dsimp only at hSw); (try go_split_ands); go_simp; all_goals with_reducible rfl)
          try simp only [oIdPlaysLaw1, Act.put, sA, sB, sC]
          refine tkY 2 oIdPlaysLaw2 ?vv8_62_2 rfl (by kernel_rfl) (by kernel_rfl) (by kernel_rfl) (fun _ _ _ h => h) (by rfl) ?hy8_62_2 (by assumption) ?rest8_62_2
          case hy8_62_2 => (intro w hSw; unfold oIdPlaysLaw2; (try dsimp only at hSw); (try go_split_ands); go_simp; all_goals with_reducible rfl)
          try simp only [oIdPlaysLaw2, Act.put, sA, sB, sC]
          refine tkY 3 oIdPlaysLaw3 ?vv8_62_3 rfl (by kernel_rfl) (by kernel_rfl) (by kernel_rfl) (fun _ _ _ h => h) (by rfl) ?hy8_62_3 (by assumption) ?rest8_62_3
          case hy8_62_3 => (intro w hSw; unfold oIdPlaysLaw3; (try dsimp only at hSw); (try go_split_ands); go_simp; all_goals with_reducible rfl)
          try simp only [oIdPlaysLaw3, Act.put, sA, sB, sC]
          refine tkY 4 oIdPlaysLaw4 ?vv8_62_4 rfl (by kernel_rfl) (by kernel_rfl) (by kernel_rfl) (fun _ _ _ h => h) (by rfl) ?hy8_62_4 (by assumption) ?rest8_62_4
          case hy8_62_4 => (intro w hSw; unfold oIdPlaysLaw4; (try dsimp only at hSw); (try go_split_ands); go_simp; all_goals with_reducible rfl)
          try simp only [oIdPlaysLaw4, Act.put, sA, sB, sC]
          refine tkY 5 oIdPlaysLaw5 ?vv8_63_5 rfl (by kernel_rfl) (by kernel_rfl) (by kernel_rfl) (fun _ _ _ h => h) (by rfl) ?hy8_63_5 (by assumption) ?rest8_63_5
          case hy8_63_5 => (intro w hSw; unfold oIdPlaysLaw5; (try dsimp only at hSw); have q9 := hSw; clear hSw; go_simp; all_goals with_reducible rfl)
          try simp only [oIdPlaysLaw5, Act.put, sA, sB, sC]
          refine tkY 6 oIdPlaysLaw6 ?vv8_64_6 rfl (by kernel_rfl) (by kernel_rfl) (by kernel_rfl) (fun _ _ _ h => h) (by rfl) ?hy8_64_6 (by assumption) ?rest8_64_6
          case hy8_64_6 => (intro w hSw; unfold oIdPlaysLaw6; (try dsimp only at hSw); (try go_split_ands); go_simp; all_goals with_reducible rfl)
          try simp only [oIdPlaysLaw6, Act.put, sA, sB, sC]
          refine wpAnyH_ready (rs := [1]) (by kernel_rfl) (by simp) ?_
          refine AllReadyH.cons (o := oIdPlaysLaw7) rfl (fun K hK => ?_) AllReadyH.nil
          unfold oIdPlaysLaw7
          go_simp
          (go_at_call 11; refine (iLen HD8.out.own.pi).mono ?_; rintro e w8 ⟨rfl, rfl⟩)
          refine hK.out _ _ ?_ (fun hHeld => ?_)
          · (exact hHeld)
          clear hK K
          try simp only [oIdPlaysLaw7, Act.put, sA, sB, sC]
          refine tkY 7 oIdPlaysLaw8 ?vv8_65_7 rfl (by kernel_rfl) (by kernel_rfl) (by kernel_rfl) (fun _ _ _ h => h) (by rfl) ?hy8_65_7 (by assumption) ?rest8_65_7
          case hy8_65_7 => (intro w hSw; unfold oIdPlaysLaw8; (try dsimp only at hSw); (try go_split_ands); go_simp; all_goals with_reducible rfl)
          try simp only [oIdPlaysLaw8, Act.put, sA, sB, sC]
          refine wpAnyH_done (by kernel_rfl) ?_ _
          clear hHeld hnn
          go_wp2_with fail
          go_roundw
          case rel => exact ⟨k + 1, F4, R4, M, by go_num, by omega, hML.out, HD8.out⟩
          case measure => simp [intOf]; omega
        · have hzne : ((z : Int) == 0) = false := by simp; omega
          obtain ⟨s, hs⟩ : ∃ s, decide (z ∈ L) = s := ⟨_, rfl⟩
          obtain ⟨M, hM⟩ : ∃ M, delN z L = M := ⟨_, rfl⟩
          have hML : Hid (M.length ≤ k + 1) := by
            show _ ≤ _
            have := List.length_filter_le (· != z) L
            rw [← hM]; unfold delN; omega
          have HNM : Hid (decide (z ∈ M) = false) := by show _ = _; rw [← hM]; exact decide_eq_false (fun h => ((del_mem z z L).1 h).2 rfl)
          have hss : (s != s) = false := by cases s <;> rfl
          have HSS := Lib.hid hs
          have HM := Lib.hid hM
          have hll : L.length ≤ 65535 := by omega
          clear hs hM
          go_wp2_with fail
          refine wp_region_held_drew (S := (fun w' => w'.cell? ⟨b1, o1 + k, none⟩ = some (.int .u16 (z : Int)))) (by kernel_rfl) (HCX.out) (fun hHeld => ?_)
          obtain ⟨wd, hwd⟩ : ∃ wd, wd = wr.drew := ⟨_, rfl⟩
          have hbd : Below wr.heap.size wr wd := by rw [hwd]; exact (Below.refl _ _).drew
          rw [← hwd] at hHeld ⊢
          have HDd := Lib.hid (HD.out.bl hbd)
          clear hwd hcx hbd
          refine tkY 0 oIdPlaysLaw9 ?vv9_66_0 rfl (by kernel_rfl) (by kernel_rfl) (by kernel_rfl) (fun _ _ _ h => h) (by rfl) ?hy9_66_0 (by assumption) ?rest9_66_0
          case hy9_66_0 => (intro w hSw; unfold oIdPlaysLaw9; (try dsimp only at hSw); (try go_split_ands); go_simp; all_goals with_reducible rfl)
          try simp only [oIdPlaysLaw9, Act.put, sA, sB, sC]
          refine tkY 1 oIdPlaysLaw10 ?vv9_66_1 rfl (by kernel_rfl) (by kernel_rfl) (by kernel_rfl) (fun _ _ _ h => h) (by rfl) ?hy9_66_1 (by assumption) ?rest9_66_1
          case hy9_66_1 => (intro w hSw; unfold oIdPlaysLaw10; (try dsimp only at hSw); (try go_split_ands); go_simp; all_goals with_reducible rfl)
          try simp only [oIdPlaysLaw10, Act.put, sA, sB, sC]
          refine tkY 2 oIdPlaysLaw11 ?vv9_66_2 rfl (by kernel_rfl) (by kernel_rfl) (by kernel_rfl) (fun _ _ _ h => h) (by rfl) ?hy9_66_2 (by assumption) ?rest9_66_2
          case hy9_66_2 => (intro w hSw; unfold oIdPlaysLaw11; (try dsimp only at hSw); (try go_split_ands); go_simp; all_goals with_reducible rfl)
          try simp only [oIdPlaysLaw11, Act.put, sA, sB, sC]
          refine tkY 3 oIdPlaysLaw12 ?vv9_66_3 rfl (by kernel_rfl) (by kernel_rfl) (by kernel_rfl) (fun _ _ _ h => h) (by rfl) ?hy9_66_3 (by assumption) ?rest9_66_3
          case hy9_66_3 => (intro w hSw; unfold oIdPlaysLaw12; (try dsimp only at hSw); (try go_split_ands); go_simp; all_goals with_reducible rfl)
          try simp only [oIdPlaysLaw12, Act.put, sA, sB, sC]
          refine tkY 4 oIdPlaysLaw13 ?vv9_67_4 rfl (by kernel_rfl) (by kernel_rfl) (by kernel_rfl) (fun _ _ _ h => h) (by rfl) ?hy9_67_4 (by assumption) ?rest9_67_4
          case hy9_67_4 => (intro w hSw; unfold oIdPlaysLaw13; (try dsimp only at hSw); have q9 := hSw; clear hSw; go_simp; all_goals with_reducible rfl)
          try simp only [oIdPlaysLaw13, Act.put, sA, sB, sC]
          refine tkY 6 oIdPlaysLaw14 ?vv9_68_6 rfl (by kernel_rfl) (by kernel_rfl) (by kernel_rfl) (fun _ _ _ h => h) (by rfl) ?hy9_68_6 (by assumption) ?rest9_68_6
          case hy9_68_6 => (intro w hSw; unfold oIdPlaysLaw14; (try dsimp only at hSw); (try go_split_ands); go_simp; all_goals with_reducible rfl)
          try simp only [oIdPlaysLaw14, Act.put, sA, sB, sC]
          refine tkY 7 oIdPlaysLaw15 ?vv9_68_7 rfl (by kernel_rfl) (by kernel_rfl) (by kernel_rfl) (fun _ _ _ h => h) (by rfl) ?hy9_68_7 (by assumption) ?rest9_68_7
          case hy9_68_7 => (intro w hSw; unfold oIdPlaysLaw15; (try dsimp only at hSw); (try go_split_ands); go_simp; all_goals with_reducible rfl)
          try simp only [oIdPlaysLaw15, Act.put, sA, sB, sC]
          refine tkY 8 oIdPlaysLaw16 ?vv9_68_8 rfl (by kernel_rfl) (by kernel_rfl) (by kernel_rfl) (fun _ _ _ h => h) (by rfl) ?hy9_68_8 (by assumption) ?rest9_68_8
          case hy9_68_8 => (intro w hSw; unfold oIdPlaysLaw16; (try dsimp only at hSw); (try go_split_ands); go_simp; all_goals with_reducible rfl)
          try simp only [oIdPlaysLaw16, Act.put, sA, sB, sC]
          refine tkY 9 oIdPlaysLaw17 ?vv9_68_9 rfl (by kernel_rfl) (by kernel_rfl) (by kernel_rfl) (fun _ _ _ h => h) (by rfl) ?hy9_68_9 (by assumption) ?rest9_68_9
          case hy9_68_9 => (intro w hSw; unfold oIdPlaysLaw17; (try dsimp only at hSw); (try go_split_ands); go_simp; all_goals with_reducible rfl)
          try simp only [oIdPlaysLaw17, Act.put, sA, sB, sC]
          refine tkY 10 oIdPlaysLaw18 ?vv9_69_10 rfl (by kernel_rfl) (by kernel_rfl) (by kernel_rfl) (fun _ _ _ h => h) (by rfl) ?hy9_69_10 (by assumption) ?rest9_69_10
          case hy9_69_10 => (intro w hSw; unfold oIdPlaysLaw18; (try dsimp only at hSw); have q9 := hSw; clear hSw; go_simp; all_goals with_reducible rfl)
          try simp only [oIdPlaysLaw18, Act.put, sA, sB, sC]
          refine wpAnyH_ready (rs := [5]) (by kernel_rfl) (by simp) ?_
          refine AllReadyH.cons (o := oIdPlaysLaw19) rfl (fun K hK => ?_) AllReadyH.nil
          unfold oIdPlaysLaw19
          go_simp
          (go_at_call 13; refine (iHas HDd.out.own.pi z s hz65 HSS.out).mono ?_; rintro e w4 ⟨rfl, hb4⟩)
          refine hK.out _ _ ?_ (fun hHeld => ?_)
          · (exact (hb4.cell (World.block_lt_of_cell? _ _ hHeld)).trans hHeld)
          clear hK K
          try simp only [oIdPlaysLaw19, Act.put, sA, sB, sC]
          have HD4 := Lib.hid (HDd.out.bl hb4)
          clear hb4
          refine wpAnyH_ready (rs := [11]) (by kernel_rfl) (by simp) ?_
          refine AllReadyH.cons (o := oIdPlaysLaw20) rfl (fun K hK => ?_) AllReadyH.nil
          unfold oIdPlaysLaw20
          go_simp
          (go_at_call 18; refine (rHas HD4.out.ri HSR.out z s hll HSS.out).mono ?_; rintro e w5 ⟨rfl, rfl⟩)
          refine hK.out _ _ ?_ (fun hHeld => ?_)
          · (exact hHeld)
          clear hK K
          try simp only [oIdPlaysLaw20, Act.put, sA, sB, sC]
          refine tkY 12 oIdPlaysLaw21 ?vv9_70_12 rfl (by kernel_rfl) (by kernel_rfl) (by kernel_rfl) (fun _ _ _ h => h) (by rfl) ?hy9_70_12 (by assumption) ?rest9_70_12
          case hy9_70_12 => (intro w hSw; unfold oIdPlaysLaw21; (try dsimp only at hSw); (try go_split_ands); go_simp; all_goals with_reducible rfl)
          try simp only [oIdPlaysLaw21, Act.put, sA, sB, sC]
          refine tkY 13 oIdPlaysLaw22 ?vv9_70_13 rfl (by kernel_rfl) (by kernel_rfl) (by kernel_rfl) (fun _ _ _ h => h) (by rfl) ?hy9_70_13 (by assumption) ?rest9_70_13
          case hy9_70_13 => (intro w hSw; unfold oIdPlaysLaw22; (try dsimp only at hSw); (try go_split_ands); go_simp; all_goals with_reducible rfl)
          try simp only [oIdPlaysLaw22, Act.put, sA, sB, sC]
          refine tkY 14 oIdPlaysLaw23 ?vv9_70_14 rfl (by kernel_rfl) (by kernel_rfl) (by kernel_rfl) (fun _ _ _ h => h) (by rfl) ?hy9_70_14 (by assumption) ?rest9_70_14
          case hy9_70_14 => (intro w hSw; unfold oIdPlaysLaw23; (try dsimp only at hSw); (try go_split_ands); go_simp; all_goals with_reducible rfl)
          try simp only [oIdPlaysLaw23, Act.put, sA, sB, sC]
          refine tkY 15 oIdPlaysLaw24 ?vv9_70_15 rfl (by kernel_rfl) (by kernel_rfl) (by kernel_rfl) (fun _ _ _ h => h) (by rfl) ?hy9_70_15 (by assumption) ?rest9_70_15
          case hy9_70_15 => (intro w hSw; unfold oIdPlaysLaw24; (try dsimp only at hSw); (try go_split_ands); go_simp; all_goals with_reducible rfl)
          try simp only [oIdPlaysLaw24, Act.put, sA, sB, sC]
          refine tkY 16 oIdPlaysLaw25 ?vv9_70_16 rfl (by kernel_rfl) (by kernel_rfl) (by kernel_rfl) (fun _ _ _ h => h) (by rfl) ?hy9_70_16 (by assumption) ?rest9_70_16
          case hy9_70_16 => (intro w hSw; unfold oIdPlaysLaw25; (try dsimp only at hSw); (try go_split_ands); go_simp; all_goals with_reducible rfl)
          try simp only [oIdPlaysLaw25, Act.put, sA, sB, sC]
          refine tkY 17 oIdPlaysLaw26 ?vv9_70_17 rfl (by kernel_rfl) (by kernel_rfl) (by kernel_rfl) (fun _ _ _ h => h) (by rfl) ?hy9_70_17 (by assumption) ?rest9_70_17
          case hy9_70_17 => (intro w hSw; unfold oIdPlaysLaw26; (try dsimp only at hSw); (try go_split_ands); go_simp; all_goals with_reducible rfl)
          try simp only [oIdPlaysLaw26, Act.put, sA, sB, sC]
          refine tkY 18 oIdPlaysLaw27 ?vv9_71_18 rfl (by kernel_rfl) (by kernel_rfl) (by kernel_rfl) (fun _ _ _ h => h) (by rfl) ?hy9_71_18 (by assumption) ?rest9_71_18
          case hy9_71_18 => (intro w hSw; unfold oIdPlaysLaw27; (try dsimp only at hSw); have q9 := hSw; clear hSw; go_simp; all_goals with_reducible rfl)
          try simp only [oIdPlaysLaw27, Act.put, sA, sB, sC]
          refine tkY 20 oIdPlaysLaw28 ?vv9_72_20 rfl (by kernel_rfl) (by kernel_rfl) (by kernel_rfl) (fun _ _ _ h => h) (by rfl) ?hy9_72_20 (by assumption) ?rest9_72_20
          case hy9_72_20 => (intro w hSw; unfold oIdPlaysLaw28; (try dsimp only at hSw); (try go_split_ands); go_simp; all_goals with_reducible rfl)
          try simp only [oIdPlaysLaw28, Act.put, sA, sB, sC]
          refine tkY 21 oIdPlaysLaw29 ?vv9_72_21 rfl (by kernel_rfl) (by kernel_rfl) (by kernel_rfl) (fun _ _ _ h => h) (by rfl) ?hy9_72_21 (by assumption) ?rest9_72_21
          case hy9_72_21 => (intro w hSw; unfold oIdPlaysLaw29; (try dsimp only at hSw); (try go_split_ands); go_simp; all_goals with_reducible rfl)
          try simp only [oIdPlaysLaw29, Act.put, sA, sB, sC]
          refine tkY 22 oIdPlaysLaw30 ?vv9_72_22 rfl (by kernel_rfl) (by kernel_rfl) (by kernel_rfl) (fun _ _ _ h => h) (by rfl) ?hy9_72_22 (by assumption) ?rest9_72_22
          case hy9_72_22 => (intro w hSw; unfold oIdPlaysLaw30; (try dsimp only at hSw); (try go_split_ands); go_simp; all_goals with_reducible rfl)
          try simp only [oIdPlaysLaw30, Act.put, sA, sB, sC]
          refine tkY 23 oIdPlaysLaw31 ?vv9_72_23 rfl (by kernel_rfl) (by kernel_rfl) (by kernel_rfl) (fun _ _ _ h => h) (by rfl) ?hy9_72_23 (by assumption) ?rest9_72_23
          case hy9_72_23 => (intro w hSw; unfold oIdPlaysLaw31; (try dsimp only at hSw); (try go_split_ands); go_simp; all_goals with_reducible rfl)
          try simp only [oIdPlaysLaw31, Act.put, sA, sB, sC]
          refine tkY 24 oIdPlaysLaw32 ?vv9_73_24 rfl (by kernel_rfl) (by kernel_rfl) (by kernel_rfl) (fun _ _ _ h => h) (by rfl) ?hy9_73_24 (by assumption) ?rest9_73_24
          case hy9_73_24 => (intro w hSw; unfold oIdPlaysLaw32; (try dsimp only at hSw); have q9 := hSw; clear hSw; go_simp; all_goals with_reducible rfl)
          try simp only [oIdPlaysLaw32, Act.put, sA, sB, sC]
          refine wpAnyH_ready (rs := [19]) (by kernel_rfl) (by simp) ?_
          refine AllReadyH.cons (o := oIdPlaysLaw33) rfl (fun K hK => ?_) AllReadyH.nil
          unfold oIdPlaysLaw33
          go_simp
          (go_at_call 12; refine (iFree_any HD4.out.own.pi z s hz65 HSS.out).mono ?_; rw [HM.out]; rintro e w5 ⟨F4, rfl, hP5, hU5, hV5⟩)
          refine hK.out _ _ ?_ (fun hHeld => ?_)
          · (exact hU5.cell _ _ hHeld (fun hf => HBF.out _ hf rfl))
          clear hK K
          try simp only [oIdPlaysLaw33, Act.put, sA, sB, sC]
          have HRI := Lib.hid (HD4.out.mid hU5)
          have hst : ∀ (w2 : World) (e : Ending) (v : Value), RkP w5 g R M v e w2 → ∃ R2, e = .returned v ∧ DI w.heap.size w w2 t F4 g R2 M ∧ Outs w5 w2 R := fun w2 e v kk => HD4.out.step hP5 hU5 hV5 kk
          have HST := Lib.hid hst
          clear hP5 hU5 hV5 hst
          have hrf : Calls Tryd.prog 19 #[.pointer (some ⟨g, 0, none⟩), .int .u16 (z : Nat)] w5 fun e w' => RkP w5 g R M (.bool s) e w' := by
            rw [← HM.out, ← HSS.out]
            by_cases hm : z ∈ L
            · rw [decide_eq_true hm]; exact rFree_yes HRI.out HSR.out z hll hm
            · rw [decide_eq_false hm, del_no hm]; exact rFree_no HRI.out HSR.out z hll hm
          have HRF := Lib.hid hrf
          clear hrf
          refine wpAnyH_ready (rs := [25]) (by kernel_rfl) (by simp) ?_
          refine AllReadyH.cons (o := oIdPlaysLaw34) rfl (fun K hK => ?_) AllReadyH.nil
          unfold oIdPlaysLaw34
          go_simp
          (go_at_call 19; refine HRF.out.mono ?_; intro e w6 hRK; obtain ⟨R4, rfl, hD6, hU6⟩ := HST.out _ _ _ hRK)
          refine hK.out _ _ ?_ (fun hHeld => ?_)
          · (exact hU6.cell _ _ hHeld (fun hf => HBR.out _ hf rfl))
          clear hK K
          try simp only [oIdPlaysLaw34, Act.put, sA, sB, sC]
          have HD6 := Lib.hid hD6
          clear hD6 hU6 HST HRI HRF hRK
          refine tkY 26 oIdPlaysLaw35 ?vv9_74_26 rfl (by kernel_rfl) (by kernel_rfl) (by kernel_rfl) (fun _ _ _ h => h) (by rfl) ?hy9_74_26 (by assumption) ?rest9_74_26
          case hy9_74_26 => (intro w hSw; unfold oIdPlaysLaw35; (try dsimp only at hSw); (try go_split_ands); go_simp; all_goals with_reducible rfl)
          try simp only [oIdPlaysLaw35, Act.put, sA, sB, sC]
          refine tkY 27 oIdPlaysLaw36 ?vv9_74_27 rfl (by kernel_rfl) (by kernel_rfl) (by kernel_rfl) (fun _ _ _ h => h) (by rfl) ?hy9_74_27 (by assumption) ?rest9_74_27
          case hy9_74_27 => (intro w hSw; unfold oIdPlaysLaw36; (try dsimp only at hSw); (try go_split_ands); go_simp; all_goals with_reducible rfl)
          try simp only [oIdPlaysLaw36, Act.put, sA, sB, sC]
          refine tkY 28 oIdPlaysLaw37 ?vv9_74_28 rfl (by kernel_rfl) (by kernel_rfl) (by kernel_rfl) (fun _ _ _ h => h) (by rfl) ?hy9_74_28 (by assumption) ?rest9_74_28
          case hy9_74_28 => (intro w hSw; unfold oIdPlaysLaw37; (try dsimp only at hSw); (try go_split_ands); go_simp; all_goals with_reducible rfl)
          try simp only [oIdPlaysLaw37, Act.put, sA, sB, sC]
          refine tkY 29 oIdPlaysLaw38 ?vv9_74_29 rfl (by kernel_rfl) (by kernel_rfl) (by kernel_rfl) (fun _ _ _ h => h) (by rfl) ?hy9_74_29 (by assumption) ?rest9_74_29
          case hy9_74_29 => (intro w hSw; unfold oIdPlaysLaw38; (try dsimp only at hSw); (try go_split_ands); go_simp; all_goals with_reducible rfl)
          try simp only [oIdPlaysLaw38, Act.put, sA, sB, sC]
          refine tkY 30 oIdPlaysLaw39 ?vv9_74_30 rfl (by kernel_rfl) (by kernel_rfl) (by kernel_rfl) (fun _ _ _ h => h) (by rfl) ?hy9_74_30 (by assumption) ?rest9_74_30
          case hy9_74_30 => (intro w hSw; unfold oIdPlaysLaw39; (try dsimp only at hSw); (try go_split_ands); go_simp; all_goals with_reducible rfl)
          try simp only [oIdPlaysLaw39, Act.put, sA, sB, sC]
          refine tkY 31 oIdPlaysLaw40 ?vv9_74_31 rfl (by kernel_rfl) (by kernel_rfl) (by kernel_rfl) (fun _ _ _ h => h) (by rfl) ?hy9_74_31 (by assumption) ?rest9_74_31
          case hy9_74_31 => (intro w hSw; unfold oIdPlaysLaw40; (try dsimp only at hSw); (try go_split_ands); go_simp; all_goals with_reducible rfl)
          try simp only [oIdPlaysLaw40, Act.put, sA, sB, sC]
          refine tkY 32 oIdPlaysLaw41 ?vv9_74_32 rfl (by kernel_rfl) (by kernel_rfl) (by kernel_rfl) (fun _ _ _ h => h) (by rfl) ?hy9_74_32 (by assumption) ?rest9_74_32
          case hy9_74_32 => (intro w hSw; unfold oIdPlaysLaw41; (try dsimp only at hSw); (try go_split_ands); go_simp; all_goals with_reducible rfl)
          try simp only [oIdPlaysLaw41, Act.put, sA, sB, sC]
          refine tkY 33 oIdPlaysLaw42 ?vv9_75_33 rfl (by kernel_rfl) (by kernel_rfl) (by kernel_rfl) (fun _ _ _ h => h) (by rfl) ?hy9_75_33 (by assumption) ?rest9_75_33
          case hy9_75_33 => (intro w hSw; unfold oIdPlaysLaw42; (try dsimp only at hSw); have q9 := hSw; clear hSw; go_simp; all_goals with_reducible rfl)
          try simp only [oIdPlaysLaw42, Act.put, sA, sB, sC]
          refine wpAnyH_ready (rs := [34]) (by kernel_rfl) (by simp) ?_
          refine AllReadyH.cons (o := oIdPlaysLaw43) rfl (fun K hK => ?_) AllReadyH.nil
          unfold oIdPlaysLaw43
          go_simp
          (go_at_call 13; refine (iHas HD6.out.own.pi z false hz65 HNM.out).mono ?_; rintro e w7 ⟨rfl, hb7⟩)
          refine hK.out _ _ ?_ (fun hHeld => ?_)
          · (exact (hb7.cell (World.block_lt_of_cell? _ _ hHeld)).trans hHeld)
          clear hK K
          try simp only [oIdPlaysLaw43, Act.put, sA, sB, sC]
          have HD7 := Lib.hid (HD6.out.bl hb7)
          clear hb7
          refine tkY 35 oIdPlaysLaw44 ?vv9_76_35 rfl (by kernel_rfl) (by kernel_rfl) (by kernel_rfl) (fun _ _ _ h => h) (by rfl) ?hy9_76_35 (by assumption) ?rest9_76_35
          case hy9_76_35 => (intro w hSw; unfold oIdPlaysLaw44; (try dsimp only at hSw); (try go_split_ands); go_simp; all_goals with_reducible rfl)
          try simp only [oIdPlaysLaw44, Act.put, sA, sB, sC]
          refine wpAnyH_done (by kernel_rfl) ?_ _
          clear hHeld hss
          obtain ⟨A7, c7, hcl7, _⟩ := HD7.out.cell
          have hnn : ((M.length : Int) != (M.length : Int)) = false := by simp
          have HLEN := Lib.hid (iLen HD7.out.own.pi)
          go_wp2_with fail
          refine wp_region_held_drew (S := (fun w' => w'.cell? ⟨g, 0, none⟩ = some (.slice A7 M.length c7))) (by kernel_rfl) (hcl7) (fun hHeld => ?_)
          obtain ⟨wd7, hwd7⟩ : ∃ wd, wd = w7.drew := ⟨_, rfl⟩
          have hbd7 : Below w7.heap.size w7 wd7 := by rw [hwd7]; exact (Below.refl _ _).drew
          rw [← hwd7] at hHeld ⊢
          have HD8 := Lib.hid (HD7.out.bl hbd7)
          clear hwd7 hcl7 HLEN
          refine tkY 0 oIdPlaysLaw1 ?vv10_77_0 rfl (by kernel_rfl) (by kernel_rfl) (by kernel_rfl) (fun _ _ _ h => h) (by rfl) ?hy10_77_0 (by assumption) ?rest10_77_0
          case hy10_77_0 => (intro w hSw; unfold oIdPlaysLaw1; (try dsimp only at hSw); (try go_split_ands); go_simp; all_goals with_reducible rfl)
          try simp only [oIdPlaysLaw1, Act.put, sA, sB, sC]
          refine tkY 2 oIdPlaysLaw2 ?vv10_77_2 rfl (by kernel_rfl) (by kernel_rfl) (by kernel_rfl) (fun _ _ _ h => h) (by rfl) ?hy10_77_2 (by assumption) ?rest10_77_2
          case hy10_77_2 => (intro w hSw; unfold oIdPlaysLaw2; (try dsimp only at hSw); (try go_split_ands); go_simp; all_goals with_reducible rfl)
          try simp only [oIdPlaysLaw2, Act.put, sA, sB, sC]
          refine tkY 3 oIdPlaysLaw3 ?vv10_77_3 rfl (by kernel_rfl) (by kernel_rfl) (by kernel_rfl) (fun _ _ _ h => h) (by rfl) ?hy10_77_3 (by assumption) ?rest10_77_3
          case hy10_77_3 => (intro w hSw; unfold oIdPlaysLaw3; (try dsimp only at hSw); (try go_split_ands); go_simp; all_goals with_reducible rfl)
          try simp only [oIdPlaysLaw3, Act.put, sA, sB, sC]
          refine tkY 4 oIdPlaysLaw4 ?vv10_77_4 rfl (by kernel_rfl) (by kernel_rfl) (by kernel_rfl) (fun _ _ _ h => h) (by rfl) ?hy10_77_4 (by assumption) ?rest10_77_4
          case hy10_77_4 => (intro w hSw; unfold oIdPlaysLaw4; (try dsimp only at hSw); (try go_split_ands); go_simp; all_goals with_reducible rfl)
          try simp only [oIdPlaysLaw4, Act.put, sA, sB, sC]
          refine tkY 5 oIdPlaysLaw5 ?vv10_78_5 rfl (by kernel_rfl) (by kernel_rfl) (by kernel_rfl) (fun _ _ _ h => h) (by rfl) ?hy10_78_5 (by assumption) ?rest10_78_5
          case hy10_78_5 => (intro w hSw; unfold oIdPlaysLaw5; (try dsimp only at hSw); have q9 := hSw; clear hSw; go_simp; all_goals with_reducible rfl)
          try simp only [oIdPlaysLaw5, Act.put, sA, sB, sC]
          refine tkY 6 oIdPlaysLaw6 ?vv10_79_6 rfl (by kernel_rfl) (by kernel_rfl) (by kernel_rfl) (fun _ _ _ h => h) (by rfl) ?hy10_79_6 (by assumption) ?rest10_79_6
          case hy10_79_6 => (intro w hSw; unfold oIdPlaysLaw6; (try dsimp only at hSw); (try go_split_ands); go_simp; all_goals with_reducible rfl)
          try simp only [oIdPlaysLaw6, Act.put, sA, sB, sC]
          refine wpAnyH_ready (rs := [1]) (by kernel_rfl) (by simp) ?_
          refine AllReadyH.cons (o := oIdPlaysLaw7) rfl (fun K hK => ?_) AllReadyH.nil
          unfold oIdPlaysLaw7
          go_simp
          (go_at_call 11; refine (iLen HD8.out.own.pi).mono ?_; rintro e w8 ⟨rfl, rfl⟩)
          refine hK.out _ _ ?_ (fun hHeld => ?_)
          · (exact hHeld)
          clear hK K
          try simp only [oIdPlaysLaw7, Act.put, sA, sB, sC]
          refine tkY 7 oIdPlaysLaw8 ?vv10_80_7 rfl (by kernel_rfl) (by kernel_rfl) (by kernel_rfl) (fun _ _ _ h => h) (by rfl) ?hy10_80_7 (by assumption) ?rest10_80_7
          case hy10_80_7 => (intro w hSw; unfold oIdPlaysLaw8; (try dsimp only at hSw); (try go_split_ands); go_simp; all_goals with_reducible rfl)
          try simp only [oIdPlaysLaw8, Act.put, sA, sB, sC]
          refine wpAnyH_done (by kernel_rfl) ?_ _
          clear hHeld hnn
          go_wp2_with fail
          go_roundw
          case rel => exact ⟨k + 1, F4, R4, M, by go_num, by omega, hML.out, HD8.out⟩
          case measure => simp [intOf]; omega
      · obtain ⟨A8, c8, hcl8, _⟩ := hD.cell
        have hbw := hD.own.below
        clear hD
        go_wp2_with fail
        refine (all_any (fun W hW => iAll (HD.out.own.pi.below hW)) (HG.out.below hbw)).mono ?_
        rintro e w5 ⟨A9, c9, rfl, hV9, _, hb5⟩
        have HD9 := Lib.hid (HD.out.bl hb5)
        obtain ⟨A10, c10, hcl10, hV10⟩ := HD9.out.cell
        have HV9 := Lib.hid hV9
        have HV10 := Lib.hid hV10
        have hb6 := HD9.out.own.below
        clear hcl8 hV9 hV10 hb5 hbw
        go_wp2_with fail
        refine (same_any A9 _ c9 A10 _ c10 L _ HV9.out HV10.out (by omega)).mono ?_
        rintro e w7 ⟨rfl, hb7⟩
        have hbw := below_more hb6 hb7
        clear hb6 hb7
        go_wp2_with fail
        refine (awake_any _ (HG.out.below hbw)).mono ?_
        rintro e w8 ⟨rfl, hb8⟩
        have hb9 := below_more hbw hb8
        go_wp2_with fail
        go_ret
        exact ⟨rfl, hb9⟩
  · have hnI : (n : Int) > 400 := by omega
    go_enter Tryd.func4, Tryd.ntmps4
    go_wp2_with fail
    refine (awake_any _ HG.out).mono ?_
    rintro e w6 ⟨rfl, hb6⟩
    go_wp2_with fail
    go_ret
    exact ⟨rfl, hb6⟩
set_option maxRecDepth 100000 in
theorem lifted (os : Os) (started : os.Started) (H : Type) (enc : TypeId × Value → H) :
    ReturnsInHanded {} Tryd.checked os 4 .any (fun w args => (Rows.idsPlaysSpec.pre enc Tryd.prog Tryd.f4 [] false w args ∧ laidMetH Tryd.prog laidL w) ∧ sizedMet enc Tryd.prog Tryd.f4 (OpenSpec.ofChange Rows.idsPlaysSpec) false w args)
      (Rows.idsPlaysSpec.post enc Tryd.prog Tryd.f4 false true false false) := by
  refine handed_laidT (C := Tryd.checked) (X := fun w _ => laidMetH Tryd.prog laidL w) own_none started (by kernel_rfl) Tryd.func4 (laidT_witness os Rows.idsPlaysSpec #[.slice none 0 0] (by kernel_rfl) (by kernel_rfl) (by kernel_rfl)) ?_
  intro W base args ds gs before hval0 hW hlm
  have hval : ∀ (j : Nat) t v, Tryd.f4.params[j]? = some t → args[j]? = some v → Value.okWide Tryd.prog W .any base t v := hval0
  have hWk := hW
  obtain ⟨p, q, hA0, hV, hbef, _, _⟩ := hWk
  have hA : DataW.TrodAll enc Tryd.prog W 0 (fun _ => true) true Tryd.f4.params.toList args.toList ds p := hA0
  obtain ⟨rfl, rfl⟩ := trodVars_none hV
  rw [Tryd.params4] at hA hval
  obtain ⟨v0, vs0, d0, ds0, p0, q0, hargs, rfl, hp0, h0, r0⟩ := trodAll_cons hA
  obtain ⟨rfl, rfl, hpn⟩ := trodAll_nil r0
  obtain rfl : args = #[v0] := by cases args; simp_all
  obtain ⟨A0, n0, c0, l0, rfl, hs0, _, hc0, hn0, hi0⟩ := open_U16s Tryd.underlying30 Tryd.underlying25 cells_u16 (hval 0 30 v0 rfl rfl) h0
  refine (walk W (glot_of hlm) A0 n0 c0 l0 hs0 hc0 (by unfold maxLen at hn0; omega) hi0).mono fun e W' ⟨he, hg⟩ => ?_
  subst he
  exact ⟨_, rfl, law_post laid_out (by kernel_rfl) rfl (by kernel_rfl) Tryd.underlying4 hW rfl hg⟩

theorem over : Rows.idsPlaysRow.holds Tryd.pinned (OpenSpec.ofChange Rows.idsPlaysSpec) :=
  OpenClaim.holds_of_wide 4 Tryd.f4 rfl rfl rfl rfl rfl rfl rfl ⟨rfl, rfl, rfl, rfl, rfl⟩ rfl rfl rfl rfl rfl (by kernel_rfl) Tryd.func4 (by kernel_rfl)
    (of_decide_eq_true (by kernel_rfl)) (by unfold Func.isWrapper; first | (rw [if_pos (by decide +kernel)]; kernel_rfl) | (rw [if_neg (by decide +kernel)]; exact ⟨rfl, rfl⟩))
    (fun os started H enc _ => lifted os started H enc)

/-- THE STATEMENT: the card. -/
theorem proved : Rows.IdsPlaysCardSaid :=
  Claim7.holds_tied_plain_at .later [] [.data] true Rows.idsPlaysCard.stood.harness false over (fun _ h => by cases h) (by kernel_rfl) (fun _ h => by cases h) idsPlays_row_tie rfl ⟨rfl, rfl⟩ (by kernel_rfl) rfl
    (fun f fn hf hfn => by
      obtain rfl : f = 4 := Option.some.inj ((show Tryd.prog.funcNamed Rows.idsPlaysRow.func = some 4 by kernel_rfl).symm.trans hf) |>.symm
      obtain rfl : fn = Tryd.f4 := (Option.some.inj (Tryd.func4.symm.trans hfn)).symm
      exact ⟨by kernel_rfl, fun j t ht => by
        have hm : t ∈ Tryd.f4.params.toList := by simpa using Array.mem_of_getElem? ht
        have hall : (Tryd.f4.params.toList.all fun u => !Tryd.prog.wantsStandIn u) = true := by kernel_rfl
        exact (show Tryd.prog.wantsStandIn t = false by simpa using List.all_eq_true.1 hall t hm)⟩)
    (by kernel_rfl)
end lawIdsPlays
end Go.Proofs.YtckgglgecpmikaaDoor
