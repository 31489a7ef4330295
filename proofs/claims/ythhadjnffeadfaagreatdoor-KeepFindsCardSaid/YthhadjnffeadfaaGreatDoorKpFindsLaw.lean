/-
  KeepFinds: what filters find; what is answered may be written over. The card, without a bound: for every input.
-/
import Derived.Test.YthhadjnffeadfaaGreatDoorKpBoth
import Derived.Test.YthhadjnffeadfaaGreatDoorWrFrame
import Derived.Test.YthhadjnffeadfaaGreatDoorTie
import Derived.Test.YthhadjnffeadfaaGreatDoorCards
import Derived.SevenTiedAt
import Derived.ProofKit
set_option linter.unusedSimpArgs false
set_option linter.unusedVariables false
namespace Go.Proofs.YthhadjnffeadfaaGreatDoor
section
open Go.RowKit
def oKpFindsLaw1 : Oper := ({ dst := some 78, op := Go.Op.move (Go.Operand.tmp 5), type := 25, pos := "law.go:103", after := #[], guard := none } : Oper)
def oKpFindsLaw2 : Oper := ({ dst := some 80, op := Go.Op.move (Go.Operand.tmp 6), type := 27, pos := "law.go:103", after := #[], guard := none } : Oper)
def oKpFindsLaw3 : Oper := ({ dst := some 81, op := Go.Op.nilCheck (Go.Operand.tmp 80), type := 0, pos := "law.go:103", after := #[{ on := 2, ground := Go.Ground.data }], guard := none } : Oper)
def oKpFindsLaw4 : Oper := ({ dst := some 82, op := Go.Op.fieldAddr 29 (Go.Operand.tmp 81) 0, type := 0, pos := "law.go:103", after := #[{ on := 3, ground := Go.Ground.data }], guard := none } : Oper)
def oKpFindsLaw5 : Oper := ({ dst := some 83, op := Go.Op.load 22 (Go.Operand.tmp 82), type := 22, pos := "law.go:103", after := #[{ on := 4, ground := Go.Ground.data }], guard := none } : Oper)
def oKpFindsLaw6 : Oper := ({ dst := some 79, op := Go.Op.call { callee := Go.Callee.value (Go.Operand.func 16), args := #[Go.Operand.tmp 78], argTypes := #[25] }, type := 22, pos := "law.go:103", after := #[{ on := 0, ground := Go.Ground.data }], guard := none } : Oper)
def oKpFindsLaw7 : Oper := ({ dst := some 84, op := Go.Op.call { callee := Go.Callee.value (Go.Operand.func 15), args := #[Go.Operand.tmp 79, Go.Operand.tmp 83], argTypes := #[22, 22] }, type := 4, pos := "law.go:103", after := #[{ on := 1, ground := Go.Ground.data }, { on := 5, ground := Go.Ground.data }, { on := 1, ground := Go.Ground.chain }], guard := none } : Oper)
def oKpFindsLaw8 : Oper := ({ dst := some 85, op := Go.Op.move (Go.Operand.tmp 84), type := 4, pos := "law.go:103", after := #[{ on := 6, ground := Go.Ground.data }, { on := 6, ground := Go.Ground.chain }], guard := none } : Oper)
def oKpFindsLaw9 : Oper := ({ dst := some 86, op := Go.Op.call { callee := Go.Callee.value (Go.Operand.func 6), args := #[], argTypes := #[] }, type := 4, pos := "law.go:103", after := #[{ on := 7, ground := Go.Ground.chain }, { on := 7, ground := Go.Ground.guard }], guard := some (7, true) } : Oper)
def oKpFindsLaw10 : Oper := ({ dst := some 87, op := Go.Op.pick (Go.Operand.tmp 85) (Go.Operand.tmp 86) (Go.Operand.const (Go.Value.bool false)), type := 4, pos := "law.go:103", after := #[{ on := 7, ground := Go.Ground.data }, { on := 8, ground := Go.Ground.data }], guard := none } : Oper)
def oKpFindsLaw11 : Oper := ({ dst := some 4, op := Go.Op.assign (Go.Operand.tmp 87), type := 4, pos := "law.go:103", after := #[{ on := 9, ground := Go.Ground.data }, { on := 8, ground := Go.Ground.chain }, { on := 0, ground := Go.Ground.phase }, { on := 1, ground := Go.Ground.phase }, { on := 2, ground := Go.Ground.phase }, { on := 3, ground := Go.Ground.phase }, { on := 4, ground := Go.Ground.phase }, { on := 5, ground := Go.Ground.phase }, { on := 6, ground := Go.Ground.phase }, { on := 7, ground := Go.Ground.phase }, { on := 8, ground := Go.Ground.phase }, { on := 9, ground := Go.Ground.phase }], guard := none } : Oper)
end
open Go.RowKit Go.ChangeShapes Go.WideShapes Go.ChangeAt
open Go.ChangeMaps (open_string shut_string)
/-- A block of n messages that may be written over. -/
def WrB (w : World) (b n : Nat) : Prop := ∃ cur T, w.heap[b]? = some (.cells cur T (0, 0)) ∧ n * 4 ≤ cur.size
theorem WrB.cell {w : World} {b n : Nat} (h : WrB w b n) (j : Nat) (hj : j < n * 4) : ∃ v, w.cell? ⟨b, j, none⟩ = some v := by
  obtain ⟨cur, T, h1, h2⟩ := h
  have : j < cur.size := by omega
  exact ⟨cur[j], by rw [cell_of_row w b j _ _ _ h1, Array.getElem?_eq_getElem this]⟩
theorem WrB.fr {w : World} {b n : Nat} (h : WrB w b n) (j : Nat) : w.frozen? ⟨b, j, none⟩ = false := by
  obtain ⟨cur, T, h1, _⟩ := h
  unfold World.frozen?; rw [h1]; simp
theorem WrB.set {w : World} {b n : Nat} (h : WrB w b n) (j : Nat) (v : Value) : WrB (w.setCell ⟨b, j, none⟩ v) b n := by
  obtain ⟨cur, T, h1, h2⟩ := h
  exact ⟨_, T, heap_setCell_same w b j _ _ _ h1, by simp; exact h2⟩
theorem WrB.below {w w' : World} {b n : Nat} (h : WrB w b n) (hb : Below w.heap.size w w') : WrB w' b n := by
  obtain ⟨cur, T, h1, h2⟩ := h
  exact ⟨cur, T, (hb.block b (Array.getElem?_eq_some_iff.1 h1).1).trans h1, h2⟩
theorem OwnM.form2 {B : Nat} {w0 wr : World} {v : Value} {L : List Ms} (h : OwnM B w0 wr v L) : ∃ A c, v = .slice A L.length c ∧ Msgs wr A L.length L ∧ (0 < L.length → ∃ b, A = some ⟨b, 0, none⟩ ∧ B ≤ b ∧ WrB wr b L.length) := by
  rcases h.1.2 with ⟨rfl, hn⟩ | ⟨g, cap, cur, rfl, hB, hh, hc, _, hcs, _⟩
  · exact ⟨none, 0, by rw [hn], ⟨rfl, fun h => by omega⟩, fun h => by omega⟩
  · refine ⟨_, _, rfl, ⟨rfl, fun _ => ⟨g, 0, rfl, fun j x hx => ?_⟩⟩, fun _ => ⟨g, rfl, hB, cur, _, hh, ?_⟩⟩
    · have := h.1.cells (g := g) rfl j x hx
      have hadd : (⟨g, 0, none⟩ : Addr).add j = ⟨g, 0 + j, none⟩ := by unfold Addr.add; split <;> simp_all
      rw [hadd] at this
      exact this
    · rw [hcs]; exact Nat.mul_le_mul_right 4 hc
namespace lawKeepFinds
set_option maxRecDepth 100000 in
set_option maxHeartbeats 8000000 in
theorem walk (w : World) (hG : Glo w) (A : Option Addr) (n c : Nat) (l : List Ms) (hs : Msgs w A n l) (hn : n ≤ 9223372036854775807) (hi : Hid (∀ x ∈ l, MIn x))
    (AF : Option Addr) (nf cf : Nat) (fs : List (List UInt8)) (hfs : Strs w AF nf fs) (hnf : nf ≤ 9223372036854775807) (hfl : Hid (∀ x ∈ fs, x.length ≤ 9223372036854775807)) :
    Calls Tryz.prog 4 #[.slice A n c, .slice AF nf cf] w fun e w' => e = .returned (.bool true) ∧ Below w.heap.size w w' := by
  have HG := Lib.hid hG
  have HS := Lib.hid hs
  have HFS := Lib.hid hfs
  clear hG hs hfs
  go_enter Tryz.func4, Tryz.ntmps4
  go_wp2_with fail
  refine (great10_any A n c l _ HS.out hn hi).mono ?_
  rintro e w0 ⟨gg, rfl, hok, rfl⟩
  cases gg with
  | true =>
    go_wp2_with fail
    refine (awake10_any _ HG.out).mono ?_
    rintro e w1 ⟨rfl, hb⟩
    go_wp2_with fail
    go_ret
    exact ⟨rfl, hb⟩
  | false =>
    have HOK := Lib.hid (hok rfl)
    clear hok
    by_cases hf30 : 30 < nf
    · have i30 : (30 : Int) < (nf : Int) := by omega
      go_wp2_with fail
      refine (awake10_any _ HG.out).mono ?_
      rintro e w1 ⟨rfl, hb⟩
      go_wp2_with fail
      go_ret
      exact ⟨rfl, hb⟩
    · have i30 : ¬ (30 : Int) < (nf : Int) := by omega
      have hnl := HS.out.len
      have hn60 : n ≤ 60 := by have := HOK.out.1; omega
      have HNL := Lib.hid hnl
      clear hnl
      go_wp2_with fail
      refine (kNew _).mono ?_
      rintro e w1 ⟨t, F, rfl, hT, hb1, hF⟩
      obtain ⟨W, hW⟩ : ∃ W, W = w1.alloc (.cells #[.slice none 0 0] 29) := ⟨_, rfl⟩
      have hbW := below_more hb1 (show Below w1.heap.size w1 W by rw [hW]; exact (Below.refl _ _).alloc (Nat.le_refl _) _)
      have hD := DK.start hT hF hb1.size hW
      obtain ⟨g, hg⟩ : ∃ g, g = w1.heap.size := ⟨_, rfl⟩
      rw [← hg] at hD
      have HD := Lib.hid hD
      go_wp2_with fail
      rw [← hW, ← hg]
      clear hW hg hT hF hb1 hD
      go_loopw [7] (fun i wr => ∃ (k : Nat) (F : Nat → Prop) (A2 : Option Addr) (n2 c2 : Nat) (L : List Ms), i = .int .i64 k ∧ k ≤ n ∧ Below w.heap.size w wr ∧ DK w.heap.size wr t F g A2 n2 c2 L k) (fun i _ => n - (intOf i).toNat)
      case atStart => exact ⟨0, F, none, 0, 0, [], rfl, by omega, hbW, HD.out⟩
      case round =>
        clear HD hbW
        obtain ⟨k, F, A2, n2, c2, L, rfl, hk, hb, hD⟩ := hrel
        have hDn := hD.n_le
        have HD := Lib.hid hD
        clear hD
        by_cases hlt : k < n
        · obtain ⟨b1, o1, x, rfl, hx, hat⟩ := (HS.out.below hb).at_ hlt
          have hb1l : b1 < w.heap.size := by
            obtain ⟨b9, o9, x9, e9, _, hat9⟩ := HS.out.at_ hlt
            cases e9
            exact hat9.lt
          obtain ⟨hx1, hx2⟩ := HOK.out.2 x (List.mem_of_getElem? hx)
          have HAT := Lib.hid hat
          obtain ⟨x1, x2, x3, x4⟩ := x
          obtain ⟨q0, q1, q2, q3⟩ := hat
          dsimp only at q0 q1 q2 q3 hx1 hx2
          obtain ⟨r, hr⟩ : ∃ r, mayB (x1, x2, x3, x4) = r := ⟨_, rfl⟩
          obtain ⟨M, hM⟩ : ∃ M, setM L (x1, x2, x3, x4) = M := ⟨_, rfl⟩
          have HR := Lib.hid hr
          have HM := Lib.hid hM
          have HKM : Hid (KsOk (k + 1) M) := by show KsOk _ _; rw [← hM]; exact HD.out.ok.set hx1 hx2
          have hkI : (k : Int) < (n : Int) := by omega
          have hk0 : (0 : Int) ≤ (k : Int) := by omega
          have hLl : L.length ≤ 1000000 := by have := HD.out.ok.2.1; omega
          have hn2 : n2 ≤ 1000 := by omega
          clear hx hr hM
          go_wp2_with fail
          refine (kSet_any HD.out.pt HD.out.ok.1 hLl (x1, x2, x3, x4) M r (by dsimp only; omega) (by dsimp only; omega) HM.out HR.out).mono ?_
          rintro e w6 ⟨F6, rfl, hP6, hU6, hF6⟩
          obtain ⟨q0, q1, q2, q3⟩ := HAT.out.outs hU6 (fun hf => by have := (HD.out.dis b1 hf).1; omega)
          dsimp only at q0 q1 q2 q3
          go_wp2_with fail
          refine (rSet_any (HD.out.mid hU6) hn2 (x1, x2, x3, x4) M r (by dsimp only; omega) HM.out HR.out).mono ?_
          rintro e w7 hR7
          obtain ⟨A7, n7, c7, rfl, hD7, hb7, hU7⟩ := HD.out.step hP6 hU6 hF6 hR7 HKM.out
          have HD7 := Lib.hid hD7
          have hbw7 := hb.trans hb7
          clear hP6 hU6 hF6 hR7 hD7 hb7 hU7 q0 q1 q2 q3
          go_wp2_with fail
          go_roundw
          case rel => exact ⟨k + 1, F6, A7, n7, c7, M, by go_num, by omega, hbw7, HD7.out⟩
          case measure => simp [intOf]; omega
        · have HKL : Hid (KsOk 100 L) := HD.out.ok.le (by omega)
          have hLl : L.length ≤ 100 := HKL.out.2.1
          have HLL : Hid (∀ x ∈ L, x.1.length ≤ 1000000) := HKL.out.lt
          obtain ⟨wo, hwo⟩ : ∃ wo, wo = wr := ⟨_, rfl⟩
          rw [← hwo] at hb HD ⊢
          clear hwo
          go_wp2_with fail
          go_loopw [8] (fun i wr => ∃ k : Nat, i = .int .i64 k ∧ k ≤ nf ∧ Below wo.heap.size wo wr) (fun i _ => nf - (intOf i).toNat)
          case atStart => exact ⟨0, rfl, by omega, Below.refl _ _⟩
          case round =>
            obtain ⟨k, rfl, hk, hbo⟩ := hrel
            have hbw := below_more hb hbo
            by_cases hkf : k < nf
            · obtain ⟨b3, o3, f, rfl, hf, hcf⟩ := (HFS.out.below hbw).at_ hkf
              have hfm := hfl.out f (List.mem_of_getElem? hf)
              have hkI : (k : Int) < (nf : Int) := by omega
              have hk0 : (0 : Int) ≤ (k : Int) := by omega
              have HCF := Lib.hid hcf
              clear hf
              by_cases hf3 : 300 < f.length
              · have i3 : (300 : Int) < (f.length : Int) := by omega
                go_wp2_with fail
                refine (awake10_any _ (HG.out.below hbw)).mono ?_
                rintro e w9 ⟨rfl, hb9⟩
                go_wp2_with fail
                go_ret
                exact ⟨rfl, below_more hbw hb9⟩
              · have i3 : ¬ (300 : Int) < (f.length : Int) := by omega
                have HD2 := Lib.hid (HD.out.below hbo)
                go_wp2_with fail
                refine (kFind f (HG.out.below hbw) HD2.out.pt HKL.out (by omega) (by omega)).mono ?_
                rintro e w4 ⟨v, rfl, hO⟩
                have hb4 := hO.below
                obtain ⟨A4, c4, rfl, hs4, hwb4⟩ := hO.form2
                have HD4 := Lib.hid (HD2.out.below hb4)
                have hcf4 := (hb4.cell (World.block_lt_of_cell? _ _ HCF.out)).trans HCF.out
                obtain ⟨X, hX⟩ : ∃ X, fndM L f = X := ⟨_, rfl⟩
                have hXl : X.length ≤ 100 := by rw [← hX]; exact Nat.le_trans (fnd_len L f) hLl
                rw [hX] at hs4 hwb4 ⊢
                obtain ⟨N, hN⟩ : ∃ N, X.length = N := ⟨_, rfl⟩
                rw [hN] at hs4 hwb4 hXl ⊢
                have HS4 := Lib.hid hs4
                have HWB := Lib.hid hwb4
                have HX := Lib.hid hX
                have HN := Lib.hid hN
                have HB4 := Lib.hid hb4
                clear hO hs4 hwb4 hX hN hb4 hcf
                go_wp2_with fail
                refine (rFind HD4.out.rt (by have := HD4.out.n_le; omega) HLL.out f (by omega)).mono ?_
                rintro e w5 ⟨v, rfl, hO⟩
                rw [HX.out] at hO
                have hb5 := hO.below
                obtain ⟨A5, c5, rfl, _, hs5, _, _⟩ := hO.form
                rw [HN.out] at hs5 ⊢
                have HS5 := Lib.hid hs5
                have HS45 := Lib.hid (HS4.out.below hb5)
                have HWB5 : Hid (0 < N → ∃ b, A4 = some ⟨b, 0, none⟩ ∧ wr.heap.size ≤ b ∧ WrB w5 b N) := fun h => by
                  obtain ⟨b, e, h1, h2⟩ := HWB.out h
                  exact ⟨b, e, h1, h2.below hb5⟩
                have hb6 := below_more HB4.out hb5
                clear hO hs5 hb5 hcf4
                go_wp2_with fail
                refine (sameMsgs_eq A4 N c4 X A5 N c5 X true _ HS45.out HS5.out (by omega) (by simp)).mono ?_
                rintro e w7 ⟨rfl, hb7⟩
                have hb8 := below_more hb6 hb7
                have HWB7 : Hid (0 < N → ∃ b, A4 = some ⟨b, 0, none⟩ ∧ wr.heap.size ≤ b ∧ WrB w7 b N) := fun h => by
                  obtain ⟨b, e, h1, h2⟩ := HWB5.out h
                  exact ⟨b, e, h1, h2.below hb7⟩
                obtain ⟨wp, hwp⟩ : ∃ wp, wp = wr := ⟨_, rfl⟩
                rw [← hwp] at HWB7 hb8 hbo
                clear hb6 hb7 hwp
                go_wp2_with fail
                go_loopw [10] (fun i wr => ∃ j : Nat, i = .int .i64 j ∧ j ≤ N ∧ Below wp.heap.size wp wr ∧ Hid (0 < N → ∃ b, A4 = some ⟨b, 0, none⟩ ∧ wp.heap.size ≤ b ∧ WrB wr b N)) (fun i _ => N - (intOf i).toNat)
                case atStart => exact ⟨0, rfl, by omega, hb8, HWB7⟩
                case round =>
                  obtain ⟨j, rfl, hj, hbj, hwj⟩ := hrel
                  by_cases hjN : j < N
                  · obtain ⟨b, rfl, hbp, hwr⟩ := hwj.out (by omega)
                    obtain ⟨v0, e0⟩ := hwr.cell (j * 4) (by omega)
                    obtain ⟨v1, e1⟩ := hwr.cell (j * 4 + 1) (by omega)
                    obtain ⟨v2, e2⟩ := hwr.cell (j * 4 + 2) (by omega)
                    obtain ⟨v3, e3⟩ := hwr.cell (j * 4 + 3) (by omega)
                    have hfr := hwr.fr
                    have hjI : (j : Int) < (N : Int) := by omega
                    have hj0 : (0 : Int) ≤ (j : Int) := by omega
                    have HW := Lib.hid hwr
                    have HBJ := Lib.hid hbj
                    clear hwr hbj
                    go_wp2_with fail
                    go_roundw
                    case rel => exact ⟨j + 1, by go_num, by omega, (((HBJ.out.setCell (p := ⟨b, j * 4, none⟩) hbp _).setCell (p := ⟨b, j * 4 + 1, none⟩) hbp _).setCell (p := ⟨b, j * 4 + 2, none⟩) hbp _).setCell (p := ⟨b, j * 4 + 3, none⟩) hbp _, fun _ => ⟨b, rfl, hbp, (((HW.out.set _ _).set _ _).set _ _).set _ _⟩⟩
                    case measure => simp [intOf]; omega
                  · have hbz := below_more hbo hbj
                    go_wp2_with fail
                    go_roundw
                    case rel => exact ⟨k + 1, by go_num, by omega, hbz⟩
                    case measure => simp [intOf]; omega
            · have HD2 := Lib.hid (HD.out.below hbo)
              clear hbo
              go_wp2_with fail
              refine wp_region_held_drew (S := (fun w' => Below wr.heap.size wr w')) (by kernel_rfl) ((Below.refl _ _).drew) (fun hHeld => ?_)
              refine tkY 0 oKpFindsLaw1 ?vv8_34_0 rfl (by kernel_rfl) (by kernel_rfl) (by kernel_rfl) (fun _ _ _ h => h) (by rfl) ?hy8_34_0 (by assumption) ?rest8_34_0
              case hy8_34_0 => (intro w hSw; unfold oKpFindsLaw1; (try dsimp only at hSw); (try go_split_ands); go_simp; all_goals with_reducible rfl)
              try simp only [oKpFindsLaw1, Act.put, sA, sB, sC]
              refine tkY 2 oKpFindsLaw2 ?vv8_34_2 rfl (by kernel_rfl) (by kernel_rfl) (by kernel_rfl) (fun _ _ _ h => h) (by rfl) ?hy8_34_2 (by assumption) ?rest8_34_2
              case hy8_34_2 => (intro w hSw; unfold oKpFindsLaw2; (try dsimp only at hSw); (try go_split_ands); go_simp; all_goals with_reducible rfl)
              try simp only [oKpFindsLaw2, Act.put, sA, sB, sC]
              refine tkY 3 oKpFindsLaw3 ?vv8_34_3 rfl (by kernel_rfl) (by kernel_rfl) (by kernel_rfl) (fun _ _ _ h => h) (by rfl) ?hy8_34_3 (by assumption) ?rest8_34_3
              case hy8_34_3 => (intro w hSw; unfold oKpFindsLaw3; (try dsimp only at hSw); (try go_split_ands); go_simp; all_goals with_reducible rfl)
              try simp only [oKpFindsLaw3, Act.put, sA, sB, sC]
              refine tkY 4 oKpFindsLaw4 ?vv8_34_4 rfl (by kernel_rfl) (by kernel_rfl) (by kernel_rfl) (fun _ _ _ h => h) (by rfl) ?hy8_34_4 (by assumption) ?rest8_34_4
              case hy8_34_4 => (intro w hSw; unfold oKpFindsLaw4; (try dsimp only at hSw); (try go_split_ands); go_simp; all_goals with_reducible rfl)
              try simp only [oKpFindsLaw4, Act.put, sA, sB, sC]
              refine tkY 5 oKpFindsLaw5 ?vv8_35_5 rfl (by kernel_rfl) (by kernel_rfl) (by kernel_rfl) (fun _ _ _ h => h) (by rfl) ?hy8_35_5 (by assumption) ?rest8_35_5
              case hy8_35_5 => (intro w hSw; unfold oKpFindsLaw5; (try dsimp only at hSw); have hq := (HD2.out.rt.below hSw).cell; clear hSw; go_simp; all_goals with_reducible rfl)
              try simp only [oKpFindsLaw5, Act.put, sA, sB, sC]
              refine wpAnyH_ready (rs := [1]) (by kernel_rfl) (by simp) ?_
              refine AllReadyH.cons (o := oKpFindsLaw6) rfl (fun K hK => ?_) AllReadyH.nil
              unfold oKpFindsLaw6
              go_simp
              (go_at_call 16; refine (kAll (HD2.out.pt.below hHeld) HKL.out (by omega)).mono ?_; rintro e w6 ⟨v6, rfl, hO6⟩; have hb6 := hO6.below; obtain ⟨A6, c6, rfl, _, hs6, _, _⟩ := hO6.form)
              refine hK.out _ _ ?_ (fun hHeld => ?_)
              · (exact below_more hHeld hb6)
              clear hK K
              try simp only [oKpFindsLaw6, Act.put, sA, sB, sC]
              refine wpAnyH_ready (rs := [6]) (by kernel_rfl) (by simp) ?_
              refine AllReadyH.cons (o := oKpFindsLaw7) rfl (fun K hK => ?_) AllReadyH.nil
              unfold oKpFindsLaw7
              go_simp
              (go_at_call 15; refine (sameMsgs_eq A6 _ c6 L A2 n2 c2 L true _ hs6 (HD2.out.rt.below hHeld).2.1 (by omega) (by simp)).mono ?_; rintro e w7 ⟨rfl, hb7⟩)
              refine hK.out _ _ ?_ (fun hHeld => ?_)
              · (exact below_more hHeld hb7)
              clear hK K
              try simp only [oKpFindsLaw7, Act.put, sA, sB, sC]
              refine tkY 7 oKpFindsLaw8 ?vv8_36_7 rfl (by kernel_rfl) (by kernel_rfl) (by kernel_rfl) (fun _ _ _ h => h) (by rfl) ?hy8_36_7 (by assumption) ?rest8_36_7
              case hy8_36_7 => (intro w hSw; unfold oKpFindsLaw8; (try dsimp only at hSw); (try go_split_ands); go_simp; all_goals with_reducible rfl)
              try simp only [oKpFindsLaw8, Act.put, sA, sB, sC]
              refine wpAnyH_ready (rs := [8]) (by kernel_rfl) (by simp) ?_
              refine AllReadyH.cons (o := oKpFindsLaw9) rfl (fun K hK => ?_) AllReadyH.nil
              unfold oKpFindsLaw9
              go_simp
              (go_at_call 6; refine (awake10_any _ (HG.out.below (below_more hbw hHeld))).mono ?_; rintro e w8 ⟨rfl, hb8⟩)
              refine hK.out _ _ ?_ (fun hHeld => ?_)
              · (exact below_more hHeld hb8)
              clear hK K
              try simp only [oKpFindsLaw9, Act.put, sA, sB, sC]
              refine tkY 9 oKpFindsLaw10 ?vv8_37_9 rfl (by kernel_rfl) (by kernel_rfl) (by kernel_rfl) (fun _ _ _ h => h) (by rfl) ?hy8_37_9 (by assumption) ?rest8_37_9
              case hy8_37_9 => (intro w hSw; unfold oKpFindsLaw10; (try dsimp only at hSw); (try go_split_ands); go_simp; all_goals with_reducible rfl)
              try simp only [oKpFindsLaw10, Act.put, sA, sB, sC]
              refine tkY 10 oKpFindsLaw11 ?vv8_37_10 rfl (by kernel_rfl) (by kernel_rfl) (by kernel_rfl) (fun _ _ _ h => h) (by rfl) ?hy8_37_10 (by assumption) ?rest8_37_10
              case hy8_37_10 => (intro w hSw; unfold oKpFindsLaw11; (try dsimp only at hSw); (try go_split_ands); go_simp; all_goals with_reducible rfl)
              try simp only [oKpFindsLaw11, Act.put, sA, sB, sC]
              refine wpAnyH_done (by kernel_rfl) ?_ _
              have hb9 := below_more hbw hHeld
              clear hHeld
              go_wp2_with fail
              go_ret
              exact ⟨rfl, hb9⟩
set_option maxRecDepth 100000 in
theorem lifted (os : Os) (started : os.Started) (H : Type) (enc : TypeId × Value → H) :
    ReturnsInHanded {} Tryz.checked os 4 .any (fun w args => (Rows.keepFindsSpec.pre enc Tryz.prog Tryz.f4 [] false w args ∧ laidMetH Tryz.prog laidL w) ∧ sizedMet enc Tryz.prog Tryz.f4 (OpenSpec.ofChange Rows.keepFindsSpec) false w args)
      (Rows.keepFindsSpec.post enc Tryz.prog Tryz.f4 false true false false) := by
  refine handed_laid (C := Tryz.checked) (X := fun w _ => laidMetH Tryz.prog laidL w) own_none started (by kernel_rfl) Tryz.func4 (laid_witness os Rows.keepFindsSpec #[.slice none 0 0, .slice none 0 0] (by kernel_rfl) (by kernel_rfl) (by kernel_rfl)) ?_
  intro W base args ds gs before hval0 hW hsh
  have hval : ∀ (j : Nat) t v, Tryz.f4.params[j]? = some t → args[j]? = some v → Value.okWide Tryz.prog W .any base t v := hval0
  have hWk := hW
  obtain ⟨p, q, hA0, hV, hbef, _, _⟩ := hWk
  have hA : DataW.TrodAll enc Tryz.prog W 0 (fun _ => true) true Tryz.f4.params.toList args.toList ds p := hA0
  obtain ⟨rfl, rfl⟩ := trodVars_none hV
  rw [Tryz.params4] at hA hval
  obtain ⟨v0, vs0, d0, ds0, p0, q0, hargs, rfl, hp0, h0, r0⟩ := trodAll_cons hA
  obtain ⟨v1, vs1, d1, ds1, p1, q1, rfl, rfl, hp1, h1, r1⟩ := trodAll_cons r0
  obtain ⟨rfl, rfl, hpn⟩ := trodAll_nil r1
  obtain rfl : args = #[v0, v1] := by cases args; simp_all
  obtain ⟨A0, n0, c0, l0, rfl, hs0, _, hn0, hi0⟩ := open_Msgs (hval 0 22 v0 rfl rfl) h0
  obtain ⟨A1, n1, c1, xs1, rfl, hi1⟩ := open_Strs Tryz.underlying38 Tryz.underlying9 cells_str (hval 1 38 v1 rfl rfl) h1
  refine (walk W (glo_of hsh) A0 n0 c0 l0 hs0 hn0 hi0 A1 n1 c1 xs1 hi1.1 (by have := hi1.2.2.1; unfold maxLen at this; omega) hi1.2.2.2).mono fun e W' ⟨he, hg⟩ => ?_
  subst he
  exact ⟨_, rfl, law_post laid_out (by kernel_rfl) rfl (by kernel_rfl) Tryz.underlying4 hW rfl hg⟩

theorem over : Rows.keepFindsRow.holds Tryz.pinned (OpenSpec.ofChange Rows.keepFindsSpec) :=
  OpenClaim.holds_of_wide 4 Tryz.f4 rfl rfl rfl rfl rfl rfl rfl ⟨rfl, rfl, rfl, rfl, rfl⟩ rfl rfl rfl rfl rfl (by kernel_rfl) Tryz.func4 (by kernel_rfl)
    (of_decide_eq_true (by kernel_rfl)) (by unfold Func.isWrapper; first | (rw [if_pos (by decide +kernel)]; kernel_rfl) | (rw [if_neg (by decide +kernel)]; exact ⟨rfl, rfl⟩))
    (fun os started H enc _ => lifted os started H enc)

/-- THE STATEMENT: the card. -/
theorem proved : Rows.KeepFindsCardSaid :=
  Claim7.holds_tied_plain_at .later [] [.data, .pinned] true Rows.keepFindsCard.stood.harness false over (fun _ h => by cases h) (by kernel_rfl) (fun _ h => by cases h) keepFinds_row_tie rfl ⟨rfl, rfl⟩ (by kernel_rfl) rfl
    (fun f fn hf hfn => by
      obtain rfl : f = 4 := Option.some.inj ((show Tryz.prog.funcNamed Rows.keepFindsRow.func = some 4 by kernel_rfl).symm.trans hf) |>.symm
      obtain rfl : fn = Tryz.f4 := (Option.some.inj (Tryz.func4.symm.trans hfn)).symm
      exact ⟨by kernel_rfl, fun j t ht => by
        have hm : t ∈ Tryz.f4.params.toList := by simpa using Array.mem_of_getElem? ht
        have hall : (Tryz.f4.params.toList.all fun u => !Tryz.prog.wantsStandIn u) = true := by kernel_rfl
        exact (show Tryz.prog.wantsStandIn t = false by simpa using List.all_eq_true.1 hall t hm)⟩)
    (by kernel_rfl)
end lawKeepFinds
end Go.Proofs.YthhadjnffeadfaaGreatDoor
