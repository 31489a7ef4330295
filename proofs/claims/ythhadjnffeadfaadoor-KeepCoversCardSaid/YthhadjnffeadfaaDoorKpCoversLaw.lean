/-
  KeepCovers: where a filter covers another one, it finds what that finds, too; what is found is kept, and taken by the filter. The card, without a bound: for every input.
-/
import Derived.Test.YthhadjnffeadfaaDoorKpAwake
import Derived.Test.YthhadjnffeadfaaDoorWrFrame
import Derived.Test.YthhadjnffeadfaaDoorTie
import Derived.Test.YthhadjnffeadfaaDoorCards
import Derived.SevenTiedAt
import Derived.ProofKit
set_option linter.unusedSimpArgs false
set_option linter.unusedVariables false
namespace Go.Proofs.YthhadjnffeadfaaDoor
section
open Go.RowKit
def oKpCoversLaw1 : Oper := ({ dst := some 53, op := Go.Op.move (Go.Operand.tmp 9), type := 25, pos := "outright.go:63", after := #[], guard := none } : Oper)
def oKpCoversLaw2 : Oper := ({ dst := some 54, op := Go.Op.move (Go.Operand.tmp 8), type := 25, pos := "outright.go:63", after := #[], guard := none } : Oper)
def oKpCoversLaw3 : Oper := ({ dst := some 55, op := Go.Op.move (Go.Operand.tmp 11), type := 3, pos := "outright.go:63", after := #[], guard := none } : Oper)
def oKpCoversLaw4 : Oper := ({ dst := some 56, op := Go.Op.indexAddr 25 (Go.Operand.tmp 54) (Go.Operand.tmp 55), type := 0, pos := "outright.go:63", after := #[{ on := 1, ground := Go.Ground.data }, { on := 2, ground := Go.Ground.data }], guard := none } : Oper)
def oKpCoversLaw5 : Oper := ({ dst := some 57, op := Go.Op.load 28 (Go.Operand.tmp 56), type := 28, pos := "outright.go:63", after := #[{ on := 3, ground := Go.Ground.data }], guard := none } : Oper)
def oKpCoversLaw6 : Oper := ({ dst := some 59, op := Go.Op.move (Go.Operand.tmp 10), type := 25, pos := "outright.go:63", after := #[], guard := none } : Oper)
def oKpCoversLaw7 : Oper := ({ dst := some 60, op := Go.Op.move (Go.Operand.tmp 8), type := 25, pos := "outright.go:63", after := #[], guard := none } : Oper)
def oKpCoversLaw8 : Oper := ({ dst := some 61, op := Go.Op.move (Go.Operand.tmp 11), type := 3, pos := "outright.go:63", after := #[], guard := none } : Oper)
def oKpCoversLaw9 : Oper := ({ dst := some 62, op := Go.Op.indexAddr 25 (Go.Operand.tmp 60) (Go.Operand.tmp 61), type := 0, pos := "outright.go:63", after := #[{ on := 7, ground := Go.Ground.data }, { on := 8, ground := Go.Ground.data }], guard := none } : Oper)
def oKpCoversLaw10 : Oper := ({ dst := some 63, op := Go.Op.load 28 (Go.Operand.tmp 62), type := 28, pos := "outright.go:63", after := #[{ on := 9, ground := Go.Ground.data }], guard := none } : Oper)
def oKpCoversLaw11 : Oper := ({ dst := some 58, op := Go.Op.call { callee := Go.Callee.value (Go.Operand.func 20), args := #[Go.Operand.tmp 53, Go.Operand.tmp 57], argTypes := #[25, 28] }, type := 4, pos := "outright.go:63", after := #[{ on := 0, ground := Go.Ground.data }, { on := 4, ground := Go.Ground.data }], guard := none } : Oper)
def oKpCoversLaw12 : Oper := ({ dst := some 64, op := Go.Op.call { callee := Go.Callee.value (Go.Operand.func 20), args := #[Go.Operand.tmp 59, Go.Operand.tmp 63], argTypes := #[25, 28] }, type := 4, pos := "outright.go:63", after := #[{ on := 6, ground := Go.Ground.data }, { on := 10, ground := Go.Ground.data }, { on := 5, ground := Go.Ground.chain }], guard := none } : Oper)
def oKpCoversLaw13 : Oper := ({ dst := some 12, op := Go.Op.assign (Go.Operand.tmp 58), type := 4, pos := "outright.go:63", after := #[{ on := 5, ground := Go.Ground.data }, { on := 11, ground := Go.Ground.chain }, { on := 0, ground := Go.Ground.phase }, { on := 1, ground := Go.Ground.phase }, { on := 2, ground := Go.Ground.phase }, { on := 3, ground := Go.Ground.phase }, { on := 4, ground := Go.Ground.phase }, { on := 5, ground := Go.Ground.phase }, { on := 6, ground := Go.Ground.textOnly Go.Departure.lateStores }, { on := 7, ground := Go.Ground.textOnly Go.Departure.lateStores }, { on := 8, ground := Go.Ground.textOnly Go.Departure.lateStores }, { on := 9, ground := Go.Ground.textOnly Go.Departure.lateStores }, { on := 10, ground := Go.Ground.textOnly Go.Departure.lateStores }, { on := 11, ground := Go.Ground.textOnly Go.Departure.lateStoresUnsure }], guard := none } : Oper)
def oKpCoversLaw14 : Oper := ({ dst := some 13, op := Go.Op.assign (Go.Operand.tmp 64), type := 4, pos := "outright.go:63", after := #[{ on := 11, ground := Go.Ground.data }, { on := 12, ground := Go.Ground.chain }, { on := 0, ground := Go.Ground.phase }, { on := 1, ground := Go.Ground.phase }, { on := 2, ground := Go.Ground.phase }, { on := 3, ground := Go.Ground.phase }, { on := 4, ground := Go.Ground.phase }, { on := 5, ground := Go.Ground.phase }, { on := 6, ground := Go.Ground.phase }, { on := 7, ground := Go.Ground.phase }, { on := 8, ground := Go.Ground.phase }, { on := 9, ground := Go.Ground.phase }, { on := 10, ground := Go.Ground.phase }, { on := 11, ground := Go.Ground.phase }, { on := 12, ground := Go.Ground.phase }], guard := none } : Oper)
end
open Go.RowKit Go.ChangeShapes Go.WideShapes Go.ChangeAt
open Go.ChangeMaps (open_string shut_string)
namespace lawKeepCovers
set_option maxRecDepth 100000 in
set_option maxHeartbeats 4000000 in
theorem walk (w : World) (hG : Glo w) (A : Option Addr) (n c : Nat) (l : List Ms) (hs : Msgs w A n l) (hn : n ≤ 9223372036854775807) (hi : Hid (∀ x ∈ l, MIn x)) (a : List UInt8) (ha : a.length ≤ 9223372036854775807) (b : List UInt8) (hb0 : b.length ≤ 9223372036854775807) :
    Calls Tryd.prog 5 #[.slice A n c, .string ⟨a.toArray⟩, .string ⟨b.toArray⟩] w fun e w' => e = .returned (.bool true) ∧ Below w.heap.size w w' := by
  have HG := Lib.hid hG
  have HS := Lib.hid hs
  clear hG hs
  go_enter Tryd.func5, Tryd.ntmps5
  go_wp2_with fail
  refine (great10_any A n c l _ HS.out hn hi).mono ?_
  rintro e w0 ⟨g, rfl, hok, rfl⟩
  cases g with
  | true =>
    go_wp2_with fail
    refine (awake10_any _ HG.out).mono ?_
    rintro e w1 ⟨rfl, hb⟩
    go_wp2_with fail
    go_ret
    exact ⟨rfl, hb⟩
  | false =>
    have HOK := Lib.hid (hok rfl)
    clear hok
    by_cases ha3 : 300 < a.length
    · have ia : (300 : Int) < (a.length : Int) := by omega
      go_wp2_with fail
      refine (awake10_any _ HG.out).mono ?_
      rintro e w1 ⟨rfl, hb⟩
      go_wp2_with fail
      go_ret
      exact ⟨rfl, hb⟩
    · have ia : ¬ (300 : Int) < (a.length : Int) := by omega
      by_cases hb3 : 300 < b.length
      · have ib : (300 : Int) < (b.length : Int) := by omega
        go_wp2_with fail
        refine (awake10_any _ HG.out).mono ?_
        rintro e w1 ⟨rfl, hb⟩
        go_wp2_with fail
        go_ret
        exact ⟨rfl, hb⟩
      · have ib : ¬ (300 : Int) < (b.length : Int) := by omega
        go_wp2_with fail
        refine (made_any A n c l _ HS.out HOK.out).mono ?_
        rintro e w1 ⟨⟨t, F, rfl, hP, hb, _⟩, hk⟩
        obtain ⟨L, hL⟩ : ∃ L, madeM l = L := ⟨_, rfl⟩
        rw [hL] at hP hk
        have HP := Lib.hid hP
        have HK := Lib.hid hk
        clear hP hk hL ia ib
        go_wp2_with fail
        refine (kAll HP.out HK.out (by omega)).mono ?_
        rintro e w2 ⟨v, rfl, hO⟩
        have hb2 := hO.below
        obtain ⟨A1, c1, rfl, _, hs1, _, _⟩ := hO.form
        have HP2 := Lib.hid (HP.out.below hb2)
        have HS1 := Lib.hid hs1
        replace hb := below_more hb hb2
        clear hO hb2 hs1
        go_wp2_with fail
        refine (kFind a (HG.out.below hb) HP2.out HK.out (by omega) (by omega)).mono ?_
        rintro e w3 ⟨v, rfl, hO⟩
        have hb3 := hO.below
        obtain ⟨A2, c2, rfl, _, hs2, _, _⟩ := hO.form
        have HP3 := Lib.hid (HP2.out.below hb3)
        have HS12 := Lib.hid (HS1.out.below hb3)
        have HS2 := Lib.hid hs2
        replace hb := below_more hb hb3
        clear hO hb3 hs2
        go_wp2_with fail
        refine (kFind b (HG.out.below hb) HP3.out HK.out (by omega) (by omega)).mono ?_
        rintro e w4 ⟨v, rfl, hO⟩
        have hb4 := hO.below
        obtain ⟨A3, c3, rfl, _, hs3, _, _⟩ := hO.form
        have HS13 := Lib.hid (HS12.out.below hb4)
        have HS23 := Lib.hid (HS2.out.below hb4)
        have HS3 := Lib.hid hs3
        replace hb := below_more hb hb4
        clear hO hb4 hs3
        obtain ⟨r, hr⟩ : ∃ r, covB a b = r := ⟨_, rfl⟩
        have HR := Lib.hid hr
        have hlen : (fndM L a).length ≤ L.length := fnd_len L a
        have hlen2 : (fndM L b).length ≤ L.length := fnd_len L b
        have hN : L.length ≤ 60 := HK.out.2.1
        have HLE : Hid (r = true → (fndM L b).length ≤ (fndM L a).length) := fun e => fnd_le L a b (hr.trans e)
        obtain ⟨X, hX⟩ : ∃ X, fndM L a = X := ⟨_, rfl⟩
        obtain ⟨Y, hY⟩ : ∃ Y, fndM L b = Y := ⟨_, rfl⟩
        have HX := Lib.hid hX
        have HY := Lib.hid hY
        rw [hX] at HS23 HLE hlen
        rw [hY] at HS3 HLE hlen2
        obtain ⟨NL, hNL⟩ : ∃ N, L.length = N := ⟨_, rfl⟩
        obtain ⟨NX, hNX⟩ : ∃ N, X.length = N := ⟨_, rfl⟩
        obtain ⟨NY, hNY⟩ : ∃ N, Y.length = N := ⟨_, rfl⟩
        rw [hNL] at HS13 hlen hlen2 hN
        rw [hNX] at HS23 HLE hlen
        rw [hNY] at HS3 HLE hlen2
        rw [hX, hY, hNL, hNX, hNY]
        have HNL := Lib.hid hNL
        clear hr hX hY hNL hNX hNY HS1 HS12 HS2
        go_wp2_with fail
        refine (tpCovers_eq a b r _ (HG.out.below hb) (by omega) (by omega) HR.out).mono ?_
        rintro e w5 ⟨rfl, hb5⟩
        have hb6 := below_more hb hb5
        have HS14 := Lib.hid (HS13.out.below hb5)
        have HS24 := Lib.hid (HS23.out.below hb5)
        have HS34 := Lib.hid (HS3.out.below hb5)
        clear hb hb5 HS13 HS23 HS3
        have key : Hid (Calls Tryd.prog 0 #[] w fun _ _ => True) ∨ True := Or.inr trivial
        clear key
        cases r with
        | true =>
          have hle : decide (NX < NY) = false := by have := HLE.out rfl; simp; omega
          go_wp2_with fail
          try clear hle
          go_loopw [11] (fun i wr => ∃ k : Nat, i = .int .i64 k ∧ k ≤ NL ∧ Below w.heap.size w wr ∧ Below w5.heap.size w5 wr) (fun i _ => NL - (intOf i).toNat)
          case atStart => exact ⟨0, rfl, by omega, hb6, Below.refl _ _⟩
          case round =>
            obtain ⟨k, rfl, hk, hbw, hb7⟩ := hrel
            by_cases hlt : k < NL
            · obtain ⟨b1, o1, m, rfl, hm, hat⟩ := (HS14.out.below hb7).at_ hlt
              have hmem := List.mem_of_getElem? hm
              have hml := (HK.out.2.2 m hmem).2.2.2.1
              have hca : X.contains m = matB a m.1 := by rw [← HX.out]; exact fnd_has hmem a
              have hcb : Y.contains m = matB b m.1 := by rw [← HY.out]; exact fnd_has hmem b
              obtain ⟨ma, hma⟩ : ∃ r, matB a m.1 = r := ⟨_, rfl⟩
              obtain ⟨mb, hmb⟩ : ∃ r, matB b m.1 = r := ⟨_, rfl⟩
              have HIM : Hid (covB a b = true → mb = true → ma = true) := fun h1 h2 => by
                rw [← hma]
                obtain ⟨h3, h4⟩ := matB_parts (hmb.trans h2)
                unfold matB
                rw [h3, covB_trans a b m.1 h1 h4]; rfl
              rw [hma] at hca
              rw [hmb] at hcb
              have HCA := Lib.hid hca
              have HCB := Lib.hid hcb
              have HMA := Lib.hid hma
              have HMB := Lib.hid hmb
              have HAT := Lib.hid hat
              have hkI : (k : Int) < (NL : Int) := by omega
              have hk0 : (0 : Int) ≤ (k : Int) := by omega
              obtain ⟨m1, m2, m3, m4⟩ := m
              dsimp only at hml HMA HMB
              clear hca hcb hma hmb hat hm hmem
              go_wp2_with fail
              refine wp_region_held_drew (S := (fun w' => Below wr.heap.size wr w')) (by kernel_rfl) ((Below.refl _ _).drew) (fun hHeld => ?_)
              refine tkY 0 oKpCoversLaw1 ?vv6_18_0 rfl (by kernel_rfl) (by kernel_rfl) (by kernel_rfl) (fun _ _ _ h => h) (by rfl) ?hy6_18_0 (by assumption) ?rest6_18_0
              case hy6_18_0 => (intro w hSw; unfold oKpCoversLaw1; (try dsimp only at hSw); (try go_split_ands); go_simp; all_goals with_reducible rfl)
              try simp only [oKpCoversLaw1, Act.put, sA, sB, sC]
              refine tkY 1 oKpCoversLaw2 ?vv6_18_1 rfl (by kernel_rfl) (by kernel_rfl) (by kernel_rfl) (fun _ _ _ h => h) (by rfl) ?hy6_18_1 (by assumption) ?rest6_18_1
              case hy6_18_1 => (intro w hSw; unfold oKpCoversLaw2; (try dsimp only at hSw); (try go_split_ands); go_simp; all_goals with_reducible rfl)
              try simp only [oKpCoversLaw2, Act.put, sA, sB, sC]
              refine tkY 2 oKpCoversLaw3 ?vv6_18_2 rfl (by kernel_rfl) (by kernel_rfl) (by kernel_rfl) (fun _ _ _ h => h) (by rfl) ?hy6_18_2 (by assumption) ?rest6_18_2
              case hy6_18_2 => (intro w hSw; unfold oKpCoversLaw3; (try dsimp only at hSw); (try go_split_ands); go_simp; all_goals with_reducible rfl)
              try simp only [oKpCoversLaw3, Act.put, sA, sB, sC]
              refine tkY 3 oKpCoversLaw4 ?vv6_18_3 rfl (by kernel_rfl) (by kernel_rfl) (by kernel_rfl) (fun _ _ _ h => h) (by rfl) ?hy6_18_3 (by assumption) ?rest6_18_3
              case hy6_18_3 => (intro w hSw; unfold oKpCoversLaw4; (try dsimp only at hSw); (try go_split_ands); go_simp; all_goals with_reducible rfl)
              try simp only [oKpCoversLaw4, Act.put, sA, sB, sC]
              refine tkY 4 oKpCoversLaw5 ?vv6_19_4 rfl (by kernel_rfl) (by kernel_rfl) (by kernel_rfl) (fun _ _ _ h => h) (by rfl) ?hy6_19_4 (by assumption) ?rest6_19_4
              case hy6_19_4 => (intro w hSw; unfold oKpCoversLaw5; (try dsimp only at hSw); have ⟨q0, q1, q2, q3⟩ := HAT.out.below hSw; clear hSw; dsimp only at q0 q1 q2 q3; go_simp; all_goals with_reducible rfl)
              try simp only [oKpCoversLaw5, Act.put, sA, sB, sC]
              refine tkY 6 oKpCoversLaw6 ?vv6_20_6 rfl (by kernel_rfl) (by kernel_rfl) (by kernel_rfl) (fun _ _ _ h => h) (by rfl) ?hy6_20_6 (by assumption) ?rest6_20_6
              case hy6_20_6 => (intro w hSw; unfold oKpCoversLaw6; (try dsimp only at hSw); (try go_split_ands); go_simp; all_goals with_reducible rfl)
              try simp only [oKpCoversLaw6, Act.put, sA, sB, sC]
              refine tkY 7 oKpCoversLaw7 ?vv6_20_7 rfl (by kernel_rfl) (by kernel_rfl) (by kernel_rfl) (fun _ _ _ h => h) (by rfl) ?hy6_20_7 (by assumption) ?rest6_20_7
              case hy6_20_7 => (intro w hSw; unfold oKpCoversLaw7; (try dsimp only at hSw); (try go_split_ands); go_simp; all_goals with_reducible rfl)
              try simp only [oKpCoversLaw7, Act.put, sA, sB, sC]
              refine tkY 8 oKpCoversLaw8 ?vv6_20_8 rfl (by kernel_rfl) (by kernel_rfl) (by kernel_rfl) (fun _ _ _ h => h) (by rfl) ?hy6_20_8 (by assumption) ?rest6_20_8
              case hy6_20_8 => (intro w hSw; unfold oKpCoversLaw8; (try dsimp only at hSw); (try go_split_ands); go_simp; all_goals with_reducible rfl)
              try simp only [oKpCoversLaw8, Act.put, sA, sB, sC]
              refine tkY 9 oKpCoversLaw9 ?vv6_20_9 rfl (by kernel_rfl) (by kernel_rfl) (by kernel_rfl) (fun _ _ _ h => h) (by rfl) ?hy6_20_9 (by assumption) ?rest6_20_9
              case hy6_20_9 => (intro w hSw; unfold oKpCoversLaw9; (try dsimp only at hSw); (try go_split_ands); go_simp; all_goals with_reducible rfl)
              try simp only [oKpCoversLaw9, Act.put, sA, sB, sC]
              refine tkY 10 oKpCoversLaw10 ?vv6_21_10 rfl (by kernel_rfl) (by kernel_rfl) (by kernel_rfl) (fun _ _ _ h => h) (by rfl) ?hy6_21_10 (by assumption) ?rest6_21_10
              case hy6_21_10 => (intro w hSw; unfold oKpCoversLaw10; (try dsimp only at hSw); have ⟨q0, q1, q2, q3⟩ := HAT.out.below hSw; clear hSw; dsimp only at q0 q1 q2 q3; go_simp; all_goals with_reducible rfl)
              try simp only [oKpCoversLaw10, Act.put, sA, sB, sC]
              refine wpAnyH_ready (rs := [5]) (by kernel_rfl) (by simp) ?_
              refine AllReadyH.cons (o := oKpCoversLaw11) rfl (fun K hK => ?_) AllReadyH.nil
              unfold oKpCoversLaw11
              go_simp
              (go_at_call 20; refine (hasM_eq A2 NX c2 X (m1, m2, m3, m4) ma _ ((HS24.out.below hb7).below hHeld) (by omega) HCA.out).mono ?_; rintro e w8 ⟨rfl, hb8⟩)
              refine hK.out _ _ ?_ (fun hHeld => ?_)
              · (exact below_more hHeld hb8)
              clear hK K
              try simp only [oKpCoversLaw11, Act.put, sA, sB, sC]
              refine wpAnyH_ready (rs := [11]) (by kernel_rfl) (by simp) ?_
              refine AllReadyH.cons (o := oKpCoversLaw12) rfl (fun K hK => ?_) AllReadyH.nil
              unfold oKpCoversLaw12
              go_simp
              (go_at_call 20; refine (hasM_eq A3 NY c3 Y (m1, m2, m3, m4) mb _ ((HS34.out.below hb7).below hHeld) (by omega) HCB.out).mono ?_; rintro e w8 ⟨rfl, hb8⟩)
              refine hK.out _ _ ?_ (fun hHeld => ?_)
              · (exact below_more hHeld hb8)
              clear hK K
              try simp only [oKpCoversLaw12, Act.put, sA, sB, sC]
              refine tkY 12 oKpCoversLaw13 ?vv6_22_12 rfl (by kernel_rfl) (by kernel_rfl) (by kernel_rfl) (fun _ _ _ h => h) (by rfl) ?hy6_22_12 (by assumption) ?rest6_22_12
              case hy6_22_12 => (intro w hSw; unfold oKpCoversLaw13; (try dsimp only at hSw); (try go_split_ands); go_simp; all_goals with_reducible rfl)
              try simp only [oKpCoversLaw13, Act.put, sA, sB, sC]
              refine tkY 13 oKpCoversLaw14 ?vv6_22_13 rfl (by kernel_rfl) (by kernel_rfl) (by kernel_rfl) (fun _ _ _ h => h) (by rfl) ?hy6_22_13 (by assumption) ?rest6_22_13
              case hy6_22_13 => (intro w hSw; unfold oKpCoversLaw14; (try dsimp only at hSw); (try go_split_ands); go_simp; all_goals with_reducible rfl)
              try simp only [oKpCoversLaw14, Act.put, sA, sB, sC]
              refine wpAnyH_done (by kernel_rfl) ?_ _
              have hb9 := below_more hbw hHeld
              have hb10 := below_more hb7 hHeld
              have HATN := Lib.hid (HAT.out.below hHeld)
              obtain ⟨q0, _, _, _⟩ := HATN.out
              dsimp only at q0
              clear hHeld hbw hb7
              go_wp2_with fail
              refine (tpMatch_eq a m1 ma _ (HG.out.below hb9) (by omega) (by omega) HMA.out).mono ?_
              rintro e w9 ⟨rfl, hb11⟩
              have hb12 := below_more hb9 hb11
              have hb13 := below_more hb10 hb11
              obtain ⟨q0, _, _, _⟩ := HATN.out.below hb11
              dsimp only at q0
              clear hb9 hb10 hb11
              have hxa : (ma != ma) = false := by cases ma <;> rfl
              have hxb : (mb != mb) = false := by cases mb <;> rfl
              go_wp2_with fail
              refine (tpMatch_eq b m1 mb _ (HG.out.below hb12) (by omega) (by omega) HMB.out).mono ?_
              rintro e w10 ⟨rfl, hb14⟩
              have hb15 := below_more hb12 hb14
              have hb16 := below_more hb13 hb14
              clear hb12 hb13 hb14
              go_wp2_with fail
              refine (tpCovers_eq a b _ _ (HG.out.below hb15) (by omega) (by omega) HR.out).mono ?_
              rintro e w11 ⟨rfl, hb17⟩
              have hb18 := below_more hb15 hb17
              have hb19 := below_more hb16 hb17
              clear hb15 hb16 hb17 q0 hxa hxb
              cases ma <;> cases mb
              all_goals first
                | exact absurd (HIM.out HR.out rfl) (by decide)
                | skip
                  go_wp2_with fail
                  go_roundw
                  case rel => exact ⟨k + 1, by go_num, by omega, hb18, hb19⟩
                  case measure => simp [intOf]; omega
            · go_wp2_with fail
              refine (awake10_any _ (HG.out.below hbw)).mono ?_
              rintro e w9 ⟨rfl, hb9⟩
              go_wp2_with fail
              go_ret
              exact ⟨rfl, below_more hbw hb9⟩
        | false =>
          go_wp2_with fail
          try clear hle
          go_loopw [11] (fun i wr => ∃ k : Nat, i = .int .i64 k ∧ k ≤ NL ∧ Below w.heap.size w wr ∧ Below w5.heap.size w5 wr) (fun i _ => NL - (intOf i).toNat)
          case atStart => exact ⟨0, rfl, by omega, hb6, Below.refl _ _⟩
          case round =>
            obtain ⟨k, rfl, hk, hbw, hb7⟩ := hrel
            by_cases hlt : k < NL
            · obtain ⟨b1, o1, m, rfl, hm, hat⟩ := (HS14.out.below hb7).at_ hlt
              have hmem := List.mem_of_getElem? hm
              have hml := (HK.out.2.2 m hmem).2.2.2.1
              have hca : X.contains m = matB a m.1 := by rw [← HX.out]; exact fnd_has hmem a
              have hcb : Y.contains m = matB b m.1 := by rw [← HY.out]; exact fnd_has hmem b
              obtain ⟨ma, hma⟩ : ∃ r, matB a m.1 = r := ⟨_, rfl⟩
              obtain ⟨mb, hmb⟩ : ∃ r, matB b m.1 = r := ⟨_, rfl⟩
              have HIM : Hid (covB a b = true → mb = true → ma = true) := fun h1 h2 => by
                rw [← hma]
                obtain ⟨h3, h4⟩ := matB_parts (hmb.trans h2)
                unfold matB
                rw [h3, covB_trans a b m.1 h1 h4]; rfl
              rw [hma] at hca
              rw [hmb] at hcb
              have HCA := Lib.hid hca
              have HCB := Lib.hid hcb
              have HMA := Lib.hid hma
              have HMB := Lib.hid hmb
              have HAT := Lib.hid hat
              have hkI : (k : Int) < (NL : Int) := by omega
              have hk0 : (0 : Int) ≤ (k : Int) := by omega
              obtain ⟨m1, m2, m3, m4⟩ := m
              dsimp only at hml HMA HMB
              clear hca hcb hma hmb hat hm hmem
              go_wp2_with fail
              refine wp_region_held_drew (S := (fun w' => Below wr.heap.size wr w')) (by kernel_rfl) ((Below.refl _ _).drew) (fun hHeld => ?_)
              refine tkY 0 oKpCoversLaw1 ?vv7_23_0 rfl (by kernel_rfl) (by kernel_rfl) (by kernel_rfl) (fun _ _ _ h => h) (by rfl) ?hy7_23_0 (by assumption) ?rest7_23_0
              case hy7_23_0 => (intro w hSw; unfold oKpCoversLaw1; (try dsimp only at hSw); (try go_split_ands); go_simp; all_goals with_reducible rfl)
              try simp only [oKpCoversLaw1, Act.put, sA, sB, sC]
              refine tkY 1 oKpCoversLaw2 ?vv7_23_1 rfl (by kernel_rfl) (by kernel_rfl) (by kernel_rfl) (fun _ _ _ h => h) (by rfl) ?hy7_23_1 (by assumption) ?rest7_23_1
              case hy7_23_1 => (intro w hSw; unfold oKpCoversLaw2; (try dsimp only at hSw); (try go_split_ands); go_simp; all_goals with_reducible rfl)
              try simp only [oKpCoversLaw2, Act.put, sA, sB, sC]
              refine tkY 2 oKpCoversLaw3 ?vv7_23_2 rfl (by kernel_rfl) (by kernel_rfl) (by kernel_rfl) (fun _ _ _ h => h) (by rfl) ?hy7_23_2 (by assumption) ?rest7_23_2
              case hy7_23_2 => (intro w hSw; unfold oKpCoversLaw3; (try dsimp only at hSw); (try go_split_ands); go_simp; all_goals with_reducible rfl)
              try simp only [oKpCoversLaw3, Act.put, sA, sB, sC]
              refine tkY 3 oKpCoversLaw4 ?vv7_23_3 rfl (by kernel_rfl) (by kernel_rfl) (by kernel_rfl) (fun _ _ _ h => h) (by rfl) ?hy7_23_3 (by assumption) ?rest7_23_3
              case hy7_23_3 => (intro w hSw; unfold oKpCoversLaw4; (try dsimp only at hSw); (try go_split_ands); go_simp; all_goals with_reducible rfl)
              try simp only [oKpCoversLaw4, Act.put, sA, sB, sC]
              refine tkY 4 oKpCoversLaw5 ?vv7_24_4 rfl (by kernel_rfl) (by kernel_rfl) (by kernel_rfl) (fun _ _ _ h => h) (by rfl) ?hy7_24_4 (by assumption) ?rest7_24_4
              case hy7_24_4 => (intro w hSw; unfold oKpCoversLaw5; (try dsimp only at hSw); have ⟨q0, q1, q2, q3⟩ := HAT.out.below hSw; clear hSw; dsimp only at q0 q1 q2 q3; go_simp; all_goals with_reducible rfl)
              try simp only [oKpCoversLaw5, Act.put, sA, sB, sC]
              refine tkY 6 oKpCoversLaw6 ?vv7_25_6 rfl (by kernel_rfl) (by kernel_rfl) (by kernel_rfl) (fun _ _ _ h => h) (by rfl) ?hy7_25_6 (by assumption) ?rest7_25_6
              case hy7_25_6 => (intro w hSw; unfold oKpCoversLaw6; (try dsimp only at hSw); (try go_split_ands); go_simp; all_goals with_reducible rfl)
              try simp only [oKpCoversLaw6, Act.put, sA, sB, sC]
              refine tkY 7 oKpCoversLaw7 ?vv7_25_7 rfl (by kernel_rfl) (by kernel_rfl) (by kernel_rfl) (fun _ _ _ h => h) (by rfl) ?hy7_25_7 (by assumption) ?rest7_25_7
              case hy7_25_7 => (intro w hSw; unfold oKpCoversLaw7; (try dsimp only at hSw); (try go_split_ands); go_simp; all_goals with_reducible rfl)
              try simp only [oKpCoversLaw7, Act.put, sA, sB, sC]
              refine tkY 8 oKpCoversLaw8 ?vv7_25_8 rfl (by kernel_rfl) (by kernel_rfl) (by kernel_rfl) (fun _ _ _ h => h) (by rfl) ?hy7_25_8 (by assumption) ?rest7_25_8
              case hy7_25_8 => (intro w hSw; unfold oKpCoversLaw8; (try dsimp only at hSw); (try go_split_ands); go_simp; all_goals with_reducible rfl)
              try simp only [oKpCoversLaw8, Act.put, sA, sB, sC]
              refine tkY 9 oKpCoversLaw9 ?vv7_25_9 rfl (by kernel_rfl) (by kernel_rfl) (by kernel_rfl) (fun _ _ _ h => h) (by rfl) ?hy7_25_9 (by assumption) ?rest7_25_9
              case hy7_25_9 => (intro w hSw; unfold oKpCoversLaw9; (try dsimp only at hSw); (try go_split_ands); go_simp; all_goals with_reducible rfl)
              try simp only [oKpCoversLaw9, Act.put, sA, sB, sC]
              refine tkY 10 oKpCoversLaw10 ?vv7_26_10 rfl (by kernel_rfl) (by kernel_rfl) (by kernel_rfl) (fun _ _ _ h => h) (by rfl) ?hy7_26_10 (by assumption) ?rest7_26_10
              case hy7_26_10 => (intro w hSw; unfold oKpCoversLaw10; (try dsimp only at hSw); have ⟨q0, q1, q2, q3⟩ := HAT.out.below hSw; clear hSw; dsimp only at q0 q1 q2 q3; go_simp; all_goals with_reducible rfl)
              try simp only [oKpCoversLaw10, Act.put, sA, sB, sC]
              refine wpAnyH_ready (rs := [5]) (by kernel_rfl) (by simp) ?_
              refine AllReadyH.cons (o := oKpCoversLaw11) rfl (fun K hK => ?_) AllReadyH.nil
              unfold oKpCoversLaw11
              go_simp
              (go_at_call 20; refine (hasM_eq A2 NX c2 X (m1, m2, m3, m4) ma _ ((HS24.out.below hb7).below hHeld) (by omega) HCA.out).mono ?_; rintro e w8 ⟨rfl, hb8⟩)
              refine hK.out _ _ ?_ (fun hHeld => ?_)
              · (exact below_more hHeld hb8)
              clear hK K
              try simp only [oKpCoversLaw11, Act.put, sA, sB, sC]
              refine wpAnyH_ready (rs := [11]) (by kernel_rfl) (by simp) ?_
              refine AllReadyH.cons (o := oKpCoversLaw12) rfl (fun K hK => ?_) AllReadyH.nil
              unfold oKpCoversLaw12
              go_simp
              (go_at_call 20; refine (hasM_eq A3 NY c3 Y (m1, m2, m3, m4) mb _ ((HS34.out.below hb7).below hHeld) (by omega) HCB.out).mono ?_; rintro e w8 ⟨rfl, hb8⟩)
              refine hK.out _ _ ?_ (fun hHeld => ?_)
              · (exact below_more hHeld hb8)
              clear hK K
              try simp only [oKpCoversLaw12, Act.put, sA, sB, sC]
              refine tkY 12 oKpCoversLaw13 ?vv7_27_12 rfl (by kernel_rfl) (by kernel_rfl) (by kernel_rfl) (fun _ _ _ h => h) (by rfl) ?hy7_27_12 (by assumption) ?rest7_27_12
              case hy7_27_12 => (intro w hSw; unfold oKpCoversLaw13; (try dsimp only at hSw); (try go_split_ands); go_simp; all_goals with_reducible rfl)
              try simp only [oKpCoversLaw13, Act.put, sA, sB, sC]
              refine tkY 13 oKpCoversLaw14 ?vv7_27_13 rfl (by kernel_rfl) (by kernel_rfl) (by kernel_rfl) (fun _ _ _ h => h) (by rfl) ?hy7_27_13 (by assumption) ?rest7_27_13
              case hy7_27_13 => (intro w hSw; unfold oKpCoversLaw14; (try dsimp only at hSw); (try go_split_ands); go_simp; all_goals with_reducible rfl)
              try simp only [oKpCoversLaw14, Act.put, sA, sB, sC]
              refine wpAnyH_done (by kernel_rfl) ?_ _
              have hb9 := below_more hbw hHeld
              have hb10 := below_more hb7 hHeld
              have HATN := Lib.hid (HAT.out.below hHeld)
              obtain ⟨q0, _, _, _⟩ := HATN.out
              dsimp only at q0
              clear hHeld hbw hb7
              go_wp2_with fail
              refine (tpMatch_eq a m1 ma _ (HG.out.below hb9) (by omega) (by omega) HMA.out).mono ?_
              rintro e w9 ⟨rfl, hb11⟩
              have hb12 := below_more hb9 hb11
              have hb13 := below_more hb10 hb11
              obtain ⟨q0, _, _, _⟩ := HATN.out.below hb11
              dsimp only at q0
              clear hb9 hb10 hb11
              have hxa : (ma != ma) = false := by cases ma <;> rfl
              have hxb : (mb != mb) = false := by cases mb <;> rfl
              go_wp2_with fail
              refine (tpMatch_eq b m1 mb _ (HG.out.below hb12) (by omega) (by omega) HMB.out).mono ?_
              rintro e w10 ⟨rfl, hb14⟩
              have hb15 := below_more hb12 hb14
              have hb16 := below_more hb13 hb14
              clear hb12 hb13 hb14
              go_wp2_with fail
              refine (tpCovers_eq a b _ _ (HG.out.below hb15) (by omega) (by omega) HR.out).mono ?_
              rintro e w11 ⟨rfl, hb17⟩
              have hb18 := below_more hb15 hb17
              have hb19 := below_more hb16 hb17
              clear hb15 hb16 hb17 q0 hxa hxb
              cases ma <;> cases mb
              all_goals first
                | exact absurd (HIM.out HR.out rfl) (by decide)
                | skip
                  go_wp2_with fail
                  go_roundw
                  case rel => exact ⟨k + 1, by go_num, by omega, hb18, hb19⟩
                  case measure => simp [intOf]; omega
            · go_wp2_with fail
              refine (awake10_any _ (HG.out.below hbw)).mono ?_
              rintro e w9 ⟨rfl, hb9⟩
              go_wp2_with fail
              go_ret
              exact ⟨rfl, below_more hbw hb9⟩
set_option maxRecDepth 100000 in
theorem lifted (os : Os) (started : os.Started) (H : Type) (enc : TypeId × Value → H) :
    ReturnsInHanded {} Tryd.checked os 5 .any (fun w args => (Rows.keepCoversSpec.pre enc Tryd.prog Tryd.f5 [] false w args ∧ laidMetH Tryd.prog laidL w) ∧ sizedMet enc Tryd.prog Tryd.f5 (OpenSpec.ofChange Rows.keepCoversSpec) false w args)
      (Rows.keepCoversSpec.post enc Tryd.prog Tryd.f5 false true false false) := by
  refine handed_laid (C := Tryd.checked) (X := fun w _ => laidMetH Tryd.prog laidL w) own_none started (by kernel_rfl) Tryd.func5 (laid_witness os Rows.keepCoversSpec #[.slice none 0 0, .string ByteArray.empty, .string ByteArray.empty] (by kernel_rfl) (by kernel_rfl) (by kernel_rfl)) ?_
  intro W base args ds gs before hval0 hW hsh
  have hval : ∀ (j : Nat) t v, Tryd.f5.params[j]? = some t → args[j]? = some v → Value.okWide Tryd.prog W .any base t v := hval0
  have hWk := hW
  obtain ⟨p, q, hA0, hV, hbef, _, _⟩ := hWk
  have hA : DataW.TrodAll enc Tryd.prog W 0 (fun _ => true) true Tryd.f5.params.toList args.toList ds p := hA0
  obtain ⟨rfl, rfl⟩ := trodVars_none hV
  rw [Tryd.params5] at hA hval
  obtain ⟨v0, vs0, d0, ds0, p0, q0, hargs, rfl, hp0, h0, r0⟩ := trodAll_cons hA
  obtain ⟨v1, vs1, d1, ds1, p1, q1, rfl, rfl, hp1, h1, r1⟩ := trodAll_cons r0
  obtain ⟨v2, vs2, d2, ds2, p2, q2, rfl, rfl, hp2, h2, r2⟩ := trodAll_cons r1
  obtain ⟨rfl, rfl, hpn⟩ := trodAll_nil r2
  obtain rfl : args = #[v0, v1, v2] := by cases args; simp_all
  obtain ⟨A0, n0, c0, l0, rfl, hs0, _, hn0, hi0⟩ := open_Msgs (hval 0 25 v0 rfl rfl) h0
  obtain ⟨s1, rfl, rfl, hx1, w1⟩ := open_string Tryd.underlying9 (hval 1 9 v1 rfl rfl) h1
  obtain ⟨a1, rfl, hl1⟩ := str_of s1
  obtain ⟨s2, rfl, rfl, hx2, w2⟩ := open_string Tryd.underlying9 (hval 2 9 v2 rfl rfl) h2
  obtain ⟨a2, rfl, hl2⟩ := str_of s2
  refine (walk W (glo_of hsh) A0 n0 c0 l0 hs0 hn0 hi0 a1 (by unfold maxLen at w1; omega) a2 (by unfold maxLen at w2; omega)).mono fun e W' ⟨he, hg⟩ => ?_
  subst he
  exact ⟨_, rfl, law_post laid_out (by kernel_rfl) rfl (by kernel_rfl) Tryd.underlying4 hW rfl hg⟩

theorem over : Rows.keepCoversRow.holds Tryd.pinned (OpenSpec.ofChange Rows.keepCoversSpec) :=
  OpenClaim.holds_of_wide 5 Tryd.f5 rfl rfl rfl rfl rfl rfl rfl ⟨rfl, rfl, rfl, rfl, rfl⟩ rfl rfl rfl rfl rfl (by kernel_rfl) Tryd.func5 (by kernel_rfl)
    (of_decide_eq_true (by kernel_rfl)) (by unfold Func.isWrapper; first | (rw [if_pos (by decide +kernel)]; kernel_rfl) | (rw [if_neg (by decide +kernel)]; exact ⟨rfl, rfl⟩))
    (fun os started H enc _ => lifted os started H enc)

/-- THE STATEMENT: the card. -/
theorem proved : Rows.KeepCoversCardSaid :=
  Claim7.holds_tied_plain_at .later [] [.data, .pinned] true Rows.keepCoversCard.stood.harness false over (fun _ h => by cases h) (by kernel_rfl) (fun _ h => by cases h) keepCovers_row_tie rfl ⟨rfl, rfl⟩ (by kernel_rfl) rfl
    (fun f fn hf hfn => by
      obtain rfl : f = 5 := Option.some.inj ((show Tryd.prog.funcNamed Rows.keepCoversRow.func = some 5 by kernel_rfl).symm.trans hf) |>.symm
      obtain rfl : fn = Tryd.f5 := (Option.some.inj (Tryd.func5.symm.trans hfn)).symm
      exact ⟨by kernel_rfl, fun j t ht => by
        have hm : t ∈ Tryd.f5.params.toList := by simpa using Array.mem_of_getElem? ht
        have hall : (Tryd.f5.params.toList.all fun u => !Tryd.prog.wantsStandIn u) = true := by kernel_rfl
        exact (show Tryd.prog.wantsStandIn t = false by simpa using List.all_eq_true.1 hall t hm)⟩)
    (by kernel_rfl)
end lawKeepCovers
end Go.Proofs.YthhadjnffeadfaaDoor
