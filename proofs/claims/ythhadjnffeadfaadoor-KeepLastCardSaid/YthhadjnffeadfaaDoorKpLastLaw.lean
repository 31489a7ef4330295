/-
  KeepLast: of each topic that is kept which was set last, with Retain; nothing else is kept, in order. The card, without a bound: for every input.
-/
import Derived.Test.YthhadjnffeadfaaDoorKpAwake
import Derived.Test.YthhadjnffeadfaaDoorWrFrame
import Derived.Test.YthhadjnffeadfaaDoorTie
import Derived.Test.YthhadjnffeadfaaDoorCards
import Derived.SevenTiedAt
import Derived.ProofKit
set_option linter.unusedSimpArgs false
set_option linter.unusedVariables false
namespace Go.Proofs.YthhadjnffeadfaaDoor
section
open Go.RowKit
def oKpLastLaw1 : Oper := ({ dst := some 37, op := Go.Op.move (Go.Operand.tmp 6), type := 4, pos := "outright.go:28", after := #[], guard := none } : Oper)
def oKpLastLaw2 : Oper := ({ dst := some 38, op := Go.Op.move (Go.Operand.tmp 37), type := 4, pos := "outright.go:28", after := #[{ on := 0, ground := Go.Ground.data }], guard := none } : Oper)
def oKpLastLaw3 : Oper := ({ dst := some 39, op := Go.Op.move (Go.Operand.tmp 0), type := 25, pos := "outright.go:28", after := #[{ on := 1, ground := Go.Ground.guard }], guard := some (1, true) } : Oper)
def oKpLastLaw4 : Oper := ({ dst := some 40, op := Go.Op.move (Go.Operand.tmp 7), type := 3, pos := "outright.go:28", after := #[{ on := 1, ground := Go.Ground.guard }], guard := some (1, true) } : Oper)
def oKpLastLaw5 : Oper := ({ dst := some 41, op := Go.Op.indexAddr 25 (Go.Operand.tmp 39) (Go.Operand.tmp 40), type := 0, pos := "outright.go:28", after := #[{ on := 2, ground := Go.Ground.data }, { on := 3, ground := Go.Ground.data }, { on := 1, ground := Go.Ground.guard }], guard := some (1, true) } : Oper)
def oKpLastLaw6 : Oper := ({ dst := some 42, op := Go.Op.load 28 (Go.Operand.tmp 41), type := 28, pos := "outright.go:28", after := #[{ on := 4, ground := Go.Ground.data }, { on := 1, ground := Go.Ground.guard }], guard := some (1, true) } : Oper)
def oKpLastLaw7 : Oper := ({ dst := some 43, op := Go.Op.call { callee := Go.Callee.value (Go.Operand.func 18), args := #[Go.Operand.tmp 42], argTypes := #[28] }, type := 4, pos := "outright.go:28", after := #[{ on := 5, ground := Go.Ground.data }, { on := 1, ground := Go.Ground.chain }, { on := 1, ground := Go.Ground.guard }], guard := some (1, true) } : Oper)
def oKpLastLaw8 : Oper := ({ dst := some 44, op := Go.Op.move (Go.Operand.tmp 43), type := 4, pos := "outright.go:28", after := #[{ on := 6, ground := Go.Ground.data }, { on := 6, ground := Go.Ground.chain }, { on := 1, ground := Go.Ground.guard }], guard := some (1, true) } : Oper)
def oKpLastLaw9 : Oper := ({ dst := some 45, op := Go.Op.move (Go.Operand.tmp 0), type := 25, pos := "outright.go:28", after := #[{ on := 7, ground := Go.Ground.guard }], guard := some (7, true) } : Oper)
def oKpLastLaw10 : Oper := ({ dst := some 46, op := Go.Op.move (Go.Operand.tmp 7), type := 3, pos := "outright.go:28", after := #[{ on := 7, ground := Go.Ground.guard }], guard := some (7, true) } : Oper)
def oKpLastLaw11 : Oper := ({ dst := some 47, op := Go.Op.indexAddr 25 (Go.Operand.tmp 45) (Go.Operand.tmp 46), type := 0, pos := "outright.go:28", after := #[{ on := 8, ground := Go.Ground.data }, { on := 9, ground := Go.Ground.data }, { on := 7, ground := Go.Ground.guard }], guard := some (7, true) } : Oper)
def oKpLastLaw12 : Oper := ({ dst := some 48, op := Go.Op.fieldAddr 28 (Go.Operand.tmp 47) 0, type := 0, pos := "outright.go:28", after := #[{ on := 10, ground := Go.Ground.data }, { on := 7, ground := Go.Ground.guard }], guard := some (7, true) } : Oper)
def oKpLastLaw13 : Oper := ({ dst := some 49, op := Go.Op.load 9 (Go.Operand.tmp 48), type := 9, pos := "outright.go:28", after := #[{ on := 11, ground := Go.Ground.data }, { on := 7, ground := Go.Ground.guard }], guard := some (7, true) } : Oper)
def oKpLastLaw14 : Oper := ({ dst := some 50, op := Go.Op.move (Go.Operand.tmp 0), type := 25, pos := "outright.go:28", after := #[{ on := 7, ground := Go.Ground.guard }], guard := some (7, true) } : Oper)
def oKpLastLaw15 : Oper := ({ dst := some 51, op := Go.Op.move (Go.Operand.tmp 5), type := 3, pos := "outright.go:28", after := #[{ on := 7, ground := Go.Ground.guard }], guard := some (7, true) } : Oper)
def oKpLastLaw16 : Oper := ({ dst := some 52, op := Go.Op.indexAddr 25 (Go.Operand.tmp 50) (Go.Operand.tmp 51), type := 0, pos := "outright.go:28", after := #[{ on := 13, ground := Go.Ground.data }, { on := 14, ground := Go.Ground.data }, { on := 7, ground := Go.Ground.guard }], guard := some (7, true) } : Oper)
def oKpLastLaw17 : Oper := ({ dst := some 53, op := Go.Op.fieldAddr 28 (Go.Operand.tmp 52) 0, type := 0, pos := "outright.go:28", after := #[{ on := 15, ground := Go.Ground.data }, { on := 7, ground := Go.Ground.guard }], guard := some (7, true) } : Oper)
def oKpLastLaw18 : Oper := ({ dst := some 54, op := Go.Op.load 9 (Go.Operand.tmp 53), type := 9, pos := "outright.go:28", after := #[{ on := 16, ground := Go.Ground.data }, { on := 7, ground := Go.Ground.guard }], guard := some (7, true) } : Oper)
def oKpLastLaw19 : Oper := ({ dst := some 55, op := Go.Op.binOp Go.BinOp.eql 9 (Go.Operand.tmp 49) (Go.Operand.tmp 54) 9, type := 4, pos := "outright.go:28", after := #[{ on := 12, ground := Go.Ground.data }, { on := 17, ground := Go.Ground.data }, { on := 7, ground := Go.Ground.guard }], guard := some (7, true) } : Oper)
def oKpLastLaw20 : Oper := ({ dst := some 56, op := Go.Op.pick (Go.Operand.tmp 44) (Go.Operand.tmp 55) (Go.Operand.const (Go.Value.bool false)), type := 4, pos := "outright.go:28", after := #[{ on := 7, ground := Go.Ground.data }, { on := 18, ground := Go.Ground.data }, { on := 1, ground := Go.Ground.guard }], guard := some (1, true) } : Oper)
def oKpLastLaw21 : Oper := ({ dst := some 57, op := Go.Op.unOp Go.UnOp.not 4 (Go.Operand.tmp 56), type := 4, pos := "outright.go:28", after := #[{ on := 19, ground := Go.Ground.data }, { on := 1, ground := Go.Ground.guard }], guard := some (1, true) } : Oper)
def oKpLastLaw22 : Oper := ({ dst := some 58, op := Go.Op.pick (Go.Operand.tmp 38) (Go.Operand.tmp 57) (Go.Operand.const (Go.Value.bool false)), type := 4, pos := "outright.go:28", after := #[{ on := 1, ground := Go.Ground.data }, { on := 20, ground := Go.Ground.data }], guard := none } : Oper)
def oKpLastLaw23 : Oper := ({ dst := some 6, op := Go.Op.assign (Go.Operand.tmp 58), type := 4, pos := "outright.go:28", after := #[{ on := 21, ground := Go.Ground.data }, { on := 7, ground := Go.Ground.chain }, { on := 0, ground := Go.Ground.phase }, { on := 1, ground := Go.Ground.phase }, { on := 2, ground := Go.Ground.phase }, { on := 3, ground := Go.Ground.phase }, { on := 4, ground := Go.Ground.phase }, { on := 5, ground := Go.Ground.phase }, { on := 6, ground := Go.Ground.phase }, { on := 7, ground := Go.Ground.phase }, { on := 8, ground := Go.Ground.phase }, { on := 9, ground := Go.Ground.phase }, { on := 10, ground := Go.Ground.phase }, { on := 11, ground := Go.Ground.phase }, { on := 12, ground := Go.Ground.phase }, { on := 13, ground := Go.Ground.phase }, { on := 14, ground := Go.Ground.phase }, { on := 15, ground := Go.Ground.phase }, { on := 16, ground := Go.Ground.phase }, { on := 17, ground := Go.Ground.phase }, { on := 18, ground := Go.Ground.phase }, { on := 19, ground := Go.Ground.phase }, { on := 20, ground := Go.Ground.phase }, { on := 21, ground := Go.Ground.phase }], guard := none } : Oper)
def oKpLastLaw24 : Oper := ({ dst := some 97, op := Go.Op.move (Go.Operand.tmp 11), type := 25, pos := "outright.go:45", after := #[], guard := none } : Oper)
def oKpLastLaw25 : Oper := ({ dst := some 98, op := Go.Op.move (Go.Operand.tmp 12), type := 3, pos := "outright.go:45", after := #[], guard := none } : Oper)
def oKpLastLaw26 : Oper := ({ dst := some 99, op := Go.Op.binOp Go.BinOp.sub 3 (Go.Operand.tmp 98) (Go.Operand.const (Go.Value.int Go.IntKind.i64 1)) 3, type := 3, pos := "outright.go:45", after := #[{ on := 1, ground := Go.Ground.data }], guard := none } : Oper)
def oKpLastLaw27 : Oper := ({ dst := some 100, op := Go.Op.indexAddr 25 (Go.Operand.tmp 97) (Go.Operand.tmp 99), type := 0, pos := "outright.go:45", after := #[{ on := 0, ground := Go.Ground.data }, { on := 2, ground := Go.Ground.data }], guard := none } : Oper)
def oKpLastLaw28 : Oper := ({ dst := some 101, op := Go.Op.fieldAddr 28 (Go.Operand.tmp 100) 0, type := 0, pos := "outright.go:45", after := #[{ on := 3, ground := Go.Ground.data }], guard := none } : Oper)
def oKpLastLaw29 : Oper := ({ dst := some 102, op := Go.Op.load 9 (Go.Operand.tmp 101), type := 9, pos := "outright.go:45", after := #[{ on := 4, ground := Go.Ground.data }], guard := none } : Oper)
def oKpLastLaw30 : Oper := ({ dst := some 103, op := Go.Op.move (Go.Operand.tmp 11), type := 25, pos := "outright.go:45", after := #[], guard := none } : Oper)
def oKpLastLaw31 : Oper := ({ dst := some 104, op := Go.Op.move (Go.Operand.tmp 12), type := 3, pos := "outright.go:45", after := #[], guard := none } : Oper)
def oKpLastLaw32 : Oper := ({ dst := some 105, op := Go.Op.indexAddr 25 (Go.Operand.tmp 103) (Go.Operand.tmp 104), type := 0, pos := "outright.go:45", after := #[{ on := 6, ground := Go.Ground.data }, { on := 7, ground := Go.Ground.data }], guard := none } : Oper)
def oKpLastLaw33 : Oper := ({ dst := some 106, op := Go.Op.fieldAddr 28 (Go.Operand.tmp 105) 0, type := 0, pos := "outright.go:45", after := #[{ on := 8, ground := Go.Ground.data }], guard := none } : Oper)
def oKpLastLaw34 : Oper := ({ dst := some 107, op := Go.Op.load 9 (Go.Operand.tmp 106), type := 9, pos := "outright.go:45", after := #[{ on := 9, ground := Go.Ground.data }], guard := none } : Oper)
def oKpLastLaw35 : Oper := ({ dst := some 108, op := Go.Op.binOp Go.BinOp.geq 9 (Go.Operand.tmp 102) (Go.Operand.tmp 107) 9, type := 4, pos := "outright.go:45", after := #[{ on := 5, ground := Go.Ground.data }, { on := 10, ground := Go.Ground.data }], guard := none } : Oper)
end
open Go.RowKit Go.ChangeShapes Go.WideShapes Go.ChangeAt
open Go.ChangeMaps (open_string shut_string)
/-- The row behind place k, up to j. -/
def segL (l : List Ms) (k j : Nat) : List Ms := (l.drop (k + 1)).take (j - (k + 1))
theorem seg_start (l : List Ms) (k : Nat) : segL l k (k + 1) = [] := by unfold segL; simp
theorem seg_end (l : List Ms) (k n : Nat) (h : l.length ≤ n) : segL l k n = l.drop (k + 1) := by
  unfold segL
  refine List.take_of_length_le ?_
  rw [List.length_drop]; omega
theorem seg_step (l : List Ms) (k j : Nat) (y : Ms) (h : l[j]? = some y) (hj : k + 1 ≤ j) : segL l k (j + 1) = segL l k j ++ [y] := by
  unfold segL
  rw [show j + 1 - (k + 1) = (j - (k + 1)) + 1 by omega, List.take_add_one, List.getElem?_drop, show k + 1 + (j - (k + 1)) = j by omega, h]
  rfl
theorem later_snoc (t : List UInt8) (s : List Ms) (y : Ms) : laterB t (s ++ [y]) = (laterB t s || (mayB y && y.1 == t)) := by unfold laterB; rw [List.any_append]; simp
theorem lastW_drop (l : List Ms) (k : Nat) (x : Ms) (h : l[k]? = some x) : lastW (l.drop k) = (if lastB x (l.drop (k + 1)) && x.2.1 != [] then [rtM x] else []) ++ lastW (l.drop (k + 1)) := by
  have hlt := (List.getElem?_eq_some_iff.1 h).1
  rw [List.drop_eq_getElem_cons hlt, (List.getElem?_eq_some_iff.1 h).2, lastW_cons]
theorem made_rise {L : List Ms} (h : Srt kB L) (q : Nat) (x y : Ms) (hx : L[q]? = some x) (hy : L[q + 1]? = some y) : Op.bytesLess x.1 y.1 = true := by
  obtain ⟨h1, e1⟩ := List.getElem?_eq_some_iff.1 hx
  obtain ⟨h2, e2⟩ := List.getElem?_eq_some_iff.1 hy
  have := List.pairwise_iff_getElem.1 h q (q + 1) h1 h2 (by omega)
  rw [e1, e2] at this
  exact this
namespace lawKeepLast
set_option maxRecDepth 100000 in
set_option maxHeartbeats 8000000 in
theorem walk (w : World) (hG : Glo w) (A : Option Addr) (n c : Nat) (l : List Ms) (hs : Msgs w A n l) (hn : n ≤ 9223372036854775807) (hi : Hid (∀ x ∈ l, MIn x)) :
    Calls Tryd.prog 4 #[.slice A n c] w fun e w' => e = .returned (.bool true) ∧ Below w.heap.size w w' := by
  have HG := Lib.hid hG
  have HS := Lib.hid hs
  clear hG hs
  go_enter Tryd.func4, Tryd.ntmps4
  go_wp2_with fail
  refine (great10_any A n c l _ HS.out hn hi).mono ?_
  rintro e w0 ⟨g, rfl, hok, rfl⟩
  cases g with
  | true =>
    go_wp2_with fail
    refine (awake10_any _ HG.out).mono ?_
    rintro e w1 ⟨rfl, hb⟩
    go_wp2_with fail
    go_ret
    exact ⟨rfl, hb⟩
  | false =>
    have HOK := Lib.hid (hok rfl)
    clear hok
    have hnl := HS.out.len
    have hn60 : n ≤ 60 := by have := HOK.out.1; omega
    have HNL := Lib.hid hnl
    go_wp2_with fail
    refine (made_any A n c l _ HS.out HOK.out).mono ?_
    rintro e w1 ⟨⟨t, F, rfl, hP, hb, _⟩, hk⟩
    have hlast : ∀ (i : Nat) (m : Ms), l[i]? = some m → lastB m (l.drop (i + 1)) = true → getM (madeM l) m.1 = if m.2.1 = [] then none else some (rtM m) := get_last l
    have hcnt := made_len l
    obtain ⟨L, hL⟩ : ∃ L, madeM l = L := ⟨_, rfl⟩
    rw [hL] at hP hk hlast hcnt
    obtain ⟨N, hN⟩ : ∃ N, L.length = N := ⟨_, rfl⟩
    rw [hN] at hcnt
    have HP := Lib.hid hP
    have HK := Lib.hid hk
    have HLAST := Lib.hid hlast
    have HN := Lib.hid hN
    have HCNT := Lib.hid hcnt
    have hN60 : N ≤ 60 := by rw [← hN]; exact hk.2.1
    clear hP hk hL hlast hcnt hN hnl
    go_wp2_with fail
    go_loopw [4, 5] (fun s i wr => ∃ (k cnt : Nat), s = .int .i64 cnt ∧ i = .int .i64 k ∧ k ≤ n ∧ Below w.heap.size w wr ∧ Below w1.heap.size w1 wr ∧ Hid (cnt + (lastW (l.drop k)).length = N)) (fun s i _ => n - (intOf i).toNat)
    case atStart => exact ⟨0, 0, rfl, rfl, by omega, hb, Below.refl _ _, by show _ = _; rw [List.drop_zero, Nat.zero_add]; exact HCNT.out⟩
    case round =>
      obtain ⟨k, cnt, rfl, rfl, hk, hbw, hb7, hc⟩ := hrel
      by_cases hlt : k < n
      · obtain ⟨b1, o1, x, rfl, hx, hat⟩ := (HS.out.below hbw).at_ hlt
        have hxs := HOK.out.2 x (List.mem_of_getElem? hx)
        have hlw := lastW_drop l k x hx
        have hgl := HLAST.out k x hx
        have HAT := Lib.hid hat
        have HX := Lib.hid hx
        have HLW := Lib.hid hlw
        have HGL := Lib.hid hgl
        have hkI : (k : Int) < (n : Int) := by omega
        have hk0 : (0 : Int) ≤ (k : Int) := by omega
        obtain ⟨x1, x2, x3, x4⟩ := x
        obtain ⟨q0, q1, q2, q3⟩ := hat
        dsimp only at q0 q1 q2 q3 hxs
        obtain ⟨hx1, hx2⟩ := hxs
        obtain ⟨r, hr⟩ : ∃ r, mayB (x1, x2, x3, x4) = r := ⟨_, rfl⟩
        have HR := Lib.hid hr
        clear hx hlw hgl hr
        go_wp2_with fail
        refine (kMay _ (x1, x2, x3, x4) r (by dsimp only; omega) HR.out).mono ?_
        rintro e w4 ⟨rfl, hb8⟩
        have hb4 := below_more hbw hb8
        have hb14 := below_more hb7 hb8
        have HAT4 := Lib.hid (HAT.out.below hb8)
        have hk1w : IntKind.i64.wrap ((k : Int) + 1) = (k : Int) + 1 := IntWalk.i64_in _ (by omega)
        clear hb8 hbw hb7 q0 q1 q2 q3
        go_wp2_with fail
        go_loopw [6, 7] (fun s i wr => ∃ (j : Nat) (lv : Bool), s = .bool lv ∧ i = .int .i64 j ∧ k + 1 ≤ j ∧ j ≤ n ∧ Below w4.heap.size w4 wr ∧ Hid ((r && !laterB x1 (segL l k j)) = lv)) (fun s i _ => n - (intOf i).toNat)
        case atStart => exact ⟨k + 1, r, rfl, by simp, by omega, by omega, Below.refl _ _, by show _ = _; rw [seg_start]; cases r <;> rfl⟩
        case round =>
          obtain ⟨j, lv, rfl, rfl, hkj, hj, hbj, hlv⟩ := hrel
          by_cases hjl : j < n
          · obtain ⟨b2, o2, y, e2, hy, haty⟩ := (HS.out.below (below_more hb4 hbj)).at_ hjl
            cases e2
            have hys := HOK.out.2 y (List.mem_of_getElem? hy)
            have hsg := seg_step l k j y hy hkj
            have hjI : (j : Int) < (n : Int) := by omega
            have hj0 : (0 : Int) ≤ (j : Int) := by omega
            obtain ⟨y1, y2, y3, y4⟩ := y
            have HATY := Lib.hid haty
            have HATX := Lib.hid (HAT4.out.below hbj)
            dsimp only at hys
            obtain ⟨hy1, hy2⟩ := hys
            have hnx : (r && !laterB x1 (segL l k (j + 1))) = (lv && !(mayB (y1, y2, y3, y4) && y1 == x1)) := by
              rw [hsg, later_snoc, ← hlv.out]
              cases r <;> cases laterB x1 (segL l k j) <;> simp
            clear hy haty hsg
            cases lv with
            | false =>
              have HNX : Hid ((r && !laterB x1 (segL l k (j + 1))) = false) := hnx
              clear hnx
              go_wp2_with fail
              refine wp_region_held_drew (S := (fun w' => Below wr.heap.size wr w')) (by kernel_rfl) ((Below.refl _ _).drew) (fun hHeld => ?_)
              refine tkY 0 oKpLastLaw1 ?vv8_28_0 rfl (by kernel_rfl) (by kernel_rfl) (by kernel_rfl) (fun _ _ _ h => h) (by rfl) ?hy8_28_0 (by assumption) ?rest8_28_0
              case hy8_28_0 => (intro w hSw; unfold oKpLastLaw1; (try dsimp only at hSw); (try go_split_ands); go_simp; all_goals with_reducible rfl)
              try simp only [oKpLastLaw1, Act.put, sA, sB, sC]
              refine tkY 1 oKpLastLaw2 ?vv8_28_1 rfl (by kernel_rfl) (by kernel_rfl) (by kernel_rfl) (fun _ _ _ h => h) (by rfl) ?hy8_28_1 (by assumption) ?rest8_28_1
              case hy8_28_1 => (intro w hSw; unfold oKpLastLaw2; (try dsimp only at hSw); (try go_split_ands); go_simp; all_goals with_reducible rfl)
              try simp only [oKpLastLaw2, Act.put, sA, sB, sC]
              refine wpAnyH_take (i := 2) (oi := oKpLastLaw3) (v := undef) rfl (by kernel_rfl) (by kernel_rfl) (by kernel_rfl) (fun _ _ _ h => h) (Or.inr ⟨by rfl, rfl⟩) (by assumption) ?rest8_29_2
              try simp only [oKpLastLaw3, Act.put, sA, sB, sC]
              refine wpAnyH_take (i := 3) (oi := oKpLastLaw4) (v := undef) rfl (by kernel_rfl) (by kernel_rfl) (by kernel_rfl) (fun _ _ _ h => h) (Or.inr ⟨by rfl, rfl⟩) (by assumption) ?rest8_29_3
              try simp only [oKpLastLaw4, Act.put, sA, sB, sC]
              refine wpAnyH_take (i := 4) (oi := oKpLastLaw5) (v := undef) rfl (by kernel_rfl) (by kernel_rfl) (by kernel_rfl) (fun _ _ _ h => h) (Or.inr ⟨by rfl, rfl⟩) (by assumption) ?rest8_29_4
              try simp only [oKpLastLaw5, Act.put, sA, sB, sC]
              refine wpAnyH_take (i := 5) (oi := oKpLastLaw6) (v := undef) rfl (by kernel_rfl) (by kernel_rfl) (by kernel_rfl) (fun _ _ _ h => h) (Or.inr ⟨by rfl, rfl⟩) (by assumption) ?rest8_29_5
              try simp only [oKpLastLaw6, Act.put, sA, sB, sC]
              refine wpAnyH_take (i := 6) (oi := oKpLastLaw7) (v := undef) rfl (by kernel_rfl) (by kernel_rfl) (by kernel_rfl) (fun _ _ _ h => h) (Or.inr ⟨by rfl, rfl⟩) (by assumption) ?rest8_29_6
              try simp only [oKpLastLaw7, Act.put, sA, sB, sC]
              refine wpAnyH_take (i := 7) (oi := oKpLastLaw8) (v := undef) rfl (by kernel_rfl) (by kernel_rfl) (by kernel_rfl) (fun _ _ _ h => h) (Or.inr ⟨by rfl, rfl⟩) (by assumption) ?rest8_29_7
              try simp only [oKpLastLaw8, Act.put, sA, sB, sC]
              refine wpAnyH_take (i := 8) (oi := oKpLastLaw9) (v := undef) rfl (by kernel_rfl) (by kernel_rfl) (by kernel_rfl) (fun _ _ _ h => h) (Or.inr ⟨by rfl, rfl⟩) (by assumption) ?rest8_29_8
              try simp only [oKpLastLaw9, Act.put, sA, sB, sC]
              refine wpAnyH_take (i := 9) (oi := oKpLastLaw10) (v := undef) rfl (by kernel_rfl) (by kernel_rfl) (by kernel_rfl) (fun _ _ _ h => h) (Or.inr ⟨by rfl, rfl⟩) (by assumption) ?rest8_29_9
              try simp only [oKpLastLaw10, Act.put, sA, sB, sC]
              refine wpAnyH_take (i := 10) (oi := oKpLastLaw11) (v := undef) rfl (by kernel_rfl) (by kernel_rfl) (by kernel_rfl) (fun _ _ _ h => h) (Or.inr ⟨by rfl, rfl⟩) (by assumption) ?rest8_29_10
              try simp only [oKpLastLaw11, Act.put, sA, sB, sC]
              refine wpAnyH_take (i := 11) (oi := oKpLastLaw12) (v := undef) rfl (by kernel_rfl) (by kernel_rfl) (by kernel_rfl) (fun _ _ _ h => h) (Or.inr ⟨by rfl, rfl⟩) (by assumption) ?rest8_29_11
              try simp only [oKpLastLaw12, Act.put, sA, sB, sC]
              refine wpAnyH_take (i := 12) (oi := oKpLastLaw13) (v := undef) rfl (by kernel_rfl) (by kernel_rfl) (by kernel_rfl) (fun _ _ _ h => h) (Or.inr ⟨by rfl, rfl⟩) (by assumption) ?rest8_29_12
              try simp only [oKpLastLaw13, Act.put, sA, sB, sC]
              refine wpAnyH_take (i := 13) (oi := oKpLastLaw14) (v := undef) rfl (by kernel_rfl) (by kernel_rfl) (by kernel_rfl) (fun _ _ _ h => h) (Or.inr ⟨by rfl, rfl⟩) (by assumption) ?rest8_29_13
              try simp only [oKpLastLaw14, Act.put, sA, sB, sC]
              refine wpAnyH_take (i := 14) (oi := oKpLastLaw15) (v := undef) rfl (by kernel_rfl) (by kernel_rfl) (by kernel_rfl) (fun _ _ _ h => h) (Or.inr ⟨by rfl, rfl⟩) (by assumption) ?rest8_29_14
              try simp only [oKpLastLaw15, Act.put, sA, sB, sC]
              refine wpAnyH_take (i := 15) (oi := oKpLastLaw16) (v := undef) rfl (by kernel_rfl) (by kernel_rfl) (by kernel_rfl) (fun _ _ _ h => h) (Or.inr ⟨by rfl, rfl⟩) (by assumption) ?rest8_29_15
              try simp only [oKpLastLaw16, Act.put, sA, sB, sC]
              refine wpAnyH_take (i := 16) (oi := oKpLastLaw17) (v := undef) rfl (by kernel_rfl) (by kernel_rfl) (by kernel_rfl) (fun _ _ _ h => h) (Or.inr ⟨by rfl, rfl⟩) (by assumption) ?rest8_29_16
              try simp only [oKpLastLaw17, Act.put, sA, sB, sC]
              refine wpAnyH_take (i := 17) (oi := oKpLastLaw18) (v := undef) rfl (by kernel_rfl) (by kernel_rfl) (by kernel_rfl) (fun _ _ _ h => h) (Or.inr ⟨by rfl, rfl⟩) (by assumption) ?rest8_29_17
              try simp only [oKpLastLaw18, Act.put, sA, sB, sC]
              refine wpAnyH_take (i := 18) (oi := oKpLastLaw19) (v := undef) rfl (by kernel_rfl) (by kernel_rfl) (by kernel_rfl) (fun _ _ _ h => h) (Or.inr ⟨by rfl, rfl⟩) (by assumption) ?rest8_29_18
              try simp only [oKpLastLaw19, Act.put, sA, sB, sC]
              refine wpAnyH_take (i := 19) (oi := oKpLastLaw20) (v := undef) rfl (by kernel_rfl) (by kernel_rfl) (by kernel_rfl) (fun _ _ _ h => h) (Or.inr ⟨by rfl, rfl⟩) (by assumption) ?rest8_29_19
              try simp only [oKpLastLaw20, Act.put, sA, sB, sC]
              refine wpAnyH_take (i := 20) (oi := oKpLastLaw21) (v := undef) rfl (by kernel_rfl) (by kernel_rfl) (by kernel_rfl) (fun _ _ _ h => h) (Or.inr ⟨by rfl, rfl⟩) (by assumption) ?rest8_29_20
              try simp only [oKpLastLaw21, Act.put, sA, sB, sC]
              refine tkY 21 oKpLastLaw22 ?vv8_30_21 rfl (by kernel_rfl) (by kernel_rfl) (by kernel_rfl) (fun _ _ _ h => h) (by rfl) ?hy8_30_21 (by assumption) ?rest8_30_21
              case hy8_30_21 => (intro w hSw; unfold oKpLastLaw22; (try dsimp only at hSw); (try go_split_ands); go_simp; all_goals with_reducible rfl)
              try simp only [oKpLastLaw22, Act.put, sA, sB, sC]
              refine tkY 22 oKpLastLaw23 ?vv8_30_22 rfl (by kernel_rfl) (by kernel_rfl) (by kernel_rfl) (fun _ _ _ h => h) (by rfl) ?hy8_30_22 (by assumption) ?rest8_30_22
              case hy8_30_22 => (intro w hSw; unfold oKpLastLaw23; (try dsimp only at hSw); (try go_split_ands); go_simp; all_goals with_reducible rfl)
              try simp only [oKpLastLaw23, Act.put, sA, sB, sC]
              refine wpAnyH_done (by kernel_rfl) ?_ _
              have hb9 := below_more hbj hHeld
              clear hHeld hbj
              go_wp2_with fail
              go_roundw
              case rel => exact ⟨j + 1, _, rfl, by go_num, by omega, by omega, hb9, HNX.out⟩
              case measure => simp [intOf]; omega
            | true =>
              rw [Bool.true_and] at hnx
              obtain ⟨my, hmy⟩ : ∃ r, mayB (y1, y2, y3, y4) = r := ⟨_, rfl⟩
              rw [hmy] at hnx
              have HMY := Lib.hid hmy
              clear hmy
              cases my with
              | false =>
                have HNX : Hid ((r && !laterB x1 (segL l k (j + 1))) = true) := hnx
                clear hnx
                go_wp2_with fail
                refine wp_region_held_drew (S := (fun w' => Below wr.heap.size wr w')) (by kernel_rfl) ((Below.refl _ _).drew) (fun hHeld => ?_)
                refine tkY 0 oKpLastLaw1 ?vv9_31_0 rfl (by kernel_rfl) (by kernel_rfl) (by kernel_rfl) (fun _ _ _ h => h) (by rfl) ?hy9_31_0 (by assumption) ?rest9_31_0
                case hy9_31_0 => (intro w hSw; unfold oKpLastLaw1; (try dsimp only at hSw); (try go_split_ands); go_simp; all_goals with_reducible rfl)
                try simp only [oKpLastLaw1, Act.put, sA, sB, sC]
                refine tkY 1 oKpLastLaw2 ?vv9_31_1 rfl (by kernel_rfl) (by kernel_rfl) (by kernel_rfl) (fun _ _ _ h => h) (by rfl) ?hy9_31_1 (by assumption) ?rest9_31_1
                case hy9_31_1 => (intro w hSw; unfold oKpLastLaw2; (try dsimp only at hSw); (try go_split_ands); go_simp; all_goals with_reducible rfl)
                try simp only [oKpLastLaw2, Act.put, sA, sB, sC]
                refine tkY 2 oKpLastLaw3 ?vv9_31_2 rfl (by kernel_rfl) (by kernel_rfl) (by kernel_rfl) (fun _ _ _ h => h) (by rfl) ?hy9_31_2 (by assumption) ?rest9_31_2
                case hy9_31_2 => (intro w hSw; unfold oKpLastLaw3; (try dsimp only at hSw); (try go_split_ands); go_simp; all_goals with_reducible rfl)
                try simp only [oKpLastLaw3, Act.put, sA, sB, sC]
                refine tkY 3 oKpLastLaw4 ?vv9_31_3 rfl (by kernel_rfl) (by kernel_rfl) (by kernel_rfl) (fun _ _ _ h => h) (by rfl) ?hy9_31_3 (by assumption) ?rest9_31_3
                case hy9_31_3 => (intro w hSw; unfold oKpLastLaw4; (try dsimp only at hSw); (try go_split_ands); go_simp; all_goals with_reducible rfl)
                try simp only [oKpLastLaw4, Act.put, sA, sB, sC]
                refine tkY 4 oKpLastLaw5 ?vv9_31_4 rfl (by kernel_rfl) (by kernel_rfl) (by kernel_rfl) (fun _ _ _ h => h) (by rfl) ?hy9_31_4 (by assumption) ?rest9_31_4
                case hy9_31_4 => (intro w hSw; unfold oKpLastLaw5; (try dsimp only at hSw); (try go_split_ands); go_simp; all_goals with_reducible rfl)
                try simp only [oKpLastLaw5, Act.put, sA, sB, sC]
                refine tkY 5 oKpLastLaw6 ?vv9_32_5 rfl (by kernel_rfl) (by kernel_rfl) (by kernel_rfl) (fun _ _ _ h => h) (by rfl) ?hy9_32_5 (by assumption) ?rest9_32_5
                case hy9_32_5 => (intro w hSw; unfold oKpLastLaw6; (try dsimp only at hSw); have ⟨q0, q1, q2, q3⟩ := HATY.out.below hSw; clear hSw; dsimp only at q0 q1 q2 q3; go_simp; all_goals with_reducible rfl)
                try simp only [oKpLastLaw6, Act.put, sA, sB, sC]
                refine wpAnyH_ready (rs := [6]) (by kernel_rfl) (by simp) ?_
                refine AllReadyH.cons (o := oKpLastLaw7) rfl (fun K hK => ?_) AllReadyH.nil
                unfold oKpLastLaw7
                go_simp
                (go_at_call 18; refine (kMay _ (y1, y2, y3, y4) false (by dsimp only; omega) HMY.out).mono ?_; rintro e w8 ⟨rfl, hb6⟩)
                refine hK.out _ _ ?_ (fun hHeld => ?_)
                · (exact below_more hHeld hb6)
                clear hK K
                try simp only [oKpLastLaw7, Act.put, sA, sB, sC]
                refine tkY 7 oKpLastLaw8 ?vv9_33_7 rfl (by kernel_rfl) (by kernel_rfl) (by kernel_rfl) (fun _ _ _ h => h) (by rfl) ?hy9_33_7 (by assumption) ?rest9_33_7
                case hy9_33_7 => (intro w hSw; unfold oKpLastLaw8; (try dsimp only at hSw); (try go_split_ands); go_simp; all_goals with_reducible rfl)
                try simp only [oKpLastLaw8, Act.put, sA, sB, sC]
                refine wpAnyH_take (i := 8) (oi := oKpLastLaw9) (v := undef) rfl (by kernel_rfl) (by kernel_rfl) (by kernel_rfl) (fun _ _ _ h => h) (Or.inr ⟨by rfl, rfl⟩) (by assumption) ?rest9_34_8
                try simp only [oKpLastLaw9, Act.put, sA, sB, sC]
                refine wpAnyH_take (i := 9) (oi := oKpLastLaw10) (v := undef) rfl (by kernel_rfl) (by kernel_rfl) (by kernel_rfl) (fun _ _ _ h => h) (Or.inr ⟨by rfl, rfl⟩) (by assumption) ?rest9_34_9
                try simp only [oKpLastLaw10, Act.put, sA, sB, sC]
                refine wpAnyH_take (i := 10) (oi := oKpLastLaw11) (v := undef) rfl (by kernel_rfl) (by kernel_rfl) (by kernel_rfl) (fun _ _ _ h => h) (Or.inr ⟨by rfl, rfl⟩) (by assumption) ?rest9_34_10
                try simp only [oKpLastLaw11, Act.put, sA, sB, sC]
                refine wpAnyH_take (i := 11) (oi := oKpLastLaw12) (v := undef) rfl (by kernel_rfl) (by kernel_rfl) (by kernel_rfl) (fun _ _ _ h => h) (Or.inr ⟨by rfl, rfl⟩) (by assumption) ?rest9_34_11
                try simp only [oKpLastLaw12, Act.put, sA, sB, sC]
                refine wpAnyH_take (i := 12) (oi := oKpLastLaw13) (v := undef) rfl (by kernel_rfl) (by kernel_rfl) (by kernel_rfl) (fun _ _ _ h => h) (Or.inr ⟨by rfl, rfl⟩) (by assumption) ?rest9_34_12
                try simp only [oKpLastLaw13, Act.put, sA, sB, sC]
                refine wpAnyH_take (i := 13) (oi := oKpLastLaw14) (v := undef) rfl (by kernel_rfl) (by kernel_rfl) (by kernel_rfl) (fun _ _ _ h => h) (Or.inr ⟨by rfl, rfl⟩) (by assumption) ?rest9_34_13
                try simp only [oKpLastLaw14, Act.put, sA, sB, sC]
                refine wpAnyH_take (i := 14) (oi := oKpLastLaw15) (v := undef) rfl (by kernel_rfl) (by kernel_rfl) (by kernel_rfl) (fun _ _ _ h => h) (Or.inr ⟨by rfl, rfl⟩) (by assumption) ?rest9_34_14
                try simp only [oKpLastLaw15, Act.put, sA, sB, sC]
                refine wpAnyH_take (i := 15) (oi := oKpLastLaw16) (v := undef) rfl (by kernel_rfl) (by kernel_rfl) (by kernel_rfl) (fun _ _ _ h => h) (Or.inr ⟨by rfl, rfl⟩) (by assumption) ?rest9_34_15
                try simp only [oKpLastLaw16, Act.put, sA, sB, sC]
                refine wpAnyH_take (i := 16) (oi := oKpLastLaw17) (v := undef) rfl (by kernel_rfl) (by kernel_rfl) (by kernel_rfl) (fun _ _ _ h => h) (Or.inr ⟨by rfl, rfl⟩) (by assumption) ?rest9_34_16
                try simp only [oKpLastLaw17, Act.put, sA, sB, sC]
                refine wpAnyH_take (i := 17) (oi := oKpLastLaw18) (v := undef) rfl (by kernel_rfl) (by kernel_rfl) (by kernel_rfl) (fun _ _ _ h => h) (Or.inr ⟨by rfl, rfl⟩) (by assumption) ?rest9_34_17
                try simp only [oKpLastLaw18, Act.put, sA, sB, sC]
                refine wpAnyH_take (i := 18) (oi := oKpLastLaw19) (v := undef) rfl (by kernel_rfl) (by kernel_rfl) (by kernel_rfl) (fun _ _ _ h => h) (Or.inr ⟨by rfl, rfl⟩) (by assumption) ?rest9_34_18
                try simp only [oKpLastLaw19, Act.put, sA, sB, sC]
                refine tkY 19 oKpLastLaw20 ?vv9_35_19 rfl (by kernel_rfl) (by kernel_rfl) (by kernel_rfl) (fun _ _ _ h => h) (by rfl) ?hy9_35_19 (by assumption) ?rest9_35_19
                case hy9_35_19 => (intro w hSw; unfold oKpLastLaw20; (try dsimp only at hSw); (try go_split_ands); go_simp; all_goals with_reducible rfl)
                try simp only [oKpLastLaw20, Act.put, sA, sB, sC]
                refine tkY 20 oKpLastLaw21 ?vv9_35_20 rfl (by kernel_rfl) (by kernel_rfl) (by kernel_rfl) (fun _ _ _ h => h) (by rfl) ?hy9_35_20 (by assumption) ?rest9_35_20
                case hy9_35_20 => (intro w hSw; unfold oKpLastLaw21; (try dsimp only at hSw); (try go_split_ands); go_simp; all_goals with_reducible rfl)
                try simp only [oKpLastLaw21, Act.put, sA, sB, sC]
                refine tkY 21 oKpLastLaw22 ?vv9_35_21 rfl (by kernel_rfl) (by kernel_rfl) (by kernel_rfl) (fun _ _ _ h => h) (by rfl) ?hy9_35_21 (by assumption) ?rest9_35_21
                case hy9_35_21 => (intro w hSw; unfold oKpLastLaw22; (try dsimp only at hSw); (try go_split_ands); go_simp; all_goals with_reducible rfl)
                try simp only [oKpLastLaw22, Act.put, sA, sB, sC]
                refine tkY 22 oKpLastLaw23 ?vv9_35_22 rfl (by kernel_rfl) (by kernel_rfl) (by kernel_rfl) (fun _ _ _ h => h) (by rfl) ?hy9_35_22 (by assumption) ?rest9_35_22
                case hy9_35_22 => (intro w hSw; unfold oKpLastLaw23; (try dsimp only at hSw); (try go_split_ands); go_simp; all_goals with_reducible rfl)
                try simp only [oKpLastLaw23, Act.put, sA, sB, sC]
                refine wpAnyH_done (by kernel_rfl) ?_ _
                have hb9 := below_more hbj hHeld
                clear hHeld hbj
                go_wp2_with fail
                go_roundw
                case rel => exact ⟨j + 1, _, rfl, by go_num, by omega, by omega, hb9, HNX.out⟩
                case measure => simp [intOf]; omega
              | true =>
                obtain ⟨ey, hey⟩ : ∃ r, (y1 == x1) = r := ⟨_, rfl⟩
                rw [hey, Bool.true_and] at hnx
                cases ey with
                | false =>
                  have HNX : Hid ((r && !laterB x1 (segL l k (j + 1))) = true) := hnx
                  clear hnx
                  go_wp2_with fail
                  refine wp_region_held_drew (S := (fun w' => Below wr.heap.size wr w')) (by kernel_rfl) ((Below.refl _ _).drew) (fun hHeld => ?_)
                  refine tkY 0 oKpLastLaw1 ?vv10_36_0 rfl (by kernel_rfl) (by kernel_rfl) (by kernel_rfl) (fun _ _ _ h => h) (by rfl) ?hy10_36_0 (by assumption) ?rest10_36_0
                  case hy10_36_0 => (intro w hSw; unfold oKpLastLaw1; (try dsimp only at hSw); (try go_split_ands); go_simp; all_goals with_reducible rfl)
                  try simp only [oKpLastLaw1, Act.put, sA, sB, sC]
                  refine tkY 1 oKpLastLaw2 ?vv10_36_1 rfl (by kernel_rfl) (by kernel_rfl) (by kernel_rfl) (fun _ _ _ h => h) (by rfl) ?hy10_36_1 (by assumption) ?rest10_36_1
                  case hy10_36_1 => (intro w hSw; unfold oKpLastLaw2; (try dsimp only at hSw); (try go_split_ands); go_simp; all_goals with_reducible rfl)
                  try simp only [oKpLastLaw2, Act.put, sA, sB, sC]
                  refine tkY 2 oKpLastLaw3 ?vv10_36_2 rfl (by kernel_rfl) (by kernel_rfl) (by kernel_rfl) (fun _ _ _ h => h) (by rfl) ?hy10_36_2 (by assumption) ?rest10_36_2
                  case hy10_36_2 => (intro w hSw; unfold oKpLastLaw3; (try dsimp only at hSw); (try go_split_ands); go_simp; all_goals with_reducible rfl)
                  try simp only [oKpLastLaw3, Act.put, sA, sB, sC]
                  refine tkY 3 oKpLastLaw4 ?vv10_36_3 rfl (by kernel_rfl) (by kernel_rfl) (by kernel_rfl) (fun _ _ _ h => h) (by rfl) ?hy10_36_3 (by assumption) ?rest10_36_3
                  case hy10_36_3 => (intro w hSw; unfold oKpLastLaw4; (try dsimp only at hSw); (try go_split_ands); go_simp; all_goals with_reducible rfl)
                  try simp only [oKpLastLaw4, Act.put, sA, sB, sC]
                  refine tkY 4 oKpLastLaw5 ?vv10_36_4 rfl (by kernel_rfl) (by kernel_rfl) (by kernel_rfl) (fun _ _ _ h => h) (by rfl) ?hy10_36_4 (by assumption) ?rest10_36_4
                  case hy10_36_4 => (intro w hSw; unfold oKpLastLaw5; (try dsimp only at hSw); (try go_split_ands); go_simp; all_goals with_reducible rfl)
                  try simp only [oKpLastLaw5, Act.put, sA, sB, sC]
                  refine tkY 5 oKpLastLaw6 ?vv10_37_5 rfl (by kernel_rfl) (by kernel_rfl) (by kernel_rfl) (fun _ _ _ h => h) (by rfl) ?hy10_37_5 (by assumption) ?rest10_37_5
                  case hy10_37_5 => (intro w hSw; unfold oKpLastLaw6; (try dsimp only at hSw); have ⟨q0, q1, q2, q3⟩ := HATY.out.below hSw; clear hSw; dsimp only at q0 q1 q2 q3; go_simp; all_goals with_reducible rfl)
                  try simp only [oKpLastLaw6, Act.put, sA, sB, sC]
                  refine wpAnyH_ready (rs := [6]) (by kernel_rfl) (by simp) ?_
                  refine AllReadyH.cons (o := oKpLastLaw7) rfl (fun K hK => ?_) AllReadyH.nil
                  unfold oKpLastLaw7
                  go_simp
                  (go_at_call 18; refine (kMay _ (y1, y2, y3, y4) true (by dsimp only; omega) HMY.out).mono ?_; rintro e w8 ⟨rfl, hb6⟩)
                  refine hK.out _ _ ?_ (fun hHeld => ?_)
                  · (exact below_more hHeld hb6)
                  clear hK K
                  try simp only [oKpLastLaw7, Act.put, sA, sB, sC]
                  refine tkY 7 oKpLastLaw8 ?vv10_38_7 rfl (by kernel_rfl) (by kernel_rfl) (by kernel_rfl) (fun _ _ _ h => h) (by rfl) ?hy10_38_7 (by assumption) ?rest10_38_7
                  case hy10_38_7 => (intro w hSw; unfold oKpLastLaw8; (try dsimp only at hSw); (try go_split_ands); go_simp; all_goals with_reducible rfl)
                  try simp only [oKpLastLaw8, Act.put, sA, sB, sC]
                  refine tkY 8 oKpLastLaw9 ?vv10_38_8 rfl (by kernel_rfl) (by kernel_rfl) (by kernel_rfl) (fun _ _ _ h => h) (by rfl) ?hy10_38_8 (by assumption) ?rest10_38_8
                  case hy10_38_8 => (intro w hSw; unfold oKpLastLaw9; (try dsimp only at hSw); (try go_split_ands); go_simp; all_goals with_reducible rfl)
                  try simp only [oKpLastLaw9, Act.put, sA, sB, sC]
                  refine tkY 9 oKpLastLaw10 ?vv10_38_9 rfl (by kernel_rfl) (by kernel_rfl) (by kernel_rfl) (fun _ _ _ h => h) (by rfl) ?hy10_38_9 (by assumption) ?rest10_38_9
                  case hy10_38_9 => (intro w hSw; unfold oKpLastLaw10; (try dsimp only at hSw); (try go_split_ands); go_simp; all_goals with_reducible rfl)
                  try simp only [oKpLastLaw10, Act.put, sA, sB, sC]
                  refine tkY 10 oKpLastLaw11 ?vv10_38_10 rfl (by kernel_rfl) (by kernel_rfl) (by kernel_rfl) (fun _ _ _ h => h) (by rfl) ?hy10_38_10 (by assumption) ?rest10_38_10
                  case hy10_38_10 => (intro w hSw; unfold oKpLastLaw11; (try dsimp only at hSw); (try go_split_ands); go_simp; all_goals with_reducible rfl)
                  try simp only [oKpLastLaw11, Act.put, sA, sB, sC]
                  refine tkY 11 oKpLastLaw12 ?vv10_38_11 rfl (by kernel_rfl) (by kernel_rfl) (by kernel_rfl) (fun _ _ _ h => h) (by rfl) ?hy10_38_11 (by assumption) ?rest10_38_11
                  case hy10_38_11 => (intro w hSw; unfold oKpLastLaw12; (try dsimp only at hSw); (try go_split_ands); go_simp; all_goals with_reducible rfl)
                  try simp only [oKpLastLaw12, Act.put, sA, sB, sC]
                  refine tkY 12 oKpLastLaw13 ?vv10_39_12 rfl (by kernel_rfl) (by kernel_rfl) (by kernel_rfl) (fun _ _ _ h => h) (by rfl) ?hy10_39_12 (by assumption) ?rest10_39_12
                  case hy10_39_12 => (intro w hSw; unfold oKpLastLaw13; (try dsimp only at hSw); have ⟨q0, q1, q2, q3⟩ := HATY.out.below hSw; clear hSw; dsimp only at q0 q1 q2 q3; go_simp; all_goals with_reducible rfl)
                  try simp only [oKpLastLaw13, Act.put, sA, sB, sC]
                  refine tkY 13 oKpLastLaw14 ?vv10_40_13 rfl (by kernel_rfl) (by kernel_rfl) (by kernel_rfl) (fun _ _ _ h => h) (by rfl) ?hy10_40_13 (by assumption) ?rest10_40_13
                  case hy10_40_13 => (intro w hSw; unfold oKpLastLaw14; (try dsimp only at hSw); (try go_split_ands); go_simp; all_goals with_reducible rfl)
                  try simp only [oKpLastLaw14, Act.put, sA, sB, sC]
                  refine tkY 14 oKpLastLaw15 ?vv10_40_14 rfl (by kernel_rfl) (by kernel_rfl) (by kernel_rfl) (fun _ _ _ h => h) (by rfl) ?hy10_40_14 (by assumption) ?rest10_40_14
                  case hy10_40_14 => (intro w hSw; unfold oKpLastLaw15; (try dsimp only at hSw); (try go_split_ands); go_simp; all_goals with_reducible rfl)
                  try simp only [oKpLastLaw15, Act.put, sA, sB, sC]
                  refine tkY 15 oKpLastLaw16 ?vv10_40_15 rfl (by kernel_rfl) (by kernel_rfl) (by kernel_rfl) (fun _ _ _ h => h) (by rfl) ?hy10_40_15 (by assumption) ?rest10_40_15
                  case hy10_40_15 => (intro w hSw; unfold oKpLastLaw16; (try dsimp only at hSw); (try go_split_ands); go_simp; all_goals with_reducible rfl)
                  try simp only [oKpLastLaw16, Act.put, sA, sB, sC]
                  refine tkY 16 oKpLastLaw17 ?vv10_40_16 rfl (by kernel_rfl) (by kernel_rfl) (by kernel_rfl) (fun _ _ _ h => h) (by rfl) ?hy10_40_16 (by assumption) ?rest10_40_16
                  case hy10_40_16 => (intro w hSw; unfold oKpLastLaw17; (try dsimp only at hSw); (try go_split_ands); go_simp; all_goals with_reducible rfl)
                  try simp only [oKpLastLaw17, Act.put, sA, sB, sC]
                  refine tkY 17 oKpLastLaw18 ?vv10_41_17 rfl (by kernel_rfl) (by kernel_rfl) (by kernel_rfl) (fun _ _ _ h => h) (by rfl) ?hy10_41_17 (by assumption) ?rest10_41_17
                  case hy10_41_17 => (intro w hSw; unfold oKpLastLaw18; (try dsimp only at hSw); have ⟨q0, q1, q2, q3⟩ := HATX.out.below hSw; clear hSw; dsimp only at q0 q1 q2 q3; go_simp; all_goals with_reducible rfl)
                  try simp only [oKpLastLaw18, Act.put, sA, sB, sC]
                  refine tkY 18 oKpLastLaw19 ?vv10_42_18 rfl (by kernel_rfl) (by kernel_rfl) (by kernel_rfl) (fun _ _ _ h => h) (by rfl) ?hy10_42_18 (by assumption) ?rest10_42_18
                  case hy10_42_18 => (intro w hSw; unfold oKpLastLaw19; (try dsimp only at hSw); (try go_split_ands); go_simp; all_goals with_reducible rfl)
                  try simp only [oKpLastLaw19, Act.put, sA, sB, sC]
                  refine tkY 19 oKpLastLaw20 ?vv10_42_19 rfl (by kernel_rfl) (by kernel_rfl) (by kernel_rfl) (fun _ _ _ h => h) (by rfl) ?hy10_42_19 (by assumption) ?rest10_42_19
                  case hy10_42_19 => (intro w hSw; unfold oKpLastLaw20; (try dsimp only at hSw); (try go_split_ands); go_simp; all_goals with_reducible rfl)
                  try simp only [oKpLastLaw20, Act.put, sA, sB, sC]
                  refine tkY 20 oKpLastLaw21 ?vv10_42_20 rfl (by kernel_rfl) (by kernel_rfl) (by kernel_rfl) (fun _ _ _ h => h) (by rfl) ?hy10_42_20 (by assumption) ?rest10_42_20
                  case hy10_42_20 => (intro w hSw; unfold oKpLastLaw21; (try dsimp only at hSw); (try go_split_ands); go_simp; all_goals with_reducible rfl)
                  try simp only [oKpLastLaw21, Act.put, sA, sB, sC]
                  refine tkY 21 oKpLastLaw22 ?vv10_42_21 rfl (by kernel_rfl) (by kernel_rfl) (by kernel_rfl) (fun _ _ _ h => h) (by rfl) ?hy10_42_21 (by assumption) ?rest10_42_21
                  case hy10_42_21 => (intro w hSw; unfold oKpLastLaw22; (try dsimp only at hSw); (try go_split_ands); go_simp; all_goals with_reducible rfl)
                  try simp only [oKpLastLaw22, Act.put, sA, sB, sC]
                  refine tkY 22 oKpLastLaw23 ?vv10_42_22 rfl (by kernel_rfl) (by kernel_rfl) (by kernel_rfl) (fun _ _ _ h => h) (by rfl) ?hy10_42_22 (by assumption) ?rest10_42_22
                  case hy10_42_22 => (intro w hSw; unfold oKpLastLaw23; (try dsimp only at hSw); (try go_split_ands); go_simp; all_goals with_reducible rfl)
                  try simp only [oKpLastLaw23, Act.put, sA, sB, sC]
                  refine wpAnyH_done (by kernel_rfl) ?_ _
                  have hb9 := below_more hbj hHeld
                  clear hHeld hbj
                  go_wp2_with fail
                  go_roundw
                  case rel => exact ⟨j + 1, _, rfl, by go_num, by omega, by omega, hb9, HNX.out⟩
                  case measure => simp [intOf]; omega
                | true =>
                  have HNX : Hid ((r && !laterB x1 (segL l k (j + 1))) = false) := hnx
                  clear hnx
                  go_wp2_with fail
                  refine wp_region_held_drew (S := (fun w' => Below wr.heap.size wr w')) (by kernel_rfl) ((Below.refl _ _).drew) (fun hHeld => ?_)
                  refine tkY 0 oKpLastLaw1 ?vv11_43_0 rfl (by kernel_rfl) (by kernel_rfl) (by kernel_rfl) (fun _ _ _ h => h) (by rfl) ?hy11_43_0 (by assumption) ?rest11_43_0
                  case hy11_43_0 => (intro w hSw; unfold oKpLastLaw1; (try dsimp only at hSw); (try go_split_ands); go_simp; all_goals with_reducible rfl)
                  try simp only [oKpLastLaw1, Act.put, sA, sB, sC]
                  refine tkY 1 oKpLastLaw2 ?vv11_43_1 rfl (by kernel_rfl) (by kernel_rfl) (by kernel_rfl) (fun _ _ _ h => h) (by rfl) ?hy11_43_1 (by assumption) ?rest11_43_1
                  case hy11_43_1 => (intro w hSw; unfold oKpLastLaw2; (try dsimp only at hSw); (try go_split_ands); go_simp; all_goals with_reducible rfl)
                  try simp only [oKpLastLaw2, Act.put, sA, sB, sC]
                  refine tkY 2 oKpLastLaw3 ?vv11_43_2 rfl (by kernel_rfl) (by kernel_rfl) (by kernel_rfl) (fun _ _ _ h => h) (by rfl) ?hy11_43_2 (by assumption) ?rest11_43_2
                  case hy11_43_2 => (intro w hSw; unfold oKpLastLaw3; (try dsimp only at hSw); (try go_split_ands); go_simp; all_goals with_reducible rfl)
                  try simp only [oKpLastLaw3, Act.put, sA, sB, sC]
                  refine tkY 3 oKpLastLaw4 ?vv11_43_3 rfl (by kernel_rfl) (by kernel_rfl) (by kernel_rfl) (fun _ _ _ h => h) (by rfl) ?hy11_43_3 (by assumption) ?rest11_43_3
                  case hy11_43_3 => (intro w hSw; unfold oKpLastLaw4; (try dsimp only at hSw); (try go_split_ands); go_simp; all_goals with_reducible rfl)
                  try simp only [oKpLastLaw4, Act.put, sA, sB, sC]
                  refine tkY 4 oKpLastLaw5 ?vv11_43_4 rfl (by kernel_rfl) (by kernel_rfl) (by kernel_rfl) (fun _ _ _ h => h) (by rfl) ?hy11_43_4 (by assumption) ?rest11_43_4
                  case hy11_43_4 => (intro w hSw; unfold oKpLastLaw5; (try dsimp only at hSw); (try go_split_ands); go_simp; all_goals with_reducible rfl)
                  try simp only [oKpLastLaw5, Act.put, sA, sB, sC]
                  refine tkY 5 oKpLastLaw6 ?vv11_44_5 rfl (by kernel_rfl) (by kernel_rfl) (by kernel_rfl) (fun _ _ _ h => h) (by rfl) ?hy11_44_5 (by assumption) ?rest11_44_5
                  case hy11_44_5 => (intro w hSw; unfold oKpLastLaw6; (try dsimp only at hSw); have ⟨q0, q1, q2, q3⟩ := HATY.out.below hSw; clear hSw; dsimp only at q0 q1 q2 q3; go_simp; all_goals with_reducible rfl)
                  try simp only [oKpLastLaw6, Act.put, sA, sB, sC]
                  refine wpAnyH_ready (rs := [6]) (by kernel_rfl) (by simp) ?_
                  refine AllReadyH.cons (o := oKpLastLaw7) rfl (fun K hK => ?_) AllReadyH.nil
                  unfold oKpLastLaw7
                  go_simp
                  (go_at_call 18; refine (kMay _ (y1, y2, y3, y4) true (by dsimp only; omega) HMY.out).mono ?_; rintro e w8 ⟨rfl, hb6⟩)
                  refine hK.out _ _ ?_ (fun hHeld => ?_)
                  · (exact below_more hHeld hb6)
                  clear hK K
                  try simp only [oKpLastLaw7, Act.put, sA, sB, sC]
                  refine tkY 7 oKpLastLaw8 ?vv11_45_7 rfl (by kernel_rfl) (by kernel_rfl) (by kernel_rfl) (fun _ _ _ h => h) (by rfl) ?hy11_45_7 (by assumption) ?rest11_45_7
                  case hy11_45_7 => (intro w hSw; unfold oKpLastLaw8; (try dsimp only at hSw); (try go_split_ands); go_simp; all_goals with_reducible rfl)
                  try simp only [oKpLastLaw8, Act.put, sA, sB, sC]
                  refine tkY 8 oKpLastLaw9 ?vv11_45_8 rfl (by kernel_rfl) (by kernel_rfl) (by kernel_rfl) (fun _ _ _ h => h) (by rfl) ?hy11_45_8 (by assumption) ?rest11_45_8
                  case hy11_45_8 => (intro w hSw; unfold oKpLastLaw9; (try dsimp only at hSw); (try go_split_ands); go_simp; all_goals with_reducible rfl)
                  try simp only [oKpLastLaw9, Act.put, sA, sB, sC]
                  refine tkY 9 oKpLastLaw10 ?vv11_45_9 rfl (by kernel_rfl) (by kernel_rfl) (by kernel_rfl) (fun _ _ _ h => h) (by rfl) ?hy11_45_9 (by assumption) ?rest11_45_9
                  case hy11_45_9 => (intro w hSw; unfold oKpLastLaw10; (try dsimp only at hSw); (try go_split_ands); go_simp; all_goals with_reducible rfl)
                  try simp only [oKpLastLaw10, Act.put, sA, sB, sC]
                  refine tkY 10 oKpLastLaw11 ?vv11_45_10 rfl (by kernel_rfl) (by kernel_rfl) (by kernel_rfl) (fun _ _ _ h => h) (by rfl) ?hy11_45_10 (by assumption) ?rest11_45_10
                  case hy11_45_10 => (intro w hSw; unfold oKpLastLaw11; (try dsimp only at hSw); (try go_split_ands); go_simp; all_goals with_reducible rfl)
                  try simp only [oKpLastLaw11, Act.put, sA, sB, sC]
                  refine tkY 11 oKpLastLaw12 ?vv11_45_11 rfl (by kernel_rfl) (by kernel_rfl) (by kernel_rfl) (fun _ _ _ h => h) (by rfl) ?hy11_45_11 (by assumption) ?rest11_45_11
                  case hy11_45_11 => (intro w hSw; unfold oKpLastLaw12; (try dsimp only at hSw); (try go_split_ands); go_simp; all_goals with_reducible rfl)
                  try simp only [oKpLastLaw12, Act.put, sA, sB, sC]
                  refine tkY 12 oKpLastLaw13 ?vv11_46_12 rfl (by kernel_rfl) (by kernel_rfl) (by kernel_rfl) (fun _ _ _ h => h) (by rfl) ?hy11_46_12 (by assumption) ?rest11_46_12
                  case hy11_46_12 => (intro w hSw; unfold oKpLastLaw13; (try dsimp only at hSw); have ⟨q0, q1, q2, q3⟩ := HATY.out.below hSw; clear hSw; dsimp only at q0 q1 q2 q3; go_simp; all_goals with_reducible rfl)
                  try simp only [oKpLastLaw13, Act.put, sA, sB, sC]
                  refine tkY 13 oKpLastLaw14 ?vv11_47_13 rfl (by kernel_rfl) (by kernel_rfl) (by kernel_rfl) (fun _ _ _ h => h) (by rfl) ?hy11_47_13 (by assumption) ?rest11_47_13
                  case hy11_47_13 => (intro w hSw; unfold oKpLastLaw14; (try dsimp only at hSw); (try go_split_ands); go_simp; all_goals with_reducible rfl)
                  try simp only [oKpLastLaw14, Act.put, sA, sB, sC]
                  refine tkY 14 oKpLastLaw15 ?vv11_47_14 rfl (by kernel_rfl) (by kernel_rfl) (by kernel_rfl) (fun _ _ _ h => h) (by rfl) ?hy11_47_14 (by assumption) ?rest11_47_14
                  case hy11_47_14 => (intro w hSw; unfold oKpLastLaw15; (try dsimp only at hSw); (try go_split_ands); go_simp; all_goals with_reducible rfl)
                  try simp only [oKpLastLaw15, Act.put, sA, sB, sC]
                  refine tkY 15 oKpLastLaw16 ?vv11_47_15 rfl (by kernel_rfl) (by kernel_rfl) (by kernel_rfl) (fun _ _ _ h => h) (by rfl) ?hy11_47_15 (by assumption) ?rest11_47_15
                  case hy11_47_15 => (intro w hSw; unfold oKpLastLaw16; (try dsimp only at hSw); (try go_split_ands); go_simp; all_goals with_reducible rfl)
                  try simp only [oKpLastLaw16, Act.put, sA, sB, sC]
                  refine tkY 16 oKpLastLaw17 ?vv11_47_16 rfl (by kernel_rfl) (by kernel_rfl) (by kernel_rfl) (fun _ _ _ h => h) (by rfl) ?hy11_47_16 (by assumption) ?rest11_47_16
                  case hy11_47_16 => (intro w hSw; unfold oKpLastLaw17; (try dsimp only at hSw); (try go_split_ands); go_simp; all_goals with_reducible rfl)
                  try simp only [oKpLastLaw17, Act.put, sA, sB, sC]
                  refine tkY 17 oKpLastLaw18 ?vv11_48_17 rfl (by kernel_rfl) (by kernel_rfl) (by kernel_rfl) (fun _ _ _ h => h) (by rfl) ?hy11_48_17 (by assumption) ?rest11_48_17
                  case hy11_48_17 => (intro w hSw; unfold oKpLastLaw18; (try dsimp only at hSw); have ⟨q0, q1, q2, q3⟩ := HATX.out.below hSw; clear hSw; dsimp only at q0 q1 q2 q3; go_simp; all_goals with_reducible rfl)
                  try simp only [oKpLastLaw18, Act.put, sA, sB, sC]
                  refine tkY 18 oKpLastLaw19 ?vv11_49_18 rfl (by kernel_rfl) (by kernel_rfl) (by kernel_rfl) (fun _ _ _ h => h) (by rfl) ?hy11_49_18 (by assumption) ?rest11_49_18
                  case hy11_49_18 => (intro w hSw; unfold oKpLastLaw19; (try dsimp only at hSw); (try go_split_ands); go_simp; all_goals with_reducible rfl)
                  try simp only [oKpLastLaw19, Act.put, sA, sB, sC]
                  refine tkY 19 oKpLastLaw20 ?vv11_49_19 rfl (by kernel_rfl) (by kernel_rfl) (by kernel_rfl) (fun _ _ _ h => h) (by rfl) ?hy11_49_19 (by assumption) ?rest11_49_19
                  case hy11_49_19 => (intro w hSw; unfold oKpLastLaw20; (try dsimp only at hSw); (try go_split_ands); go_simp; all_goals with_reducible rfl)
                  try simp only [oKpLastLaw20, Act.put, sA, sB, sC]
                  refine tkY 20 oKpLastLaw21 ?vv11_49_20 rfl (by kernel_rfl) (by kernel_rfl) (by kernel_rfl) (fun _ _ _ h => h) (by rfl) ?hy11_49_20 (by assumption) ?rest11_49_20
                  case hy11_49_20 => (intro w hSw; unfold oKpLastLaw21; (try dsimp only at hSw); (try go_split_ands); go_simp; all_goals with_reducible rfl)
                  try simp only [oKpLastLaw21, Act.put, sA, sB, sC]
                  refine tkY 21 oKpLastLaw22 ?vv11_49_21 rfl (by kernel_rfl) (by kernel_rfl) (by kernel_rfl) (fun _ _ _ h => h) (by rfl) ?hy11_49_21 (by assumption) ?rest11_49_21
                  case hy11_49_21 => (intro w hSw; unfold oKpLastLaw22; (try dsimp only at hSw); (try go_split_ands); go_simp; all_goals with_reducible rfl)
                  try simp only [oKpLastLaw22, Act.put, sA, sB, sC]
                  refine tkY 22 oKpLastLaw23 ?vv11_49_22 rfl (by kernel_rfl) (by kernel_rfl) (by kernel_rfl) (fun _ _ _ h => h) (by rfl) ?hy11_49_22 (by assumption) ?rest11_49_22
                  case hy11_49_22 => (intro w hSw; unfold oKpLastLaw23; (try dsimp only at hSw); (try go_split_ands); go_simp; all_goals with_reducible rfl)
                  try simp only [oKpLastLaw23, Act.put, sA, sB, sC]
                  refine wpAnyH_done (by kernel_rfl) ?_ _
                  have hb9 := below_more hbj hHeld
                  clear hHeld hbj
                  go_wp2_with fail
                  go_roundw
                  case rel => exact ⟨j + 1, _, rfl, by go_num, by omega, by omega, hb9, HNX.out⟩
                  case measure => simp [intOf]; omega
          · obtain rfl : j = n := by omega
            have hlv2 : lastB (x1, x2, x3, x4) (l.drop (k + 1)) = lv := by
              unfold lastB
              rw [HR.out, ← hlv.out, seg_end l k j (by rw [HNL.out]; exact Nat.le_refl _)]
            have hlw := HLW.out
            rw [hlv2] at hlw
            have HGL2 := HGL
            rw [hlv2] at HGL2
            have hb9 := hb4.trans (hbj.mono hb4.size)
            have hb19 := hb14.trans (hbj.mono hb14.size)
            have HATE := Lib.hid (HAT4.out.below hbj)
            clear hlv hlv2 hbj
            cases lv with
            | false =>
              have HNC : Hid (cnt + (lastW (l.drop (k + 1))).length = N) := by
                show _ = _
                rw [← hc.out, hlw]
                simp
              clear hlw
              go_wp2_with fail
              go_roundw
              case rel => exact ⟨k + 1, cnt, rfl, by go_num, by omega, hb9, hb19, HNC⟩
              case measure => simp [intOf]; omega
            | true =>
              have hget := HGL2.out rfl
              try dsimp only at hget
              obtain ⟨y, hy⟩ : ∃ y, (getM L x1).getD zMs = y := ⟨_, rfl⟩
              obtain ⟨s, hs⟩ : ∃ s, (getM L x1).isSome = s := ⟨_, rfl⟩
              have HGY := Lib.hid hy
              have HGS := Lib.hid hs
              obtain ⟨q0, q1, q2, q3⟩ := HATE.out
              dsimp only at q0 q1 q2 q3
              obtain ⟨W5, hW5⟩ : ∃ W, W = wr.alloc (.cells #[.string ⟨x1.toArray⟩, .string ⟨x2.toArray⟩, .int .u8 x3, .bool true] 28) := ⟨_, rfl⟩
              have hb5 : Below wr.heap.size wr W5 := by rw [hW5]; exact below_alloc (Below.refl _ _) _
              have hX5 : BxM W5 wr.heap.size (x1, x2, x3, true) := by rw [hW5]; exact BxM.new wr (x1, x2, x3, true)
              have HX5 := Lib.hid hX5
              have HP5 := Lib.hid ((HP.out.below hb19).below hb5)
              have hb10 := below_more hb9 hb5
              have hb20 := below_more hb19 hb5
              clear hb5 hX5 hb9 hb19
              by_cases he : x2 = []
              · subst he
                rw [if_pos rfl] at hget
                rw [hget] at hy hs
                have hs1 : s = false := hs.symm
                subst hs1
                have HNC : Hid (cnt + (lastW (l.drop (k + 1))).length = N) := by
                  show _ = _
                  rw [← hc.out, hlw]
                  simp
                clear hlw hget hy hs
                go_wp2_with fail
                rw [← hW5]
                clear hW5
                refine (kGet HP5.out x1 y false (by omega) HGY.out HGS.out).mono ?_
                rintro e w6 ⟨rfl, hb6⟩
                obtain ⟨y1, y2, y3, y4⟩ := y
                obtain ⟨z0, z1, z2, z3⟩ := (HX5.out.below hb6).at_
                have hzl := (HX5.out.below hb6).lt
                have hb11 := below_more hb10 hb6
                have hb21 := below_more hb20 hb6
                dsimp only at z0 z1 z2 z3
                clear hb10 hb20 hb6 q0 q1 q2 q3
                go_wp2_with fail
                go_roundw
                case rel => exact ⟨k + 1, cnt, rfl, by go_num, by omega, below_alloc hb11 _, below_alloc hb21 _, HNC⟩
                case measure => simp [intOf]; omega
              · rw [if_neg he] at hget
                rw [hget] at hy hs
                have hs1 : s = true := hs.symm
                subst hs1
                have hy1 : y = (x1, x2, x3, true) := hy.symm
                subst hy1
                have HNC : Hid (cnt + 1 + (lastW (l.drop (k + 1))).length = N) := by
                  show _ = _
                  have hne : (x2 != []) = true := by simpa using he
                  rw [← hc.out, hlw]
                  try dsimp only
                  rw [hne]
                  simp
                  omega
                have hcw : IntKind.i64.wrap ((cnt : Int) + 1) = (cnt : Int) + 1 := IntWalk.i64_in _ (by have := HNC.out; omega)
                have hpe : x2.isEmpty = false := by cases x2 with | nil => exact absurd rfl he | cons a r => rfl
                have hxx : eqM (x1, x2, x3, true) (x1, x2, x3, true) = true := by rw [eqM_iff]; simp
                clear hlw hget hy hs
                go_wp2_with fail
                rw [← hW5]
                clear hW5
                refine (kGet HP5.out x1 (x1, x2, x3, true) true (by omega) HGY.out HGS.out).mono ?_
                rintro e w6 ⟨rfl, hb6⟩
                obtain ⟨z0, z1, z2, z3⟩ := (HX5.out.below hb6).at_
                have hzl := (HX5.out.below hb6).lt
                have hb11 := below_more hb10 hb6
                have hb21 := below_more hb20 hb6
                dsimp only at z0 z1 z2 z3
                clear hb10 hb20 hb6 q0 q1 q2 q3
                go_wp2_with fail
                go_roundw
                case rel => exact ⟨k + 1, cnt + 1, by go_num, by go_num, by omega, below_alloc hb11 _, below_alloc hb21 _, HNC⟩
                case measure => simp [intOf]; omega
      · obtain rfl : k = n := by omega
        have hcN : cnt = N := by
          rw [← hc.out, List.drop_of_length_le (by rw [HNL.out]; exact Nat.le_refl _)]
          rfl
        subst hcN
        have HP2 := Lib.hid (HP.out.below hb7)
        clear hc hb7
        go_wp2_with fail
        refine (kAll HP2.out HK.out (by omega)).mono ?_
        rintro e w2 ⟨v, rfl, hO⟩
        have hb2 := hO.below
        obtain ⟨A1, c1, rfl, _, hs1, _, _⟩ := hO.form
        rw [HN.out] at hs1 ⊢
        have HS1 := Lib.hid hs1
        have HP3 := Lib.hid (HP2.out.below hb2)
        have hb3 := below_more hbw hb2
        clear hO hb2 hs1 hbw
        go_wp2_with fail
        go_loopw [12] (fun i wr => ∃ q : Nat, i = .int .i64 q ∧ 1 ≤ q ∧ Below w.heap.size w wr ∧ Below w2.heap.size w2 wr) (fun i _ => cnt - (intOf i).toNat)
        case atStart => exact ⟨1, rfl, by omega, hb3, Below.refl _ _⟩
        case round =>
          obtain ⟨q, rfl, hq1, hbq, hbr⟩ := hrel
          by_cases hqn : q < cnt
          · obtain ⟨b8, o8, y, rfl, hy, haty⟩ := (HS1.out.below hbr).at_ hqn
            obtain ⟨p, hp⟩ : ∃ p, q = p + 1 := ⟨q - 1, by omega⟩
            obtain ⟨b9, o9, x, e9, hx, hatx⟩ := (HS1.out.below hbr).at_ (k := p) (by omega)
            cases e9
            have hpw : IntKind.i64.wrap ((q : Int) - 1) = (p : Int) := by rw [IntWalk.i64_in _ (by omega)]; omega
            have hpw2 : IntKind.i64.wrap (p : Int) = (p : Int) := IntWalk.i64_in _ (by omega)
            have hpI : (p : Int) < (cnt : Int) := by omega
            have hp0 : (0 : Int) ≤ (p : Int) := by omega
            have hqI : (q : Int) < (cnt : Int) := by omega
            have hq0 : (0 : Int) ≤ (q : Int) := by omega
            have hR : Op.bytesLess x.1 y.1 = true := made_rise HK.out.1 p x y hx (by rw [← hp]; exact hy)
            have HY1 := Lib.hid haty
            have HX1 := Lib.hid hatx
            obtain ⟨x1, x2, x3, x4⟩ := x
            obtain ⟨y1, y2, y3, y4⟩ := y
            dsimp only at hR
            clear hx hy haty hatx hp
            go_wp2_with fail
            refine wp_region_held_drew (S := (fun w' => Below wr.heap.size wr w')) (by kernel_rfl) ((Below.refl _ _).drew) (fun hHeld => ?_)
            refine tkY 0 oKpLastLaw24 ?vv12_50_0 rfl (by kernel_rfl) (by kernel_rfl) (by kernel_rfl) (fun _ _ _ h => h) (by rfl) ?hy12_50_0 (by assumption) ?rest12_50_0
            case hy12_50_0 => (intro w hSw; unfold oKpLastLaw24; (try dsimp only at hSw); (try go_split_ands); go_simp; all_goals with_reducible rfl)
            try simp only [oKpLastLaw24, Act.put, sA, sB, sC]
            refine tkY 1 oKpLastLaw25 ?vv12_50_1 rfl (by kernel_rfl) (by kernel_rfl) (by kernel_rfl) (fun _ _ _ h => h) (by rfl) ?hy12_50_1 (by assumption) ?rest12_50_1
            case hy12_50_1 => (intro w hSw; unfold oKpLastLaw25; (try dsimp only at hSw); (try go_split_ands); go_simp; all_goals with_reducible rfl)
            try simp only [oKpLastLaw25, Act.put, sA, sB, sC]
            refine tkY 2 oKpLastLaw26 ?vv12_50_2 rfl (by kernel_rfl) (by kernel_rfl) (by kernel_rfl) (fun _ _ _ h => h) (by rfl) ?hy12_50_2 (by assumption) ?rest12_50_2
            case hy12_50_2 => (intro w hSw; unfold oKpLastLaw26; (try dsimp only at hSw); (try go_split_ands); go_simp; all_goals with_reducible rfl)
            try simp only [oKpLastLaw26, Act.put, sA, sB, sC]
            refine tkY 3 oKpLastLaw27 ?vv12_50_3 rfl (by kernel_rfl) (by kernel_rfl) (by kernel_rfl) (fun _ _ _ h => h) (by rfl) ?hy12_50_3 (by assumption) ?rest12_50_3
            case hy12_50_3 => (intro w hSw; unfold oKpLastLaw27; (try dsimp only at hSw); (try go_split_ands); go_simp; all_goals with_reducible rfl)
            try simp only [oKpLastLaw27, Act.put, sA, sB, sC]
            refine tkY 4 oKpLastLaw28 ?vv12_50_4 rfl (by kernel_rfl) (by kernel_rfl) (by kernel_rfl) (fun _ _ _ h => h) (by rfl) ?hy12_50_4 (by assumption) ?rest12_50_4
            case hy12_50_4 => (intro w hSw; unfold oKpLastLaw28; (try dsimp only at hSw); (try go_split_ands); go_simp; all_goals with_reducible rfl)
            try simp only [oKpLastLaw28, Act.put, sA, sB, sC]
            refine tkY 5 oKpLastLaw29 ?vv12_51_5 rfl (by kernel_rfl) (by kernel_rfl) (by kernel_rfl) (fun _ _ _ h => h) (by rfl) ?hy12_51_5 (by assumption) ?rest12_51_5
            case hy12_51_5 => (intro w hSw; unfold oKpLastLaw29; (try dsimp only at hSw); have ⟨q0, q1, q2, q3⟩ := HX1.out.below hSw; clear hSw; dsimp only at q0 q1 q2 q3; go_simp; all_goals with_reducible rfl)
            try simp only [oKpLastLaw29, Act.put, sA, sB, sC]
            refine tkY 6 oKpLastLaw30 ?vv12_52_6 rfl (by kernel_rfl) (by kernel_rfl) (by kernel_rfl) (fun _ _ _ h => h) (by rfl) ?hy12_52_6 (by assumption) ?rest12_52_6
            case hy12_52_6 => (intro w hSw; unfold oKpLastLaw30; (try dsimp only at hSw); (try go_split_ands); go_simp; all_goals with_reducible rfl)
            try simp only [oKpLastLaw30, Act.put, sA, sB, sC]
            refine tkY 7 oKpLastLaw31 ?vv12_52_7 rfl (by kernel_rfl) (by kernel_rfl) (by kernel_rfl) (fun _ _ _ h => h) (by rfl) ?hy12_52_7 (by assumption) ?rest12_52_7
            case hy12_52_7 => (intro w hSw; unfold oKpLastLaw31; (try dsimp only at hSw); (try go_split_ands); go_simp; all_goals with_reducible rfl)
            try simp only [oKpLastLaw31, Act.put, sA, sB, sC]
            refine tkY 8 oKpLastLaw32 ?vv12_52_8 rfl (by kernel_rfl) (by kernel_rfl) (by kernel_rfl) (fun _ _ _ h => h) (by rfl) ?hy12_52_8 (by assumption) ?rest12_52_8
            case hy12_52_8 => (intro w hSw; unfold oKpLastLaw32; (try dsimp only at hSw); (try go_split_ands); go_simp; all_goals with_reducible rfl)
            try simp only [oKpLastLaw32, Act.put, sA, sB, sC]
            refine tkY 9 oKpLastLaw33 ?vv12_52_9 rfl (by kernel_rfl) (by kernel_rfl) (by kernel_rfl) (fun _ _ _ h => h) (by rfl) ?hy12_52_9 (by assumption) ?rest12_52_9
            case hy12_52_9 => (intro w hSw; unfold oKpLastLaw33; (try dsimp only at hSw); (try go_split_ands); go_simp; all_goals with_reducible rfl)
            try simp only [oKpLastLaw33, Act.put, sA, sB, sC]
            refine tkY 10 oKpLastLaw34 ?vv12_53_10 rfl (by kernel_rfl) (by kernel_rfl) (by kernel_rfl) (fun _ _ _ h => h) (by rfl) ?hy12_53_10 (by assumption) ?rest12_53_10
            case hy12_53_10 => (intro w hSw; unfold oKpLastLaw34; (try dsimp only at hSw); have ⟨q0, q1, q2, q3⟩ := HY1.out.below hSw; clear hSw; dsimp only at q0 q1 q2 q3; go_simp; all_goals with_reducible rfl)
            try simp only [oKpLastLaw34, Act.put, sA, sB, sC]
            refine tkY 11 oKpLastLaw35 ?vv12_54_11 rfl (by kernel_rfl) (by kernel_rfl) (by kernel_rfl) (fun _ _ _ h => h) (by rfl) ?hy12_54_11 (by assumption) ?rest12_54_11
            case hy12_54_11 => (intro w hSw; unfold oKpLastLaw35; (try dsimp only at hSw); (try go_split_ands); go_simp; all_goals with_reducible rfl)
            try simp only [oKpLastLaw35, Act.put, sA, sB, sC]
            refine wpAnyH_done (by kernel_rfl) ?_ _
            have hb9 := below_more hbq hHeld
            have hb10 := below_more hbr hHeld
            clear hHeld hbq hbr
            go_wp2_with fail
            go_roundw
            case rel => exact ⟨q + 1, by go_num, by omega, hb9, hb10⟩
            case measure => simp [intOf]; omega
          · have HP4 := Lib.hid (HP3.out.below hbr)
            have hcc : ((cnt : Int) == (cnt : Int)) = true := by simp
            have hqI : ¬ (q : Int) < (cnt : Int) := by omega
            have HLen := kLen HP4.out HK.out.1
            rw [HN.out] at HLen
            have HLEN := Lib.hid HLen
            clear HLen hbr
            go_wp2_with fail
            refine HLEN.out.mono ?_
            rintro e w9 ⟨rfl, rfl⟩
            go_wp2_with fail
            refine (awake10_any _ (HG.out.below hbq)).mono ?_
            rintro e w11 ⟨rfl, hb11⟩
            go_wp2_with fail
            go_ret
            exact ⟨rfl, below_more hbq hb11⟩
set_option maxRecDepth 100000 in
theorem lifted (os : Os) (started : os.Started) (H : Type) (enc : TypeId × Value → H) :
    ReturnsInHanded {} Tryd.checked os 4 .any (fun w args => (Rows.keepLastSpec.pre enc Tryd.prog Tryd.f4 [] false w args ∧ laidMetH Tryd.prog laidL w) ∧ sizedMet enc Tryd.prog Tryd.f4 (OpenSpec.ofChange Rows.keepLastSpec) false w args)
      (Rows.keepLastSpec.post enc Tryd.prog Tryd.f4 false true false false) := by
  refine handed_laid (C := Tryd.checked) (X := fun w _ => laidMetH Tryd.prog laidL w) own_none started (by kernel_rfl) Tryd.func4 (laid_witness os Rows.keepLastSpec #[.slice none 0 0] (by kernel_rfl) (by kernel_rfl) (by kernel_rfl)) ?_
  intro W base args ds gs before hval0 hW hsh
  have hval : ∀ (j : Nat) t v, Tryd.f4.params[j]? = some t → args[j]? = some v → Value.okWide Tryd.prog W .any base t v := hval0
  have hWk := hW
  obtain ⟨p, q, hA0, hV, hbef, _, _⟩ := hWk
  have hA : DataW.TrodAll enc Tryd.prog W 0 (fun _ => true) true Tryd.f4.params.toList args.toList ds p := hA0
  obtain ⟨rfl, rfl⟩ := trodVars_none hV
  rw [Tryd.params4] at hA hval
  obtain ⟨v0, vs0, d0, ds0, p0, q0, hargs, rfl, hp0, h0, r0⟩ := trodAll_cons hA
  obtain ⟨rfl, rfl, hpn⟩ := trodAll_nil r0
  obtain rfl : args = #[v0] := by cases args; simp_all
  obtain ⟨A0, n0, c0, l0, rfl, hs0, _, hn0, hi0⟩ := open_Msgs (hval 0 25 v0 rfl rfl) h0
  refine (walk W (glo_of hsh) A0 n0 c0 l0 hs0 hn0 hi0).mono fun e W' ⟨he, hg⟩ => ?_
  subst he
  exact ⟨_, rfl, law_post laid_out (by kernel_rfl) rfl (by kernel_rfl) Tryd.underlying4 hW rfl hg⟩

theorem over : Rows.keepLastRow.holds Tryd.pinned (OpenSpec.ofChange Rows.keepLastSpec) :=
  OpenClaim.holds_of_wide 4 Tryd.f4 rfl rfl rfl rfl rfl rfl rfl ⟨rfl, rfl, rfl, rfl, rfl⟩ rfl rfl rfl rfl rfl (by kernel_rfl) Tryd.func4 (by kernel_rfl)
    (of_decide_eq_true (by kernel_rfl)) (by unfold Func.isWrapper; first | (rw [if_pos (by decide +kernel)]; kernel_rfl) | (rw [if_neg (by decide +kernel)]; exact ⟨rfl, rfl⟩))
    (fun os started H enc _ => lifted os started H enc)

/-- THE STATEMENT: the card. -/
theorem proved : Rows.KeepLastCardSaid :=
  Claim7.holds_tied_plain_at .later [] [.data, .pinned] true Rows.keepLastCard.stood.harness false over (fun _ h => by cases h) (by kernel_rfl) (fun _ h => by cases h) keepLast_row_tie rfl ⟨rfl, rfl⟩ (by kernel_rfl) rfl
    (fun f fn hf hfn => by
      obtain rfl : f = 4 := Option.some.inj ((show Tryd.prog.funcNamed Rows.keepLastRow.func = some 4 by kernel_rfl).symm.trans hf) |>.symm
      obtain rfl : fn = Tryd.f4 := (Option.some.inj (Tryd.func4.symm.trans hfn)).symm
      exact ⟨by kernel_rfl, fun j t ht => by
        have hm : t ∈ Tryd.f4.params.toList := by simpa using Array.mem_of_getElem? ht
        have hall : (Tryd.f4.params.toList.all fun u => !Tryd.prog.wantsStandIn u) = true := by kernel_rfl
        exact (show Tryd.prog.wantsStandIn t = false by simpa using List.all_eq_true.1 hall t hm)⟩)
    (by kernel_rfl)
end lawKeepLast
end Go.Proofs.YthhadjnffeadfaaDoor
