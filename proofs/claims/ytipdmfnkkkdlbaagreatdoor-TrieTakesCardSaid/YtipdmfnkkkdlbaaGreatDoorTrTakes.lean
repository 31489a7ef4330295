/-
  TrieTakes: who is told of a name are just those of whom a hint's filter takes it, rising, each once. The walk.
-/
import Derived.Test.YtipdmfnkkkdlbaaGreatDoorTrOrdM
set_option linter.unusedSimpArgs false
set_option linter.unusedVariables false
namespace Go.Proofs.YtipdmfnkkkdlbaaGreatDoor
section
open Go.RowKit
def oTrTakes1 : Oper := ({ dst := some 45, op := Go.Op.move (Go.Operand.tmp 9), type := 4, pos := "outright.go:36", after := #[], guard := none } : Oper)
def oTrTakes2 : Oper := ({ dst := some 46, op := Go.Op.move (Go.Operand.tmp 45), type := 4, pos := "outright.go:36", after := #[{ on := 0, ground := Go.Ground.data }], guard := none } : Oper)
def oTrTakes3 : Oper := ({ dst := some 47, op := Go.Op.move (Go.Operand.tmp 4), type := 28, pos := "outright.go:36", after := #[{ on := 1, ground := Go.Ground.guard }], guard := some (1, false) } : Oper)
def oTrTakes4 : Oper := ({ dst := some 48, op := Go.Op.move (Go.Operand.tmp 10), type := 3, pos := "outright.go:36", after := #[{ on := 1, ground := Go.Ground.guard }], guard := some (1, false) } : Oper)
def oTrTakes5 : Oper := ({ dst := some 49, op := Go.Op.indexAddr 28 (Go.Operand.tmp 47) (Go.Operand.tmp 48), type := 0, pos := "outright.go:36", after := #[{ on := 2, ground := Go.Ground.data }, { on := 3, ground := Go.Ground.data }, { on := 1, ground := Go.Ground.guard }], guard := some (1, false) } : Oper)
def oTrTakes6 : Oper := ({ dst := some 50, op := Go.Op.fieldAddr 40 (Go.Operand.tmp 49) 1, type := 0, pos := "outright.go:36", after := #[{ on := 4, ground := Go.Ground.data }, { on := 1, ground := Go.Ground.guard }], guard := some (1, false) } : Oper)
def oTrTakes7 : Oper := ({ dst := some 51, op := Go.Op.load 9 (Go.Operand.tmp 50), type := 9, pos := "outright.go:36", after := #[{ on := 5, ground := Go.Ground.data }, { on := 1, ground := Go.Ground.guard }], guard := some (1, false) } : Oper)
def oTrTakes8 : Oper := ({ dst := some 52, op := Go.Op.move (Go.Operand.tmp 7), type := 36, pos := "outright.go:36", after := #[{ on := 1, ground := Go.Ground.guard }], guard := some (1, false) } : Oper)
def oTrTakes9 : Oper := ({ dst := some 53, op := Go.Op.move (Go.Operand.tmp 8), type := 3, pos := "outright.go:36", after := #[{ on := 1, ground := Go.Ground.guard }], guard := some (1, false) } : Oper)
def oTrTakes10 : Oper := ({ dst := some 54, op := Go.Op.indexAddr 36 (Go.Operand.tmp 52) (Go.Operand.tmp 53), type := 0, pos := "outright.go:36", after := #[{ on := 7, ground := Go.Ground.data }, { on := 8, ground := Go.Ground.data }, { on := 1, ground := Go.Ground.guard }], guard := some (1, false) } : Oper)
def oTrTakes11 : Oper := ({ dst := some 55, op := Go.Op.load 9 (Go.Operand.tmp 54), type := 9, pos := "outright.go:36", after := #[{ on := 9, ground := Go.Ground.data }, { on := 1, ground := Go.Ground.guard }], guard := some (1, false) } : Oper)
def oTrTakes12 : Oper := ({ dst := some 56, op := Go.Op.binOp Go.BinOp.eql 9 (Go.Operand.tmp 51) (Go.Operand.tmp 55) 9, type := 4, pos := "outright.go:36", after := #[{ on := 6, ground := Go.Ground.data }, { on := 10, ground := Go.Ground.data }, { on := 1, ground := Go.Ground.guard }], guard := some (1, false) } : Oper)
def oTrTakes13 : Oper := ({ dst := some 57, op := Go.Op.move (Go.Operand.tmp 56), type := 4, pos := "outright.go:36", after := #[{ on := 11, ground := Go.Ground.data }, { on := 1, ground := Go.Ground.chain }, { on := 1, ground := Go.Ground.guard }], guard := some (1, false) } : Oper)
def oTrTakes14 : Oper := ({ dst := some 58, op := Go.Op.move (Go.Operand.tmp 4), type := 28, pos := "outright.go:36", after := #[{ on := 12, ground := Go.Ground.guard }], guard := some (12, true) } : Oper)
def oTrTakes15 : Oper := ({ dst := some 59, op := Go.Op.move (Go.Operand.tmp 10), type := 3, pos := "outright.go:36", after := #[{ on := 12, ground := Go.Ground.guard }], guard := some (12, true) } : Oper)
def oTrTakes16 : Oper := ({ dst := some 60, op := Go.Op.indexAddr 28 (Go.Operand.tmp 58) (Go.Operand.tmp 59), type := 0, pos := "outright.go:36", after := #[{ on := 13, ground := Go.Ground.data }, { on := 14, ground := Go.Ground.data }, { on := 12, ground := Go.Ground.guard }], guard := some (12, true) } : Oper)
def oTrTakes17 : Oper := ({ dst := some 61, op := Go.Op.fieldAddr 40 (Go.Operand.tmp 60) 0, type := 0, pos := "outright.go:36", after := #[{ on := 15, ground := Go.Ground.data }, { on := 12, ground := Go.Ground.guard }], guard := some (12, true) } : Oper)
def oTrTakes18 : Oper := ({ dst := some 62, op := Go.Op.load 9 (Go.Operand.tmp 61), type := 9, pos := "outright.go:36", after := #[{ on := 16, ground := Go.Ground.data }, { on := 12, ground := Go.Ground.guard }], guard := some (12, true) } : Oper)
def oTrTakes19 : Oper := ({ dst := some 63, op := Go.Op.move (Go.Operand.tmp 6), type := 9, pos := "outright.go:36", after := #[{ on := 12, ground := Go.Ground.guard }], guard := some (12, true) } : Oper)
def oTrTakes20 : Oper := ({ dst := some 64, op := Go.Op.call { callee := Go.Callee.value (Go.Operand.func 25), args := #[Go.Operand.tmp 62, Go.Operand.tmp 63], argTypes := #[9, 9] }, type := 4, pos := "outright.go:36", after := #[{ on := 17, ground := Go.Ground.data }, { on := 18, ground := Go.Ground.data }, { on := 12, ground := Go.Ground.chain }, { on := 12, ground := Go.Ground.guard }], guard := some (12, true) } : Oper)
def oTrTakes21 : Oper := ({ dst := some 65, op := Go.Op.pick (Go.Operand.tmp 57) (Go.Operand.tmp 64) (Go.Operand.const (Go.Value.bool false)), type := 4, pos := "outright.go:36", after := #[{ on := 12, ground := Go.Ground.data }, { on := 19, ground := Go.Ground.data }, { on := 1, ground := Go.Ground.guard }], guard := some (1, false) } : Oper)
def oTrTakes22 : Oper := ({ dst := some 66, op := Go.Op.pick (Go.Operand.tmp 46) (Go.Operand.const (Go.Value.bool true)) (Go.Operand.tmp 65), type := 4, pos := "outright.go:36", after := #[{ on := 1, ground := Go.Ground.data }, { on := 20, ground := Go.Ground.data }], guard := none } : Oper)
def oTrTakes23 : Oper := ({ dst := some 9, op := Go.Op.assign (Go.Operand.tmp 66), type := 4, pos := "outright.go:36", after := #[{ on := 21, ground := Go.Ground.data }, { on := 19, ground := Go.Ground.chain }, { on := 0, ground := Go.Ground.phase }, { on := 1, ground := Go.Ground.phase }, { on := 2, ground := Go.Ground.phase }, { on := 3, ground := Go.Ground.phase }, { on := 4, ground := Go.Ground.phase }, { on := 5, ground := Go.Ground.phase }, { on := 6, ground := Go.Ground.phase }, { on := 7, ground := Go.Ground.phase }, { on := 8, ground := Go.Ground.phase }, { on := 9, ground := Go.Ground.phase }, { on := 10, ground := Go.Ground.phase }, { on := 11, ground := Go.Ground.phase }, { on := 12, ground := Go.Ground.phase }, { on := 13, ground := Go.Ground.phase }, { on := 14, ground := Go.Ground.phase }, { on := 15, ground := Go.Ground.phase }, { on := 16, ground := Go.Ground.phase }, { on := 17, ground := Go.Ground.phase }, { on := 18, ground := Go.Ground.phase }, { on := 19, ground := Go.Ground.phase }, { on := 20, ground := Go.Ground.phase }, { on := 21, ground := Go.Ground.phase }], guard := none } : Oper)
def oTrTakes24 : Oper := ({ dst := some 67, op := Go.Op.move (Go.Operand.tmp 9), type := 4, pos := "outright.go:38", after := #[], guard := none } : Oper)
def oTrTakes25 : Oper := ({ dst := some 68, op := Go.Op.unOp Go.UnOp.not 4 (Go.Operand.tmp 67), type := 4, pos := "outright.go:38", after := #[{ on := 0, ground := Go.Ground.data }], guard := none } : Oper)
def oTrTakes26 : Oper := ({ dst := some 69, op := Go.Op.move (Go.Operand.tmp 68), type := 4, pos := "outright.go:38", after := #[{ on := 1, ground := Go.Ground.data }], guard := none } : Oper)
def oTrTakes27 : Oper := ({ dst := some 70, op := Go.Op.move (Go.Operand.tmp 8), type := 3, pos := "outright.go:38", after := #[{ on := 2, ground := Go.Ground.guard }], guard := some (2, false) } : Oper)
def oTrTakes28 : Oper := ({ dst := some 71, op := Go.Op.binOp Go.BinOp.gtr 3 (Go.Operand.tmp 70) (Go.Operand.const (Go.Value.int Go.IntKind.i64 0)) 3, type := 4, pos := "outright.go:38", after := #[{ on := 3, ground := Go.Ground.data }, { on := 2, ground := Go.Ground.guard }], guard := some (2, false) } : Oper)
def oTrTakes29 : Oper := ({ dst := some 72, op := Go.Op.move (Go.Operand.tmp 71), type := 4, pos := "outright.go:38", after := #[{ on := 4, ground := Go.Ground.data }, { on := 2, ground := Go.Ground.chain }, { on := 2, ground := Go.Ground.guard }], guard := some (2, false) } : Oper)
def oTrTakes30 : Oper := ({ dst := some 73, op := Go.Op.move (Go.Operand.tmp 7), type := 36, pos := "outright.go:38", after := #[{ on := 5, ground := Go.Ground.guard }], guard := some (5, true) } : Oper)
def oTrTakes31 : Oper := ({ dst := some 74, op := Go.Op.move (Go.Operand.tmp 8), type := 3, pos := "outright.go:38", after := #[{ on := 5, ground := Go.Ground.guard }], guard := some (5, true) } : Oper)
def oTrTakes32 : Oper := ({ dst := some 75, op := Go.Op.binOp Go.BinOp.sub 3 (Go.Operand.tmp 74) (Go.Operand.const (Go.Value.int Go.IntKind.i64 1)) 3, type := 3, pos := "outright.go:38", after := #[{ on := 7, ground := Go.Ground.data }, { on := 5, ground := Go.Ground.guard }], guard := some (5, true) } : Oper)
def oTrTakes33 : Oper := ({ dst := some 76, op := Go.Op.indexAddr 36 (Go.Operand.tmp 73) (Go.Operand.tmp 75), type := 0, pos := "outright.go:38", after := #[{ on := 6, ground := Go.Ground.data }, { on := 8, ground := Go.Ground.data }, { on := 5, ground := Go.Ground.guard }], guard := some (5, true) } : Oper)
def oTrTakes34 : Oper := ({ dst := some 77, op := Go.Op.load 9 (Go.Operand.tmp 76), type := 9, pos := "outright.go:38", after := #[{ on := 9, ground := Go.Ground.data }, { on := 5, ground := Go.Ground.guard }], guard := some (5, true) } : Oper)
def oTrTakes35 : Oper := ({ dst := some 78, op := Go.Op.move (Go.Operand.tmp 7), type := 36, pos := "outright.go:38", after := #[{ on := 5, ground := Go.Ground.guard }], guard := some (5, true) } : Oper)
def oTrTakes36 : Oper := ({ dst := some 79, op := Go.Op.move (Go.Operand.tmp 8), type := 3, pos := "outright.go:38", after := #[{ on := 5, ground := Go.Ground.guard }], guard := some (5, true) } : Oper)
def oTrTakes37 : Oper := ({ dst := some 80, op := Go.Op.indexAddr 36 (Go.Operand.tmp 78) (Go.Operand.tmp 79), type := 0, pos := "outright.go:38", after := #[{ on := 11, ground := Go.Ground.data }, { on := 12, ground := Go.Ground.data }, { on := 5, ground := Go.Ground.guard }], guard := some (5, true) } : Oper)
def oTrTakes38 : Oper := ({ dst := some 81, op := Go.Op.load 9 (Go.Operand.tmp 80), type := 9, pos := "outright.go:38", after := #[{ on := 13, ground := Go.Ground.data }, { on := 5, ground := Go.Ground.guard }], guard := some (5, true) } : Oper)
def oTrTakes39 : Oper := ({ dst := some 82, op := Go.Op.binOp Go.BinOp.geq 9 (Go.Operand.tmp 77) (Go.Operand.tmp 81) 9, type := 4, pos := "outright.go:38", after := #[{ on := 10, ground := Go.Ground.data }, { on := 14, ground := Go.Ground.data }, { on := 5, ground := Go.Ground.guard }], guard := some (5, true) } : Oper)
def oTrTakes40 : Oper := ({ dst := some 83, op := Go.Op.pick (Go.Operand.tmp 72) (Go.Operand.tmp 82) (Go.Operand.const (Go.Value.bool false)), type := 4, pos := "outright.go:38", after := #[{ on := 5, ground := Go.Ground.data }, { on := 15, ground := Go.Ground.data }, { on := 2, ground := Go.Ground.guard }], guard := some (2, false) } : Oper)
def oTrTakes41 : Oper := ({ dst := some 84, op := Go.Op.pick (Go.Operand.tmp 69) (Go.Operand.const (Go.Value.bool true)) (Go.Operand.tmp 83), type := 4, pos := "outright.go:38", after := #[{ on := 2, ground := Go.Ground.data }, { on := 16, ground := Go.Ground.data }], guard := none } : Oper)
end
open Go.RowKit
/-- Has some hint this client, and a filter that takes the name? -/
def exB (L : List Hn) (x nm : List UInt8) : Bool := L.any fun h => h.2 == x && matB h.1 nm
theorem ex_step (L : List Hn) (x nm : List UInt8) (j : Nat) (h : Hn) (hh : L[j]? = some h) : exB (L.take (j + 1)) x nm = (exB (L.take j) x nm || (h.2 == x && matB h.1 nm)) := by
  unfold exB
  rw [List.take_add_one, hh, Option.toList_some, List.any_append]
  simp
theorem ex_all (L : List Hn) (x nm : List UInt8) (hx : x ∈ matL L nm) : exB L x nm = true := by
  obtain ⟨h, hh, e1, e2⟩ := ((mat_facts nm L).2 x).1 hx
  exact List.any_eq_true.2 ⟨h, hh, by rw [e1, e2]; simp⟩
theorem mat_rise (L : List Hn) (nm : List UInt8) (q : Nat) (x y : List UInt8) (hx : (matL L nm)[q]? = some x) (hy : (matL L nm)[q + 1]? = some y) : Op.bytesLess x y = true := by
  have h := (mat_facts nm L).1
  obtain ⟨h1, e1⟩ := List.getElem?_eq_some_iff.1 hx
  obtain ⟨h2, e2⟩ := List.getElem?_eq_some_iff.1 hy
  have := List.pairwise_iff_getElem.1 h q (q + 1) h1 h2 (by omega)
  rw [e1, e2] at this
  exact this
namespace lawTrieTakes
set_option maxHeartbeats 8000000 in
set_option maxRecDepth 100000 in
theorem walk (w : World) (hG : GT w) (A : Option Addr) (n c : Nat) (l : List Ac) (hs : Acts w A n l) (hn : n ≤ 9223372036854775807) (hi : Hid (∀ x ∈ l, AcIn x)) :
    Calls Tryz.prog 6 #[.slice A n c] w fun e w' => e = .returned (.bool true) ∧ Below w.heap.size w w' := by
  have HG := Lib.hid hG
  have HS := Lib.hid hs
  have HL := Lib.hid hs.len
  clear hG hs
  go_enter Tryz.func6, Tryz.ntmps6
  go_wp2_with fail
  refine (great9_any A n c l _ HS.out hn hi).mono ?_
  rintro e w0 ⟨b, rfl, hok, rfl⟩
  cases b with
  | true =>
    go_wp2_with fail
    refine (awake9_any _ HG.out).mono ?_
    rintro e w1 ⟨rfl, hb⟩
    go_wp2_with fail
    go_ret
    exact ⟨rfl, hb⟩
  | false =>
    have hok2 := hok rfl
    have hn60 : n ≤ 60 := by have := HL.out; have := hok2.1; omega
    have HX := Lib.hid hok2.2
    go_wp2_with fail
    refine (made_any _ HG.out A n c l HS.out hok2).mono ?_
    clear hok hok2
    generalize madeL l = L
    rintro e w2 ⟨t, F, rfl, hP, hk0, hb, hF⟩
    have hk : Hid (HsOk 100 L) := hk0.le (by omega)
    obtain ⟨N, hN⟩ : ∃ N, L.length = N := ⟨_, rfl⟩
    have HN := Lib.hid hN
    have hN60 : N ≤ 60 := by have := hk0.2.1; omega
    clear hN hk0
    go_wp2_with fail
    refine (tAll (HG.out.below hb) hP hk.out).mono ?_
    rintro e w3 ⟨v3, rfl, hO3⟩
    have hb3 := hO3.below
    obtain ⟨A6, N6, c6, rfl, hs6, hA6, hnc6, hg6⟩ := hO3.told2
    have hN6 : N6 = N := by rw [← hs6.len, HN.out]
    rw [hN6] at hs6 ⊢
    have HP3 := Lib.hid (hP.below hb3)
    have hbw := below_more hb hb3
    have HBW := Lib.hid hbw
    have H6 := Lib.hid hs6
    clear hP hb3 hO3 hA6 hnc6 hg6 hs6 hN6 hb hF hbw
    go_wp2_with fail
    go_loopw [5, 6, 7, 8, 9, 10, 11] (fun i _ _ _ _ _ _ wr => ∃ k : Nat, i = .int .i64 k ∧ k ≤ n ∧ Below w3.heap.size w3 wr) (fun i _ _ _ _ _ _ _ => n - (intOf i).toNat)
    case atStart => exact ⟨0, rfl, by omega, Below.refl _ _⟩
    case round =>
      obtain ⟨k, rfl, hkn, hb⟩ := hrel
      by_cases hlt : k < n
      · obtain ⟨b1, o1, x, rfl, hx, hat⟩ := (HS.out.below (below_more HBW.out hb)).at_ hlt
        obtain ⟨_, _, hxn⟩ := HX.out x (List.mem_of_getElem? hx)
        obtain ⟨d, xf, xc, nm⟩ := x
        obtain ⟨p0, p1, p2, p3⟩ := hat
        dsimp only at hxn p3
        have hkI : (k : Int) < (n : Int) := by omega
        have hk0 : (0 : Int) ≤ (k : Int) := by omega
        clear hx p0 p1 p2
        obtain ⟨M, hM⟩ : ∃ M, matL L nm = M := ⟨_, rfl⟩
        have HM := Lib.hid hM
        have hMl : M.length ≤ 60 := by rw [← hM]; exact Nat.le_trans (mat_len L nm) (by rw [HN.out]; omega)
        clear hM
        go_wp2_with fail
        refine (tMatch nm M (HG.out.below (below_more HBW.out hb)) (HP3.out.below hb) hk.out hxn HM.out).mono ?_
        rintro e wm ⟨A7, c7, rfl, hs7, hA7, hc7, hb7⟩
        have hbm := below_more hb hb7
        have HS7 := Lib.hid hs7
        have HBM := Lib.hid hbm
        clear hb7 hbm hs7 hb p3 hA7 hc7
        go_wp2_with fail
        go_loopw [8, 9, 10] (fun kk _ _ wr => ∃ q : Nat, kk = .int .i64 q ∧ q ≤ M.length ∧ Below wm.heap.size wm wr) (fun kk _ _ _ => M.length - (intOf kk).toNat)
        case atStart => exact ⟨0, rfl, by omega, Below.refl _ _⟩
        case round =>
          obtain ⟨q, rfl, hq, hbq⟩ := hrel
          obtain ⟨wq, hwq⟩ : ∃ wq, wq = wr := ⟨_, rfl⟩
          rw [← hwq] at hbq ⊢
          clear hwq wr
          by_cases hqm : q < M.length
          · obtain ⟨b7, o7, y, rfl, hy, hcy⟩ := (HS7.out.below hbq).at_ (k := q) hqm
            have hqI : (q : Int) < (M.length : Int) := by omega
            have hq0 : (0 : Int) ≤ (q : Int) := by omega
            have hyl : y ∈ matL L nm := by rw [HM.out]; exact List.mem_of_getElem? hy
            have HEX := Lib.hid (ex_all L y nm hyl)
            have HY := Lib.hid hy
            have HCY := Lib.hid hcy
            have HBQ := Lib.hid hbq
            clear hyl hy
            go_wp2_with fail
            go_loopw [9, 10] (fun s nn wr => ∃ (j : Nat) (sb : Bool), nn = .int .i64 j ∧ j ≤ N ∧ s = .bool sb ∧ Hid (exB (L.take j) y nm = sb) ∧ Below wq.heap.size wq wr) (fun _ nn _ => N - (intOf nn).toNat)
            case atStart => exact ⟨0, false, rfl, by omega, rfl, by show _ = _; rw [List.take_zero]; rfl, Below.refl _ _⟩
            case round =>
              obtain ⟨j, sb, rfl, hj, rfl, hsb, hbj⟩ := hrel
              by_cases hjn : j < N
              · have hb3j := below_more (below_more HBM.out HBQ.out) hbj
                obtain ⟨b6, o6, hh, rfl, hhx, hc1, hc2⟩ := (H6.out.below hb3j).at_ (k := j) hjn
                have hst := ex_step L y nm j hh hhx
                rw [hsb.out] at hst
                obtain ⟨hhf, hhc⟩ := hk.out.2.2 hh (List.mem_of_getElem? hhx)
                obtain ⟨hf, hc⟩ := hh
                dsimp only at hc1 hc2 hst hhf hhc
                have hjI : (j : Int) < (N : Int) := by omega
                have hj0 : (0 : Int) ≤ (j : Int) := by omega
                have HST := Lib.hid hst
                have HGJ : Hid (GT wr) := HG.out.below (below_more HBW.out hb3j)
                have HBJ := Lib.hid hbj
                clear hhx hst hb3j hsb hcy
                have HC1 := Lib.hid hc1
                have HC2 := Lib.hid hc2
                have HY1 := Lib.hid ((hbj.cell (World.block_lt_of_cell? _ _ HCY.out)).trans HCY.out)
                clear hbj hc1 hc2
                cases sb with
                | true =>
                  have HN1 : Hid (exB (L.take (j + 1)) y nm = true) := by show _ = _; rw [HST.out]; rfl
                  clear HST HC1 HC2 HY1
                  go_wp2_with fail
                  refine wp_region_held_drew (S := (fun w' => Below wr.heap.size wr w')) (by kernel_rfl) ((Below.refl _ _).drew) (fun hHeld => ?_)
                  refine tkY 0 oTrTakes1 ?vv1_1_0 rfl (by kernel_rfl) (by kernel_rfl) (by kernel_rfl) (fun _ _ _ h => h) (by rfl) ?hy1_1_0 (by assumption) ?rest1_1_0
                  case hy1_1_0 => (intro w hSw; unfold oTrTakes1; (try dsimp only at hSw); (try go_split_ands); go_simp; all_goals with_reducible rfl)
                  try simp only [oTrTakes1, Act.put, sA, sB, sC]
                  refine tkY 1 oTrTakes2 ?vv1_1_1 rfl (by kernel_rfl) (by kernel_rfl) (by kernel_rfl) (fun _ _ _ h => h) (by rfl) ?hy1_1_1 (by assumption) ?rest1_1_1
                  case hy1_1_1 => (intro w hSw; unfold oTrTakes2; (try dsimp only at hSw); (try go_split_ands); go_simp; all_goals with_reducible rfl)
                  try simp only [oTrTakes2, Act.put, sA, sB, sC]
                  refine wpAnyH_take (i := 2) (oi := oTrTakes3) (v := undef) rfl (by kernel_rfl) (by kernel_rfl) (by kernel_rfl) (fun _ _ _ h => h) (Or.inr ⟨by rfl, rfl⟩) (by assumption) ?rest1_2_2
                  try simp only [oTrTakes3, Act.put, sA, sB, sC]
                  refine wpAnyH_take (i := 3) (oi := oTrTakes4) (v := undef) rfl (by kernel_rfl) (by kernel_rfl) (by kernel_rfl) (fun _ _ _ h => h) (Or.inr ⟨by rfl, rfl⟩) (by assumption) ?rest1_2_3
                  try simp only [oTrTakes4, Act.put, sA, sB, sC]
                  refine wpAnyH_take (i := 4) (oi := oTrTakes5) (v := undef) rfl (by kernel_rfl) (by kernel_rfl) (by kernel_rfl) (fun _ _ _ h => h) (Or.inr ⟨by rfl, rfl⟩) (by assumption) ?rest1_2_4
                  try simp only [oTrTakes5, Act.put, sA, sB, sC]
                  refine wpAnyH_take (i := 5) (oi := oTrTakes6) (v := undef) rfl (by kernel_rfl) (by kernel_rfl) (by kernel_rfl) (fun _ _ _ h => h) (Or.inr ⟨by rfl, rfl⟩) (by assumption) ?rest1_2_5
                  try simp only [oTrTakes6, Act.put, sA, sB, sC]
                  refine wpAnyH_take (i := 6) (oi := oTrTakes7) (v := undef) rfl (by kernel_rfl) (by kernel_rfl) (by kernel_rfl) (fun _ _ _ h => h) (Or.inr ⟨by rfl, rfl⟩) (by assumption) ?rest1_2_6
                  try simp only [oTrTakes7, Act.put, sA, sB, sC]
                  refine wpAnyH_take (i := 7) (oi := oTrTakes8) (v := undef) rfl (by kernel_rfl) (by kernel_rfl) (by kernel_rfl) (fun _ _ _ h => h) (Or.inr ⟨by rfl, rfl⟩) (by assumption) ?rest1_2_7
                  try simp only [oTrTakes8, Act.put, sA, sB, sC]
                  refine wpAnyH_take (i := 8) (oi := oTrTakes9) (v := undef) rfl (by kernel_rfl) (by kernel_rfl) (by kernel_rfl) (fun _ _ _ h => h) (Or.inr ⟨by rfl, rfl⟩) (by assumption) ?rest1_2_8
                  try simp only [oTrTakes9, Act.put, sA, sB, sC]
                  refine wpAnyH_take (i := 9) (oi := oTrTakes10) (v := undef) rfl (by kernel_rfl) (by kernel_rfl) (by kernel_rfl) (fun _ _ _ h => h) (Or.inr ⟨by rfl, rfl⟩) (by assumption) ?rest1_2_9
                  try simp only [oTrTakes10, Act.put, sA, sB, sC]
                  refine wpAnyH_take (i := 10) (oi := oTrTakes11) (v := undef) rfl (by kernel_rfl) (by kernel_rfl) (by kernel_rfl) (fun _ _ _ h => h) (Or.inr ⟨by rfl, rfl⟩) (by assumption) ?rest1_2_10
                  try simp only [oTrTakes11, Act.put, sA, sB, sC]
                  refine wpAnyH_take (i := 11) (oi := oTrTakes12) (v := undef) rfl (by kernel_rfl) (by kernel_rfl) (by kernel_rfl) (fun _ _ _ h => h) (Or.inr ⟨by rfl, rfl⟩) (by assumption) ?rest1_2_11
                  try simp only [oTrTakes12, Act.put, sA, sB, sC]
                  refine wpAnyH_take (i := 12) (oi := oTrTakes13) (v := undef) rfl (by kernel_rfl) (by kernel_rfl) (by kernel_rfl) (fun _ _ _ h => h) (Or.inr ⟨by rfl, rfl⟩) (by assumption) ?rest1_2_12
                  try simp only [oTrTakes13, Act.put, sA, sB, sC]
                  refine wpAnyH_take (i := 13) (oi := oTrTakes14) (v := undef) rfl (by kernel_rfl) (by kernel_rfl) (by kernel_rfl) (fun _ _ _ h => h) (Or.inr ⟨by rfl, rfl⟩) (by assumption) ?rest1_2_13
                  try simp only [oTrTakes14, Act.put, sA, sB, sC]
                  refine wpAnyH_take (i := 14) (oi := oTrTakes15) (v := undef) rfl (by kernel_rfl) (by kernel_rfl) (by kernel_rfl) (fun _ _ _ h => h) (Or.inr ⟨by rfl, rfl⟩) (by assumption) ?rest1_2_14
                  try simp only [oTrTakes15, Act.put, sA, sB, sC]
                  refine wpAnyH_take (i := 15) (oi := oTrTakes16) (v := undef) rfl (by kernel_rfl) (by kernel_rfl) (by kernel_rfl) (fun _ _ _ h => h) (Or.inr ⟨by rfl, rfl⟩) (by assumption) ?rest1_2_15
                  try simp only [oTrTakes16, Act.put, sA, sB, sC]
                  refine wpAnyH_take (i := 16) (oi := oTrTakes17) (v := undef) rfl (by kernel_rfl) (by kernel_rfl) (by kernel_rfl) (fun _ _ _ h => h) (Or.inr ⟨by rfl, rfl⟩) (by assumption) ?rest1_2_16
                  try simp only [oTrTakes17, Act.put, sA, sB, sC]
                  refine wpAnyH_take (i := 17) (oi := oTrTakes18) (v := undef) rfl (by kernel_rfl) (by kernel_rfl) (by kernel_rfl) (fun _ _ _ h => h) (Or.inr ⟨by rfl, rfl⟩) (by assumption) ?rest1_2_17
                  try simp only [oTrTakes18, Act.put, sA, sB, sC]
                  refine wpAnyH_take (i := 18) (oi := oTrTakes19) (v := undef) rfl (by kernel_rfl) (by kernel_rfl) (by kernel_rfl) (fun _ _ _ h => h) (Or.inr ⟨by rfl, rfl⟩) (by assumption) ?rest1_2_18
                  try simp only [oTrTakes19, Act.put, sA, sB, sC]
                  refine wpAnyH_take (i := 19) (oi := oTrTakes20) (v := undef) rfl (by kernel_rfl) (by kernel_rfl) (by kernel_rfl) (fun _ _ _ h => h) (Or.inr ⟨by rfl, rfl⟩) (by assumption) ?rest1_2_19
                  try simp only [oTrTakes20, Act.put, sA, sB, sC]
                  refine wpAnyH_take (i := 20) (oi := oTrTakes21) (v := undef) rfl (by kernel_rfl) (by kernel_rfl) (by kernel_rfl) (fun _ _ _ h => h) (Or.inr ⟨by rfl, rfl⟩) (by assumption) ?rest1_2_20
                  try simp only [oTrTakes21, Act.put, sA, sB, sC]
                  refine tkY 21 oTrTakes22 ?vv1_3_21 rfl (by kernel_rfl) (by kernel_rfl) (by kernel_rfl) (fun _ _ _ h => h) (by rfl) ?hy1_3_21 (by assumption) ?rest1_3_21
                  case hy1_3_21 => (intro w hSw; unfold oTrTakes22; (try dsimp only at hSw); (try go_split_ands); go_simp; all_goals with_reducible rfl)
                  try simp only [oTrTakes22, Act.put, sA, sB, sC]
                  refine tkY 22 oTrTakes23 ?vv1_3_22 rfl (by kernel_rfl) (by kernel_rfl) (by kernel_rfl) (fun _ _ _ h => h) (by rfl) ?hy1_3_22 (by assumption) ?rest1_3_22
                  case hy1_3_22 => (intro w hSw; unfold oTrTakes23; (try dsimp only at hSw); (try go_split_ands); go_simp; all_goals with_reducible rfl)
                  try simp only [oTrTakes23, Act.put, sA, sB, sC]
                  refine wpAnyH_done (by kernel_rfl) ?_ _
                  have hb9 := below_more HBJ.out hHeld
                  clear hHeld
                  go_wp2_with fail
                  go_roundw
                  case rel => exact ⟨j + 1, true, by go_num, by omega, rfl, HN1, hb9⟩
                  case measure => simp [intOf]; omega
                | false =>
                  cases he : hc == y with
                  | false =>
                    have HN1 : Hid (exB (L.take (j + 1)) y nm = false) := by show _ = _; rw [HST.out, he]; rfl
                    clear HST HC1
                    go_wp2_with fail
                    refine wp_region_held_drew (S := (fun w' => Below wr.heap.size wr w')) (by kernel_rfl) ((Below.refl _ _).drew) (fun hHeld => ?_)
                    refine tkY 0 oTrTakes1 ?vv2_4_0 rfl (by kernel_rfl) (by kernel_rfl) (by kernel_rfl) (fun _ _ _ h => h) (by rfl) ?hy2_4_0 (by assumption) ?rest2_4_0
                    case hy2_4_0 => (intro w hSw; unfold oTrTakes1; (try dsimp only at hSw); (try go_split_ands); go_simp; all_goals with_reducible rfl)
                    try simp only [oTrTakes1, Act.put, sA, sB, sC]
                    refine tkY 1 oTrTakes2 ?vv2_4_1 rfl (by kernel_rfl) (by kernel_rfl) (by kernel_rfl) (fun _ _ _ h => h) (by rfl) ?hy2_4_1 (by assumption) ?rest2_4_1
                    case hy2_4_1 => (intro w hSw; unfold oTrTakes2; (try dsimp only at hSw); (try go_split_ands); go_simp; all_goals with_reducible rfl)
                    try simp only [oTrTakes2, Act.put, sA, sB, sC]
                    refine tkY 2 oTrTakes3 ?vv2_4_2 rfl (by kernel_rfl) (by kernel_rfl) (by kernel_rfl) (fun _ _ _ h => h) (by rfl) ?hy2_4_2 (by assumption) ?rest2_4_2
                    case hy2_4_2 => (intro w hSw; unfold oTrTakes3; (try dsimp only at hSw); (try go_split_ands); go_simp; all_goals with_reducible rfl)
                    try simp only [oTrTakes3, Act.put, sA, sB, sC]
                    refine tkY 3 oTrTakes4 ?vv2_4_3 rfl (by kernel_rfl) (by kernel_rfl) (by kernel_rfl) (fun _ _ _ h => h) (by rfl) ?hy2_4_3 (by assumption) ?rest2_4_3
                    case hy2_4_3 => (intro w hSw; unfold oTrTakes4; (try dsimp only at hSw); (try go_split_ands); go_simp; all_goals with_reducible rfl)
                    try simp only [oTrTakes4, Act.put, sA, sB, sC]
                    refine tkY 4 oTrTakes5 ?vv2_4_4 rfl (by kernel_rfl) (by kernel_rfl) (by kernel_rfl) (fun _ _ _ h => h) (by rfl) ?hy2_4_4 (by assumption) ?rest2_4_4
                    case hy2_4_4 => (intro w hSw; unfold oTrTakes5; (try dsimp only at hSw); (try go_split_ands); go_simp; all_goals with_reducible rfl)
                    try simp only [oTrTakes5, Act.put, sA, sB, sC]
                    refine tkY 5 oTrTakes6 ?vv2_4_5 rfl (by kernel_rfl) (by kernel_rfl) (by kernel_rfl) (fun _ _ _ h => h) (by rfl) ?hy2_4_5 (by assumption) ?rest2_4_5
                    case hy2_4_5 => (intro w hSw; unfold oTrTakes6; (try dsimp only at hSw); (try go_split_ands); go_simp; all_goals with_reducible rfl)
                    try simp only [oTrTakes6, Act.put, sA, sB, sC]
                    refine tkY 6 oTrTakes7 ?vv2_5_6 rfl (by kernel_rfl) (by kernel_rfl) (by kernel_rfl) (fun _ _ _ h => h) (by rfl) ?hy2_5_6 (by assumption) ?rest2_5_6
                    case hy2_5_6 => (intro w hSw; unfold oTrTakes7; (try dsimp only at hSw); have hq := (hSw.cell (World.block_lt_of_cell? _ _ HC2.out)).trans HC2.out; clear hSw; go_simp; all_goals with_reducible rfl)
                    try simp only [oTrTakes7, Act.put, sA, sB, sC]
                    refine tkY 7 oTrTakes8 ?vv2_6_7 rfl (by kernel_rfl) (by kernel_rfl) (by kernel_rfl) (fun _ _ _ h => h) (by rfl) ?hy2_6_7 (by assumption) ?rest2_6_7
                    case hy2_6_7 => (intro w hSw; unfold oTrTakes8; (try dsimp only at hSw); (try go_split_ands); go_simp; all_goals with_reducible rfl)
                    try simp only [oTrTakes8, Act.put, sA, sB, sC]
                    refine tkY 8 oTrTakes9 ?vv2_6_8 rfl (by kernel_rfl) (by kernel_rfl) (by kernel_rfl) (fun _ _ _ h => h) (by rfl) ?hy2_6_8 (by assumption) ?rest2_6_8
                    case hy2_6_8 => (intro w hSw; unfold oTrTakes9; (try dsimp only at hSw); (try go_split_ands); go_simp; all_goals with_reducible rfl)
                    try simp only [oTrTakes9, Act.put, sA, sB, sC]
                    refine tkY 9 oTrTakes10 ?vv2_6_9 rfl (by kernel_rfl) (by kernel_rfl) (by kernel_rfl) (fun _ _ _ h => h) (by rfl) ?hy2_6_9 (by assumption) ?rest2_6_9
                    case hy2_6_9 => (intro w hSw; unfold oTrTakes10; (try dsimp only at hSw); (try go_split_ands); go_simp; all_goals with_reducible rfl)
                    try simp only [oTrTakes10, Act.put, sA, sB, sC]
                    refine tkY 10 oTrTakes11 ?vv2_7_10 rfl (by kernel_rfl) (by kernel_rfl) (by kernel_rfl) (fun _ _ _ h => h) (by rfl) ?hy2_7_10 (by assumption) ?rest2_7_10
                    case hy2_7_10 => (intro w hSw; unfold oTrTakes11; (try dsimp only at hSw); have hq := (hSw.cell (World.block_lt_of_cell? _ _ HY1.out)).trans HY1.out; clear hSw; go_simp; all_goals with_reducible rfl)
                    try simp only [oTrTakes11, Act.put, sA, sB, sC]
                    refine tkY 11 oTrTakes12 ?vv2_8_11 rfl (by kernel_rfl) (by kernel_rfl) (by kernel_rfl) (fun _ _ _ h => h) (by rfl) ?hy2_8_11 (by assumption) ?rest2_8_11
                    case hy2_8_11 => (intro w hSw; unfold oTrTakes12; (try dsimp only at hSw); (try go_split_ands); go_simp; all_goals with_reducible rfl)
                    try simp only [oTrTakes12, Act.put, sA, sB, sC]
                    refine tkY 12 oTrTakes13 ?vv2_8_12 rfl (by kernel_rfl) (by kernel_rfl) (by kernel_rfl) (fun _ _ _ h => h) (by rfl) ?hy2_8_12 (by assumption) ?rest2_8_12
                    case hy2_8_12 => (intro w hSw; unfold oTrTakes13; (try dsimp only at hSw); (try go_split_ands); go_simp; all_goals with_reducible rfl)
                    try simp only [oTrTakes13, Act.put, sA, sB, sC]
                    refine wpAnyH_take (i := 13) (oi := oTrTakes14) (v := undef) rfl (by kernel_rfl) (by kernel_rfl) (by kernel_rfl) (fun _ _ _ h => h) (Or.inr ⟨by rfl, rfl⟩) (by assumption) ?rest2_9_13
                    try simp only [oTrTakes14, Act.put, sA, sB, sC]
                    refine wpAnyH_take (i := 14) (oi := oTrTakes15) (v := undef) rfl (by kernel_rfl) (by kernel_rfl) (by kernel_rfl) (fun _ _ _ h => h) (Or.inr ⟨by rfl, rfl⟩) (by assumption) ?rest2_9_14
                    try simp only [oTrTakes15, Act.put, sA, sB, sC]
                    refine wpAnyH_take (i := 15) (oi := oTrTakes16) (v := undef) rfl (by kernel_rfl) (by kernel_rfl) (by kernel_rfl) (fun _ _ _ h => h) (Or.inr ⟨by rfl, rfl⟩) (by assumption) ?rest2_9_15
                    try simp only [oTrTakes16, Act.put, sA, sB, sC]
                    refine wpAnyH_take (i := 16) (oi := oTrTakes17) (v := undef) rfl (by kernel_rfl) (by kernel_rfl) (by kernel_rfl) (fun _ _ _ h => h) (Or.inr ⟨by rfl, rfl⟩) (by assumption) ?rest2_9_16
                    try simp only [oTrTakes17, Act.put, sA, sB, sC]
                    refine wpAnyH_take (i := 17) (oi := oTrTakes18) (v := undef) rfl (by kernel_rfl) (by kernel_rfl) (by kernel_rfl) (fun _ _ _ h => h) (Or.inr ⟨by rfl, rfl⟩) (by assumption) ?rest2_9_17
                    try simp only [oTrTakes18, Act.put, sA, sB, sC]
                    refine wpAnyH_take (i := 18) (oi := oTrTakes19) (v := undef) rfl (by kernel_rfl) (by kernel_rfl) (by kernel_rfl) (fun _ _ _ h => h) (Or.inr ⟨by rfl, rfl⟩) (by assumption) ?rest2_9_18
                    try simp only [oTrTakes19, Act.put, sA, sB, sC]
                    refine wpAnyH_take (i := 19) (oi := oTrTakes20) (v := undef) rfl (by kernel_rfl) (by kernel_rfl) (by kernel_rfl) (fun _ _ _ h => h) (Or.inr ⟨by rfl, rfl⟩) (by assumption) ?rest2_9_19
                    try simp only [oTrTakes20, Act.put, sA, sB, sC]
                    refine tkY 20 oTrTakes21 ?vv2_10_20 rfl (by kernel_rfl) (by kernel_rfl) (by kernel_rfl) (fun _ _ _ h => h) (by rfl) ?hy2_10_20 (by assumption) ?rest2_10_20
                    case hy2_10_20 => (intro w hSw; unfold oTrTakes21; (try dsimp only at hSw); (try go_split_ands); go_simp; all_goals with_reducible rfl)
                    try simp only [oTrTakes21, Act.put, sA, sB, sC]
                    refine tkY 21 oTrTakes22 ?vv2_10_21 rfl (by kernel_rfl) (by kernel_rfl) (by kernel_rfl) (fun _ _ _ h => h) (by rfl) ?hy2_10_21 (by assumption) ?rest2_10_21
                    case hy2_10_21 => (intro w hSw; unfold oTrTakes22; (try dsimp only at hSw); (try go_split_ands); go_simp; all_goals with_reducible rfl)
                    try simp only [oTrTakes22, Act.put, sA, sB, sC]
                    refine tkY 22 oTrTakes23 ?vv2_10_22 rfl (by kernel_rfl) (by kernel_rfl) (by kernel_rfl) (fun _ _ _ h => h) (by rfl) ?hy2_10_22 (by assumption) ?rest2_10_22
                    case hy2_10_22 => (intro w hSw; unfold oTrTakes23; (try dsimp only at hSw); (try go_split_ands); go_simp; all_goals with_reducible rfl)
                    try simp only [oTrTakes23, Act.put, sA, sB, sC]
                    refine wpAnyH_done (by kernel_rfl) ?_ _
                    have hb9 := below_more HBJ.out hHeld
                    clear hHeld
                    go_wp2_with fail
                    go_roundw
                    case rel => exact ⟨j + 1, false, by go_num, by omega, rfl, HN1, hb9⟩
                    case measure => simp [intOf]; omega
                  | true =>
                    obtain ⟨mb, hmb⟩ : ∃ mb, matB hf nm = mb := ⟨_, rfl⟩
                    have HN1 : Hid (exB (L.take (j + 1)) y nm = mb) := by show _ = _; rw [HST.out, he, hmb]; rfl
                    have HMB := Lib.hid hmb
                    clear HST hmb
                    go_wp2_with fail
                    refine wp_region_held_drew (S := (fun w' => Below wr.heap.size wr w')) (by kernel_rfl) ((Below.refl _ _).drew) (fun hHeld => ?_)
                    refine tkY 0 oTrTakes1 ?vv3_11_0 rfl (by kernel_rfl) (by kernel_rfl) (by kernel_rfl) (fun _ _ _ h => h) (by rfl) ?hy3_11_0 (by assumption) ?rest3_11_0
                    case hy3_11_0 => (intro w hSw; unfold oTrTakes1; (try dsimp only at hSw); (try go_split_ands); go_simp; all_goals with_reducible rfl)
                    try simp only [oTrTakes1, Act.put, sA, sB, sC]
                    refine tkY 1 oTrTakes2 ?vv3_11_1 rfl (by kernel_rfl) (by kernel_rfl) (by kernel_rfl) (fun _ _ _ h => h) (by rfl) ?hy3_11_1 (by assumption) ?rest3_11_1
                    case hy3_11_1 => (intro w hSw; unfold oTrTakes2; (try dsimp only at hSw); (try go_split_ands); go_simp; all_goals with_reducible rfl)
                    try simp only [oTrTakes2, Act.put, sA, sB, sC]
                    refine tkY 2 oTrTakes3 ?vv3_11_2 rfl (by kernel_rfl) (by kernel_rfl) (by kernel_rfl) (fun _ _ _ h => h) (by rfl) ?hy3_11_2 (by assumption) ?rest3_11_2
                    case hy3_11_2 => (intro w hSw; unfold oTrTakes3; (try dsimp only at hSw); (try go_split_ands); go_simp; all_goals with_reducible rfl)
                    try simp only [oTrTakes3, Act.put, sA, sB, sC]
                    refine tkY 3 oTrTakes4 ?vv3_11_3 rfl (by kernel_rfl) (by kernel_rfl) (by kernel_rfl) (fun _ _ _ h => h) (by rfl) ?hy3_11_3 (by assumption) ?rest3_11_3
                    case hy3_11_3 => (intro w hSw; unfold oTrTakes4; (try dsimp only at hSw); (try go_split_ands); go_simp; all_goals with_reducible rfl)
                    try simp only [oTrTakes4, Act.put, sA, sB, sC]
                    refine tkY 4 oTrTakes5 ?vv3_11_4 rfl (by kernel_rfl) (by kernel_rfl) (by kernel_rfl) (fun _ _ _ h => h) (by rfl) ?hy3_11_4 (by assumption) ?rest3_11_4
                    case hy3_11_4 => (intro w hSw; unfold oTrTakes5; (try dsimp only at hSw); (try go_split_ands); go_simp; all_goals with_reducible rfl)
                    try simp only [oTrTakes5, Act.put, sA, sB, sC]
                    refine tkY 5 oTrTakes6 ?vv3_11_5 rfl (by kernel_rfl) (by kernel_rfl) (by kernel_rfl) (fun _ _ _ h => h) (by rfl) ?hy3_11_5 (by assumption) ?rest3_11_5
                    case hy3_11_5 => (intro w hSw; unfold oTrTakes6; (try dsimp only at hSw); (try go_split_ands); go_simp; all_goals with_reducible rfl)
                    try simp only [oTrTakes6, Act.put, sA, sB, sC]
                    refine tkY 6 oTrTakes7 ?vv3_12_6 rfl (by kernel_rfl) (by kernel_rfl) (by kernel_rfl) (fun _ _ _ h => h) (by rfl) ?hy3_12_6 (by assumption) ?rest3_12_6
                    case hy3_12_6 => (intro w hSw; unfold oTrTakes7; (try dsimp only at hSw); have hq := (hSw.cell (World.block_lt_of_cell? _ _ HC2.out)).trans HC2.out; clear hSw; go_simp; all_goals with_reducible rfl)
                    try simp only [oTrTakes7, Act.put, sA, sB, sC]
                    refine tkY 7 oTrTakes8 ?vv3_13_7 rfl (by kernel_rfl) (by kernel_rfl) (by kernel_rfl) (fun _ _ _ h => h) (by rfl) ?hy3_13_7 (by assumption) ?rest3_13_7
                    case hy3_13_7 => (intro w hSw; unfold oTrTakes8; (try dsimp only at hSw); (try go_split_ands); go_simp; all_goals with_reducible rfl)
                    try simp only [oTrTakes8, Act.put, sA, sB, sC]
                    refine tkY 8 oTrTakes9 ?vv3_13_8 rfl (by kernel_rfl) (by kernel_rfl) (by kernel_rfl) (fun _ _ _ h => h) (by rfl) ?hy3_13_8 (by assumption) ?rest3_13_8
                    case hy3_13_8 => (intro w hSw; unfold oTrTakes9; (try dsimp only at hSw); (try go_split_ands); go_simp; all_goals with_reducible rfl)
                    try simp only [oTrTakes9, Act.put, sA, sB, sC]
                    refine tkY 9 oTrTakes10 ?vv3_13_9 rfl (by kernel_rfl) (by kernel_rfl) (by kernel_rfl) (fun _ _ _ h => h) (by rfl) ?hy3_13_9 (by assumption) ?rest3_13_9
                    case hy3_13_9 => (intro w hSw; unfold oTrTakes10; (try dsimp only at hSw); (try go_split_ands); go_simp; all_goals with_reducible rfl)
                    try simp only [oTrTakes10, Act.put, sA, sB, sC]
                    refine tkY 10 oTrTakes11 ?vv3_14_10 rfl (by kernel_rfl) (by kernel_rfl) (by kernel_rfl) (fun _ _ _ h => h) (by rfl) ?hy3_14_10 (by assumption) ?rest3_14_10
                    case hy3_14_10 => (intro w hSw; unfold oTrTakes11; (try dsimp only at hSw); have hq := (hSw.cell (World.block_lt_of_cell? _ _ HY1.out)).trans HY1.out; clear hSw; go_simp; all_goals with_reducible rfl)
                    try simp only [oTrTakes11, Act.put, sA, sB, sC]
                    refine tkY 11 oTrTakes12 ?vv3_15_11 rfl (by kernel_rfl) (by kernel_rfl) (by kernel_rfl) (fun _ _ _ h => h) (by rfl) ?hy3_15_11 (by assumption) ?rest3_15_11
                    case hy3_15_11 => (intro w hSw; unfold oTrTakes12; (try dsimp only at hSw); (try go_split_ands); go_simp; all_goals with_reducible rfl)
                    try simp only [oTrTakes12, Act.put, sA, sB, sC]
                    refine tkY 12 oTrTakes13 ?vv3_15_12 rfl (by kernel_rfl) (by kernel_rfl) (by kernel_rfl) (fun _ _ _ h => h) (by rfl) ?hy3_15_12 (by assumption) ?rest3_15_12
                    case hy3_15_12 => (intro w hSw; unfold oTrTakes13; (try dsimp only at hSw); (try go_split_ands); go_simp; all_goals with_reducible rfl)
                    try simp only [oTrTakes13, Act.put, sA, sB, sC]
                    refine tkY 13 oTrTakes14 ?vv3_15_13 rfl (by kernel_rfl) (by kernel_rfl) (by kernel_rfl) (fun _ _ _ h => h) (by rfl) ?hy3_15_13 (by assumption) ?rest3_15_13
                    case hy3_15_13 => (intro w hSw; unfold oTrTakes14; (try dsimp only at hSw); (try go_split_ands); go_simp; all_goals with_reducible rfl)
                    try simp only [oTrTakes14, Act.put, sA, sB, sC]
                    refine tkY 14 oTrTakes15 ?vv3_15_14 rfl (by kernel_rfl) (by kernel_rfl) (by kernel_rfl) (fun _ _ _ h => h) (by rfl) ?hy3_15_14 (by assumption) ?rest3_15_14
                    case hy3_15_14 => (intro w hSw; unfold oTrTakes15; (try dsimp only at hSw); (try go_split_ands); go_simp; all_goals with_reducible rfl)
                    try simp only [oTrTakes15, Act.put, sA, sB, sC]
                    refine tkY 15 oTrTakes16 ?vv3_15_15 rfl (by kernel_rfl) (by kernel_rfl) (by kernel_rfl) (fun _ _ _ h => h) (by rfl) ?hy3_15_15 (by assumption) ?rest3_15_15
                    case hy3_15_15 => (intro w hSw; unfold oTrTakes16; (try dsimp only at hSw); (try go_split_ands); go_simp; all_goals with_reducible rfl)
                    try simp only [oTrTakes16, Act.put, sA, sB, sC]
                    refine tkY 16 oTrTakes17 ?vv3_15_16 rfl (by kernel_rfl) (by kernel_rfl) (by kernel_rfl) (fun _ _ _ h => h) (by rfl) ?hy3_15_16 (by assumption) ?rest3_15_16
                    case hy3_15_16 => (intro w hSw; unfold oTrTakes17; (try dsimp only at hSw); (try go_split_ands); go_simp; all_goals with_reducible rfl)
                    try simp only [oTrTakes17, Act.put, sA, sB, sC]
                    refine tkY 17 oTrTakes18 ?vv3_16_17 rfl (by kernel_rfl) (by kernel_rfl) (by kernel_rfl) (fun _ _ _ h => h) (by rfl) ?hy3_16_17 (by assumption) ?rest3_16_17
                    case hy3_16_17 => (intro w hSw; unfold oTrTakes18; (try dsimp only at hSw); have hq := (hSw.cell (World.block_lt_of_cell? _ _ HC1.out)).trans HC1.out; clear hSw; go_simp; all_goals with_reducible rfl)
                    try simp only [oTrTakes18, Act.put, sA, sB, sC]
                    refine tkY 18 oTrTakes19 ?vv3_17_18 rfl (by kernel_rfl) (by kernel_rfl) (by kernel_rfl) (fun _ _ _ h => h) (by rfl) ?hy3_17_18 (by assumption) ?rest3_17_18
                    case hy3_17_18 => (intro w hSw; unfold oTrTakes19; (try dsimp only at hSw); (try go_split_ands); go_simp; all_goals with_reducible rfl)
                    try simp only [oTrTakes19, Act.put, sA, sB, sC]
                    refine wpAnyH_ready (rs := [19]) (by kernel_rfl) (by simp) ?_
                    refine AllReadyH.cons (o := oTrTakes20) rfl (fun K hK => ?_) AllReadyH.nil
                    unfold oTrTakes20
                    go_simp
                    (go_at_call 25; refine (tpMatch_eq hf nm mb _ (HGJ.out.below hHeld) (by omega) (by omega) HMB.out).mono ?_; rintro e w8 ⟨rfl, hb6⟩)
                    refine hK.out _ _ ?_ (fun hHeld => ?_)
                    · (exact below_more hHeld hb6)
                    clear hK K
                    try simp only [oTrTakes20, Act.put, sA, sB, sC]
                    refine tkY 20 oTrTakes21 ?vv3_18_20 rfl (by kernel_rfl) (by kernel_rfl) (by kernel_rfl) (fun _ _ _ h => h) (by rfl) ?hy3_18_20 (by assumption) ?rest3_18_20
                    case hy3_18_20 => (intro w hSw; unfold oTrTakes21; (try dsimp only at hSw); (try go_split_ands); go_simp; all_goals with_reducible rfl)
                    try simp only [oTrTakes21, Act.put, sA, sB, sC]
                    refine tkY 21 oTrTakes22 ?vv3_18_21 rfl (by kernel_rfl) (by kernel_rfl) (by kernel_rfl) (fun _ _ _ h => h) (by rfl) ?hy3_18_21 (by assumption) ?rest3_18_21
                    case hy3_18_21 => (intro w hSw; unfold oTrTakes22; (try dsimp only at hSw); (try go_split_ands); go_simp; all_goals with_reducible rfl)
                    try simp only [oTrTakes22, Act.put, sA, sB, sC]
                    refine tkY 22 oTrTakes23 ?vv3_18_22 rfl (by kernel_rfl) (by kernel_rfl) (by kernel_rfl) (fun _ _ _ h => h) (by rfl) ?hy3_18_22 (by assumption) ?rest3_18_22
                    case hy3_18_22 => (intro w hSw; unfold oTrTakes23; (try dsimp only at hSw); (try go_split_ands); go_simp; all_goals with_reducible rfl)
                    try simp only [oTrTakes23, Act.put, sA, sB, sC]
                    refine wpAnyH_done (by kernel_rfl) ?_ _
                    have hb9 := below_more HBJ.out hHeld
                    clear hHeld hb6
                    go_wp2_with fail
                    go_roundw
                    case rel => exact ⟨j + 1, mb, by go_num, by omega, by first | rfl | (cases mb <;> rfl), HN1, hb9⟩
                    case measure => simp [intOf]; omega
              · obtain rfl : j = N := by omega
                have hjI : ¬ (j : Int) < (j : Int) := by omega
                have hst : sb = true := by rw [← hsb.out, ← HN.out, List.take_length]; exact HEX.out
                subst hst
                have HY1 := Lib.hid ((hbj.cell (World.block_lt_of_cell? _ _ HCY.out)).trans HCY.out)
                have HBJ := Lib.hid hbj
                clear hsb hcy
                by_cases hq1 : q = 0
                · subst hq1
                  clear hbj
                  go_wp2_with fail
                  refine wp_region_held_drew (S := (fun w' => Below wr.heap.size wr w')) (by kernel_rfl) ((Below.refl _ _).drew) (fun hHeld => ?_)
                  refine tkY 0 oTrTakes24 ?vv4_19_0 rfl (by kernel_rfl) (by kernel_rfl) (by kernel_rfl) (fun _ _ _ h => h) (by rfl) ?hy4_19_0 (by assumption) ?rest4_19_0
                  case hy4_19_0 => (intro w hSw; unfold oTrTakes24; (try dsimp only at hSw); (try go_split_ands); go_simp; all_goals with_reducible rfl)
                  try simp only [oTrTakes24, Act.put, sA, sB, sC]
                  refine tkY 1 oTrTakes25 ?vv4_19_1 rfl (by kernel_rfl) (by kernel_rfl) (by kernel_rfl) (fun _ _ _ h => h) (by rfl) ?hy4_19_1 (by assumption) ?rest4_19_1
                  case hy4_19_1 => (intro w hSw; unfold oTrTakes25; (try dsimp only at hSw); (try go_split_ands); go_simp; all_goals with_reducible rfl)
                  try simp only [oTrTakes25, Act.put, sA, sB, sC]
                  refine tkY 2 oTrTakes26 ?vv4_19_2 rfl (by kernel_rfl) (by kernel_rfl) (by kernel_rfl) (fun _ _ _ h => h) (by rfl) ?hy4_19_2 (by assumption) ?rest4_19_2
                  case hy4_19_2 => (intro w hSw; unfold oTrTakes26; (try dsimp only at hSw); (try go_split_ands); go_simp; all_goals with_reducible rfl)
                  try simp only [oTrTakes26, Act.put, sA, sB, sC]
                  refine tkY 3 oTrTakes27 ?vv4_19_3 rfl (by kernel_rfl) (by kernel_rfl) (by kernel_rfl) (fun _ _ _ h => h) (by rfl) ?hy4_19_3 (by assumption) ?rest4_19_3
                  case hy4_19_3 => (intro w hSw; unfold oTrTakes27; (try dsimp only at hSw); (try go_split_ands); go_simp; all_goals with_reducible rfl)
                  try simp only [oTrTakes27, Act.put, sA, sB, sC]
                  refine tkY 4 oTrTakes28 ?vv4_19_4 rfl (by kernel_rfl) (by kernel_rfl) (by kernel_rfl) (fun _ _ _ h => h) (by rfl) ?hy4_19_4 (by assumption) ?rest4_19_4
                  case hy4_19_4 => (intro w hSw; unfold oTrTakes28; (try dsimp only at hSw); (try go_split_ands); go_simp; all_goals with_reducible rfl)
                  try simp only [oTrTakes28, Act.put, sA, sB, sC]
                  refine tkY 5 oTrTakes29 ?vv4_19_5 rfl (by kernel_rfl) (by kernel_rfl) (by kernel_rfl) (fun _ _ _ h => h) (by rfl) ?hy4_19_5 (by assumption) ?rest4_19_5
                  case hy4_19_5 => (intro w hSw; unfold oTrTakes29; (try dsimp only at hSw); (try go_split_ands); go_simp; all_goals with_reducible rfl)
                  try simp only [oTrTakes29, Act.put, sA, sB, sC]
                  refine wpAnyH_take (i := 6) (oi := oTrTakes30) (v := undef) rfl (by kernel_rfl) (by kernel_rfl) (by kernel_rfl) (fun _ _ _ h => h) (Or.inr ⟨by rfl, rfl⟩) (by assumption) ?rest4_20_6
                  try simp only [oTrTakes30, Act.put, sA, sB, sC]
                  refine wpAnyH_take (i := 7) (oi := oTrTakes31) (v := undef) rfl (by kernel_rfl) (by kernel_rfl) (by kernel_rfl) (fun _ _ _ h => h) (Or.inr ⟨by rfl, rfl⟩) (by assumption) ?rest4_20_7
                  try simp only [oTrTakes31, Act.put, sA, sB, sC]
                  refine wpAnyH_take (i := 8) (oi := oTrTakes32) (v := undef) rfl (by kernel_rfl) (by kernel_rfl) (by kernel_rfl) (fun _ _ _ h => h) (Or.inr ⟨by rfl, rfl⟩) (by assumption) ?rest4_20_8
                  try simp only [oTrTakes32, Act.put, sA, sB, sC]
                  refine wpAnyH_take (i := 9) (oi := oTrTakes33) (v := undef) rfl (by kernel_rfl) (by kernel_rfl) (by kernel_rfl) (fun _ _ _ h => h) (Or.inr ⟨by rfl, rfl⟩) (by assumption) ?rest4_20_9
                  try simp only [oTrTakes33, Act.put, sA, sB, sC]
                  refine wpAnyH_take (i := 10) (oi := oTrTakes34) (v := undef) rfl (by kernel_rfl) (by kernel_rfl) (by kernel_rfl) (fun _ _ _ h => h) (Or.inr ⟨by rfl, rfl⟩) (by assumption) ?rest4_20_10
                  try simp only [oTrTakes34, Act.put, sA, sB, sC]
                  refine wpAnyH_take (i := 11) (oi := oTrTakes35) (v := undef) rfl (by kernel_rfl) (by kernel_rfl) (by kernel_rfl) (fun _ _ _ h => h) (Or.inr ⟨by rfl, rfl⟩) (by assumption) ?rest4_20_11
                  try simp only [oTrTakes35, Act.put, sA, sB, sC]
                  refine wpAnyH_take (i := 12) (oi := oTrTakes36) (v := undef) rfl (by kernel_rfl) (by kernel_rfl) (by kernel_rfl) (fun _ _ _ h => h) (Or.inr ⟨by rfl, rfl⟩) (by assumption) ?rest4_20_12
                  try simp only [oTrTakes36, Act.put, sA, sB, sC]
                  refine wpAnyH_take (i := 13) (oi := oTrTakes37) (v := undef) rfl (by kernel_rfl) (by kernel_rfl) (by kernel_rfl) (fun _ _ _ h => h) (Or.inr ⟨by rfl, rfl⟩) (by assumption) ?rest4_20_13
                  try simp only [oTrTakes37, Act.put, sA, sB, sC]
                  refine wpAnyH_take (i := 14) (oi := oTrTakes38) (v := undef) rfl (by kernel_rfl) (by kernel_rfl) (by kernel_rfl) (fun _ _ _ h => h) (Or.inr ⟨by rfl, rfl⟩) (by assumption) ?rest4_20_14
                  try simp only [oTrTakes38, Act.put, sA, sB, sC]
                  refine wpAnyH_take (i := 15) (oi := oTrTakes39) (v := undef) rfl (by kernel_rfl) (by kernel_rfl) (by kernel_rfl) (fun _ _ _ h => h) (Or.inr ⟨by rfl, rfl⟩) (by assumption) ?rest4_20_15
                  try simp only [oTrTakes39, Act.put, sA, sB, sC]
                  refine tkY 16 oTrTakes40 ?vv4_21_16 rfl (by kernel_rfl) (by kernel_rfl) (by kernel_rfl) (fun _ _ _ h => h) (by rfl) ?hy4_21_16 (by assumption) ?rest4_21_16
                  case hy4_21_16 => (intro w hSw; unfold oTrTakes40; (try dsimp only at hSw); (try go_split_ands); go_simp; all_goals with_reducible rfl)
                  try simp only [oTrTakes40, Act.put, sA, sB, sC]
                  refine tkY 17 oTrTakes41 ?vv4_21_17 rfl (by kernel_rfl) (by kernel_rfl) (by kernel_rfl) (fun _ _ _ h => h) (by rfl) ?hy4_21_17 (by assumption) ?rest4_21_17
                  case hy4_21_17 => (intro w hSw; unfold oTrTakes41; (try dsimp only at hSw); (try go_split_ands); go_simp; all_goals with_reducible rfl)
                  try simp only [oTrTakes41, Act.put, sA, sB, sC]
                  refine wpAnyH_done (by kernel_rfl) ?_ _
                  have hb9 := below_more HBQ.out (below_more HBJ.out hHeld)
                  clear hHeld
                  go_wp2_with fail
                  go_roundw
                  case rel => exact ⟨1, by go_num, by omega, hb9⟩
                  case measure => simp [intOf]; omega
                · obtain ⟨p, hp⟩ : ∃ p, q = p + 1 := ⟨q - 1, by omega⟩
                  have hqg : (0 : Int) < (q : Int) := by omega
                  have hqg2 : 0 < q := by omega
                  have hpw : IntKind.i64.wrap ((q : Int) - 1) = (p : Int) := by rw [IntWalk.i64_in _ (by omega)]; omega
                  have hpw2 : IntKind.i64.wrap (p : Int) = (p : Int) := IntWalk.i64_in _ (by omega)
                  have hpI : (p : Int) < (M.length : Int) := by omega
                  have hp0 : (0 : Int) ≤ (p : Int) := by omega
                  obtain ⟨b8, o8, x, hA8, hx, hcx⟩ := (HS7.out.below (below_more HBQ.out hbj)).at_ (k := p) (by omega)
                  cases hA8
                  have HX1 := Lib.hid hcx
                  have hR : Op.bytesLess x y = true := mat_rise L nm p x y (by rw [HM.out]; exact hx) (by rw [HM.out, ← hp]; exact HY.out)
                  clear hbj hcx hx hp
                  go_wp2_with fail
                  refine wp_region_held_drew (S := (fun w' => Below wr.heap.size wr w')) (by kernel_rfl) ((Below.refl _ _).drew) (fun hHeld => ?_)
                  refine tkY 0 oTrTakes24 ?vv5_22_0 rfl (by kernel_rfl) (by kernel_rfl) (by kernel_rfl) (fun _ _ _ h => h) (by rfl) ?hy5_22_0 (by assumption) ?rest5_22_0
                  case hy5_22_0 => (intro w hSw; unfold oTrTakes24; (try dsimp only at hSw); (try go_split_ands); go_simp; all_goals with_reducible rfl)
                  try simp only [oTrTakes24, Act.put, sA, sB, sC]
                  refine tkY 1 oTrTakes25 ?vv5_22_1 rfl (by kernel_rfl) (by kernel_rfl) (by kernel_rfl) (fun _ _ _ h => h) (by rfl) ?hy5_22_1 (by assumption) ?rest5_22_1
                  case hy5_22_1 => (intro w hSw; unfold oTrTakes25; (try dsimp only at hSw); (try go_split_ands); go_simp; all_goals with_reducible rfl)
                  try simp only [oTrTakes25, Act.put, sA, sB, sC]
                  refine tkY 2 oTrTakes26 ?vv5_22_2 rfl (by kernel_rfl) (by kernel_rfl) (by kernel_rfl) (fun _ _ _ h => h) (by rfl) ?hy5_22_2 (by assumption) ?rest5_22_2
                  case hy5_22_2 => (intro w hSw; unfold oTrTakes26; (try dsimp only at hSw); (try go_split_ands); go_simp; all_goals with_reducible rfl)
                  try simp only [oTrTakes26, Act.put, sA, sB, sC]
                  refine tkY 3 oTrTakes27 ?vv5_22_3 rfl (by kernel_rfl) (by kernel_rfl) (by kernel_rfl) (fun _ _ _ h => h) (by rfl) ?hy5_22_3 (by assumption) ?rest5_22_3
                  case hy5_22_3 => (intro w hSw; unfold oTrTakes27; (try dsimp only at hSw); (try go_split_ands); go_simp; all_goals with_reducible rfl)
                  try simp only [oTrTakes27, Act.put, sA, sB, sC]
                  refine tkY 4 oTrTakes28 ?vv5_22_4 rfl (by kernel_rfl) (by kernel_rfl) (by kernel_rfl) (fun _ _ _ h => h) (by rfl) ?hy5_22_4 (by assumption) ?rest5_22_4
                  case hy5_22_4 => (intro w hSw; unfold oTrTakes28; (try dsimp only at hSw); (try go_split_ands); go_simp; all_goals with_reducible rfl)
                  try simp only [oTrTakes28, Act.put, sA, sB, sC]
                  refine tkY 5 oTrTakes29 ?vv5_22_5 rfl (by kernel_rfl) (by kernel_rfl) (by kernel_rfl) (fun _ _ _ h => h) (by rfl) ?hy5_22_5 (by assumption) ?rest5_22_5
                  case hy5_22_5 => (intro w hSw; unfold oTrTakes29; (try dsimp only at hSw); (try go_split_ands); go_simp; all_goals with_reducible rfl)
                  try simp only [oTrTakes29, Act.put, sA, sB, sC]
                  refine tkY 6 oTrTakes30 ?vv5_22_6 rfl (by kernel_rfl) (by kernel_rfl) (by kernel_rfl) (fun _ _ _ h => h) (by rfl) ?hy5_22_6 (by assumption) ?rest5_22_6
                  case hy5_22_6 => (intro w hSw; unfold oTrTakes30; (try dsimp only at hSw); (try go_split_ands); go_simp; all_goals with_reducible rfl)
                  try simp only [oTrTakes30, Act.put, sA, sB, sC]
                  refine tkY 7 oTrTakes31 ?vv5_22_7 rfl (by kernel_rfl) (by kernel_rfl) (by kernel_rfl) (fun _ _ _ h => h) (by rfl) ?hy5_22_7 (by assumption) ?rest5_22_7
                  case hy5_22_7 => (intro w hSw; unfold oTrTakes31; (try dsimp only at hSw); (try go_split_ands); go_simp; all_goals with_reducible rfl)
                  try simp only [oTrTakes31, Act.put, sA, sB, sC]
                  refine tkY 8 oTrTakes32 ?vv5_22_8 rfl (by kernel_rfl) (by kernel_rfl) (by kernel_rfl) (fun _ _ _ h => h) (by rfl) ?hy5_22_8 (by assumption) ?rest5_22_8
                  case hy5_22_8 => (intro w hSw; unfold oTrTakes32; (try dsimp only at hSw); (try go_split_ands); go_simp; all_goals with_reducible rfl)
                  try simp only [oTrTakes32, Act.put, sA, sB, sC]
                  refine tkY 9 oTrTakes33 ?vv5_22_9 rfl (by kernel_rfl) (by kernel_rfl) (by kernel_rfl) (fun _ _ _ h => h) (by rfl) ?hy5_22_9 (by assumption) ?rest5_22_9
                  case hy5_22_9 => (intro w hSw; unfold oTrTakes33; (try dsimp only at hSw); (try go_split_ands); go_simp; all_goals with_reducible rfl)
                  try simp only [oTrTakes33, Act.put, sA, sB, sC]
                  refine tkY 10 oTrTakes34 ?vv5_23_10 rfl (by kernel_rfl) (by kernel_rfl) (by kernel_rfl) (fun _ _ _ h => h) (by rfl) ?hy5_23_10 (by assumption) ?rest5_23_10
                  case hy5_23_10 => (intro w hSw; unfold oTrTakes34; (try dsimp only at hSw); have hq := (hSw.cell (World.block_lt_of_cell? _ _ HX1.out)).trans HX1.out; clear hSw; go_simp; all_goals with_reducible rfl)
                  try simp only [oTrTakes34, Act.put, sA, sB, sC]
                  refine tkY 11 oTrTakes35 ?vv5_24_11 rfl (by kernel_rfl) (by kernel_rfl) (by kernel_rfl) (fun _ _ _ h => h) (by rfl) ?hy5_24_11 (by assumption) ?rest5_24_11
                  case hy5_24_11 => (intro w hSw; unfold oTrTakes35; (try dsimp only at hSw); (try go_split_ands); go_simp; all_goals with_reducible rfl)
                  try simp only [oTrTakes35, Act.put, sA, sB, sC]
                  refine tkY 12 oTrTakes36 ?vv5_24_12 rfl (by kernel_rfl) (by kernel_rfl) (by kernel_rfl) (fun _ _ _ h => h) (by rfl) ?hy5_24_12 (by assumption) ?rest5_24_12
                  case hy5_24_12 => (intro w hSw; unfold oTrTakes36; (try dsimp only at hSw); (try go_split_ands); go_simp; all_goals with_reducible rfl)
                  try simp only [oTrTakes36, Act.put, sA, sB, sC]
                  refine tkY 13 oTrTakes37 ?vv5_24_13 rfl (by kernel_rfl) (by kernel_rfl) (by kernel_rfl) (fun _ _ _ h => h) (by rfl) ?hy5_24_13 (by assumption) ?rest5_24_13
                  case hy5_24_13 => (intro w hSw; unfold oTrTakes37; (try dsimp only at hSw); (try go_split_ands); go_simp; all_goals with_reducible rfl)
                  try simp only [oTrTakes37, Act.put, sA, sB, sC]
                  refine tkY 14 oTrTakes38 ?vv5_25_14 rfl (by kernel_rfl) (by kernel_rfl) (by kernel_rfl) (fun _ _ _ h => h) (by rfl) ?hy5_25_14 (by assumption) ?rest5_25_14
                  case hy5_25_14 => (intro w hSw; unfold oTrTakes38; (try dsimp only at hSw); have hq := (hSw.cell (World.block_lt_of_cell? _ _ HY1.out)).trans HY1.out; clear hSw; go_simp; all_goals with_reducible rfl)
                  try simp only [oTrTakes38, Act.put, sA, sB, sC]
                  refine tkY 15 oTrTakes39 ?vv5_26_15 rfl (by kernel_rfl) (by kernel_rfl) (by kernel_rfl) (fun _ _ _ h => h) (by rfl) ?hy5_26_15 (by assumption) ?rest5_26_15
                  case hy5_26_15 => (intro w hSw; unfold oTrTakes39; (try dsimp only at hSw); (try go_split_ands); go_simp; all_goals with_reducible rfl)
                  try simp only [oTrTakes39, Act.put, sA, sB, sC]
                  refine tkY 16 oTrTakes40 ?vv5_26_16 rfl (by kernel_rfl) (by kernel_rfl) (by kernel_rfl) (fun _ _ _ h => h) (by rfl) ?hy5_26_16 (by assumption) ?rest5_26_16
                  case hy5_26_16 => (intro w hSw; unfold oTrTakes40; (try dsimp only at hSw); (try go_split_ands); go_simp; all_goals with_reducible rfl)
                  try simp only [oTrTakes40, Act.put, sA, sB, sC]
                  refine tkY 17 oTrTakes41 ?vv5_26_17 rfl (by kernel_rfl) (by kernel_rfl) (by kernel_rfl) (fun _ _ _ h => h) (by rfl) ?hy5_26_17 (by assumption) ?rest5_26_17
                  case hy5_26_17 => (intro w hSw; unfold oTrTakes41; (try dsimp only at hSw); (try go_split_ands); go_simp; all_goals with_reducible rfl)
                  try simp only [oTrTakes41, Act.put, sA, sB, sC]
                  refine wpAnyH_done (by kernel_rfl) ?_ _
                  have hb9 := below_more HBQ.out (below_more HBJ.out hHeld)
                  clear hHeld
                  go_wp2_with fail
                  go_roundw
                  case rel => exact ⟨q + 1, by go_num, by omega, hb9⟩
                  case measure => simp [intOf]; omega
          · have hqI : ¬ (q : Int) < (M.length : Int) := by omega
            have HMF := Lib.hid ((mat_facts nm L).2)
            rw [HM.out] at HMF
            go_wp2_with fail
            go_loopw [11] (fun i wr => ∃ (j : Nat), i = .int .i64 j ∧ j ≤ N ∧ Below wq.heap.size wq wr) (fun i _ => N - (intOf i).toNat)
            case atStart => exact ⟨0, rfl, by omega, Below.refl _ _⟩
            case round =>
              obtain ⟨j, rfl, hj, hbj⟩ := hrel
              have hb3j := below_more (below_more HBM.out hbq) hbj
              by_cases hjn : j < N
              · obtain ⟨b6, o6, hh, rfl, hhx, hc1, hc2⟩ := (H6.out.below hb3j).at_ (k := j) hjn
                have hmem := List.mem_of_getElem? hhx
                obtain ⟨hhf, hhc⟩ := hk.out.2.2 hh hmem
                have HIN : Hid (matB hh.1 nm = true → M.contains hh.2 = true) := fun e => by
                  rw [List.contains_iff_mem]
                  exact (HMF.out hh.2).2 ⟨hh, hmem, rfl, e⟩
                obtain ⟨hf, hc⟩ := hh
                dsimp only at hc1 hc2 hhf hhc HIN
                obtain ⟨mb, hmb⟩ : ∃ mb, matB hf nm = mb := ⟨_, rfl⟩
                have HMB := Lib.hid hmb
                rw [hmb] at HIN
                have HC2 := Lib.hid hc2
                have hjI : (j : Int) < (N : Int) := by omega
                have hj0 : (0 : Int) ≤ (j : Int) := by omega
                have HGJ : Hid (GT wr) := HG.out.below (below_more HBW.out hb3j)
                have HBJ := Lib.hid hbj
                clear hhx hb3j hmb hmem hc2 hbj
                go_wp2_with fail
                refine (tpMatch_eq hf nm mb _ HGJ.out (by omega) (by omega) HMB.out).mono ?_
                rintro e w8 ⟨rfl, hb8⟩
                have hb9 := below_more HBJ.out hb8
                cases mb with
                | true =>
                  have hc9 := (hb8.cell (World.block_lt_of_cell? _ _ HC2.out)).trans HC2.out
                  clear hb8
                  go_wp2_with fail
                  refine (hasT_eq _ M.length c7 M hc true _ (HS7.out.below (below_more hbq hb9)) (by omega) (by first | exact HIN.out rfl | exact HIN.out trivial | exact HIN.out)).mono ?_
                  rintro e w10 ⟨rfl, hw10⟩
                  subst hw10
                  go_wp2_with fail
                  go_roundw
                  case rel => exact ⟨j + 1, by go_num, by omega, hb9⟩
                  case measure => simp [intOf]; omega
                | false =>
                  clear hb8
                  go_wp2_with fail
                  go_roundw
                  case rel => exact ⟨j + 1, by go_num, by omega, hb9⟩
                  case measure => simp [intOf]; omega
              · have hjI : ¬ (j : Int) < (N : Int) := by omega
                clear hbj
                go_wp2_with fail
                go_roundw
                case rel => exact ⟨k + 1, by go_num, by omega, hb3j⟩
                case measure => simp [intOf]; omega
      · have hkI : ¬ (k : Int) < (n : Int) := by omega
        go_wp2_with fail
        refine (tLen N (HG.out.below (below_more HBW.out hb)) (HP3.out.below hb) hk.out HN.out).mono ?_
        rintro e w8 ⟨rfl, hb8⟩
        have hb9 := below_more (below_more HBW.out hb) hb8
        clear hb8
        go_wp2_with fail
        refine (awake9_any _ (HG.out.below hb9)).mono ?_
        rintro e w1 ⟨rfl, hb1⟩
        have hb2 := below_more hb9 hb1
        clear hb1
        go_wp2_with fail
        go_ret
        exact ⟨rfl, hb2⟩
end lawTrieTakes
end Go.Proofs.YtipdmfnkkkdlbaaGreatDoor
