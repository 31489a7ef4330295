/-
  TrieOrder: in whatever order hints are added, the trie is the same; from which all is removed, in whatever order, it has one node.
-/
import Derived.Test.YtipdmfnkkkdlbaaGreatDoorTrOrdM
set_option linter.unusedSimpArgs false
set_option linter.unusedVariables false
namespace Go.Proofs.YtipdmfnkkkdlbaaGreatDoor
section
open Go.RowKit
def oTrOrder1 : Oper := ({ dst := some 34, op := Go.Op.move (Go.Operand.tmp 7), type := 25, pos := "outright.go:93", after := #[], guard := none } : Oper)
def oTrOrder2 : Oper := ({ dst := some 35, op := Go.Op.move (Go.Operand.tmp 6), type := 28, pos := "outright.go:93", after := #[], guard := none } : Oper)
def oTrOrder3 : Oper := ({ dst := some 36, op := Go.Op.move (Go.Operand.tmp 9), type := 3, pos := "outright.go:93", after := #[], guard := none } : Oper)
def oTrOrder4 : Oper := ({ dst := some 37, op := Go.Op.indexAddr 28 (Go.Operand.tmp 35) (Go.Operand.tmp 36), type := 0, pos := "outright.go:93", after := #[{ on := 1, ground := Go.Ground.data }, { on := 2, ground := Go.Ground.data }], guard := none } : Oper)
def oTrOrder5 : Oper := ({ dst := some 38, op := Go.Op.fieldAddr 40 (Go.Operand.tmp 37) 0, type := 0, pos := "outright.go:93", after := #[{ on := 3, ground := Go.Ground.data }], guard := none } : Oper)
def oTrOrder6 : Oper := ({ dst := some 39, op := Go.Op.load 9 (Go.Operand.tmp 38), type := 9, pos := "outright.go:93", after := #[{ on := 4, ground := Go.Ground.data }], guard := none } : Oper)
def oTrOrder7 : Oper := ({ dst := some 40, op := Go.Op.move (Go.Operand.tmp 6), type := 28, pos := "outright.go:93", after := #[], guard := none } : Oper)
def oTrOrder8 : Oper := ({ dst := some 41, op := Go.Op.move (Go.Operand.tmp 9), type := 3, pos := "outright.go:93", after := #[], guard := none } : Oper)
def oTrOrder9 : Oper := ({ dst := some 42, op := Go.Op.indexAddr 28 (Go.Operand.tmp 40) (Go.Operand.tmp 41), type := 0, pos := "outright.go:93", after := #[{ on := 6, ground := Go.Ground.data }, { on := 7, ground := Go.Ground.data }], guard := none } : Oper)
def oTrOrder10 : Oper := ({ dst := some 43, op := Go.Op.fieldAddr 40 (Go.Operand.tmp 42) 1, type := 0, pos := "outright.go:93", after := #[{ on := 8, ground := Go.Ground.data }], guard := none } : Oper)
def oTrOrder11 : Oper := ({ dst := some 44, op := Go.Op.load 9 (Go.Operand.tmp 43), type := 9, pos := "outright.go:93", after := #[{ on := 9, ground := Go.Ground.data }], guard := none } : Oper)
def oTrOrder12 : Oper := ({ dst := some 45, op := Go.Op.call { callee := Go.Callee.value (Go.Operand.func 20), args := #[Go.Operand.tmp 34, Go.Operand.tmp 39, Go.Operand.tmp 44], argTypes := #[25, 9, 9] }, type := 4, pos := "outright.go:93", after := #[{ on := 0, ground := Go.Ground.data }, { on := 5, ground := Go.Ground.data }, { on := 10, ground := Go.Ground.data }], guard := none } : Oper)
def oTrOrder13 : Oper := ({ dst := some 46, op := Go.Op.unOp Go.UnOp.not 4 (Go.Operand.tmp 45), type := 4, pos := "outright.go:93", after := #[{ on := 11, ground := Go.Ground.data }], guard := none } : Oper)
def oTrOrder14 : Oper := ({ dst := some 65, op := Go.Op.move (Go.Operand.tmp 7), type := 25, pos := "outright.go:101", after := #[], guard := none } : Oper)
def oTrOrder15 : Oper := ({ dst := some 66, op := Go.Op.move (Go.Operand.tmp 0), type := 22, pos := "outright.go:101", after := #[], guard := none } : Oper)
def oTrOrder16 : Oper := ({ dst := some 67, op := Go.Op.move (Go.Operand.tmp 10), type := 3, pos := "outright.go:101", after := #[], guard := none } : Oper)
def oTrOrder17 : Oper := ({ dst := some 68, op := Go.Op.indexAddr 22 (Go.Operand.tmp 66) (Go.Operand.tmp 67), type := 0, pos := "outright.go:101", after := #[{ on := 1, ground := Go.Ground.data }, { on := 2, ground := Go.Ground.data }], guard := none } : Oper)
def oTrOrder18 : Oper := ({ dst := some 69, op := Go.Op.fieldAddr 33 (Go.Operand.tmp 68) 3, type := 0, pos := "outright.go:101", after := #[{ on := 3, ground := Go.Ground.data }], guard := none } : Oper)
def oTrOrder19 : Oper := ({ dst := some 70, op := Go.Op.load 9 (Go.Operand.tmp 69), type := 9, pos := "outright.go:101", after := #[{ on := 4, ground := Go.Ground.data }], guard := none } : Oper)
def oTrOrder20 : Oper := ({ dst := some 72, op := Go.Op.move (Go.Operand.tmp 5), type := 25, pos := "outright.go:101", after := #[], guard := none } : Oper)
def oTrOrder21 : Oper := ({ dst := some 73, op := Go.Op.move (Go.Operand.tmp 0), type := 22, pos := "outright.go:101", after := #[], guard := none } : Oper)
def oTrOrder22 : Oper := ({ dst := some 74, op := Go.Op.move (Go.Operand.tmp 10), type := 3, pos := "outright.go:101", after := #[], guard := none } : Oper)
def oTrOrder23 : Oper := ({ dst := some 75, op := Go.Op.indexAddr 22 (Go.Operand.tmp 73) (Go.Operand.tmp 74), type := 0, pos := "outright.go:101", after := #[{ on := 8, ground := Go.Ground.data }, { on := 9, ground := Go.Ground.data }], guard := none } : Oper)
def oTrOrder24 : Oper := ({ dst := some 76, op := Go.Op.fieldAddr 33 (Go.Operand.tmp 75) 3, type := 0, pos := "outright.go:101", after := #[{ on := 10, ground := Go.Ground.data }], guard := none } : Oper)
def oTrOrder25 : Oper := ({ dst := some 77, op := Go.Op.load 9 (Go.Operand.tmp 76), type := 9, pos := "outright.go:101", after := #[{ on := 11, ground := Go.Ground.data }], guard := none } : Oper)
def oTrOrder26 : Oper := ({ dst := some 71, op := Go.Op.call { callee := Go.Callee.value (Go.Operand.func 19), args := #[Go.Operand.tmp 65, Go.Operand.tmp 70], argTypes := #[25, 9] }, type := 36, pos := "outright.go:101", after := #[{ on := 0, ground := Go.Ground.data }, { on := 5, ground := Go.Ground.data }], guard := none } : Oper)
def oTrOrder27 : Oper := ({ dst := some 78, op := Go.Op.call { callee := Go.Callee.value (Go.Operand.func 19), args := #[Go.Operand.tmp 72, Go.Operand.tmp 77], argTypes := #[25, 9] }, type := 36, pos := "outright.go:101", after := #[{ on := 7, ground := Go.Ground.data }, { on := 12, ground := Go.Ground.data }, { on := 6, ground := Go.Ground.chain }], guard := none } : Oper)
def oTrOrder28 : Oper := ({ dst := some 79, op := Go.Op.call { callee := Go.Callee.value (Go.Operand.func 16), args := #[Go.Operand.tmp 71, Go.Operand.tmp 78], argTypes := #[36, 36] }, type := 4, pos := "outright.go:101", after := #[{ on := 6, ground := Go.Ground.data }, { on := 13, ground := Go.Ground.data }, { on := 13, ground := Go.Ground.chain }], guard := none } : Oper)
def oTrOrder29 : Oper := ({ dst := some 80, op := Go.Op.unOp Go.UnOp.not 4 (Go.Operand.tmp 79), type := 4, pos := "outright.go:101", after := #[{ on := 14, ground := Go.Ground.data }], guard := none } : Oper)
def oTrOrder30 : Oper := ({ dst := some 94, op := Go.Op.move (Go.Operand.tmp 5), type := 25, pos := "outright.go:107", after := #[], guard := none } : Oper)
def oTrOrder31 : Oper := ({ dst := some 95, op := Go.Op.move (Go.Operand.tmp 6), type := 28, pos := "outright.go:107", after := #[], guard := none } : Oper)
def oTrOrder32 : Oper := ({ dst := some 96, op := Go.Op.move (Go.Operand.tmp 12), type := 3, pos := "outright.go:107", after := #[], guard := none } : Oper)
def oTrOrder33 : Oper := ({ dst := some 97, op := Go.Op.indexAddr 28 (Go.Operand.tmp 95) (Go.Operand.tmp 96), type := 0, pos := "outright.go:107", after := #[{ on := 1, ground := Go.Ground.data }, { on := 2, ground := Go.Ground.data }], guard := none } : Oper)
def oTrOrder34 : Oper := ({ dst := some 98, op := Go.Op.fieldAddr 40 (Go.Operand.tmp 97) 0, type := 0, pos := "outright.go:107", after := #[{ on := 3, ground := Go.Ground.data }], guard := none } : Oper)
def oTrOrder35 : Oper := ({ dst := some 99, op := Go.Op.load 9 (Go.Operand.tmp 98), type := 9, pos := "outright.go:107", after := #[{ on := 4, ground := Go.Ground.data }], guard := none } : Oper)
def oTrOrder36 : Oper := ({ dst := some 100, op := Go.Op.move (Go.Operand.tmp 6), type := 28, pos := "outright.go:107", after := #[], guard := none } : Oper)
def oTrOrder37 : Oper := ({ dst := some 101, op := Go.Op.move (Go.Operand.tmp 12), type := 3, pos := "outright.go:107", after := #[], guard := none } : Oper)
def oTrOrder38 : Oper := ({ dst := some 102, op := Go.Op.indexAddr 28 (Go.Operand.tmp 100) (Go.Operand.tmp 101), type := 0, pos := "outright.go:107", after := #[{ on := 6, ground := Go.Ground.data }, { on := 7, ground := Go.Ground.data }], guard := none } : Oper)
def oTrOrder39 : Oper := ({ dst := some 103, op := Go.Op.fieldAddr 40 (Go.Operand.tmp 102) 1, type := 0, pos := "outright.go:107", after := #[{ on := 8, ground := Go.Ground.data }], guard := none } : Oper)
def oTrOrder40 : Oper := ({ dst := some 104, op := Go.Op.load 9 (Go.Operand.tmp 103), type := 9, pos := "outright.go:107", after := #[{ on := 9, ground := Go.Ground.data }], guard := none } : Oper)
def oTrOrder41 : Oper := ({ dst := some 105, op := Go.Op.call { callee := Go.Callee.value (Go.Operand.func 21), args := #[Go.Operand.tmp 94, Go.Operand.tmp 99, Go.Operand.tmp 104], argTypes := #[25, 9, 9] }, type := 4, pos := "outright.go:107", after := #[{ on := 0, ground := Go.Ground.data }, { on := 5, ground := Go.Ground.data }, { on := 10, ground := Go.Ground.data }], guard := none } : Oper)
def oTrOrder42 : Oper := ({ dst := some 106, op := Go.Op.unOp Go.UnOp.not 4 (Go.Operand.tmp 105), type := 4, pos := "outright.go:107", after := #[{ on := 11, ground := Go.Ground.data }], guard := none } : Oper)
def oTrOrder43 : Oper := ({ dst := some 107, op := Go.Op.move (Go.Operand.tmp 106), type := 4, pos := "outright.go:107", after := #[{ on := 12, ground := Go.Ground.data }, { on := 11, ground := Go.Ground.chain }], guard := none } : Oper)
def oTrOrder44 : Oper := ({ dst := some 108, op := Go.Op.move (Go.Operand.tmp 5), type := 25, pos := "outright.go:107", after := #[{ on := 13, ground := Go.Ground.guard }], guard := some (13, false) } : Oper)
def oTrOrder45 : Oper := ({ dst := some 110, op := Go.Op.move (Go.Operand.tmp 6), type := 28, pos := "outright.go:107", after := #[{ on := 13, ground := Go.Ground.guard }], guard := some (13, false) } : Oper)
def oTrOrder46 : Oper := ({ dst := some 111, op := Go.Op.call { callee := Go.Callee.builtin Go.Builtin.len, args := #[Go.Operand.tmp 110], argTypes := #[28] }, type := 3, pos := "outright.go:107", after := #[{ on := 16, ground := Go.Ground.data }, { on := 13, ground := Go.Ground.guard }], guard := some (13, false) } : Oper)
def oTrOrder47 : Oper := ({ dst := some 112, op := Go.Op.move (Go.Operand.tmp 11), type := 3, pos := "outright.go:107", after := #[{ on := 13, ground := Go.Ground.guard }], guard := some (13, false) } : Oper)
def oTrOrder48 : Oper := ({ dst := some 113, op := Go.Op.binOp Go.BinOp.sub 3 (Go.Operand.tmp 111) (Go.Operand.tmp 112) 3, type := 3, pos := "outright.go:107", after := #[{ on := 17, ground := Go.Ground.data }, { on := 18, ground := Go.Ground.data }, { on := 13, ground := Go.Ground.guard }], guard := some (13, false) } : Oper)
def oTrOrder49 : Oper := ({ dst := some 114, op := Go.Op.binOp Go.BinOp.sub 3 (Go.Operand.tmp 113) (Go.Operand.const (Go.Value.int Go.IntKind.i64 1)) 3, type := 3, pos := "outright.go:107", after := #[{ on := 19, ground := Go.Ground.data }, { on := 13, ground := Go.Ground.guard }], guard := some (13, false) } : Oper)
def oTrOrder50 : Oper := ({ dst := some 109, op := Go.Op.call { callee := Go.Callee.value (Go.Operand.func 23), args := #[Go.Operand.tmp 108], argTypes := #[25] }, type := 3, pos := "outright.go:107", after := #[{ on := 14, ground := Go.Ground.data }, { on := 13, ground := Go.Ground.chain }, { on := 13, ground := Go.Ground.guard }], guard := some (13, false) } : Oper)
def oTrOrder51 : Oper := ({ dst := some 115, op := Go.Op.binOp Go.BinOp.neq 3 (Go.Operand.tmp 109) (Go.Operand.tmp 114) 3, type := 4, pos := "outright.go:107", after := #[{ on := 15, ground := Go.Ground.data }, { on := 20, ground := Go.Ground.data }, { on := 13, ground := Go.Ground.guard }], guard := some (13, false) } : Oper)
def oTrOrder52 : Oper := ({ dst := some 116, op := Go.Op.pick (Go.Operand.tmp 107) (Go.Operand.const (Go.Value.bool true)) (Go.Operand.tmp 115), type := 4, pos := "outright.go:107", after := #[{ on := 13, ground := Go.Ground.data }, { on := 21, ground := Go.Ground.data }], guard := none } : Oper)
end
open Go.RowKit
theorem idx_int (j a N : Nat) (hj : j < 1000) (ha : a < 1000) (hN : N ≤ 1000) : (IntKind.i64.wrap ((j : Int) + (a : Int))).tmod (N : Int) = (((j + a) % N : Nat) : Int) := by
  rw [IntWalk.i64_in _ (by omega), Int.tmod_eq_emod_of_nonneg (by omega), Int.natCast_emod, Int.natCast_add]
namespace lawTrieOrder
set_option maxHeartbeats 4000000 in
set_option maxRecDepth 100000 in
theorem walk (w : World) (hG : GT w) (A : Option Addr) (n c : Nat) (l : List Ac) (hs : Acts w A n l) (hn : n ≤ 9223372036854775807) (hi : Hid (∀ x ∈ l, AcIn x)) (p : Int) (hp : (Lit.int .u8 p).wf = true) :
    Calls Tryz.prog 8 #[.slice A n c, .int .u8 p] w fun e w' => e = .returned (.bool true) ∧ Below w.heap.size w w' := by
  obtain ⟨a, rfl⟩ : ∃ a : Nat, p = (a : Int) := ⟨p.toNat, by have := u8_bd p hp; omega⟩
  have ha : a ≤ 255 := by have := u8_bd _ hp; omega
  have HG := Lib.hid hG
  have HS := Lib.hid hs
  have HL := Lib.hid hs.len
  clear hG hs hp
  go_enter Tryz.func8, Tryz.ntmps8
  go_wp2_with fail
  refine (great9_any A n c l _ HS.out hn hi).mono ?_
  rintro e w0 ⟨b, rfl, hok, rfl⟩
  cases b with
  | true =>
    go_wp2_with fail
    refine (awake9_any _ HG.out).mono ?_
    rintro e w1 ⟨rfl, hb⟩
    go_wp2_with fail
    go_ret
    exact ⟨rfl, hb⟩
  | false =>
    have hok2 := hok rfl
    have hn60 : n ≤ 60 := by have := HL.out; have := hok2.1; omega
    have HX := Lib.hid hok2.2
    have HFil := Lib.hid (made_fil l)
    go_wp2_with fail
    refine (made_any _ HG.out A n c l HS.out hok2).mono ?_
    clear hok hok2
    generalize madeL l = L at HFil
    rintro e w2 ⟨t, F, rfl, hP, hk0, hb, hF⟩
    have hk : Hid (HsOk 100 L) := hk0.le (by omega)
    obtain ⟨N, hN⟩ : ∃ N, L.length = N := ⟨_, rfl⟩
    have HN := Lib.hid hN
    have hN60 : N ≤ 60 := by have := hk0.2.1; omega
    have hR0 := rot_perm L a
    have hRat : Hid (∀ i, i < N → (rotL L a)[i]? = L[(i + a) % N]?) := fun i hi => by rw [← hN] at hi ⊢; exact rot_at L a i hi
    have hRl := rot_len L a
    rw [hN] at hRl
    obtain ⟨R, hR⟩ : ∃ R, rotL L a = R := ⟨_, rfl⟩
    rw [hR] at hR0 hRat hRl
    have HRp := Lib.hid hR0
    have HRl := Lib.hid hRl
    have HRn : Hid (R.Nodup) := hR0.nodup_iff.2 (srt_nodup ah_ord L hk.out.1)
    clear hN hR hR0 hRl hk0
    go_wp2_with fail
    refine (tAll (HG.out.below hb) hP hk.out).mono ?_
    rintro e w3 ⟨v3, rfl, hO3⟩
    have hb3 := hO3.below
    obtain ⟨A6, N6, c6, rfl, hs6, hA6, hnc6, hg6⟩ := hO3.told2
    have hN6 : N6 = N := by rw [← hs6.len, HN.out]
    rw [hN6] at hs6 ⊢
    have hA60 : Hid (∀ b o, A6 = some ⟨b, o, none⟩ → o = 0) := fun b o e => by
      rcases hA6 with ⟨h1, _⟩ | ⟨b2, h1⟩
      · rw [h1] at e; cases e
      · rw [h1] at e; cases e; rfl
    have hA6F : Hid (∀ b, A6 = some ⟨b, 0, none⟩ → ¬ F b) := fun b e hf => by have := hP.lt b hf; have := hg6 b e; omega
    have hPl := hP.lt
    have HP := Lib.hid (hP.below hb3)
    replace hb := below_more hb hb3
    have hA6lt : Hid (∀ b, A6 = some ⟨b, 0, none⟩ → 0 < N → b < w3.heap.size) := fun b e h0 => by
      obtain ⟨b1, o1, x, e1, _, hc1, _⟩ := hs6.at_ (k := 0) h0
      rw [e] at e1; cases e1
      exact World.block_lt_of_cell? _ _ hc1
    have H6 := Lib.hid hs6
    clear hP hb3 hO3 hA6 hnc6 hg6 hs6 hN6 hPl
    go_wp2_with fail
    refine (tNew _ (HG.out.below hb)).mono ?_
    rintro e w4 ⟨u, G, rfl, hQ, hbu, hGu⟩
    go_wp2_with fail
    go_loopw [8, 9] (fun i _ wr => ∃ (j : Nat) (G : Nat → Prop), i = .int .i64 j ∧ j ≤ N ∧ Below w3.heap.size w3 wr ∧ PT wr u G (inL R j) ∧ (∀ b, G b → w3.heap.size ≤ b)) (fun i _ _ => N - (intOf i).toNat)
    case atStart => exact ⟨0, G, rfl, by omega, hbu, by unfold inL; rw [List.take_zero]; exact hQ, hGu⟩
    case round =>
      clear hQ hbu hGu
      obtain ⟨j, G, rfl, hj, hbr, hQ, hGb⟩ := hrel
      have hHsj : Hid (HsOk 100 (inL R j)) := by
        obtain ⟨f1, f2, f3⟩ := in_facts R HRn.out j (by rw [HRl.out]; exact hj)
        exact ⟨f1, by omega, fun h hh => hk.out.2.2 h (HRp.out.mem_iff.1 (List.mem_of_mem_take ((f3 h).1 hh)))⟩
      have HQ := Lib.hid hQ
      clear hQ
      by_cases hlt : j < N
      · obtain ⟨d, hd⟩ : ∃ d, (j + a) % N = d := ⟨_, rfl⟩
        have hdN : d < N := by rw [← hd]; exact Nat.mod_lt _ (by omega)
        have hkk := idx_int j a N (by omega) (by omega) (by omega)
        have haw : IntKind.i64.wrap (a : Int) = (a : Int) := IntWalk.i64_in _ (by omega)
        have hN0 : ¬ (N : Int) = 0 := by omega
        rw [hd] at hkk
        have hkk2 : ((j : Int) + (a : Int)) % (N : Int) = (d : Int) := by rw [← hd, Int.natCast_emod, Int.natCast_add]
        obtain ⟨b1, o1, h, hA1, hh, hc1, hc2⟩ := H6.out.at_ hdN
        have HC1 := Lib.hid hc1
        have HC2 := Lib.hid hc2
        have hrj : R[j]? = some h := by rw [hRat.out j hlt, hd, hh]
        have hmem := List.mem_of_getElem? hh
        have hfl := HFil.out h hmem
        obtain ⟨hl1, hl2⟩ := hk.out.2.2 h hmem
        have hyes : Hid (addB (inL R j) (h.1, h.2) = true) := by
          show addB _ h = true
          unfold addB; rw [hfl, in_not R HRn.out j h hrj]; rfl
        have hadd : Hid (addL (inL R j) (h.1, h.2) = inL R (j + 1)) := by
          show addL _ h = _
          unfold addL
          rw [if_pos hyes.out, in_step R j h hrj]
        have hdI : (d : Int) < (N : Int) := by omega
        have hd0 : (0 : Int) ≤ (d : Int) := by omega
        obtain ⟨h1, h2⟩ := h
        dsimp only at hl1 hl2
        subst hA1
        clear hc1 hc2 hh hrj hmem hfl hd
        go_wp2_with fail
        refine wp_region_held_drew (S := (fun w' => Below w3.heap.size w3 w')) (by kernel_rfl) (hbr.drew) (fun hHeld => ?_)
        refine tkY 0 oTrOrder1 ?vv44_217_0 rfl (by kernel_rfl) (by kernel_rfl) (by kernel_rfl) (fun _ _ _ h => h) (by rfl) ?hy44_217_0 (by assumption) ?rest44_217_0
        case hy44_217_0 => (intro w hSw; unfold oTrOrder1; (try dsimp only at hSw); (try go_split_ands); go_simp; all_goals with_reducible rfl)
        try simp only [oTrOrder1, Act.put, sA, sB, sC]
        refine tkY 1 oTrOrder2 ?vv44_217_1 rfl (by kernel_rfl) (by kernel_rfl) (by kernel_rfl) (fun _ _ _ h => h) (by rfl) ?hy44_217_1 (by assumption) ?rest44_217_1
        case hy44_217_1 => (intro w hSw; unfold oTrOrder2; (try dsimp only at hSw); (try go_split_ands); go_simp; all_goals with_reducible rfl)
        try simp only [oTrOrder2, Act.put, sA, sB, sC]
        refine tkY 2 oTrOrder3 ?vv44_217_2 rfl (by kernel_rfl) (by kernel_rfl) (by kernel_rfl) (fun _ _ _ h => h) (by rfl) ?hy44_217_2 (by assumption) ?rest44_217_2
        case hy44_217_2 => (intro w hSw; unfold oTrOrder3; (try dsimp only at hSw); (try go_split_ands); go_simp; all_goals with_reducible rfl)
        try simp only [oTrOrder3, Act.put, sA, sB, sC]
        refine tkY 3 oTrOrder4 ?vv44_217_3 rfl (by kernel_rfl) (by kernel_rfl) (by kernel_rfl) (fun _ _ _ h => h) (by rfl) ?hy44_217_3 (by assumption) ?rest44_217_3
        case hy44_217_3 => (intro w hSw; unfold oTrOrder4; (try dsimp only at hSw); (try go_split_ands); go_simp; all_goals with_reducible rfl)
        try simp only [oTrOrder4, Act.put, sA, sB, sC]
        refine tkY 4 oTrOrder5 ?vv44_217_4 rfl (by kernel_rfl) (by kernel_rfl) (by kernel_rfl) (fun _ _ _ h => h) (by rfl) ?hy44_217_4 (by assumption) ?rest44_217_4
        case hy44_217_4 => (intro w hSw; unfold oTrOrder5; (try dsimp only at hSw); (try go_split_ands); go_simp; all_goals with_reducible rfl)
        try simp only [oTrOrder5, Act.put, sA, sB, sC]
        refine tkY 5 oTrOrder6 ?vv44_218_5 rfl (by kernel_rfl) (by kernel_rfl) (by kernel_rfl) (fun _ _ _ h => h) (by rfl) ?hy44_218_5 (by assumption) ?rest44_218_5
        case hy44_218_5 => (intro w hSw; unfold oTrOrder6; (try dsimp only at hSw); have hq := (hSw.cell (World.block_lt_of_cell? _ _ HC1.out)).trans HC1.out; clear hSw; go_simp; all_goals with_reducible rfl)
        try simp only [oTrOrder6, Act.put, sA, sB, sC]
        refine tkY 6 oTrOrder7 ?vv44_219_6 rfl (by kernel_rfl) (by kernel_rfl) (by kernel_rfl) (fun _ _ _ h => h) (by rfl) ?hy44_219_6 (by assumption) ?rest44_219_6
        case hy44_219_6 => (intro w hSw; unfold oTrOrder7; (try dsimp only at hSw); (try go_split_ands); go_simp; all_goals with_reducible rfl)
        try simp only [oTrOrder7, Act.put, sA, sB, sC]
        refine tkY 7 oTrOrder8 ?vv44_219_7 rfl (by kernel_rfl) (by kernel_rfl) (by kernel_rfl) (fun _ _ _ h => h) (by rfl) ?hy44_219_7 (by assumption) ?rest44_219_7
        case hy44_219_7 => (intro w hSw; unfold oTrOrder8; (try dsimp only at hSw); (try go_split_ands); go_simp; all_goals with_reducible rfl)
        try simp only [oTrOrder8, Act.put, sA, sB, sC]
        refine tkY 8 oTrOrder9 ?vv44_219_8 rfl (by kernel_rfl) (by kernel_rfl) (by kernel_rfl) (fun _ _ _ h => h) (by rfl) ?hy44_219_8 (by assumption) ?rest44_219_8
        case hy44_219_8 => (intro w hSw; unfold oTrOrder9; (try dsimp only at hSw); (try go_split_ands); go_simp; all_goals with_reducible rfl)
        try simp only [oTrOrder9, Act.put, sA, sB, sC]
        refine tkY 9 oTrOrder10 ?vv44_219_9 rfl (by kernel_rfl) (by kernel_rfl) (by kernel_rfl) (fun _ _ _ h => h) (by rfl) ?hy44_219_9 (by assumption) ?rest44_219_9
        case hy44_219_9 => (intro w hSw; unfold oTrOrder10; (try dsimp only at hSw); (try go_split_ands); go_simp; all_goals with_reducible rfl)
        try simp only [oTrOrder10, Act.put, sA, sB, sC]
        refine tkY 10 oTrOrder11 ?vv44_220_10 rfl (by kernel_rfl) (by kernel_rfl) (by kernel_rfl) (fun _ _ _ h => h) (by rfl) ?hy44_220_10 (by assumption) ?rest44_220_10
        case hy44_220_10 => (intro w hSw; unfold oTrOrder11; (try dsimp only at hSw); have hq := (hSw.cell (World.block_lt_of_cell? _ _ HC2.out)).trans HC2.out; clear hSw; go_simp; all_goals with_reducible rfl)
        try simp only [oTrOrder11, Act.put, sA, sB, sC]
        refine wpAnyH_ready (rs := [11]) (by kernel_rfl) (by simp) ?_
        refine AllReadyH.cons (o := oTrOrder12) rfl (fun K hK => ?_) AllReadyH.nil
        unfold oTrOrder12
        go_simp
        (go_at_call 20; refine (tAdd h1 h2 _ true (HG.out.below (below_more hb hHeld)) (HQ.out.below (Below.refl _ _).drew) hHsj.out hl1 hl2 hadd.out hyes.out).mono ?_; rintro e w7 ⟨G7, rfl, hQ7, hU, hG7⟩)
        refine hK.out _ _ ?_ (fun hHeld => ?_)
        · (exact hHeld.trans (hU.below (B := w3.heap.size) (fun b _ h => hGb b h) hHeld.size))
        clear hK K
        try simp only [oTrOrder12, Act.put, sA, sB, sC]
        refine tkY 12 oTrOrder13 ?vv44_221_12 rfl (by kernel_rfl) (by kernel_rfl) (by kernel_rfl) (fun _ _ _ h => h) (by rfl) ?hy44_221_12 (by assumption) ?rest44_221_12
        case hy44_221_12 => (intro w hSw; unfold oTrOrder13; (try dsimp only at hSw); (try go_split_ands); go_simp; all_goals with_reducible rfl)
        try simp only [oTrOrder13, Act.put, sA, sB, sC]
        refine wpAnyH_done (by kernel_rfl) ?_ _
        have hb7 := hHeld
        have hGb7 : ∀ b, G7 b → w3.heap.size ≤ b := fun b h => by
          rcases hG7 b h with h3 | h3
          · exact hGb b h3
          · have := hbr.size; have h4 : wr.heap.size ≤ b := h3; omega
        clear hHeld hU hG7
        go_wp2_with fail
        go_roundw
        case rel => exact ⟨j + 1, G7, by go_num, by omega, hb7, hQ7, hGb7⟩
        case measure => simp [intOf]; omega
      · have hjN : j = N := by omega
        have hin : inL R j = L := by rw [hjN, ← HRl.out]; exact in_end L R hk.out.1 HRp.out
        rw [hin] at HQ
        obtain ⟨v, hv⟩ : ∃ v, nodL L = v := ⟨_, rfl⟩
        have HV := Lib.hid hv
        clear hjN hin hv hHsj
        have HPr := Lib.hid (HP.out.below hbr)
        have H6r := Lib.hid (H6.out.below hbr)
        have hbw := below_more hb hbr
        have hw3 : w3.heap.size ≤ wr.heap.size := hbr.size
        obtain ⟨wx, hwx⟩ : ∃ wx, wx = wr := ⟨_, rfl⟩
        rw [← hwx] at HPr H6r hbw hw3 HQ ⊢
        clear hwx hbr HP H6 hb
        go_wp2_with fail
        refine (tAll (HG.out.below hbw) HQ.out hk.out).mono ?_
        rintro e w5 ⟨v5, rfl, hO5⟩
        have hb5 := hO5.below
        obtain ⟨A5, c5, rfl, _, hs5, _, _⟩ := hO5.form
        rw [HN.out] at hs5 ⊢
        clear hO5
        go_wp2_with fail
        refine (sameHints_eq A5 N c5 L A6 N c6 L true _ hs5 (H6r.out.below hb5) (by omega) (by simp)).mono ?_
        rintro e w7 ⟨rfl, hb7⟩
        replace hb5 := below_more hb5 hb7
        clear hb7 hs5
        go_wp2_with fail
        refine (tNodes v (HG.out.below (below_more hbw hb5)) (HQ.out.below hb5) hk.out HV.out).mono ?_
        rintro e w8 ⟨rfl, hb8⟩
        replace hb5 := below_more hb5 hb8
        clear hb8
        go_wp2_with fail
        refine (tNodes v (HG.out.below (below_more hbw hb5)) (HPr.out.below hb5) hk.out HV.out).mono ?_
        rintro e w9 ⟨rfl, hb9⟩
        replace hb5 := below_more hb5 hb9
        clear hb9
        go_wp2_with fail
        go_loopw [10] (fun i wr => ∃ (q : Nat), i = .int .i64 q ∧ q ≤ n ∧ Below wx.heap.size wx wr) (fun i _ => n - (intOf i).toNat)
        case atStart => exact ⟨0, rfl, by omega, hb5⟩
        case round =>
          clear hb5
          obtain ⟨q, rfl, hq, hb5⟩ := hrel
          by_cases hlq : q < n
          · obtain ⟨b1, o1, x, hA1, hx, hat⟩ := HS.out.at_ hlq
            obtain ⟨hx1, hx2, hx3⟩ := HX.out x (List.mem_of_getElem? hx)
            obtain ⟨xd, xf, xc, xn⟩ := x
            dsimp only at hx1 hx2 hx3
            subst hA1
            have HAt := Lib.hid hat
            obtain ⟨S, hS⟩ : ∃ S, matL L xn = S := ⟨_, rfl⟩
            have hSl := mat_len L xn
            rw [hS, HN.out] at hSl
            have HSS := Lib.hid hS
            have hqI : (q : Int) < (n : Int) := by omega
            have hq0 : (0 : Int) ≤ (q : Int) := by omega
            clear hx hat hS
            go_wp2_with fail
            refine wp_region_held_drew (S := (fun w' => Below wx.heap.size wx w')) (by kernel_rfl) (hb5.drew) (fun hHeld => ?_)
            refine tkY 0 oTrOrder14 ?vv45_222_0 rfl (by kernel_rfl) (by kernel_rfl) (by kernel_rfl) (fun _ _ _ h => h) (by rfl) ?hy45_222_0 (by assumption) ?rest45_222_0
            case hy45_222_0 => (intro w hSw; unfold oTrOrder14; (try dsimp only at hSw); (try go_split_ands); go_simp; all_goals with_reducible rfl)
            try simp only [oTrOrder14, Act.put, sA, sB, sC]
            refine tkY 1 oTrOrder15 ?vv45_222_1 rfl (by kernel_rfl) (by kernel_rfl) (by kernel_rfl) (fun _ _ _ h => h) (by rfl) ?hy45_222_1 (by assumption) ?rest45_222_1
            case hy45_222_1 => (intro w hSw; unfold oTrOrder15; (try dsimp only at hSw); (try go_split_ands); go_simp; all_goals with_reducible rfl)
            try simp only [oTrOrder15, Act.put, sA, sB, sC]
            refine tkY 2 oTrOrder16 ?vv45_222_2 rfl (by kernel_rfl) (by kernel_rfl) (by kernel_rfl) (fun _ _ _ h => h) (by rfl) ?hy45_222_2 (by assumption) ?rest45_222_2
            case hy45_222_2 => (intro w hSw; unfold oTrOrder16; (try dsimp only at hSw); (try go_split_ands); go_simp; all_goals with_reducible rfl)
            try simp only [oTrOrder16, Act.put, sA, sB, sC]
            refine tkY 3 oTrOrder17 ?vv45_222_3 rfl (by kernel_rfl) (by kernel_rfl) (by kernel_rfl) (fun _ _ _ h => h) (by rfl) ?hy45_222_3 (by assumption) ?rest45_222_3
            case hy45_222_3 => (intro w hSw; unfold oTrOrder17; (try dsimp only at hSw); (try go_split_ands); go_simp; all_goals with_reducible rfl)
            try simp only [oTrOrder17, Act.put, sA, sB, sC]
            refine tkY 4 oTrOrder18 ?vv45_222_4 rfl (by kernel_rfl) (by kernel_rfl) (by kernel_rfl) (fun _ _ _ h => h) (by rfl) ?hy45_222_4 (by assumption) ?rest45_222_4
            case hy45_222_4 => (intro w hSw; unfold oTrOrder18; (try dsimp only at hSw); (try go_split_ands); go_simp; all_goals with_reducible rfl)
            try simp only [oTrOrder18, Act.put, sA, sB, sC]
            refine tkY 5 oTrOrder19 ?vv45_223_5 rfl (by kernel_rfl) (by kernel_rfl) (by kernel_rfl) (fun _ _ _ h => h) (by rfl) ?hy45_223_5 (by assumption) ?rest45_223_5
            case hy45_223_5 => (intro w hSw; unfold oTrOrder19; (try dsimp only at hSw); have ⟨z0, z1, z2, z3⟩ := HAt.out.below (below_more hbw hSw); clear hSw; go_simp; all_goals with_reducible rfl)
            try simp only [oTrOrder19, Act.put, sA, sB, sC]
            refine tkY 7 oTrOrder20 ?vv45_224_7 rfl (by kernel_rfl) (by kernel_rfl) (by kernel_rfl) (fun _ _ _ h => h) (by rfl) ?hy45_224_7 (by assumption) ?rest45_224_7
            case hy45_224_7 => (intro w hSw; unfold oTrOrder20; (try dsimp only at hSw); (try go_split_ands); go_simp; all_goals with_reducible rfl)
            try simp only [oTrOrder20, Act.put, sA, sB, sC]
            refine tkY 8 oTrOrder21 ?vv45_224_8 rfl (by kernel_rfl) (by kernel_rfl) (by kernel_rfl) (fun _ _ _ h => h) (by rfl) ?hy45_224_8 (by assumption) ?rest45_224_8
            case hy45_224_8 => (intro w hSw; unfold oTrOrder21; (try dsimp only at hSw); (try go_split_ands); go_simp; all_goals with_reducible rfl)
            try simp only [oTrOrder21, Act.put, sA, sB, sC]
            refine tkY 9 oTrOrder22 ?vv45_224_9 rfl (by kernel_rfl) (by kernel_rfl) (by kernel_rfl) (fun _ _ _ h => h) (by rfl) ?hy45_224_9 (by assumption) ?rest45_224_9
            case hy45_224_9 => (intro w hSw; unfold oTrOrder22; (try dsimp only at hSw); (try go_split_ands); go_simp; all_goals with_reducible rfl)
            try simp only [oTrOrder22, Act.put, sA, sB, sC]
            refine tkY 10 oTrOrder23 ?vv45_224_10 rfl (by kernel_rfl) (by kernel_rfl) (by kernel_rfl) (fun _ _ _ h => h) (by rfl) ?hy45_224_10 (by assumption) ?rest45_224_10
            case hy45_224_10 => (intro w hSw; unfold oTrOrder23; (try dsimp only at hSw); (try go_split_ands); go_simp; all_goals with_reducible rfl)
            try simp only [oTrOrder23, Act.put, sA, sB, sC]
            refine tkY 11 oTrOrder24 ?vv45_224_11 rfl (by kernel_rfl) (by kernel_rfl) (by kernel_rfl) (fun _ _ _ h => h) (by rfl) ?hy45_224_11 (by assumption) ?rest45_224_11
            case hy45_224_11 => (intro w hSw; unfold oTrOrder24; (try dsimp only at hSw); (try go_split_ands); go_simp; all_goals with_reducible rfl)
            try simp only [oTrOrder24, Act.put, sA, sB, sC]
            refine tkY 12 oTrOrder25 ?vv45_225_12 rfl (by kernel_rfl) (by kernel_rfl) (by kernel_rfl) (fun _ _ _ h => h) (by rfl) ?hy45_225_12 (by assumption) ?rest45_225_12
            case hy45_225_12 => (intro w hSw; unfold oTrOrder25; (try dsimp only at hSw); have ⟨z0, z1, z2, z3⟩ := HAt.out.below (below_more hbw hSw); clear hSw; go_simp; all_goals with_reducible rfl)
            try simp only [oTrOrder25, Act.put, sA, sB, sC]
            refine wpAnyH_ready (rs := [6]) (by kernel_rfl) (by simp) ?_
            refine AllReadyH.cons (o := oTrOrder26) rfl (fun K hK => ?_) AllReadyH.nil
            unfold oTrOrder26
            go_simp
            (go_at_call 19; refine (tMatch xn S (HG.out.below (below_more hbw hHeld)) (HQ.out.below hHeld) hk.out hx3 HSS.out).mono ?_; rintro e w10 ⟨A10, c10, rfl, hs10, _, _, hb6⟩)
            refine hK.out _ _ ?_ (fun hHeld => ?_)
            · (exact below_more hHeld hb6)
            clear hK K
            try simp only [oTrOrder26, Act.put, sA, sB, sC]
            refine wpAnyH_ready (rs := [13]) (by kernel_rfl) (by simp) ?_
            refine AllReadyH.cons (o := oTrOrder27) rfl (fun K hK => ?_) AllReadyH.nil
            unfold oTrOrder27
            go_simp
            (go_at_call 19; refine (tMatch xn S (HG.out.below (below_more hbw hHeld)) (HPr.out.below hHeld) hk.out hx3 HSS.out).mono ?_; rintro e w11 ⟨A11, c11, rfl, hs11, _, _, hb7⟩; replace hs10 := hs10.below hb7)
            refine hK.out _ _ ?_ (fun hHeld => ?_)
            · (exact below_more hHeld hb7)
            clear hK K
            try simp only [oTrOrder27, Act.put, sA, sB, sC]
            refine wpAnyH_ready (rs := [14]) (by kernel_rfl) (by simp) ?_
            refine AllReadyH.cons (o := oTrOrder28) rfl (fun K hK => ?_) AllReadyH.nil
            unfold oTrOrder28
            go_simp
            (go_at_call 16; refine (sameTexts_eq A10 S.length c10 S A11 S.length c11 S true _ hs10 hs11 (by omega) (by simp)).mono ?_; rintro e w12 ⟨rfl, hb8⟩)
            refine hK.out _ _ ?_ (fun hHeld => ?_)
            · (exact below_more hHeld hb8)
            clear hK K
            try simp only [oTrOrder28, Act.put, sA, sB, sC]
            refine tkY 15 oTrOrder29 ?vv45_226_15 rfl (by kernel_rfl) (by kernel_rfl) (by kernel_rfl) (fun _ _ _ h => h) (by rfl) ?hy45_226_15 (by assumption) ?rest45_226_15
            case hy45_226_15 => (intro w hSw; unfold oTrOrder29; (try dsimp only at hSw); (try go_split_ands); go_simp; all_goals with_reducible rfl)
            try simp only [oTrOrder29, Act.put, sA, sB, sC]
            refine wpAnyH_done (by kernel_rfl) ?_ _
            have hb13 := hHeld
            clear hHeld hs10 hs11 hb6 hb7 hb8
            go_wp2_with fail
            go_roundw
            case rel => exact ⟨q + 1, by go_num, by omega, hb13⟩
            case measure => simp [intOf]; omega
          · have HPy := Lib.hid (HPr.out.below hb5)
            have H6y := Lib.hid (H6r.out.below hb5)
            have hby := below_more hbw hb5
            have hw4 : w3.heap.size ≤ wr.heap.size := by have := hb5.size; omega
            obtain ⟨wy, hwy⟩ : ∃ wy, wy = wr := ⟨_, rfl⟩
            rw [← hwy] at HPy H6y hby hw4 ⊢
            clear hwy hb5 HPr H6r HQ hbw hw3
            have hA6G : Hid (0 < N → ∀ b, A6 = some ⟨b, 0, none⟩ → ¬ F b) := fun _ b e => hA6F.out b e
            have HA60 := hA60
            have HA6lt := hA6lt
            clear hA60 hA6lt hA6F
            go_wp2_with fail
            go_loopw [11, 12] (fun i _ wr => ∃ (j : Nat) (F : Nat → Prop), i = .int .i64 j ∧ j ≤ N ∧ Below w.heap.size w wr ∧ PT wr t F (outL L R j) ∧ (∀ b, F b → w.heap.size ≤ b) ∧ Hid (0 < N → ∀ b, A6 = some ⟨b, 0, none⟩ → ¬ F b) ∧ Hid (Hnts wr A6 N L) ∧ w3.heap.size ≤ wr.heap.size) (fun i _ _ => N - (intOf i).toNat)
            case atStart => exact ⟨0, F, rfl, by omega, hby, by unfold outL; rw [List.take_zero]; exact HPy.out, hF, hA6G, H6y, hw4⟩
            case round =>
              clear HPy H6y hby hw4 hF hA6G
              obtain ⟨j, F, rfl, hj, hby, hPz, hF, hA6G, H6y, hw4⟩ := hrel
              obtain ⟨f1, f2, f3⟩ := out_facts L R hk.out.1 HRp.out j (by rw [HRl.out]; exact hj)
              rw [HN.out] at f2
              have hHsj : Hid (HsOk 100 (outL L R j)) := ⟨f1, by omega, fun h hh => hk.out.2.2 h ((f3 h).1 hh).1⟩
              have HPz := Lib.hid hPz
              clear hPz f1 f2 f3
              by_cases hlt : j < N
              · obtain ⟨d, hd⟩ : ∃ d, (j + a) % N = d := ⟨_, rfl⟩
                have hdN : d < N := by rw [← hd]; exact Nat.mod_lt _ (by omega)
                have hkk := idx_int j a N (by omega) (by omega) (by omega)
                have haw : IntKind.i64.wrap (a : Int) = (a : Int) := IntWalk.i64_in _ (by omega)
                have hN0 : ¬ (N : Int) = 0 := by omega
                rw [hd] at hkk
                have hkk2 : ((j : Int) + (a : Int)) % (N : Int) = (d : Int) := by rw [← hd, Int.natCast_emod, Int.natCast_add]
                obtain ⟨b1, o1, h, hA1, hh, hc1, hc2⟩ := H6y.out.at_ hdN
                have ho1 : o1 = 0 := HA60.out b1 o1 hA1
                subst ho1
                rw [Nat.zero_add] at hc1 hc2
                have HC1 := Lib.hid hc1
                have HC2 := Lib.hid hc2
                have hnF := hA6G.out (by omega) b1 hA1
                have hblt := HA6lt.out b1 hA1 (by omega)
                have hrj : R[j]? = some h := by rw [hRat.out j hlt, hd, hh]
                obtain ⟨hl1, hl2⟩ := hk.out.2.2 h (List.mem_of_getElem? hh)
                have hyes : Hid (remB (outL L R j) (h.1, h.2) = true) := out_has L R hk.out.1 HRp.out j h hrj
                have hrem : Hid (remL (outL L R j) (h.1, h.2) = outL L R (j + 1)) := (out_step L R j h hrj).symm
                obtain ⟨m, hm⟩ : ∃ m, (outL L R (j + 1)).length = m := ⟨_, rfl⟩
                obtain ⟨g1, g2, g3⟩ := out_facts L R hk.out.1 HRp.out (j + 1) (by rw [HRl.out]; omega)
                rw [HN.out, hm] at g2
                have hHs1 : Hid (HsOk 100 (outL L R (j + 1))) := ⟨g1, by omega, fun h hh => hk.out.2.2 h ((g3 h).1 hh).1⟩
                have HMl := Lib.hid hm
                have hs5 : IntKind.i64.wrap ((N : Int) - (j : Int)) = (N : Int) - (j : Int) := IntWalk.i64_in _ (by omega)
                have hs6 : IntKind.i64.wrap ((N : Int) - (j : Int) - 1) = (N : Int) - (j : Int) - 1 := IntWalk.i64_in _ (by omega)
                have hs3 : ((m : Int) == (N : Int) - (j : Int) - 1) = true := by simp; omega
                have hs4 : ((m : Int) != (N : Int) - (j : Int) - 1) = false := by rw [bne, hs3]; rfl
                have hdI : (d : Int) < (N : Int) := by omega
                have hd0 : (0 : Int) ≤ (d : Int) := by omega
                obtain ⟨h1, h2⟩ := h
                dsimp only at hl1 hl2
                subst hA1
                clear hc1 hc2 hh hrj hd g1 g2 g3 hm
                go_wp2_with fail
                refine wp_region_held_drew (S := (fun w' => w'.cell? ⟨b1, d * 2, none⟩ = some (.string ⟨h1.toArray⟩) ∧ w'.cell? ⟨b1, d * 2 + 1, none⟩ = some (.string ⟨h2.toArray⟩))) (by kernel_rfl) (⟨HC1.out, HC2.out⟩) (fun hHeld => ?_)
                obtain ⟨wd, hwd⟩ : ∃ wd, wd = wr.drew := ⟨_, rfl⟩
                rw [← hwd] at hHeld ⊢
                have hbd : Below wr.heap.size wr wd := by rw [hwd]; exact (Below.refl _ _).drew
                clear hwd
                refine tkY 0 oTrOrder30 ?vv46_227_0 rfl (by kernel_rfl) (by kernel_rfl) (by kernel_rfl) (fun _ _ _ h => h) (by rfl) ?hy46_227_0 (by assumption) ?rest46_227_0
                case hy46_227_0 => (intro w hSw; unfold oTrOrder30; (try dsimp only at hSw); (try go_split_ands); go_simp; all_goals with_reducible rfl)
                try simp only [oTrOrder30, Act.put, sA, sB, sC]
                refine tkY 1 oTrOrder31 ?vv46_227_1 rfl (by kernel_rfl) (by kernel_rfl) (by kernel_rfl) (fun _ _ _ h => h) (by rfl) ?hy46_227_1 (by assumption) ?rest46_227_1
                case hy46_227_1 => (intro w hSw; unfold oTrOrder31; (try dsimp only at hSw); (try go_split_ands); go_simp; all_goals with_reducible rfl)
                try simp only [oTrOrder31, Act.put, sA, sB, sC]
                refine tkY 2 oTrOrder32 ?vv46_227_2 rfl (by kernel_rfl) (by kernel_rfl) (by kernel_rfl) (fun _ _ _ h => h) (by rfl) ?hy46_227_2 (by assumption) ?rest46_227_2
                case hy46_227_2 => (intro w hSw; unfold oTrOrder32; (try dsimp only at hSw); (try go_split_ands); go_simp; all_goals with_reducible rfl)
                try simp only [oTrOrder32, Act.put, sA, sB, sC]
                refine tkY 3 oTrOrder33 ?vv46_227_3 rfl (by kernel_rfl) (by kernel_rfl) (by kernel_rfl) (fun _ _ _ h => h) (by rfl) ?hy46_227_3 (by assumption) ?rest46_227_3
                case hy46_227_3 => (intro w hSw; unfold oTrOrder33; (try dsimp only at hSw); (try go_split_ands); go_simp; all_goals with_reducible rfl)
                try simp only [oTrOrder33, Act.put, sA, sB, sC]
                refine tkY 4 oTrOrder34 ?vv46_227_4 rfl (by kernel_rfl) (by kernel_rfl) (by kernel_rfl) (fun _ _ _ h => h) (by rfl) ?hy46_227_4 (by assumption) ?rest46_227_4
                case hy46_227_4 => (intro w hSw; unfold oTrOrder34; (try dsimp only at hSw); (try go_split_ands); go_simp; all_goals with_reducible rfl)
                try simp only [oTrOrder34, Act.put, sA, sB, sC]
                refine tkY 5 oTrOrder35 ?vv46_227_5 rfl (by kernel_rfl) (by kernel_rfl) (by kernel_rfl) (fun _ _ _ h => h) (by rfl) ?hy46_227_5 (by assumption) ?rest46_227_5
                case hy46_227_5 => (intro w hSw; unfold oTrOrder35; (try dsimp only at hSw); (try go_split_ands); go_simp; all_goals with_reducible rfl)
                try simp only [oTrOrder35, Act.put, sA, sB, sC]
                refine tkY 6 oTrOrder36 ?vv46_227_6 rfl (by kernel_rfl) (by kernel_rfl) (by kernel_rfl) (fun _ _ _ h => h) (by rfl) ?hy46_227_6 (by assumption) ?rest46_227_6
                case hy46_227_6 => (intro w hSw; unfold oTrOrder36; (try dsimp only at hSw); (try go_split_ands); go_simp; all_goals with_reducible rfl)
                try simp only [oTrOrder36, Act.put, sA, sB, sC]
                refine tkY 7 oTrOrder37 ?vv46_227_7 rfl (by kernel_rfl) (by kernel_rfl) (by kernel_rfl) (fun _ _ _ h => h) (by rfl) ?hy46_227_7 (by assumption) ?rest46_227_7
                case hy46_227_7 => (intro w hSw; unfold oTrOrder37; (try dsimp only at hSw); (try go_split_ands); go_simp; all_goals with_reducible rfl)
                try simp only [oTrOrder37, Act.put, sA, sB, sC]
                refine tkY 8 oTrOrder38 ?vv46_227_8 rfl (by kernel_rfl) (by kernel_rfl) (by kernel_rfl) (fun _ _ _ h => h) (by rfl) ?hy46_227_8 (by assumption) ?rest46_227_8
                case hy46_227_8 => (intro w hSw; unfold oTrOrder38; (try dsimp only at hSw); (try go_split_ands); go_simp; all_goals with_reducible rfl)
                try simp only [oTrOrder38, Act.put, sA, sB, sC]
                refine tkY 9 oTrOrder39 ?vv46_227_9 rfl (by kernel_rfl) (by kernel_rfl) (by kernel_rfl) (fun _ _ _ h => h) (by rfl) ?hy46_227_9 (by assumption) ?rest46_227_9
                case hy46_227_9 => (intro w hSw; unfold oTrOrder39; (try dsimp only at hSw); (try go_split_ands); go_simp; all_goals with_reducible rfl)
                try simp only [oTrOrder39, Act.put, sA, sB, sC]
                refine tkY 10 oTrOrder40 ?vv46_227_10 rfl (by kernel_rfl) (by kernel_rfl) (by kernel_rfl) (fun _ _ _ h => h) (by rfl) ?hy46_227_10 (by assumption) ?rest46_227_10
                case hy46_227_10 => (intro w hSw; unfold oTrOrder40; (try dsimp only at hSw); (try go_split_ands); go_simp; all_goals with_reducible rfl)
                try simp only [oTrOrder40, Act.put, sA, sB, sC]
                refine wpAnyH_ready (rs := [11]) (by kernel_rfl) (by simp) ?_
                refine AllReadyH.cons (o := oTrOrder41) rfl (fun K hK => ?_) AllReadyH.nil
                unfold oTrOrder41
                go_simp
                (go_at_call 21; refine (tRem h1 h2 _ true (HG.out.below (below_more hby hbd)) (HPz.out.below hbd) hHsj.out hl1 hl2 hrem.out hyes.out).mono ?_; rintro e w7 ⟨F7, rfl, hP7, hU7, hF7⟩)
                refine hK.out _ _ ?_ (fun hHeld => ?_)
                · (exact ⟨hU7.cell _ _ hHeld.1 hnF, hU7.cell _ _ hHeld.2 hnF⟩)
                clear hK K
                try simp only [oTrOrder41, Act.put, sA, sB, sC]
                refine tkY 12 oTrOrder42 ?vv46_228_12 rfl (by kernel_rfl) (by kernel_rfl) (by kernel_rfl) (fun _ _ _ h => h) (by rfl) ?hy46_228_12 (by assumption) ?rest46_228_12
                case hy46_228_12 => (intro w hSw; unfold oTrOrder42; (try dsimp only at hSw); (try go_split_ands); go_simp; all_goals with_reducible rfl)
                try simp only [oTrOrder42, Act.put, sA, sB, sC]
                refine tkY 13 oTrOrder43 ?vv46_228_13 rfl (by kernel_rfl) (by kernel_rfl) (by kernel_rfl) (fun _ _ _ h => h) (by rfl) ?hy46_228_13 (by assumption) ?rest46_228_13
                case hy46_228_13 => (intro w hSw; unfold oTrOrder43; (try dsimp only at hSw); (try go_split_ands); go_simp; all_goals with_reducible rfl)
                try simp only [oTrOrder43, Act.put, sA, sB, sC]
                refine tkY 14 oTrOrder44 ?vv46_228_14 rfl (by kernel_rfl) (by kernel_rfl) (by kernel_rfl) (fun _ _ _ h => h) (by rfl) ?hy46_228_14 (by assumption) ?rest46_228_14
                case hy46_228_14 => (intro w hSw; unfold oTrOrder44; (try dsimp only at hSw); (try go_split_ands); go_simp; all_goals with_reducible rfl)
                try simp only [oTrOrder44, Act.put, sA, sB, sC]
                refine tkY 16 oTrOrder45 ?vv46_228_16 rfl (by kernel_rfl) (by kernel_rfl) (by kernel_rfl) (fun _ _ _ h => h) (by rfl) ?hy46_228_16 (by assumption) ?rest46_228_16
                case hy46_228_16 => (intro w hSw; unfold oTrOrder45; (try dsimp only at hSw); (try go_split_ands); go_simp; all_goals with_reducible rfl)
                try simp only [oTrOrder45, Act.put, sA, sB, sC]
                refine tkY 17 oTrOrder46 ?vv46_228_17 rfl (by kernel_rfl) (by kernel_rfl) (by kernel_rfl) (fun _ _ _ h => h) (by rfl) ?hy46_228_17 (by assumption) ?rest46_228_17
                case hy46_228_17 => (intro w hSw; unfold oTrOrder46; (try dsimp only at hSw); (try go_split_ands); go_simp; all_goals with_reducible rfl)
                try simp only [oTrOrder46, Act.put, sA, sB, sC]
                refine tkY 18 oTrOrder47 ?vv46_228_18 rfl (by kernel_rfl) (by kernel_rfl) (by kernel_rfl) (fun _ _ _ h => h) (by rfl) ?hy46_228_18 (by assumption) ?rest46_228_18
                case hy46_228_18 => (intro w hSw; unfold oTrOrder47; (try dsimp only at hSw); (try go_split_ands); go_simp; all_goals with_reducible rfl)
                try simp only [oTrOrder47, Act.put, sA, sB, sC]
                refine tkY 19 oTrOrder48 ?vv46_228_19 rfl (by kernel_rfl) (by kernel_rfl) (by kernel_rfl) (fun _ _ _ h => h) (by rfl) ?hy46_228_19 (by assumption) ?rest46_228_19
                case hy46_228_19 => (intro w hSw; unfold oTrOrder48; (try dsimp only at hSw); (try go_split_ands); go_simp; all_goals with_reducible rfl)
                try simp only [oTrOrder48, Act.put, sA, sB, sC]
                refine tkY 20 oTrOrder49 ?vv46_228_20 rfl (by kernel_rfl) (by kernel_rfl) (by kernel_rfl) (fun _ _ _ h => h) (by rfl) ?hy46_228_20 (by assumption) ?rest46_228_20
                case hy46_228_20 => (intro w hSw; unfold oTrOrder49; (try dsimp only at hSw); (try go_split_ands); go_simp; all_goals with_reducible rfl)
                try simp only [oTrOrder49, Act.put, sA, sB, sC]
                have hb7 := (below_more hby hbd).trans (hU7.below (B := w.heap.size) (fun b _ h => hF b h) (below_more hby hbd).size)
                refine wpAnyH_ready (rs := [15]) (by kernel_rfl) (by simp) ?_
                refine AllReadyH.cons (o := oTrOrder50) rfl (fun K hK => ?_) AllReadyH.nil
                unfold oTrOrder50
                go_simp
                (go_at_call 23; refine (tLen m (HG.out.below hb7) hP7 hHs1.out HMl.out).mono ?_; rintro e w8 ⟨rfl, hb8⟩)
                refine hK.out _ _ ?_ (fun hHeld => ?_)
                · (exact ⟨(hb8.cell (World.block_lt_of_cell? _ _ hHeld.1)).trans hHeld.1, (hb8.cell (World.block_lt_of_cell? _ _ hHeld.2)).trans hHeld.2⟩)
                clear hK K
                try simp only [oTrOrder50, Act.put, sA, sB, sC]
                refine tkY 21 oTrOrder51 ?vv46_229_21 rfl (by kernel_rfl) (by kernel_rfl) (by kernel_rfl) (fun _ _ _ h => h) (by rfl) ?hy46_229_21 (by assumption) ?rest46_229_21
                case hy46_229_21 => (intro w hSw; unfold oTrOrder51; (try dsimp only at hSw); (try go_split_ands); go_simp; all_goals with_reducible rfl)
                try simp only [oTrOrder51, Act.put, sA, sB, sC]
                refine tkY 22 oTrOrder52 ?vv46_229_22 rfl (by kernel_rfl) (by kernel_rfl) (by kernel_rfl) (fun _ _ _ h => h) (by rfl) ?hy46_229_22 (by assumption) ?rest46_229_22
                case hy46_229_22 => (intro w hSw; unfold oTrOrder52; (try dsimp only at hSw); (try go_split_ands); go_simp; all_goals with_reducible rfl)
                try simp only [oTrOrder52, Act.put, sA, sB, sC]
                refine wpAnyH_done (by kernel_rfl) ?_ _
                have hb9 := below_more hb7 hb8
                have hP9 := hP7.below hb8
                have hF9 : ∀ b, F7 b → w.heap.size ≤ b := fun b h => by
                  rcases hF7 b h with h3 | h3
                  · exact hF b h3
                  · have := (below_more hby hbd).size; omega
                have hA9 : Hid (0 < N → ∀ b, (some ⟨b1, 0, none⟩ : Option Addr) = some ⟨b, 0, none⟩ → ¬ F7 b) := fun h0 b e hf => by
                  rcases hF7 b hf with h3 | h3
                  · exact hA6G.out h0 b e h3
                  · cases e
                    have := hbd.size; omega
                have H69 : Hid (Hnts w8 (some ⟨b1, 0, none⟩) N L) := ((H6y.out.below hbd).outs hU7 hA6G.out HA60.out).below hb8
                have hw9 : w3.heap.size ≤ w8.heap.size := by have := hbd.size; have := hU7.size; have := hb8.size; omega
                clear hHeld hb7 hP7 hb8 hU7 hF7 hbd hF hA6G HPz H6y hby hw4
                go_wp2_with fail
                go_roundw
                case rel => exact ⟨j + 1, F7, by go_num, by omega, hb9, hP9, hF9, hA9, H69, hw9⟩
                case measure => simp [intOf]; omega
              · have hjN : j = N := by omega
                have hout : outL L R j = [] := by rw [hjN, ← HRl.out]; exact out_end L R hk.out.1 HRp.out
                rw [hout] at HPz
                have hk0 : Hid (HsOk 100 []) := HsOk.nil 100
                clear hjN hout hHsj
                go_wp2_with fail
                refine (tNodes 1 (HG.out.below hby) HPz.out hk0.out nod_nil).mono ?_
                rintro e w7 ⟨rfl, hb7⟩
                have hby2 := below_more hby hb7
                have HP7 := Lib.hid (HPz.out.below hb7)
                clear hby hb7 HPz
                go_wp2_with fail
                refine (tAll (HG.out.below hby2) HP7.out hk0.out).mono ?_
                rintro e w8 ⟨v8, rfl, hO8⟩
                have hb8 := hO8.below
                obtain ⟨A8, c8, rfl, _, _, _, _⟩ := hO8.form
                have hby3 := below_more hby2 hb8
                clear hby2 hb8 hO8
                rw [List.length_nil]
                go_wp2_with fail
                refine (awake9_any _ (HG.out.below hby3)).mono ?_
                rintro e w9 ⟨rfl, hb9⟩
                have hby4 := below_more hby3 hb9
                clear hby3 hb9
                go_wp2_with fail
                go_ret
                exact ⟨rfl, hby4⟩
end lawTrieOrder
end Go.Proofs.YtipdmfnkkkdlbaaGreatDoor
