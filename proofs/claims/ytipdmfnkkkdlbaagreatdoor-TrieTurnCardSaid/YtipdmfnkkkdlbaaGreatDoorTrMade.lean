/-
  trie's statements: a trie behind acts.
-/
import Derived.Test.YtipdmfnkkkdlbaaGreatDoorTrAwake
import Derived.Test.YtipdmfnkkkdlbaaGreatDoorLast
set_option linter.unusedSimpArgs false
set_option linter.unusedVariables false
namespace Go.Proofs.YtipdmfnkkkdlbaaGreatDoor
section
open Go.RowKit
def oTrMade1 : Oper := ({ dst := some 19, op := Go.Op.move (Go.Operand.tmp 3), type := 25, pos := "outright.go:15", after := #[], guard := none } : Oper)
def oTrMade2 : Oper := ({ dst := some 20, op := Go.Op.move (Go.Operand.tmp 0), type := 22, pos := "outright.go:15", after := #[], guard := none } : Oper)
def oTrMade3 : Oper := ({ dst := some 21, op := Go.Op.move (Go.Operand.tmp 4), type := 3, pos := "outright.go:15", after := #[], guard := none } : Oper)
def oTrMade4 : Oper := ({ dst := some 22, op := Go.Op.indexAddr 22 (Go.Operand.tmp 20) (Go.Operand.tmp 21), type := 0, pos := "outright.go:15", after := #[{ on := 1, ground := Go.Ground.data }, { on := 2, ground := Go.Ground.data }], guard := none } : Oper)
def oTrMade5 : Oper := ({ dst := some 23, op := Go.Op.fieldAddr 33 (Go.Operand.tmp 22) 1, type := 0, pos := "outright.go:15", after := #[{ on := 3, ground := Go.Ground.data }], guard := none } : Oper)
def oTrMade6 : Oper := ({ dst := some 24, op := Go.Op.load 9 (Go.Operand.tmp 23), type := 9, pos := "outright.go:15", after := #[{ on := 4, ground := Go.Ground.data }], guard := none } : Oper)
def oTrMade7 : Oper := ({ dst := some 25, op := Go.Op.move (Go.Operand.tmp 0), type := 22, pos := "outright.go:15", after := #[], guard := none } : Oper)
def oTrMade8 : Oper := ({ dst := some 26, op := Go.Op.move (Go.Operand.tmp 4), type := 3, pos := "outright.go:15", after := #[], guard := none } : Oper)
def oTrMade9 : Oper := ({ dst := some 27, op := Go.Op.indexAddr 22 (Go.Operand.tmp 25) (Go.Operand.tmp 26), type := 0, pos := "outright.go:15", after := #[{ on := 6, ground := Go.Ground.data }, { on := 7, ground := Go.Ground.data }], guard := none } : Oper)
def oTrMade10 : Oper := ({ dst := some 28, op := Go.Op.fieldAddr 33 (Go.Operand.tmp 27) 2, type := 0, pos := "outright.go:15", after := #[{ on := 8, ground := Go.Ground.data }], guard := none } : Oper)
def oTrMade11 : Oper := ({ dst := some 29, op := Go.Op.load 9 (Go.Operand.tmp 28), type := 9, pos := "outright.go:15", after := #[{ on := 9, ground := Go.Ground.data }], guard := none } : Oper)
def oTrMade12 : Oper := ({ dst := some 30, op := Go.Op.call { callee := Go.Callee.value (Go.Operand.func 20), args := #[Go.Operand.tmp 19, Go.Operand.tmp 24, Go.Operand.tmp 29], argTypes := #[25, 9, 9] }, type := 4, pos := "outright.go:15", after := #[{ on := 0, ground := Go.Ground.data }, { on := 5, ground := Go.Ground.data }, { on := 10, ground := Go.Ground.data }], guard := none } : Oper)
def oTrMade13 : Oper := ({ dst := some 33, op := Go.Op.move (Go.Operand.tmp 3), type := 25, pos := "outright.go:17", after := #[], guard := none } : Oper)
def oTrMade14 : Oper := ({ dst := some 34, op := Go.Op.move (Go.Operand.tmp 0), type := 22, pos := "outright.go:17", after := #[], guard := none } : Oper)
def oTrMade15 : Oper := ({ dst := some 35, op := Go.Op.move (Go.Operand.tmp 4), type := 3, pos := "outright.go:17", after := #[], guard := none } : Oper)
def oTrMade16 : Oper := ({ dst := some 36, op := Go.Op.indexAddr 22 (Go.Operand.tmp 34) (Go.Operand.tmp 35), type := 0, pos := "outright.go:17", after := #[{ on := 1, ground := Go.Ground.data }, { on := 2, ground := Go.Ground.data }], guard := none } : Oper)
def oTrMade17 : Oper := ({ dst := some 37, op := Go.Op.fieldAddr 33 (Go.Operand.tmp 36) 1, type := 0, pos := "outright.go:17", after := #[{ on := 3, ground := Go.Ground.data }], guard := none } : Oper)
def oTrMade18 : Oper := ({ dst := some 38, op := Go.Op.load 9 (Go.Operand.tmp 37), type := 9, pos := "outright.go:17", after := #[{ on := 4, ground := Go.Ground.data }], guard := none } : Oper)
def oTrMade19 : Oper := ({ dst := some 39, op := Go.Op.move (Go.Operand.tmp 0), type := 22, pos := "outright.go:17", after := #[], guard := none } : Oper)
def oTrMade20 : Oper := ({ dst := some 40, op := Go.Op.move (Go.Operand.tmp 4), type := 3, pos := "outright.go:17", after := #[], guard := none } : Oper)
def oTrMade21 : Oper := ({ dst := some 41, op := Go.Op.indexAddr 22 (Go.Operand.tmp 39) (Go.Operand.tmp 40), type := 0, pos := "outright.go:17", after := #[{ on := 6, ground := Go.Ground.data }, { on := 7, ground := Go.Ground.data }], guard := none } : Oper)
def oTrMade22 : Oper := ({ dst := some 42, op := Go.Op.fieldAddr 33 (Go.Operand.tmp 41) 2, type := 0, pos := "outright.go:17", after := #[{ on := 8, ground := Go.Ground.data }], guard := none } : Oper)
def oTrMade23 : Oper := ({ dst := some 43, op := Go.Op.load 9 (Go.Operand.tmp 42), type := 9, pos := "outright.go:17", after := #[{ on := 9, ground := Go.Ground.data }], guard := none } : Oper)
def oTrMade24 : Oper := ({ dst := some 44, op := Go.Op.call { callee := Go.Callee.value (Go.Operand.func 21), args := #[Go.Operand.tmp 33, Go.Operand.tmp 38, Go.Operand.tmp 43], argTypes := #[25, 9, 9] }, type := 4, pos := "outright.go:17", after := #[{ on := 0, ground := Go.Ground.data }, { on := 5, ground := Go.Ground.data }, { on := 10, ground := Go.Ground.data }], guard := none } : Oper)
end
open Go.RowKit

def madeL (l : List Ac) : List Hn := l.foldl actL []
theorem made_take (l : List Ac) (k : Nat) (x : Ac) (hx : l[k]? = some x) : madeL (l.take (k + 1)) = actL (madeL (l.take k)) x := by
  unfold madeL
  rw [List.take_add_one, hx, Option.toList_some, List.foldl_append]; rfl
/-- A trie that is made. -/
def MP (w : World) (m : Nat) (L : List Hn) (e : Ending) (w' : World) : Prop := ∃ t F, e = .returned (.pointer (some ⟨t, 0, none⟩)) ∧ PT w' t F L ∧ HsOk m L ∧ Below w.heap.size w w' ∧ ∀ b, F b → w.heap.size ≤ b
set_option maxHeartbeats 1000000 in
theorem made_any (w : World) (hG : GT w) (A : Option Addr) (n c : Nat) (l : List Ac) (hs : Acts w A n l) (hok : AcsOk l) :
    Calls Tryz.prog 24 #[.slice A n c] w fun e w' => MP w n (madeL l) e w' := by
  have HG := Lib.hid hG
  have HS := Lib.hid hs
  have HL := Lib.hid hs.len
  have hn60 : n ≤ 60 := by have := hs.len; have := hok.1; omega
  have HX := Lib.hid hok.2
  clear hG hs hok
  go_enter Tryz.func24, Tryz.ntmps24
  go_wp2_with fail
  refine (tNew _ HG.out).mono ?_
  rintro e w1 ⟨t, F, rfl, hT, hb1, hF⟩
  go_wp2_with fail
  go_loopw [4] (fun i wr => ∃ (k : Nat) (F : Nat → Prop) (L : List Hn), i = .int .i64 k ∧ k ≤ n ∧ Below w.heap.size w wr ∧ PT wr t F L ∧ HsOk k L ∧ (∀ b, F b → w.heap.size ≤ b) ∧ Hid (madeL (l.take k) = L)) (fun i _ => n - (intOf i).toNat)
  case atStart => exact ⟨0, F, [], rfl, by omega, hb1, hT, HsOk.nil 0, hF, by show _ = _; rw [List.take_zero]; rfl⟩
  case round =>
    clear hT hb1 hF
    obtain ⟨k, F, L, rfl, hkn, hb, hP, hk, hF, hc⟩ := hrel
    have HP := Lib.hid hP
    clear hP
    by_cases hlt : k < n
    · obtain ⟨b1, o1, x, rfl, hx, hat⟩ := (HS.out.below hb).at_ hlt
      obtain ⟨hxf, hxc, hxn⟩ := HX.out x (List.mem_of_getElem? hx)
      have hml := made_take l k x hx
      rw [hc.out] at hml
      obtain ⟨d, xf, xc, xn⟩ := x
      have HAt := Lib.hid hat
      obtain ⟨p0, p1, p2, p3⟩ := hat
      dsimp only at hxf hxc hxn p0 p1 p2 p3
      have hkI : (k : Int) < (n : Int) := by omega
      have hk0 : (0 : Int) ≤ (k : Int) := by omega
      clear hx
      by_cases h0 : d = 0
      · subst h0
        obtain ⟨r, hr⟩ : ∃ r, addB L (xf, xc) = r := ⟨_, rfl⟩
        obtain ⟨M, hM⟩ : ∃ M, addL L (xf, xc) = M := ⟨_, rfl⟩
        have HR := Lib.hid hr
        have HM := Lib.hid hM
        have hk9 : Hid (HsOk (k + 1) M) := by show HsOk _ _; rw [← hM]; exact hk.add hxf hxc
        have HN : Hid (madeL (l.take (k + 1)) = M) := by show _ = _; rw [hml, ← hM]; rfl
        clear hr hM hml
        go_wp2_with fail
        have hHeld : Below wr.heap.size wr wr.drew := (Below.refl _ _).drew
        refine region_last (S := (fun w' => Below wr.heap.size wr w')) (m := 11) (by kernel_rfl) ?_
        have hLast : LastL .any _ 11 := last_chain (ops := #[oTrMade1, oTrMade2, oTrMade3, oTrMade4, oTrMade5, oTrMade6, oTrMade7, oTrMade8, oTrMade9, oTrMade10, oTrMade11, oTrMade12]) [(0, 11), (5, 11), (4, 5), (3, 4), (1, 3), (2, 3), (10, 11), (9, 10), (8, 9), (6, 8), (7, 8)] (by kernel_rfl)
        refine tkM hLast 0 oTrMade1 ?vv42_209_0 rfl (by kernel_rfl) (by kernel_rfl) (by kernel_rfl) (by rfl) (fun _ _ _ h => h) (by rfl) ?hy42_209_0 (by assumption) ?rest42_209_0
        case hy42_209_0 => (intro w hSw; unfold oTrMade1; (try dsimp only at hSw); (try go_split_ands); go_simp; all_goals with_reducible rfl)
        try simp only [oTrMade1, Act.put, sA, sB, sC]
        refine tkM hLast 1 oTrMade2 ?vv42_209_1 rfl (by kernel_rfl) (by kernel_rfl) (by kernel_rfl) (by rfl) (fun _ _ _ h => h) (by rfl) ?hy42_209_1 (by assumption) ?rest42_209_1
        case hy42_209_1 => (intro w hSw; unfold oTrMade2; (try dsimp only at hSw); (try go_split_ands); go_simp; all_goals with_reducible rfl)
        try simp only [oTrMade2, Act.put, sA, sB, sC]
        refine tkM hLast 2 oTrMade3 ?vv42_209_2 rfl (by kernel_rfl) (by kernel_rfl) (by kernel_rfl) (by rfl) (fun _ _ _ h => h) (by rfl) ?hy42_209_2 (by assumption) ?rest42_209_2
        case hy42_209_2 => (intro w hSw; unfold oTrMade3; (try dsimp only at hSw); (try go_split_ands); go_simp; all_goals with_reducible rfl)
        try simp only [oTrMade3, Act.put, sA, sB, sC]
        refine tkM hLast 3 oTrMade4 ?vv42_209_3 rfl (by kernel_rfl) (by kernel_rfl) (by kernel_rfl) (by rfl) (fun _ _ _ h => h) (by rfl) ?hy42_209_3 (by assumption) ?rest42_209_3
        case hy42_209_3 => (intro w hSw; unfold oTrMade4; (try dsimp only at hSw); (try go_split_ands); go_simp; all_goals with_reducible rfl)
        try simp only [oTrMade4, Act.put, sA, sB, sC]
        refine tkM hLast 4 oTrMade5 ?vv42_209_4 rfl (by kernel_rfl) (by kernel_rfl) (by kernel_rfl) (by rfl) (fun _ _ _ h => h) (by rfl) ?hy42_209_4 (by assumption) ?rest42_209_4
        case hy42_209_4 => (intro w hSw; unfold oTrMade5; (try dsimp only at hSw); (try go_split_ands); go_simp; all_goals with_reducible rfl)
        try simp only [oTrMade5, Act.put, sA, sB, sC]
        refine tkM hLast 5 oTrMade6 ?vv42_210_5 rfl (by kernel_rfl) (by kernel_rfl) (by kernel_rfl) (by rfl) (fun _ _ _ h => h) (by rfl) ?hy42_210_5 (by assumption) ?rest42_210_5
        case hy42_210_5 => (intro w hSw; unfold oTrMade6; (try dsimp only at hSw); have ⟨q0, q1, q2, q3⟩ := HAt.out.below hSw; clear hSw; go_simp; all_goals with_reducible rfl)
        try simp only [oTrMade6, Act.put, sA, sB, sC]
        refine tkM hLast 6 oTrMade7 ?vv42_211_6 rfl (by kernel_rfl) (by kernel_rfl) (by kernel_rfl) (by rfl) (fun _ _ _ h => h) (by rfl) ?hy42_211_6 (by assumption) ?rest42_211_6
        case hy42_211_6 => (intro w hSw; unfold oTrMade7; (try dsimp only at hSw); (try go_split_ands); go_simp; all_goals with_reducible rfl)
        try simp only [oTrMade7, Act.put, sA, sB, sC]
        refine tkM hLast 7 oTrMade8 ?vv42_211_7 rfl (by kernel_rfl) (by kernel_rfl) (by kernel_rfl) (by rfl) (fun _ _ _ h => h) (by rfl) ?hy42_211_7 (by assumption) ?rest42_211_7
        case hy42_211_7 => (intro w hSw; unfold oTrMade8; (try dsimp only at hSw); (try go_split_ands); go_simp; all_goals with_reducible rfl)
        try simp only [oTrMade8, Act.put, sA, sB, sC]
        refine tkM hLast 8 oTrMade9 ?vv42_211_8 rfl (by kernel_rfl) (by kernel_rfl) (by kernel_rfl) (by rfl) (fun _ _ _ h => h) (by rfl) ?hy42_211_8 (by assumption) ?rest42_211_8
        case hy42_211_8 => (intro w hSw; unfold oTrMade9; (try dsimp only at hSw); (try go_split_ands); go_simp; all_goals with_reducible rfl)
        try simp only [oTrMade9, Act.put, sA, sB, sC]
        refine tkM hLast 9 oTrMade10 ?vv42_211_9 rfl (by kernel_rfl) (by kernel_rfl) (by kernel_rfl) (by rfl) (fun _ _ _ h => h) (by rfl) ?hy42_211_9 (by assumption) ?rest42_211_9
        case hy42_211_9 => (intro w hSw; unfold oTrMade10; (try dsimp only at hSw); (try go_split_ands); go_simp; all_goals with_reducible rfl)
        try simp only [oTrMade10, Act.put, sA, sB, sC]
        refine tkM hLast 10 oTrMade11 ?vv42_212_10 rfl (by kernel_rfl) (by kernel_rfl) (by kernel_rfl) (by rfl) (fun _ _ _ h => h) (by rfl) ?hy42_212_10 (by assumption) ?rest42_212_10
        case hy42_212_10 => (intro w hSw; unfold oTrMade11; (try dsimp only at hSw); have ⟨q0, q1, q2, q3⟩ := HAt.out.below hSw; clear hSw; go_simp; all_goals with_reducible rfl)
        try simp only [oTrMade11, Act.put, sA, sB, sC]
        refine anyM_ready (rs := [11]) (by kernel_rfl) (by simp) ?_
        refine (AllM.cons (o := oTrMade12) rfl (fun K hK => ?_) AllM.nil)
        unfold oTrMade12
        go_simp
        (go_at_call 20; refine (tAdd xf xc M r (HG.out.below (below_more hb hHeld)) (HP.out.below hHeld) (hk.le (by omega)) hxf hxc HM.out HR.out).mono ?_; rintro e w6 ⟨F6, rfl, hP6, hU6, hF6⟩)
        refine hK.out _ _ (fun hne => absurd rfl hne) ?_
        clear hK K
        try simp only [oTrMade12, Act.put, sA, sB, sC]
        refine anyM_done (by kernel_rfl) ?_ _
        have hbd := below_more hb hHeld
        have hb6 := hbd.trans (hU6.below (B := w.heap.size) (fun b _ h => hF b h) hbd.size)
        have hF7 : ∀ b, F6 b → w.heap.size ≤ b := fun b h => by
          rcases hF6 b h with h2 | h2
          · exact hF b h2
          · have := hbd.size; omega
        clear hHeld hbd hU6 hF6 hF HP hb hk
        go_wp2_with fail
        go_roundw
        case rel => exact ⟨k + 1, F6, M, by go_num, by omega, hb6, hP6, hk9.out, hF7, HN⟩
        case measure => simp [intOf]; omega
      · have e0 : (d == 0) = false := by simpa using h0
        by_cases h1 : d = 1
        · subst h1
          obtain ⟨r, hr⟩ : ∃ r, remB L (xf, xc) = r := ⟨_, rfl⟩
          obtain ⟨M, hM⟩ : ∃ M, remL L (xf, xc) = M := ⟨_, rfl⟩
          have HR := Lib.hid hr
          have HM := Lib.hid hM
          have hk9 : Hid (HsOk (k + 1) M) := by show HsOk _ _; rw [← hM]; exact (hk.rem (xf, xc)).le (by omega)
          have HN : Hid (madeL (l.take (k + 1)) = M) := by show _ = _; rw [hml, ← hM]; rfl
          clear hr hM hml
          go_wp2_with fail
          have hHeld : Below wr.heap.size wr wr.drew := (Below.refl _ _).drew
          refine region_last (S := (fun w' => Below wr.heap.size wr w')) (m := 11) (by kernel_rfl) ?_
          have hLast : LastL .any _ 11 := last_chain (ops := #[oTrMade13, oTrMade14, oTrMade15, oTrMade16, oTrMade17, oTrMade18, oTrMade19, oTrMade20, oTrMade21, oTrMade22, oTrMade23, oTrMade24]) [(0, 11), (5, 11), (4, 5), (3, 4), (1, 3), (2, 3), (10, 11), (9, 10), (8, 9), (6, 8), (7, 8)] (by kernel_rfl)
          refine tkM hLast 0 oTrMade13 ?vv43_213_0 rfl (by kernel_rfl) (by kernel_rfl) (by kernel_rfl) (by rfl) (fun _ _ _ h => h) (by rfl) ?hy43_213_0 (by assumption) ?rest43_213_0
          case hy43_213_0 => (intro w hSw; unfold oTrMade13; (try dsimp only at hSw); (try go_split_ands); go_simp; all_goals with_reducible rfl)
          try simp only [oTrMade13, Act.put, sA, sB, sC]
          refine tkM hLast 1 oTrMade14 ?vv43_213_1 rfl (by kernel_rfl) (by kernel_rfl) (by kernel_rfl) (by rfl) (fun _ _ _ h => h) (by rfl) ?hy43_213_1 (by assumption) ?rest43_213_1
          case hy43_213_1 => (intro w hSw; unfold oTrMade14; (try dsimp only at hSw); (try go_split_ands); go_simp; all_goals with_reducible rfl)
          try simp only [oTrMade14, Act.put, sA, sB, sC]
          refine tkM hLast 2 oTrMade15 ?vv43_213_2 rfl (by kernel_rfl) (by kernel_rfl) (by kernel_rfl) (by rfl) (fun _ _ _ h => h) (by rfl) ?hy43_213_2 (by assumption) ?rest43_213_2
          case hy43_213_2 => (intro w hSw; unfold oTrMade15; (try dsimp only at hSw); (try go_split_ands); go_simp; all_goals with_reducible rfl)
          try simp only [oTrMade15, Act.put, sA, sB, sC]
          refine tkM hLast 3 oTrMade16 ?vv43_213_3 rfl (by kernel_rfl) (by kernel_rfl) (by kernel_rfl) (by rfl) (fun _ _ _ h => h) (by rfl) ?hy43_213_3 (by assumption) ?rest43_213_3
          case hy43_213_3 => (intro w hSw; unfold oTrMade16; (try dsimp only at hSw); (try go_split_ands); go_simp; all_goals with_reducible rfl)
          try simp only [oTrMade16, Act.put, sA, sB, sC]
          refine tkM hLast 4 oTrMade17 ?vv43_213_4 rfl (by kernel_rfl) (by kernel_rfl) (by kernel_rfl) (by rfl) (fun _ _ _ h => h) (by rfl) ?hy43_213_4 (by assumption) ?rest43_213_4
          case hy43_213_4 => (intro w hSw; unfold oTrMade17; (try dsimp only at hSw); (try go_split_ands); go_simp; all_goals with_reducible rfl)
          try simp only [oTrMade17, Act.put, sA, sB, sC]
          refine tkM hLast 5 oTrMade18 ?vv43_214_5 rfl (by kernel_rfl) (by kernel_rfl) (by kernel_rfl) (by rfl) (fun _ _ _ h => h) (by rfl) ?hy43_214_5 (by assumption) ?rest43_214_5
          case hy43_214_5 => (intro w hSw; unfold oTrMade18; (try dsimp only at hSw); have ⟨q0, q1, q2, q3⟩ := HAt.out.below hSw; clear hSw; go_simp; all_goals with_reducible rfl)
          try simp only [oTrMade18, Act.put, sA, sB, sC]
          refine tkM hLast 6 oTrMade19 ?vv43_215_6 rfl (by kernel_rfl) (by kernel_rfl) (by kernel_rfl) (by rfl) (fun _ _ _ h => h) (by rfl) ?hy43_215_6 (by assumption) ?rest43_215_6
          case hy43_215_6 => (intro w hSw; unfold oTrMade19; (try dsimp only at hSw); (try go_split_ands); go_simp; all_goals with_reducible rfl)
          try simp only [oTrMade19, Act.put, sA, sB, sC]
          refine tkM hLast 7 oTrMade20 ?vv43_215_7 rfl (by kernel_rfl) (by kernel_rfl) (by kernel_rfl) (by rfl) (fun _ _ _ h => h) (by rfl) ?hy43_215_7 (by assumption) ?rest43_215_7
          case hy43_215_7 => (intro w hSw; unfold oTrMade20; (try dsimp only at hSw); (try go_split_ands); go_simp; all_goals with_reducible rfl)
          try simp only [oTrMade20, Act.put, sA, sB, sC]
          refine tkM hLast 8 oTrMade21 ?vv43_215_8 rfl (by kernel_rfl) (by kernel_rfl) (by kernel_rfl) (by rfl) (fun _ _ _ h => h) (by rfl) ?hy43_215_8 (by assumption) ?rest43_215_8
          case hy43_215_8 => (intro w hSw; unfold oTrMade21; (try dsimp only at hSw); (try go_split_ands); go_simp; all_goals with_reducible rfl)
          try simp only [oTrMade21, Act.put, sA, sB, sC]
          refine tkM hLast 9 oTrMade22 ?vv43_215_9 rfl (by kernel_rfl) (by kernel_rfl) (by kernel_rfl) (by rfl) (fun _ _ _ h => h) (by rfl) ?hy43_215_9 (by assumption) ?rest43_215_9
          case hy43_215_9 => (intro w hSw; unfold oTrMade22; (try dsimp only at hSw); (try go_split_ands); go_simp; all_goals with_reducible rfl)
          try simp only [oTrMade22, Act.put, sA, sB, sC]
          refine tkM hLast 10 oTrMade23 ?vv43_216_10 rfl (by kernel_rfl) (by kernel_rfl) (by kernel_rfl) (by rfl) (fun _ _ _ h => h) (by rfl) ?hy43_216_10 (by assumption) ?rest43_216_10
          case hy43_216_10 => (intro w hSw; unfold oTrMade23; (try dsimp only at hSw); have ⟨q0, q1, q2, q3⟩ := HAt.out.below hSw; clear hSw; go_simp; all_goals with_reducible rfl)
          try simp only [oTrMade23, Act.put, sA, sB, sC]
          refine anyM_ready (rs := [11]) (by kernel_rfl) (by simp) ?_
          refine (AllM.cons (o := oTrMade24) rfl (fun K hK => ?_) AllM.nil)
          unfold oTrMade24
          go_simp
          (go_at_call 21; refine (tRem xf xc M r (HG.out.below (below_more hb hHeld)) (HP.out.below hHeld) (hk.le (by omega)) hxf hxc HM.out HR.out).mono ?_; rintro e w6 ⟨F6, rfl, hP6, hU6, hF6⟩)
          refine hK.out _ _ (fun hne => absurd rfl hne) ?_
          clear hK K
          try simp only [oTrMade24, Act.put, sA, sB, sC]
          refine anyM_done (by kernel_rfl) ?_ _
          have hbd := below_more hb hHeld
          have hb6 := hbd.trans (hU6.below (B := w.heap.size) (fun b _ h => hF b h) hbd.size)
          have hF7 : ∀ b, F6 b → w.heap.size ≤ b := fun b h => by
            rcases hF6 b h with h2 | h2
            · exact hF b h2
            · have := hbd.size; omega
          clear hHeld hbd hU6 hF6 hF HP hb hk
          go_wp2_with fail
          go_roundw
          case rel => exact ⟨k + 1, F6, M, by go_num, by omega, hb6, hP6, hk9.out, hF7, HN⟩
          case measure => simp [intOf]; omega
        · have e1 : (d == 1) = false := by simpa using h1
          have HN : Hid (madeL (l.take (k + 1)) = L) := by
            show _ = _
            rw [hml]; unfold actL; rw [if_neg (by exact h0), if_neg (by exact h1)]
          have hk9 := hk.le (show k ≤ k + 1 by omega)
          clear hml h0 h1
          go_wp2_with fail
          go_roundw
          case rel => exact ⟨k + 1, F, L, by go_num, by omega, hb, HP.out, hk9, hF, HN⟩
          case measure => simp [intOf]; omega
    · have hkn2 : k = n := by omega
      have HN : L = madeL l := by rw [← hc.out, List.take_of_length_le (by rw [HL.out]; omega)]
      rw [hkn2] at hk
      rw [HN] at HP hk
      clear hkn2 HN
      go_wp2_with fail
      go_ret
      exact ⟨t, F, rfl, HP.out, hk, hb, hF⟩
end Go.Proofs.YtipdmfnkkkdlbaaGreatDoor
