/-
  TriePlays: whatever is added and removed: each answer, who has a filter that takes a name, how many hints and nodes there are.
-/
import Derived.Test.YtipdmfnkkkdlbaaGreatDoorTrAwake
set_option linter.unusedSimpArgs false
set_option linter.unusedVariables false
namespace Go.Proofs.YtipdmfnkkkdlbaaGreatDoor
section
open Go.RowKit
def oTrPlays1 : Oper := ({ dst := some 26, op := Go.Op.move (Go.Operand.tmp 3), type := 25, pos := "law.go:83", after := #[], guard := none } : Oper)
def oTrPlays2 : Oper := ({ dst := some 28, op := Go.Op.move (Go.Operand.tmp 4), type := 27, pos := "law.go:83", after := #[], guard := none } : Oper)
def oTrPlays3 : Oper := ({ dst := some 29, op := Go.Op.nilCheck (Go.Operand.tmp 28), type := 0, pos := "law.go:83", after := #[{ on := 2, ground := Go.Ground.data }], guard := none } : Oper)
def oTrPlays4 : Oper := ({ dst := some 30, op := Go.Op.fieldAddr 30 (Go.Operand.tmp 29) 0, type := 0, pos := "law.go:83", after := #[{ on := 3, ground := Go.Ground.data }], guard := none } : Oper)
def oTrPlays5 : Oper := ({ dst := some 31, op := Go.Op.load 28 (Go.Operand.tmp 30), type := 28, pos := "law.go:83", after := #[{ on := 4, ground := Go.Ground.data }], guard := none } : Oper)
def oTrPlays6 : Oper := ({ dst := some 27, op := Go.Op.call { callee := Go.Callee.value (Go.Operand.func 14), args := #[Go.Operand.tmp 26], argTypes := #[25] }, type := 28, pos := "law.go:83", after := #[{ on := 0, ground := Go.Ground.data }], guard := none } : Oper)
def oTrPlays7 : Oper := ({ dst := some 32, op := Go.Op.call { callee := Go.Callee.value (Go.Operand.func 13), args := #[Go.Operand.tmp 27, Go.Operand.tmp 31], argTypes := #[28, 28] }, type := 4, pos := "law.go:83", after := #[{ on := 1, ground := Go.Ground.data }, { on := 5, ground := Go.Ground.data }, { on := 1, ground := Go.Ground.chain }], guard := none } : Oper)
def oTrPlays8 : Oper := ({ dst := some 33, op := Go.Op.move (Go.Operand.tmp 32), type := 4, pos := "law.go:83", after := #[{ on := 6, ground := Go.Ground.data }, { on := 6, ground := Go.Ground.chain }], guard := none } : Oper)
def oTrPlays9 : Oper := ({ dst := some 34, op := Go.Op.call { callee := Go.Callee.value (Go.Operand.func 10), args := #[], argTypes := #[] }, type := 4, pos := "law.go:83", after := #[{ on := 7, ground := Go.Ground.chain }, { on := 7, ground := Go.Ground.guard }], guard := some (7, true) } : Oper)
def oTrPlays10 : Oper := ({ dst := some 35, op := Go.Op.pick (Go.Operand.tmp 33) (Go.Operand.tmp 34) (Go.Operand.const (Go.Value.bool false)), type := 4, pos := "law.go:83", after := #[{ on := 7, ground := Go.Ground.data }, { on := 8, ground := Go.Ground.data }], guard := none } : Oper)
def oTrPlays11 : Oper := ({ dst := some 2, op := Go.Op.assign (Go.Operand.tmp 35), type := 4, pos := "law.go:83", after := #[{ on := 9, ground := Go.Ground.data }, { on := 8, ground := Go.Ground.chain }, { on := 0, ground := Go.Ground.phase }, { on := 1, ground := Go.Ground.phase }, { on := 2, ground := Go.Ground.phase }, { on := 3, ground := Go.Ground.phase }, { on := 4, ground := Go.Ground.phase }, { on := 5, ground := Go.Ground.phase }, { on := 6, ground := Go.Ground.phase }, { on := 7, ground := Go.Ground.phase }, { on := 8, ground := Go.Ground.phase }, { on := 9, ground := Go.Ground.phase }], guard := none } : Oper)
end
open Go.RowKit
namespace lawTriePlays
set_option maxHeartbeats 1000000 in
theorem walk (w : World) (hG : GT w) (A : Option Addr) (n c : Nat) (l : List Ac) (hs : Acts w A n l) (hn : n ≤ 9223372036854775807) (hi : Hid (∀ x ∈ l, AcIn x)) :
    Calls Tryz.prog 3 #[.slice A n c] w fun e w' => e = .returned (.bool true) ∧ Below w.heap.size w w' := by
  have HG := Lib.hid hG
  have HS := Lib.hid hs
  have HL := Lib.hid hs.len
  clear hG hs
  go_enter Tryz.func3, Tryz.ntmps3
  go_wp2_with fail
  refine (great9_any A n c l _ HS.out hn hi).mono ?_
  rintro e w0 ⟨b, rfl, hok, rfl⟩
  cases b with
  | true =>
    go_wp2_with fail
    refine (awake9_any _ HG.out).mono ?_
    rintro e w1 ⟨rfl, hb⟩
    go_wp2_with fail
    go_ret
    exact ⟨rfl, hb⟩
  | false =>
    obtain ⟨hl60, hlx⟩ := hok rfl
    have hn60 : n ≤ 60 := by have := HL.out; omega
    have HX := Lib.hid hlx
    clear hok hlx hl60
    go_wp2_with fail
    refine (tNew _ HG.out).mono ?_
    rintro e w1 ⟨t, F, rfl, hT, hb1, hF⟩
    obtain ⟨W, hW⟩ : ∃ W, W = w1.alloc (.cells #[.slice none 0 0] 30) := ⟨_, rfl⟩
    have hR : RT W w1.heap.size none 0 0 [] := by
      rw [hW]
      exact ⟨⟨_, heap_alloc_new w1 _⟩, Hnts.nil none, .inl ⟨rfl, rfl⟩, Nat.le_refl _⟩
    have hbW1 : Below w1.heap.size w1 W := by rw [hW]; exact (Below.refl _ _).alloc (Nat.le_refl _) _
    have hbW := below_more hb1 hbW1
    have hD : DS w.heap.size W t F w1.heap.size none 0 0 [] 0 := ⟨hT.below hbW1, hR, fun b hb => ⟨hF b hb, fun e => by have := hT.lt b hb; omega, fun h => by omega⟩, hb1.size, HsOk.nil 0⟩
    obtain ⟨g, hg⟩ : ∃ g, g = w1.heap.size := ⟨_, rfl⟩
    rw [← hg] at hD
    go_wp2_with fail
    rw [← hW, ← hg]
    clear hW hg hR hbW1 hT hF hb1
    go_loopw [5] (fun i wr => ∃ (k : Nat) (F : Nat → Prop) (A2 : Option Addr) (n2 c2 : Nat) (L : List Hn), i = .int .i64 k ∧ k ≤ n ∧ Below w.heap.size w wr ∧ DS w.heap.size wr t F g A2 n2 c2 L k) (fun i _ => n - (intOf i).toNat)
    case atStart => exact ⟨0, F, none, 0, 0, [], rfl, by omega, hbW, hD⟩
    case round =>
      clear hD hbW
      obtain ⟨k, F, A2, n2, c2, L, rfl, hk, hb, hD⟩ := hrel
      have hDn := hD.n_le
      have HD := Lib.hid hD
      clear hD
      by_cases hlt : k < n
      · obtain ⟨b1, o1, x, rfl, hx, c0, c1, c3, c4⟩ := (HS.out.below hb).at_ hlt
        have HXx := Lib.hid (HX.out x (List.mem_of_getElem? hx))
        obtain ⟨M, hM⟩ : ∃ M, actL L x = M := ⟨_, rfl⟩
        have HM := Lib.hid hM
        clear hx hM
        go_wp2_with fail
        refine (does_any x M (HG.out.below hb) HG.out.gb HD.out (by omega) HXx.out HM.out).mono ?_
        rintro e w5 ⟨F5, A5, n5, c5, rfl, hD5, hb5⟩
        have hb6 := hb.trans hb5
        clear hb5 c0 c1 c3 c4
        go_wp2_with fail
        go_roundw
        case rel => exact ⟨k + 1, F5, A5, n5, c5, M, by go_num, by omega, hb6, hD5⟩
        case measure => simp [intOf]; omega
      · have hk100 : Hid (HsOk 100 L) := HD.out.ok.le (by omega)
        have hl2 := Lib.hid HD.out.rt.len
        have hl9 : L.length ≤ 1000 := by have := hk100.out.2.1; omega
        go_wp2_with fail
        refine wp_region_held_drew (S := (fun w' => Below wr.heap.size wr w')) (by kernel_rfl) ((Below.refl _ _).drew) (fun hHeld => ?_)
        refine tkY 0 oTrPlays1 ?vv41_205_0 rfl (by kernel_rfl) (by kernel_rfl) (by kernel_rfl) (fun _ _ _ h => h) (by rfl) ?hy41_205_0 (by assumption) ?rest41_205_0
        case hy41_205_0 => (intro w hSw; unfold oTrPlays1; (try dsimp only at hSw); (try go_split_ands); go_simp; all_goals with_reducible rfl)
        try simp only [oTrPlays1, Act.put, sA, sB, sC]
        refine tkY 2 oTrPlays2 ?vv41_205_2 rfl (by kernel_rfl) (by kernel_rfl) (by kernel_rfl) (fun _ _ _ h => h) (by rfl) ?hy41_205_2 (by assumption) ?rest41_205_2
        case hy41_205_2 => (intro w hSw; unfold oTrPlays2; (try dsimp only at hSw); (try go_split_ands); go_simp; all_goals with_reducible rfl)
        try simp only [oTrPlays2, Act.put, sA, sB, sC]
        refine tkY 3 oTrPlays3 ?vv41_205_3 rfl (by kernel_rfl) (by kernel_rfl) (by kernel_rfl) (fun _ _ _ h => h) (by rfl) ?hy41_205_3 (by assumption) ?rest41_205_3
        case hy41_205_3 => (intro w hSw; unfold oTrPlays3; (try dsimp only at hSw); (try go_split_ands); go_simp; all_goals with_reducible rfl)
        try simp only [oTrPlays3, Act.put, sA, sB, sC]
        refine tkY 4 oTrPlays4 ?vv41_205_4 rfl (by kernel_rfl) (by kernel_rfl) (by kernel_rfl) (fun _ _ _ h => h) (by rfl) ?hy41_205_4 (by assumption) ?rest41_205_4
        case hy41_205_4 => (intro w hSw; unfold oTrPlays4; (try dsimp only at hSw); (try go_split_ands); go_simp; all_goals with_reducible rfl)
        try simp only [oTrPlays4, Act.put, sA, sB, sC]
        refine tkY 5 oTrPlays5 ?vv41_206_5 rfl (by kernel_rfl) (by kernel_rfl) (by kernel_rfl) (fun _ _ _ h => h) (by rfl) ?hy41_206_5 (by assumption) ?rest41_206_5
        case hy41_206_5 => (intro w hSw; unfold oTrPlays5; (try dsimp only at hSw); have hq := (HD.out.rt.below hSw).cell; clear hSw; go_simp; all_goals with_reducible rfl)
        try simp only [oTrPlays5, Act.put, sA, sB, sC]
        refine wpAnyH_ready (rs := [1]) (by kernel_rfl) (by simp) ?_
        refine AllReadyH.cons (o := oTrPlays6) rfl (fun K hK => ?_) AllReadyH.nil
        unfold oTrPlays6
        go_simp
        (go_at_call 14; refine (tAll (HG.out.below (below_more hb hHeld)) (HD.out.pt.below hHeld) hk100.out).mono ?_; rintro e w6 ⟨v6, rfl, hO6⟩; have hb6 := hO6.below; obtain ⟨A6, c6, rfl, _, hs6, _, _⟩ := hO6.form)
        refine hK.out _ _ ?_ (fun hHeld => ?_)
        · (exact below_more hHeld hb6)
        clear hK K
        try simp only [oTrPlays6, Act.put, sA, sB, sC]
        refine wpAnyH_ready (rs := [6]) (by kernel_rfl) (by simp) ?_
        refine AllReadyH.cons (o := oTrPlays7) rfl (fun K hK => ?_) AllReadyH.nil
        unfold oTrPlays7
        go_simp
        (go_at_call 13; refine (sameHints_eq A6 _ c6 L A2 n2 c2 L true _ hs6 (HD.out.rt.below hHeld).2.1 (by omega) (by simp)).mono ?_; rintro e w7 ⟨rfl, hb7⟩)
        refine hK.out _ _ ?_ (fun hHeld => ?_)
        · (exact below_more hHeld hb7)
        clear hK K
        try simp only [oTrPlays7, Act.put, sA, sB, sC]
        refine tkY 7 oTrPlays8 ?vv41_207_7 rfl (by kernel_rfl) (by kernel_rfl) (by kernel_rfl) (fun _ _ _ h => h) (by rfl) ?hy41_207_7 (by assumption) ?rest41_207_7
        case hy41_207_7 => (intro w hSw; unfold oTrPlays8; (try dsimp only at hSw); (try go_split_ands); go_simp; all_goals with_reducible rfl)
        try simp only [oTrPlays8, Act.put, sA, sB, sC]
        refine wpAnyH_ready (rs := [8]) (by kernel_rfl) (by simp) ?_
        refine AllReadyH.cons (o := oTrPlays9) rfl (fun K hK => ?_) AllReadyH.nil
        unfold oTrPlays9
        go_simp
        (go_at_call 10; refine (awake9_any _ (HG.out.below (below_more hb hHeld))).mono ?_; rintro e w8 ⟨rfl, hb8⟩)
        refine hK.out _ _ ?_ (fun hHeld => ?_)
        · (exact below_more hHeld hb8)
        clear hK K
        try simp only [oTrPlays9, Act.put, sA, sB, sC]
        refine tkY 9 oTrPlays10 ?vv41_208_9 rfl (by kernel_rfl) (by kernel_rfl) (by kernel_rfl) (fun _ _ _ h => h) (by rfl) ?hy41_208_9 (by assumption) ?rest41_208_9
        case hy41_208_9 => (intro w hSw; unfold oTrPlays10; (try dsimp only at hSw); (try go_split_ands); go_simp; all_goals with_reducible rfl)
        try simp only [oTrPlays10, Act.put, sA, sB, sC]
        refine tkY 10 oTrPlays11 ?vv41_208_10 rfl (by kernel_rfl) (by kernel_rfl) (by kernel_rfl) (fun _ _ _ h => h) (by rfl) ?hy41_208_10 (by assumption) ?rest41_208_10
        case hy41_208_10 => (intro w hSw; unfold oTrPlays11; (try dsimp only at hSw); (try go_split_ands); go_simp; all_goals with_reducible rfl)
        try simp only [oTrPlays11, Act.put, sA, sB, sC]
        refine wpAnyH_done (by kernel_rfl) ?_ _
        have hb9 := below_more hb hHeld
        clear hHeld
        go_wp2_with fail
        go_ret
        exact ⟨rfl, hb9⟩
end lawTriePlays
end Go.Proofs.YtipdmfnkkkdlbaaGreatDoor
