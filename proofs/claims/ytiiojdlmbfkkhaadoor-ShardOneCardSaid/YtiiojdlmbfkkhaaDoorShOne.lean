/-
  ShardOne: each worker is one of the n; of one worker it is 0; connections that follow one another have gates that do. The card.
-/
import Derived.Test.YtiiojdlmbfkkhaaDoorShLaw
import Derived.Test.YtiiojdlmbfkkhaaDoorTpLaw
import Derived.Test.YtiiojdlmbfkkhaaDoorWrFrame
import Derived.Test.YtiiojdlmbfkkhaaDoorTie
import Derived.Test.YtiiojdlmbfkkhaaDoorCards
import Derived.SevenTiedAt
import Derived.ProofKit
set_option linter.unusedSimpArgs false
set_option linter.unusedVariables false
namespace Go.Proofs.YtiiojdlmbfkkhaaDoor
section
open Go.RowKit
def oShOne1 : Oper := ({ dst := some 114, op := Go.Op.move (Go.Operand.tmp 0), type := 9, pos := "outright.go:64", after := #[], guard := none } : Oper)
def oShOne2 : Oper := ({ dst := some 115, op := Go.Op.call { callee := Go.Callee.value (Go.Operand.func 28), args := #[Go.Operand.tmp 114], argTypes := #[9] }, type := 4, pos := "outright.go:64", after := #[{ on := 0, ground := Go.Ground.data }], guard := none } : Oper)
def oShOne3 : Oper := ({ dst := some 116, op := Go.Op.unOp Go.UnOp.not 4 (Go.Operand.tmp 115), type := 4, pos := "outright.go:64", after := #[{ on := 1, ground := Go.Ground.data }], guard := none } : Oper)
def oShOne4 : Oper := ({ dst := some 117, op := Go.Op.move (Go.Operand.tmp 116), type := 4, pos := "outright.go:64", after := #[{ on := 2, ground := Go.Ground.data }, { on := 1, ground := Go.Ground.chain }], guard := none } : Oper)
def oShOne5 : Oper := ({ dst := some 118, op := Go.Op.move (Go.Operand.tmp 10), type := 32, pos := "outright.go:64", after := #[{ on := 3, ground := Go.Ground.guard }], guard := some (3, false) } : Oper)
def oShOne6 : Oper := ({ dst := some 119, op := Go.Op.call { callee := Go.Callee.builtin Go.Builtin.len, args := #[Go.Operand.tmp 118], argTypes := #[32] }, type := 3, pos := "outright.go:64", after := #[{ on := 4, ground := Go.Ground.data }, { on := 3, ground := Go.Ground.guard }], guard := some (3, false) } : Oper)
def oShOne7 : Oper := ({ dst := some 120, op := Go.Op.binOp Go.BinOp.eql 3 (Go.Operand.tmp 119) (Go.Operand.const (Go.Value.int Go.IntKind.i64 1)) 3, type := 4, pos := "outright.go:64", after := #[{ on := 5, ground := Go.Ground.data }, { on := 3, ground := Go.Ground.guard }], guard := some (3, false) } : Oper)
def oShOne8 : Oper := ({ dst := some 121, op := Go.Op.move (Go.Operand.tmp 120), type := 4, pos := "outright.go:64", after := #[{ on := 6, ground := Go.Ground.data }, { on := 3, ground := Go.Ground.chain }, { on := 3, ground := Go.Ground.guard }], guard := some (3, false) } : Oper)
def oShOne9 : Oper := ({ dst := some 122, op := Go.Op.move (Go.Operand.tmp 10), type := 32, pos := "outright.go:64", after := #[{ on := 7, ground := Go.Ground.guard }], guard := some (7, true) } : Oper)
def oShOne10 : Oper := ({ dst := some 123, op := Go.Op.indexAddr 32 (Go.Operand.tmp 122) (Go.Operand.const (Go.Value.int Go.IntKind.i64 0)), type := 0, pos := "outright.go:64", after := #[{ on := 8, ground := Go.Ground.data }, { on := 7, ground := Go.Ground.guard }], guard := some (7, true) } : Oper)
def oShOne11 : Oper := ({ dst := some 124, op := Go.Op.load 3 (Go.Operand.tmp 123), type := 3, pos := "outright.go:64", after := #[{ on := 9, ground := Go.Ground.data }, { on := 7, ground := Go.Ground.guard }], guard := some (7, true) } : Oper)
def oShOne12 : Oper := ({ dst := some 125, op := Go.Op.move (Go.Operand.tmp 0), type := 9, pos := "outright.go:64", after := #[{ on := 7, ground := Go.Ground.guard }], guard := some (7, true) } : Oper)
def oShOne13 : Oper := ({ dst := some 126, op := Go.Op.move (Go.Operand.tmp 2), type := 3, pos := "outright.go:64", after := #[{ on := 7, ground := Go.Ground.guard }], guard := some (7, true) } : Oper)
def oShOne14 : Oper := ({ dst := some 127, op := Go.Op.call { callee := Go.Callee.value (Go.Operand.func 18), args := #[Go.Operand.tmp 125, Go.Operand.tmp 126], argTypes := #[9, 3] }, type := 3, pos := "outright.go:64", after := #[{ on := 11, ground := Go.Ground.data }, { on := 12, ground := Go.Ground.data }, { on := 7, ground := Go.Ground.chain }, { on := 7, ground := Go.Ground.guard }], guard := some (7, true) } : Oper)
def oShOne15 : Oper := ({ dst := some 128, op := Go.Op.binOp Go.BinOp.eql 3 (Go.Operand.tmp 124) (Go.Operand.tmp 127) 3, type := 4, pos := "outright.go:64", after := #[{ on := 10, ground := Go.Ground.data }, { on := 13, ground := Go.Ground.data }, { on := 7, ground := Go.Ground.guard }], guard := some (7, true) } : Oper)
def oShOne16 : Oper := ({ dst := some 129, op := Go.Op.pick (Go.Operand.tmp 121) (Go.Operand.tmp 128) (Go.Operand.const (Go.Value.bool false)), type := 4, pos := "outright.go:64", after := #[{ on := 7, ground := Go.Ground.data }, { on := 14, ground := Go.Ground.data }, { on := 3, ground := Go.Ground.guard }], guard := some (3, false) } : Oper)
def oShOne17 : Oper := ({ dst := some 130, op := Go.Op.pick (Go.Operand.tmp 117) (Go.Operand.const (Go.Value.bool true)) (Go.Operand.tmp 129), type := 4, pos := "outright.go:64", after := #[{ on := 3, ground := Go.Ground.data }, { on := 15, ground := Go.Ground.data }], guard := none } : Oper)
def oShOne18 : Oper := ({ dst := some 131, op := Go.Op.move (Go.Operand.tmp 130), type := 4, pos := "outright.go:64", after := #[{ on := 16, ground := Go.Ground.data }, { on := 13, ground := Go.Ground.chain }], guard := none } : Oper)
def oShOne19 : Oper := ({ dst := some 132, op := Go.Op.call { callee := Go.Callee.value (Go.Operand.func 10), args := #[], argTypes := #[] }, type := 4, pos := "outright.go:64", after := #[{ on := 17, ground := Go.Ground.chain }, { on := 17, ground := Go.Ground.guard }], guard := some (17, true) } : Oper)
def oShOne20 : Oper := ({ dst := some 133, op := Go.Op.pick (Go.Operand.tmp 131) (Go.Operand.tmp 132) (Go.Operand.const (Go.Value.bool false)), type := 4, pos := "outright.go:64", after := #[{ on := 17, ground := Go.Ground.data }, { on := 18, ground := Go.Ground.data }], guard := none } : Oper)
def oShOne21 : Oper := ({ dst := some 6, op := Go.Op.assign (Go.Operand.tmp 133), type := 4, pos := "outright.go:64", after := #[{ on := 19, ground := Go.Ground.data }, { on := 18, ground := Go.Ground.chain }, { on := 0, ground := Go.Ground.phase }, { on := 1, ground := Go.Ground.phase }, { on := 2, ground := Go.Ground.phase }, { on := 3, ground := Go.Ground.phase }, { on := 4, ground := Go.Ground.phase }, { on := 5, ground := Go.Ground.phase }, { on := 6, ground := Go.Ground.phase }, { on := 7, ground := Go.Ground.phase }, { on := 8, ground := Go.Ground.phase }, { on := 9, ground := Go.Ground.phase }, { on := 10, ground := Go.Ground.phase }, { on := 11, ground := Go.Ground.phase }, { on := 12, ground := Go.Ground.phase }, { on := 13, ground := Go.Ground.phase }, { on := 14, ground := Go.Ground.phase }, { on := 15, ground := Go.Ground.phase }, { on := 16, ground := Go.Ground.phase }, { on := 17, ground := Go.Ground.phase }, { on := 18, ground := Go.Ground.phase }, { on := 19, ground := Go.Ground.phase }], guard := none } : Oper)
end
open Go.RowKit Go.ChangeShapes Go.WideShapes Go.ChangeAt
open Go.ChangeMaps (open_string shut_string)
theorem many_mk {n : Int} (h1 : 1 ≤ n) (h2 : n ≤ 64) : manyB n = true := by unfold manyB; rw [decide_eq_true h1, decide_eq_true h2]; rfl
theorem hom_bd (l : List UInt8) (n : Int) (h1 : 1 ≤ n) (h2 : n ≤ 64) : 0 ≤ homI l n ∧ homI l n < n := by
  unfold homI
  rw [many_mk h1 h2, if_pos rfl]
  exact pickI_bd l n h1
theorem hom_one (l : List UInt8) : homI l 1 = 0 := by
  have := hom_bd l 1 (by decide) (by decide); omega
theorem gat_val (c n : Int) (h1 : 1 ≤ n) (h2 : n ≤ 64) (hc : 1 ≤ c) : gatI c n = (c - 1) % n := by
  unfold gatI
  rw [many_mk h1 h2, decide_eq_true hc]; rfl
theorem gat_bd (c n : Int) (h1 : 1 ≤ n) (h2 : n ≤ 64) (hc : 1 ≤ c) : 0 ≤ gatI c n ∧ gatI c n < n := by
  rw [gat_val c n h1 h2 hc]
  exact ⟨Int.emod_nonneg _ (by omega), Int.emod_lt_of_pos _ (by omega)⟩
theorem gat_next (c n : Int) (h1 : 1 ≤ n) (h2 : n ≤ 64) (hc : 1 ≤ c) : gatI (c + 1) n = (gatI c n + 1) % n := by
  rw [gat_val c n h1 h2 hc, gat_val (c + 1) n h1 h2 (by omega), Int.emod_add_emod]
  congr 1; omega
theorem gat_one (c : Int) (hc : 1 ≤ c) : gatI c 1 = 0 := by
  have := gat_bd c 1 (by decide) (by decide) hc; omega
theorem hubs_at (l : List UInt8) (n : Int) (h1 : 1 ≤ n) (k : Nat) (x : Int) (hx : (hubsI l n)[k]? = some x) : 0 ≤ x ∧ x < n := by
  unfold hubsI at hx
  split at hx
  · split at hx
    · have hk := (List.getElem?_eq_some_iff.1 hx).1
      rw [upI_len] at hk
      rw [upI_get _ _ hk] at hx
      cases hx; omega
    · have hk := (List.getElem?_eq_some_iff.1 hx).1
      simp at hk
      subst hk
      simp at hx
      subst hx
      exact pickI_bd _ n h1
  · cases hx
theorem hubs_up (l : List UInt8) (n : Int) (k : Nat) (x y : Int) (hx : (hubsI l n)[k]? = some x) (hy : (hubsI l n)[k + 1]? = some y) : x < y := by
  unfold hubsI at hx hy
  split at hx
  · next hc =>
    rw [if_pos hc] at hy
    split at hx
    · next hw =>
      rw [if_pos hw] at hy
      have hk := (List.getElem?_eq_some_iff.1 hy).1
      rw [upI_len] at hk
      rw [upI_get _ _ (by omega)] at hx
      rw [upI_get _ _ hk] at hy
      cases hx; cases hy; omega
    · next hw =>
      rw [if_neg hw] at hy
      simp at hy
  · cases hx
theorem nam_hubs1 (b : List UInt8) (n : Int) (hn : manyB n = true) (h : namB b = true) : hubsI b n = [hubI b n] := by
  unfold hubsI hubI
  rw [hn, h, nam_fil b h, nam_wil b h]; rfl
namespace lawShardOne
set_option maxHeartbeats 2000000 in
set_option maxRecDepth 100000 in
theorem walkIn (w : World) (hG : Glo w) (a : List UInt8) (ha : a.length ≤ 2000) (c : Int) (c1 : 1 ≤ c) (c2 : c ≤ 2147483648) (n : Int) (h1 : 1 ≤ n) (h2 : n ≤ 64) :
    Calls Tryd.prog 8 #[.string ⟨a.toArray⟩, .int .i64 c, .int .i64 n] w fun e w' => e = .returned (.bool true) ∧ Below w.heap.size w w' := by
  have HG := Lib.hid hG
  have hb : Below w.heap.size w w := Below.refl _ _
  clear hG
  have i1 : ¬ (2000 : Int) < (a.length : Int) := by omega
  have i2 : ¬ c < 1 := by omega
  have i3 : ¬ 2147483648 < c := by omega
  have i4 : ¬ n < 1 := by omega
  have i5 : ¬ 64 < n := by omega
  have hho := hom_bd a n h1 h2
  have hga := gat_bd c n h1 h2 c1
  have hgn := gat_next c n h1 h2 c1
  have HH1 := Lib.hid (hom_one a)
  have HG1 := Lib.hid (gat_one c c1)
  have hxl := hubs_len a n
  have HAT : Hid (∀ (k : Nat) (x : Int), (hubsI a n)[k]? = some x → 0 ≤ x ∧ x < n) := fun k x hx => hubs_at a n h1 k x hx
  have HUP : Hid (∀ (k : Nat) (x y : Int), (hubsI a n)[k]? = some x → (hubsI a n)[k + 1]? = some y → x < y) := fun k x y hx hy => hubs_up a n k x y hx hy
  have HNM : Hid (namB a = true → hubsI a n = [hubI a n]) := fun h => nam_hubs1 a n (many_mk h1 h2) h
  obtain ⟨hv, hhv⟩ : ∃ v, homI a n = v := ⟨_, rfl⟩
  obtain ⟨g, hg⟩ : ∃ v, gatI c n = v := ⟨_, rfl⟩
  obtain ⟨g2, hg2⟩ : ∃ v, gatI (c + 1) n = v := ⟨_, rfl⟩
  obtain ⟨X, hX⟩ : ∃ v, hubsI a n = v := ⟨_, rfl⟩
  obtain ⟨v, hvv⟩ : ∃ v, hubI a n = v := ⟨_, rfl⟩
  obtain ⟨nx, hnx⟩ : ∃ v, X.length = v := ⟨_, rfl⟩
  rw [hhv] at hho
  rw [hg] at hga
  rw [hg, hg2] at hgn
  rw [hX, hnx] at hxl
  rw [hX] at HAT HUP
  rw [hX, hvv] at HNM
  have hcw : IntKind.i64.wrap (c + 1) = c + 1 := IntWalk.i64_in _ (by omega)
  have hgw : IntKind.i64.wrap (g + 1) = g + 1 := IntWalk.i64_in _ (by omega)
  have htm : (g + 1).tmod n = g2 := by rw [Int.tmod_eq_emod_of_nonneg (by omega)]; exact hgn.symm
  have j1 : ¬ hv < 0 := by omega
  have j2 : ¬ n ≤ hv := by omega
  have j3 : ¬ g < 0 := by omega
  have j4 : ¬ n ≤ g := by omega
  have HHV := Lib.hid hhv
  have HGV := Lib.hid hg
  have HG2 := Lib.hid hg2
  have HX := Lib.hid hX
  have HV := Lib.hid hvv
  have HXL := Lib.hid hnx
  clear hhv hg hg2 hX hvv hnx hgn hho hga
  go_enter Tryd.func8, Tryd.ntmps8
  go_wp2_with fail
  refine (home_eq a n hv _ (by omega) HHV.out).mono ?_
  rintro e w1 ⟨rfl, hb1⟩
  replace hb := below_more hb hb1
  clear hb1
  go_wp2_with fail
  refine (gate_eq c n g _ (by omega) HGV.out).mono ?_
  rintro e w1 ⟨rfl, rfl⟩
  go_wp2_with fail
  refine (gate_eq (c + 1) n g2 _ (by omega) HG2.out).mono ?_
  rintro e w1 ⟨rfl, rfl⟩
  go_wp2_with fail
  refine (home_eq a 1 0 _ (by omega) HH1.out).mono ?_
  rintro e w1 ⟨rfl, hb1⟩
  replace hb := below_more hb hb1
  clear hb1
  go_wp2_with fail
  refine (gate_eq c 1 0 _ (by omega) HG1.out).mono ?_
  rintro e w1 ⟨rfl, rfl⟩
  go_wp2_with fail
  refine (hubs_eq a n X _ (HG.out.below hb) (by omega) HX.out).mono ?_
  rintro e w4 ⟨A1, cc, rfl, hs1, hcc1, hb2⟩
  replace hb := below_more hb hb2
  clear hb2 hcc1
  rw [HXL.out] at hs1 ⊢
  have HS1 := Lib.hid hs1
  clear hs1
  clear hcw hgw htm j1 j2 j3 j4
  go_wp2_with fail
  go_loopw [11] (fun i wr => ∃ k : Nat, i = .int .i64 k ∧ k ≤ nx ∧ Below w4.heap.size w4 wr) (fun i _ => nx - (intOf i).toNat)
  case atStart => exact ⟨0, rfl, by omega, Below.refl _ _⟩
  case round =>
    obtain ⟨k, rfl, hk, hb4⟩ := hrel
    by_cases hlt : k < nx
    · obtain ⟨b1, o1, x, rfl, hx, hcx⟩ := (HS1.out.below hb4).at_ hlt
      have hx1 := HAT.out k x hx
      have l1 : ¬ x < 0 := by omega
      have l2 : ¬ n ≤ x := by omega
      have m1 : decide (x < 0) = false := decide_eq_false l1
      have m2 : decide (n ≤ x) = false := decide_eq_false l2
      have hk0 : (0 : Int) ≤ (k : Int) := by omega
      have hkx : (k : Int) < (nx : Int) := by omega
      have hb5 : ∀ N, Below w4.heap.size w4 (wr.drewN N) := fun N => below_drewN hb4 N
      by_cases hk1 : 0 < k
      · obtain ⟨j, hj⟩ : ∃ j, k = j + 1 := ⟨k - 1, by omega⟩
        obtain ⟨b2, o2, z, he, hz, hcz⟩ := (HS1.out.below hb4).at_ (k := j) (by omega)
        cases he
        have hzx := HUP.out j z x hz (by rw [← hj]; exact hx)
        have hw8 : IntKind.i64.wrap ((k : Int) - 1) = (j : Int) := by rw [IntWalk.i64_in _ (by omega)]; omega
        have k1 : (0 : Int) < (k : Int) := by omega
        have m3 : decide ((0 : Int) < (k : Int)) = true := decide_eq_true k1
        have m4 : decide (x ≤ z) = false := decide_eq_false (by omega)
        have hj0 : (0 : Int) ≤ (j : Int) := by omega
        have hjx : (j : Int) < (nx : Int) := by omega
        clear hx hz hj hzx hx1
        go_wp2_with fail
        go_quiet (fail)
        go_wp2_with fail
        go_roundw
        case rel => exact ⟨k + 1, by go_num, by omega, hb5 _⟩
        case measure => simp [intOf]; omega
      · have k1 : ¬ (0 : Int) < (k : Int) := by omega
        have m3 : decide ((0 : Int) < (k : Int)) = false := decide_eq_false k1
        clear hx hx1
        go_wp2_with fail
        go_quiet (fail)
        go_wp2_with fail
        go_roundw
        case rel => exact ⟨k + 1, by go_num, by omega, hb5 _⟩
        case measure => simp [intOf]; omega
    · replace hb := below_more hb hb4
      cases hna : namB a with
      | true =>
        have HN := Lib.hid hna
        have hXv := HNM.out hna
        have hnx1 : nx = 1 := by rw [← HXL.out, hXv]; rfl
        have hS := HS1.out.below hb4
        rw [hXv, hnx1] at hS
        obtain ⟨b1, o1, x, rfl, hx, hcx⟩ := hS.at_ (k := 0) (by omega)
        simp at hx
        subst hx
        rw [Nat.add_zero] at hcx
        have n1 : ((nx : Int) == 1) = true := by rw [hnx1]; rfl
        have n2 : 0 < nx := by omega
        clear hna hXv hnx1 hS
        go_wp2_with fail
        refine wp_region_held_drew (S := (fun w' => Below w.heap.size w w' ∧ w'.cell? ⟨b1, o1, none⟩ = some (.int .i64 v))) (by kernel_rfl) (⟨hb.drew, hcx⟩) (fun hHeld => ?_)
        refine tkY 0 oShOne1 ?vv2_0 rfl (by kernel_rfl) (by kernel_rfl) (by kernel_rfl) (fun _ _ _ h => h) (by rfl) ?hy2_0 (by assumption) ?rest2_0
        case hy2_0 => (intro w hSw; unfold oShOne1; (try dsimp only at hSw); (try go_split_ands); go_simp; all_goals with_reducible rfl)
        try simp only [oShOne1, Act.put, sA, sB, sC]
        refine wpAnyH_ready (rs := [1]) (by kernel_rfl) (by simp) ?_
        refine AllReadyH.cons (o := oShOne2) rfl (fun K hK => ?_) AllReadyH.nil
        unfold oShOne2
        go_simp
        (go_at_call 28; refine (tpName_eq a true _ (by omega) HN.out).mono ?_; rintro e w6 ⟨rfl, hb6⟩)
        refine hK.out _ _ ?_ (fun hHeld => ?_)
        · (exact ⟨below_more hHeld.1 hb6, (hb6.cell (World.block_lt_of_cell? _ _ hHeld.2)).trans hHeld.2⟩)
        clear hK K
        try simp only [oShOne2, Act.put, sA, sB, sC]
        refine tkY 2 oShOne3 ?vv2_2 rfl (by kernel_rfl) (by kernel_rfl) (by kernel_rfl) (fun _ _ _ h => h) (by rfl) ?hy2_2 (by assumption) ?rest2_2
        case hy2_2 => (intro w hSw; unfold oShOne3; (try dsimp only at hSw); (try go_split_ands); go_simp; all_goals with_reducible rfl)
        try simp only [oShOne3, Act.put, sA, sB, sC]
        refine tkY 3 oShOne4 ?vv2_3 rfl (by kernel_rfl) (by kernel_rfl) (by kernel_rfl) (fun _ _ _ h => h) (by rfl) ?hy2_3 (by assumption) ?rest2_3
        case hy2_3 => (intro w hSw; unfold oShOne4; (try dsimp only at hSw); (try go_split_ands); go_simp; all_goals with_reducible rfl)
        try simp only [oShOne4, Act.put, sA, sB, sC]
        refine tkY 4 oShOne5 ?vv2_4 rfl (by kernel_rfl) (by kernel_rfl) (by kernel_rfl) (fun _ _ _ h => h) (by rfl) ?hy2_4 (by assumption) ?rest2_4
        case hy2_4 => (intro w hSw; unfold oShOne5; (try dsimp only at hSw); (try go_split_ands); go_simp; all_goals with_reducible rfl)
        try simp only [oShOne5, Act.put, sA, sB, sC]
        refine tkY 5 oShOne6 ?vv2_5 rfl (by kernel_rfl) (by kernel_rfl) (by kernel_rfl) (fun _ _ _ h => h) (by rfl) ?hy2_5 (by assumption) ?rest2_5
        case hy2_5 => (intro w hSw; unfold oShOne6; (try dsimp only at hSw); (try go_split_ands); go_simp; all_goals with_reducible rfl)
        try simp only [oShOne6, Act.put, sA, sB, sC]
        refine tkY 6 oShOne7 ?vv2_6 rfl (by kernel_rfl) (by kernel_rfl) (by kernel_rfl) (fun _ _ _ h => h) (by rfl) ?hy2_6 (by assumption) ?rest2_6
        case hy2_6 => (intro w hSw; unfold oShOne7; (try dsimp only at hSw); (try go_split_ands); go_simp; all_goals with_reducible rfl)
        try simp only [oShOne7, Act.put, sA, sB, sC]
        refine tkY 7 oShOne8 ?vv2_7 rfl (by kernel_rfl) (by kernel_rfl) (by kernel_rfl) (fun _ _ _ h => h) (by rfl) ?hy2_7 (by assumption) ?rest2_7
        case hy2_7 => (intro w hSw; unfold oShOne8; (try dsimp only at hSw); (try go_split_ands); go_simp; all_goals with_reducible rfl)
        try simp only [oShOne8, Act.put, sA, sB, sC]
        refine tkY 8 oShOne9 ?vv2_8 rfl (by kernel_rfl) (by kernel_rfl) (by kernel_rfl) (fun _ _ _ h => h) (by rfl) ?hy2_8 (by assumption) ?rest2_8
        case hy2_8 => (intro w hSw; unfold oShOne9; (try dsimp only at hSw); (try go_split_ands); go_simp; all_goals with_reducible rfl)
        try simp only [oShOne9, Act.put, sA, sB, sC]
        refine tkY 9 oShOne10 ?vv2_9 rfl (by kernel_rfl) (by kernel_rfl) (by kernel_rfl) (fun _ _ _ h => h) (by rfl) ?hy2_9 (by assumption) ?rest2_9
        case hy2_9 => (intro w hSw; unfold oShOne10; (try dsimp only at hSw); (try go_split_ands); go_simp; all_goals with_reducible rfl)
        try simp only [oShOne10, Act.put, sA, sB, sC]
        refine tkY 10 oShOne11 ?vv2_10 rfl (by kernel_rfl) (by kernel_rfl) (by kernel_rfl) (fun _ _ _ h => h) (by rfl) ?hy2_10 (by assumption) ?rest2_10
        case hy2_10 => (intro w hSw; unfold oShOne11; (try dsimp only at hSw); (try go_split_ands); go_simp; all_goals with_reducible rfl)
        try simp only [oShOne11, Act.put, sA, sB, sC]
        refine tkY 11 oShOne12 ?vv2_11 rfl (by kernel_rfl) (by kernel_rfl) (by kernel_rfl) (fun _ _ _ h => h) (by rfl) ?hy2_11 (by assumption) ?rest2_11
        case hy2_11 => (intro w hSw; unfold oShOne12; (try dsimp only at hSw); (try go_split_ands); go_simp; all_goals with_reducible rfl)
        try simp only [oShOne12, Act.put, sA, sB, sC]
        refine tkY 12 oShOne13 ?vv2_12 rfl (by kernel_rfl) (by kernel_rfl) (by kernel_rfl) (fun _ _ _ h => h) (by rfl) ?hy2_12 (by assumption) ?rest2_12
        case hy2_12 => (intro w hSw; unfold oShOne13; (try dsimp only at hSw); (try go_split_ands); go_simp; all_goals with_reducible rfl)
        try simp only [oShOne13, Act.put, sA, sB, sC]
        refine wpAnyH_ready (rs := [13]) (by kernel_rfl) (by simp) ?_
        refine AllReadyH.cons (o := oShOne14) rfl (fun K hK => ?_) AllReadyH.nil
        unfold oShOne14
        go_simp
        (go_at_call 18; refine (hub_eq a n v _ (HG.out.below hHeld.1) (by omega) HV.out).mono ?_; rintro e w7 ⟨rfl, hb6⟩)
        refine hK.out _ _ ?_ (fun hHeld => ?_)
        · (exact ⟨below_more hHeld.1 hb6, (hb6.cell (World.block_lt_of_cell? _ _ hHeld.2)).trans hHeld.2⟩)
        clear hK K
        try simp only [oShOne14, Act.put, sA, sB, sC]
        refine tkY 14 oShOne15 ?vv2_14 rfl (by kernel_rfl) (by kernel_rfl) (by kernel_rfl) (fun _ _ _ h => h) (by rfl) ?hy2_14 (by assumption) ?rest2_14
        case hy2_14 => (intro w hSw; unfold oShOne15; (try dsimp only at hSw); (try go_split_ands); go_simp; all_goals with_reducible rfl)
        try simp only [oShOne15, Act.put, sA, sB, sC]
        refine tkY 15 oShOne16 ?vv2_15 rfl (by kernel_rfl) (by kernel_rfl) (by kernel_rfl) (fun _ _ _ h => h) (by rfl) ?hy2_15 (by assumption) ?rest2_15
        case hy2_15 => (intro w hSw; unfold oShOne16; (try dsimp only at hSw); (try go_split_ands); go_simp; all_goals with_reducible rfl)
        try simp only [oShOne16, Act.put, sA, sB, sC]
        refine tkY 16 oShOne17 ?vv2_16 rfl (by kernel_rfl) (by kernel_rfl) (by kernel_rfl) (fun _ _ _ h => h) (by rfl) ?hy2_16 (by assumption) ?rest2_16
        case hy2_16 => (intro w hSw; unfold oShOne17; (try dsimp only at hSw); (try go_split_ands); go_simp; all_goals with_reducible rfl)
        try simp only [oShOne17, Act.put, sA, sB, sC]
        refine tkY 17 oShOne18 ?vv2_17 rfl (by kernel_rfl) (by kernel_rfl) (by kernel_rfl) (fun _ _ _ h => h) (by rfl) ?hy2_17 (by assumption) ?rest2_17
        case hy2_17 => (intro w hSw; unfold oShOne18; (try dsimp only at hSw); (try go_split_ands); go_simp; all_goals with_reducible rfl)
        try simp only [oShOne18, Act.put, sA, sB, sC]
        refine wpAnyH_ready (rs := [18]) (by kernel_rfl) (by simp) ?_
        refine AllReadyH.cons (o := oShOne19) rfl (fun K hK => ?_) AllReadyH.nil
        unfold oShOne19
        go_simp
        (go_at_call 10; refine (awake8_any _ (HG.out.below hHeld.1)).mono ?_; rintro e w8 ⟨rfl, hb6⟩)
        refine hK.out _ _ ?_ (fun hHeld => ?_)
        · (exact ⟨below_more hHeld.1 hb6, (hb6.cell (World.block_lt_of_cell? _ _ hHeld.2)).trans hHeld.2⟩)
        clear hK K
        try simp only [oShOne19, Act.put, sA, sB, sC]
        refine tkY 19 oShOne20 ?vv2_19 rfl (by kernel_rfl) (by kernel_rfl) (by kernel_rfl) (fun _ _ _ h => h) (by rfl) ?hy2_19 (by assumption) ?rest2_19
        case hy2_19 => (intro w hSw; unfold oShOne20; (try dsimp only at hSw); (try go_split_ands); go_simp; all_goals with_reducible rfl)
        try simp only [oShOne20, Act.put, sA, sB, sC]
        refine tkY 20 oShOne21 ?vv2_20 rfl (by kernel_rfl) (by kernel_rfl) (by kernel_rfl) (fun _ _ _ h => h) (by rfl) ?hy2_20 (by assumption) ?rest2_20
        case hy2_20 => (intro w hSw; unfold oShOne21; (try dsimp only at hSw); (try go_split_ands); go_simp; all_goals with_reducible rfl)
        try simp only [oShOne21, Act.put, sA, sB, sC]
        refine wpAnyH_done (by kernel_rfl) ?_ _
        have hb7 := hHeld.1
        clear hHeld
        go_wp2_with fail
        go_ret
        exact ⟨rfl, hb7⟩
      | false =>
        have HN := Lib.hid hna
        clear hna
        go_wp2_with fail
        refine wp_region_held_drew (S := (fun w' => Below w.heap.size w w')) (by kernel_rfl) (hb.drew) (fun hHeld => ?_)
        refine tkY 0 oShOne1 ?vv3_0 rfl (by kernel_rfl) (by kernel_rfl) (by kernel_rfl) (fun _ _ _ h => h) (by rfl) ?hy3_0 (by assumption) ?rest3_0
        case hy3_0 => (intro w hSw; unfold oShOne1; (try dsimp only at hSw); (try go_split_ands); go_simp; all_goals with_reducible rfl)
        try simp only [oShOne1, Act.put, sA, sB, sC]
        refine wpAnyH_ready (rs := [1]) (by kernel_rfl) (by simp) ?_
        refine AllReadyH.cons (o := oShOne2) rfl (fun K hK => ?_) AllReadyH.nil
        unfold oShOne2
        go_simp
        (go_at_call 28; refine (tpName_eq a false _ (by omega) HN.out).mono ?_; rintro e w6 ⟨rfl, hb6⟩)
        refine hK.out _ _ ?_ (fun hHeld => ?_)
        · (exact below_more hHeld hb6)
        clear hK K
        try simp only [oShOne2, Act.put, sA, sB, sC]
        refine tkY 2 oShOne3 ?vv3_2 rfl (by kernel_rfl) (by kernel_rfl) (by kernel_rfl) (fun _ _ _ h => h) (by rfl) ?hy3_2 (by assumption) ?rest3_2
        case hy3_2 => (intro w hSw; unfold oShOne3; (try dsimp only at hSw); (try go_split_ands); go_simp; all_goals with_reducible rfl)
        try simp only [oShOne3, Act.put, sA, sB, sC]
        refine tkY 3 oShOne4 ?vv3_3 rfl (by kernel_rfl) (by kernel_rfl) (by kernel_rfl) (fun _ _ _ h => h) (by rfl) ?hy3_3 (by assumption) ?rest3_3
        case hy3_3 => (intro w hSw; unfold oShOne4; (try dsimp only at hSw); (try go_split_ands); go_simp; all_goals with_reducible rfl)
        try simp only [oShOne4, Act.put, sA, sB, sC]
        refine wpAnyH_take (i := 4) (oi := oShOne5) (v := undef) rfl (by kernel_rfl) (by kernel_rfl) (by kernel_rfl) (fun _ _ _ h => h) (Or.inr ⟨by rfl, rfl⟩) (by assumption) ?rest3_4
        try simp only [oShOne5, Act.put, sA, sB, sC]
        refine wpAnyH_take (i := 5) (oi := oShOne6) (v := undef) rfl (by kernel_rfl) (by kernel_rfl) (by kernel_rfl) (fun _ _ _ h => h) (Or.inr ⟨by rfl, rfl⟩) (by assumption) ?rest3_5
        try simp only [oShOne6, Act.put, sA, sB, sC]
        refine wpAnyH_take (i := 6) (oi := oShOne7) (v := undef) rfl (by kernel_rfl) (by kernel_rfl) (by kernel_rfl) (fun _ _ _ h => h) (Or.inr ⟨by rfl, rfl⟩) (by assumption) ?rest3_6
        try simp only [oShOne7, Act.put, sA, sB, sC]
        refine wpAnyH_take (i := 7) (oi := oShOne8) (v := undef) rfl (by kernel_rfl) (by kernel_rfl) (by kernel_rfl) (fun _ _ _ h => h) (Or.inr ⟨by rfl, rfl⟩) (by assumption) ?rest3_7
        try simp only [oShOne8, Act.put, sA, sB, sC]
        refine wpAnyH_take (i := 8) (oi := oShOne9) (v := undef) rfl (by kernel_rfl) (by kernel_rfl) (by kernel_rfl) (fun _ _ _ h => h) (Or.inr ⟨by rfl, rfl⟩) (by assumption) ?rest3_8
        try simp only [oShOne9, Act.put, sA, sB, sC]
        refine wpAnyH_take (i := 9) (oi := oShOne10) (v := undef) rfl (by kernel_rfl) (by kernel_rfl) (by kernel_rfl) (fun _ _ _ h => h) (Or.inr ⟨by rfl, rfl⟩) (by assumption) ?rest3_9
        try simp only [oShOne10, Act.put, sA, sB, sC]
        refine wpAnyH_take (i := 10) (oi := oShOne11) (v := undef) rfl (by kernel_rfl) (by kernel_rfl) (by kernel_rfl) (fun _ _ _ h => h) (Or.inr ⟨by rfl, rfl⟩) (by assumption) ?rest3_10
        try simp only [oShOne11, Act.put, sA, sB, sC]
        refine wpAnyH_take (i := 11) (oi := oShOne12) (v := undef) rfl (by kernel_rfl) (by kernel_rfl) (by kernel_rfl) (fun _ _ _ h => h) (Or.inr ⟨by rfl, rfl⟩) (by assumption) ?rest3_11
        try simp only [oShOne12, Act.put, sA, sB, sC]
        refine wpAnyH_take (i := 12) (oi := oShOne13) (v := undef) rfl (by kernel_rfl) (by kernel_rfl) (by kernel_rfl) (fun _ _ _ h => h) (Or.inr ⟨by rfl, rfl⟩) (by assumption) ?rest3_12
        try simp only [oShOne13, Act.put, sA, sB, sC]
        refine wpAnyH_take (i := 13) (oi := oShOne14) (v := undef) rfl (by kernel_rfl) (by kernel_rfl) (by kernel_rfl) (fun _ _ _ h => h) (Or.inr ⟨by rfl, rfl⟩) (by assumption) ?rest3_13
        try simp only [oShOne14, Act.put, sA, sB, sC]
        refine wpAnyH_take (i := 14) (oi := oShOne15) (v := undef) rfl (by kernel_rfl) (by kernel_rfl) (by kernel_rfl) (fun _ _ _ h => h) (Or.inr ⟨by rfl, rfl⟩) (by assumption) ?rest3_14
        try simp only [oShOne15, Act.put, sA, sB, sC]
        refine wpAnyH_take (i := 15) (oi := oShOne16) (v := undef) rfl (by kernel_rfl) (by kernel_rfl) (by kernel_rfl) (fun _ _ _ h => h) (Or.inr ⟨by rfl, rfl⟩) (by assumption) ?rest3_15
        try simp only [oShOne16, Act.put, sA, sB, sC]
        refine tkY 16 oShOne17 ?vv3_16 rfl (by kernel_rfl) (by kernel_rfl) (by kernel_rfl) (fun _ _ _ h => h) (by rfl) ?hy3_16 (by assumption) ?rest3_16
        case hy3_16 => (intro w hSw; unfold oShOne17; (try dsimp only at hSw); (try go_split_ands); go_simp; all_goals with_reducible rfl)
        try simp only [oShOne17, Act.put, sA, sB, sC]
        refine tkY 17 oShOne18 ?vv3_17 rfl (by kernel_rfl) (by kernel_rfl) (by kernel_rfl) (fun _ _ _ h => h) (by rfl) ?hy3_17 (by assumption) ?rest3_17
        case hy3_17 => (intro w hSw; unfold oShOne18; (try dsimp only at hSw); (try go_split_ands); go_simp; all_goals with_reducible rfl)
        try simp only [oShOne18, Act.put, sA, sB, sC]
        refine wpAnyH_ready (rs := [18]) (by kernel_rfl) (by simp) ?_
        refine AllReadyH.cons (o := oShOne19) rfl (fun K hK => ?_) AllReadyH.nil
        unfold oShOne19
        go_simp
        (go_at_call 10; refine (awake8_any _ (HG.out.below hHeld)).mono ?_; rintro e w8 ⟨rfl, hb6⟩)
        refine hK.out _ _ ?_ (fun hHeld => ?_)
        · (exact below_more hHeld hb6)
        clear hK K
        try simp only [oShOne19, Act.put, sA, sB, sC]
        refine tkY 19 oShOne20 ?vv3_19 rfl (by kernel_rfl) (by kernel_rfl) (by kernel_rfl) (fun _ _ _ h => h) (by rfl) ?hy3_19 (by assumption) ?rest3_19
        case hy3_19 => (intro w hSw; unfold oShOne20; (try dsimp only at hSw); (try go_split_ands); go_simp; all_goals with_reducible rfl)
        try simp only [oShOne20, Act.put, sA, sB, sC]
        refine tkY 20 oShOne21 ?vv3_20 rfl (by kernel_rfl) (by kernel_rfl) (by kernel_rfl) (fun _ _ _ h => h) (by rfl) ?hy3_20 (by assumption) ?rest3_20
        case hy3_20 => (intro w hSw; unfold oShOne21; (try dsimp only at hSw); (try go_split_ands); go_simp; all_goals with_reducible rfl)
        try simp only [oShOne21, Act.put, sA, sB, sC]
        refine wpAnyH_done (by kernel_rfl) ?_ _
        have hb7 := hHeld
        clear hHeld
        go_wp2_with fail
        go_ret
        exact ⟨rfl, hb7⟩
theorem walk (w : World) (hG : Glo w) (a : List UInt8) (ha : a.length ≤ 9223372036854775807) (p : Int) (hp : (Lit.int .i64 p).wf = true) (n : Int) (hn : (Lit.int .i64 n).wf = true) :
    Calls Tryd.prog 8 #[.string ⟨a.toArray⟩, .int .i64 p, .int .i64 n] w fun e w' => e = .returned (.bool true) ∧ Below w.heap.size w w' := by
  clear hp hn
  by_cases h1 : 2000 < a.length
  · have i1 : (2000 : Int) < (a.length : Int) := by omega
    have hb : Below w.heap.size w w := Below.refl _ _
    have HG := Lib.hid hG
    clear hG
    go_enter Tryd.func8, Tryd.ntmps8
    go_wp2_with fail
    refine (awake8_any _ (HG.out.below hb)).mono ?_
    rintro e w1 ⟨rfl, hb1⟩
    replace hb := below_more hb hb1
    clear hb1
    go_wp2_with fail
    go_ret
    exact ⟨rfl, hb⟩
  by_cases h2 : p < 1
  · have i1 : ¬ (2000 : Int) < (a.length : Int) := by omega
    have hb : Below w.heap.size w w := Below.refl _ _
    have HG := Lib.hid hG
    clear hG
    go_enter Tryd.func8, Tryd.ntmps8
    go_wp2_with fail
    refine (awake8_any _ (HG.out.below hb)).mono ?_
    rintro e w1 ⟨rfl, hb1⟩
    replace hb := below_more hb hb1
    clear hb1
    go_wp2_with fail
    go_ret
    exact ⟨rfl, hb⟩
  by_cases h3 : 2147483648 < p
  · have i1 : ¬ (2000 : Int) < (a.length : Int) := by omega
    have hb : Below w.heap.size w w := Below.refl _ _
    have HG := Lib.hid hG
    clear hG
    go_enter Tryd.func8, Tryd.ntmps8
    go_wp2_with fail
    refine (awake8_any _ (HG.out.below hb)).mono ?_
    rintro e w1 ⟨rfl, hb1⟩
    replace hb := below_more hb hb1
    clear hb1
    go_wp2_with fail
    go_ret
    exact ⟨rfl, hb⟩
  by_cases h4 : n < 1
  · have i1 : ¬ (2000 : Int) < (a.length : Int) := by omega
    have hb : Below w.heap.size w w := Below.refl _ _
    have HG := Lib.hid hG
    clear hG
    go_enter Tryd.func8, Tryd.ntmps8
    go_wp2_with fail
    refine (awake8_any _ (HG.out.below hb)).mono ?_
    rintro e w1 ⟨rfl, hb1⟩
    replace hb := below_more hb hb1
    clear hb1
    go_wp2_with fail
    go_ret
    exact ⟨rfl, hb⟩
  by_cases h5 : 64 < n
  · have i1 : ¬ (2000 : Int) < (a.length : Int) := by omega
    have hb : Below w.heap.size w w := Below.refl _ _
    have HG := Lib.hid hG
    clear hG
    go_enter Tryd.func8, Tryd.ntmps8
    go_wp2_with fail
    refine (awake8_any _ (HG.out.below hb)).mono ?_
    rintro e w1 ⟨rfl, hb1⟩
    replace hb := below_more hb hb1
    clear hb1
    go_wp2_with fail
    go_ret
    exact ⟨rfl, hb⟩
  exact walkIn w hG a (by omega) p (by omega) (by omega) n (by omega) (by omega)
set_option maxRecDepth 100000 in
theorem lifted (os : Os) (started : os.Started) (H : Type) (enc : TypeId × Value → H) :
    ReturnsInHanded {} Tryd.checked os 8 .any (fun w args => (Rows.shardOneSpec.pre enc Tryd.prog Tryd.f8 [] false w args ∧ laidMetH Tryd.prog laidL w) ∧ sizedMet enc Tryd.prog Tryd.f8 (OpenSpec.ofChange Rows.shardOneSpec) false w args)
      (Rows.shardOneSpec.post enc Tryd.prog Tryd.f8 false true false false) := by
  refine handed_laid (C := Tryd.checked) (X := fun w _ => laidMetH Tryd.prog laidL w) own_none started (by kernel_rfl) Tryd.func8 (laid_witness os Rows.shardOneSpec #[.string ByteArray.empty, .int .i64 0, .int .i64 0] (by kernel_rfl) (by kernel_rfl) (by kernel_rfl)) ?_
  intro W base args ds gs before hval0 hW hsh
  have hval : ∀ (j : Nat) t v, Tryd.f8.params[j]? = some t → args[j]? = some v → Value.okWide Tryd.prog W .any base t v := hval0
  have hWk := hW
  obtain ⟨p, q, hA0, hV, hbef, _, _⟩ := hWk
  have hA : DataW.TrodAll enc Tryd.prog W 0 (fun _ => true) true Tryd.f8.params.toList args.toList ds p := hA0
  obtain ⟨rfl, rfl⟩ := trodVars_none hV
  rw [Tryd.params8] at hA hval
  obtain ⟨v0, vs0, d0, ds0, p0, q0, hargs, rfl, hp0, h0, r0⟩ := trodAll_cons hA
  obtain ⟨v1, vs1, d1, ds1, p1, q1, rfl, rfl, hp1, h1, r1⟩ := trodAll_cons r0
  obtain ⟨v2, vs2, d2, ds2, p2, q2, rfl, rfl, hp2, h2, r2⟩ := trodAll_cons r1
  obtain ⟨rfl, rfl, hpn⟩ := trodAll_nil r2
  obtain rfl : args = #[v0, v1, v2] := by cases args; simp_all
  obtain ⟨s0, rfl, rfl, hx0, w0⟩ := open_string Tryd.underlying9 (hval 0 9 v0 rfl rfl) h0
  obtain ⟨a0, rfl, hl0⟩ := str_of s0
  obtain ⟨a1, rfl, rfl, hx1, w1⟩ := open_int Tryd.underlying3 (hval 1 3 v1 rfl rfl) h1
  obtain ⟨a2, rfl, rfl, hx2, w2⟩ := open_int Tryd.underlying3 (hval 2 3 v2 rfl rfl) h2
  refine (walk W (glo_of hsh) a0 (by unfold maxLen at w0; omega) a1 w1 a2 w2).mono fun e W' ⟨he, hg⟩ => ?_
  subst he
  exact ⟨_, rfl, law_post laid_out (by kernel_rfl) rfl (by kernel_rfl) Tryd.underlying4 hW rfl hg⟩

theorem over : Rows.shardOneRow.holds Tryd.pinned (OpenSpec.ofChange Rows.shardOneSpec) :=
  OpenClaim.holds_of_wide 8 Tryd.f8 rfl rfl rfl rfl rfl rfl rfl ⟨rfl, rfl, rfl, rfl, rfl⟩ rfl rfl rfl rfl rfl (by kernel_rfl) Tryd.func8 (by kernel_rfl)
    (of_decide_eq_true (by kernel_rfl)) (by unfold Func.isWrapper; first | (rw [if_pos (by decide +kernel)]; kernel_rfl) | (rw [if_neg (by decide +kernel)]; exact ⟨rfl, rfl⟩))
    (fun os started H enc _ => lifted os started H enc)

/-- THE STATEMENT: the card. -/
theorem proved : Rows.ShardOneCardSaid :=
  Claim7.holds_tied_plain_at .later [] [.data, .pinned] true Rows.shardOneCard.stood.harness false over (fun _ h => by cases h) (by kernel_rfl) (fun _ h => by cases h) shardOne_row_tie rfl ⟨rfl, rfl⟩ (by kernel_rfl) rfl
    (fun f fn hf hfn => by
      obtain rfl : f = 8 := Option.some.inj ((show Tryd.prog.funcNamed Rows.shardOneRow.func = some 8 by kernel_rfl).symm.trans hf) |>.symm
      obtain rfl : fn = Tryd.f8 := (Option.some.inj (Tryd.func8.symm.trans hfn)).symm
      exact ⟨by kernel_rfl, fun j t ht => by
        have hm : t ∈ Tryd.f8.params.toList := by simpa using Array.mem_of_getElem? ht
        have hall : (Tryd.f8.params.toList.all fun u => !Tryd.prog.wantsStandIn u) = true := by kernel_rfl
        exact (show Tryd.prog.wantsStandIn t = false by simpa using List.all_eq_true.1 hall t hm)⟩)
    (by kernel_rfl)
end lawShardOne
end Go.Proofs.YtiiojdlmbfkkhaaDoor
