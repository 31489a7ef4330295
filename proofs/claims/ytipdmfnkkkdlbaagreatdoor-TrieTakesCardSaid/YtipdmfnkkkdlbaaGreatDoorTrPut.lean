/-
  trie: the document's own answers: a text put into a rising row.
-/
import Derived.Test.YtipdmfnkkkdlbaaGreatDoorTrOwn
import Derived.Test.YtipdmfnkkkdlbaaGreatDoorTpRef3
import Derived.Deep.RegionHeld3
set_option linter.unusedSimpArgs false
set_option linter.unusedVariables false
namespace Go.Proofs.YtipdmfnkkkdlbaaGreatDoor
section
open Go.RowKit
def oTrPut1 : Oper := ({ dst := some 34, op := Go.Op.move (Go.Operand.tmp 0), type := 36, pos := "ref.go:64", after := #[], guard := none } : Oper)
def oTrPut2 : Oper := ({ dst := some 35, op := Go.Op.move (Go.Operand.tmp 5), type := 3, pos := "ref.go:64", after := #[], guard := none } : Oper)
def oTrPut3 : Oper := ({ dst := some 36, op := Go.Op.slice 36 (Go.Operand.tmp 34) none (some (Go.Operand.tmp 35)) none, type := 36, pos := "ref.go:64", after := #[{ on := 1, ground := Go.Ground.data }, { on := 2, ground := Go.Ground.data }], guard := none } : Oper)
def oTrPut4 : Oper := ({ dst := some 38, op := Go.Op.move (Go.Operand.tmp 1), type := 9, pos := "ref.go:64", after := #[], guard := none } : Oper)
def oTrPut5 : Oper := ({ dst := some 41, op := Go.Op.move (Go.Operand.tmp 0), type := 36, pos := "ref.go:64", after := #[], guard := none } : Oper)
def oTrPut6 : Oper := ({ dst := some 42, op := Go.Op.move (Go.Operand.tmp 5), type := 3, pos := "ref.go:64", after := #[], guard := none } : Oper)
def oTrPut7 : Oper := ({ dst := some 43, op := Go.Op.slice 36 (Go.Operand.tmp 41) (some (Go.Operand.tmp 42)) none none, type := 36, pos := "ref.go:64", after := #[{ on := 8, ground := Go.Ground.data }, { on := 9, ground := Go.Ground.data }], guard := none } : Oper)
def oTrPut8 : Oper := ({ dst := some 39, op := Go.Op.buildSlice 36 1 #[(0, Go.Operand.tmp 38)], type := 36, pos := "ref.go:64", after := #[{ on := 5, ground := Go.Ground.data }], guard := none } : Oper)
def oTrPut9 : Oper := ({ dst := some 33, op := Go.Op.buildSlice 36 0 #[], type := 36, pos := "ref.go:64", after := #[], guard := none } : Oper)
def oTrPut10 : Oper := ({ dst := some 37, op := Go.Op.call { callee := Go.Callee.builtin Go.Builtin.append, args := #[Go.Operand.tmp 33, Go.Operand.tmp 36], argTypes := #[36, 36] }, type := 36, pos := "ref.go:64", after := #[{ on := 0, ground := Go.Ground.data }, { on := 3, ground := Go.Ground.data }], guard := none } : Oper)
def oTrPut11 : Oper := ({ dst := some 40, op := Go.Op.call { callee := Go.Callee.builtin Go.Builtin.append, args := #[Go.Operand.tmp 37, Go.Operand.tmp 39], argTypes := #[36, 36] }, type := 36, pos := "ref.go:64", after := #[{ on := 4, ground := Go.Ground.data }, { on := 6, ground := Go.Ground.data }, { on := 4, ground := Go.Ground.chain }], guard := none } : Oper)
def oTrPut12 : Oper := ({ dst := some 44, op := Go.Op.call { callee := Go.Callee.builtin Go.Builtin.append, args := #[Go.Operand.tmp 40, Go.Operand.tmp 43], argTypes := #[36, 36] }, type := 36, pos := "ref.go:64", after := #[{ on := 7, ground := Go.Ground.data }, { on := 10, ground := Go.Ground.data }, { on := 7, ground := Go.Ground.chain }], guard := none } : Oper)
def oTrPut13 : Oper := ({ dst := some 4, op := Go.Op.assign (Go.Operand.tmp 44), type := 36, pos := "ref.go:64", after := #[{ on := 11, ground := Go.Ground.data }, { on := 11, ground := Go.Ground.chain }, { on := 0, ground := Go.Ground.phase }, { on := 1, ground := Go.Ground.phase }, { on := 2, ground := Go.Ground.phase }, { on := 3, ground := Go.Ground.phase }, { on := 4, ground := Go.Ground.phase }, { on := 5, ground := Go.Ground.phase }, { on := 6, ground := Go.Ground.phase }, { on := 7, ground := Go.Ground.phase }, { on := 8, ground := Go.Ground.phase }, { on := 9, ground := Go.Ground.phase }, { on := 10, ground := Go.Ground.phase }, { on := 11, ground := Go.Ground.phase }], guard := none } : Oper)
end
open Go.RowKit

/-- A slice of texts that is told. -/
def SVP (w : World) (L : List (List UInt8)) (e : Ending) (w' : World) : Prop :=
  ∃ A c, e = .returned (.slice A L.length c) ∧ Strs w' A L.length L ∧ (A = none ∧ c = 0 ∨ ∃ b, A = some ⟨b, 0, none⟩) ∧ L.length ≤ c ∧ Below w.heap.size w w'
theorem put_same (l : List (List UInt8)) (s x : List UInt8) (k : Nat) (hx : l[k]? = some x) (ht : k ≤ (l.takeWhile (ltB · s)).length) (h1 : ltB x s = false) (h2 : x = s) : putL l s = l := by
  have := (tw_stop (ltB · s) l k ht (fun y hy => by rw [hx] at hy; cases hy; exact h1)).2
  unfold putL
  rw [this, List.head?_drop, hx, h2]; simp
theorem put_new (l : List (List UInt8)) (s : List UInt8) (k : Nat) (ht : k ≤ (l.takeWhile (ltB · s)).length) (h1 : ∀ x, l[k]? = some x → ltB x s = false ∧ x ≠ s) : putL l s = l.take k ++ s :: l.drop k := by
  have h3 := tw_stop (ltB · s) l k ht (fun y hy => (h1 y hy).1)
  unfold putL insO
  rw [h3.1, h3.2, List.head?_drop]
  cases hx : l[k]? with
  | none => simp
  | some x => simp [(h1 x hx).2]
theorem OwnS.told {E : TypeId} {w wr : World} {v : Value} {xs : List (List UInt8)} (h : OwnS E w.heap.size w wr v xs) : SVP w xs (.returned v) wr := by
  have hb := h.below
  rcases h.1.2 with ⟨rfl, hn⟩ | ⟨g, cap, cur, rfl, _, hh, hc, _, _, _⟩
  · exact ⟨none, 0, by rw [hn], ⟨rfl, fun h => by omega⟩, .inl ⟨rfl, rfl⟩, by omega, hb⟩
  · refine ⟨_, _, rfl, ⟨rfl, fun _ => ⟨g, 0, rfl, fun j x hx => ?_⟩⟩, .inr ⟨g, rfl⟩, hc, hb⟩
    have := h.1.cells (g := g) rfl j (strV x) (by simp [hx])
    have hadd : (⟨g, 0, none⟩ : Addr).add j = ⟨g, 0 + j, none⟩ := by unfold Addr.add; split <;> simp_all
    rw [hadd] at this
    exact this
section
variable {w : World} {n c : Nat} {l : List (List UInt8)}
set_option maxHeartbeats 1000000 in
theorem put_some (bA : Nat) (s : List UInt8) (M : List (List UInt8)) (hs : Strs w (some ⟨bA, 0, none⟩) n l) (hnc : n ≤ c) (hn : n ≤ 1000000) (h : putL l s = M) :
    Calls Tryz.prog 58 #[.slice (some ⟨bA, 0, none⟩) n c, .string ⟨s.toArray⟩] w fun e w' => SVP w M e w' := by
  have HL := Lib.hid hs.len
  have H := Lib.hid h
  have HS := Lib.hid hs
  clear h hs
  go_enter Tryz.func58, Tryz.ntmps58
  go_wp2_with fail
  go_loop [5] (fun i => ∃ k : Nat, i = .int .i64 k ∧ k ≤ n ∧ Hid (k ≤ (l.takeWhile (ltB · s)).length)) (fun i => n - (intOf i).toNat)
  case atStart => exact ⟨0, rfl, by omega, by show 0 ≤ _; omega⟩
  case round =>
    obtain ⟨k, rfl, hk, ht⟩ := hrel
    by_cases hlt : k < n
    · obtain ⟨b1, o1, x, hA9, hx, hcell⟩ := HS.out.at_ hlt
      cases hA9
      rw [Nat.zero_add] at hcell
      have hkn : (k : Int) < (n : Int) := by omega
      cases hl : Op.bytesLess x s with
      | true =>
        have HN : Hid (k + 1 ≤ (l.takeWhile (ltB · s)).length) := tw_step (ltB · s) l k x hx ht.out hl
        clear hx
        go_wp2_with fail
        go_round
        case rel => exact ⟨k + 1, by go_num, by omega, HN⟩
        case measure => simp [intOf]; omega
      | false =>
        cases he : x == s with
        | true =>
          have HM : Hid (l = M) := by show _ = _; rw [← H.out]; exact (put_same l s x k hx ht.out hl (by simpa using he)).symm
          clear hx
          go_wp2_with fail
          go_ret
          obtain rfl := HM.out
          have := HL.out
          subst this
          exact ⟨_, c, rfl, HS.out, .inr ⟨bA, rfl⟩, hnc, Below.refl _ _⟩
        | false =>
          have HM : Hid (l.take k ++ [s] ++ l.drop k = M) := by
            show _ = _
            rw [← H.out, put_new l s k ht.out (fun y hy => by rw [hx] at hy; cases hy; exact ⟨hl, by simpa using he⟩)]
            simp
          have q1 : k ≤ c := by omega
          have q2 : k ≤ n := hk
          have q3 : ¬ c = k := by omega
          clear hx
          go_wp2_with fail
          refine wp_region_held_drew (S := (fun w' => Below w.heap.size w w')) (by kernel_rfl) ((Below.refl _ _).drew) (fun hHeld => ?_)
          refine tkY 1 oTrPut1 ?vv3_4_1 rfl (by kernel_rfl) (by kernel_rfl) (by kernel_rfl) (fun _ _ _ h => h) (by rfl) ?hy3_4_1 (by assumption) ?rest3_4_1
          case hy3_4_1 => (intro w hSw; unfold oTrPut1; (try dsimp only at hSw); (try go_split_ands); go_simp; all_goals with_reducible rfl)
          try simp only [oTrPut1, Act.put, sA, sB, sC]
          refine tkY 2 oTrPut2 ?vv3_4_2 rfl (by kernel_rfl) (by kernel_rfl) (by kernel_rfl) (fun _ _ _ h => h) (by rfl) ?hy3_4_2 (by assumption) ?rest3_4_2
          case hy3_4_2 => (intro w hSw; unfold oTrPut2; (try dsimp only at hSw); (try go_split_ands); go_simp; all_goals with_reducible rfl)
          try simp only [oTrPut2, Act.put, sA, sB, sC]
          refine tkY 3 oTrPut3 ?vv3_4_3 rfl (by kernel_rfl) (by kernel_rfl) (by kernel_rfl) (fun _ _ _ h => h) (by rfl) ?hy3_4_3 (by assumption) ?rest3_4_3
          case hy3_4_3 => (intro w hSw; unfold oTrPut3; (try dsimp only at hSw); (try go_split_ands); go_simp; all_goals with_reducible rfl)
          try simp only [oTrPut3, Act.put, sA, sB, sC]
          refine tkY 5 oTrPut4 ?vv3_4_5 rfl (by kernel_rfl) (by kernel_rfl) (by kernel_rfl) (fun _ _ _ h => h) (by rfl) ?hy3_4_5 (by assumption) ?rest3_4_5
          case hy3_4_5 => (intro w hSw; unfold oTrPut4; (try dsimp only at hSw); (try go_split_ands); go_simp; all_goals with_reducible rfl)
          try simp only [oTrPut4, Act.put, sA, sB, sC]
          refine tkY 8 oTrPut5 ?vv3_4_8 rfl (by kernel_rfl) (by kernel_rfl) (by kernel_rfl) (fun _ _ _ h => h) (by rfl) ?hy3_4_8 (by assumption) ?rest3_4_8
          case hy3_4_8 => (intro w hSw; unfold oTrPut5; (try dsimp only at hSw); (try go_split_ands); go_simp; all_goals with_reducible rfl)
          try simp only [oTrPut5, Act.put, sA, sB, sC]
          refine tkY 9 oTrPut6 ?vv3_4_9 rfl (by kernel_rfl) (by kernel_rfl) (by kernel_rfl) (fun _ _ _ h => h) (by rfl) ?hy3_4_9 (by assumption) ?rest3_4_9
          case hy3_4_9 => (intro w hSw; unfold oTrPut6; (try dsimp only at hSw); (try go_split_ands); go_simp; all_goals with_reducible rfl)
          try simp only [oTrPut6, Act.put, sA, sB, sC]
          refine tkY 10 oTrPut7 ?vv3_4_10 rfl (by kernel_rfl) (by kernel_rfl) (by kernel_rfl) (fun _ _ _ h => h) (by rfl) ?hy3_4_10 (by assumption) ?rest3_4_10
          case hy3_4_10 => (intro w hSw; unfold oTrPut7; (try dsimp only at hSw); (try go_split_ands); go_simp; all_goals with_reducible rfl)
          try simp only [oTrPut7, Act.put, sA, sB, sC]
          have hlk : (l.take k).length = k := by rw [List.length_take]; have := HL.out; omega
          have hld : (l.drop k).length = n - k := by rw [List.length_drop]; have := HL.out; omega
          obtain ⟨wd, hwd⟩ : ∃ wd, wd = w.drew := ⟨_, rfl⟩
          rw [← hwd] at hHeld ⊢
          have hHd := hHeld
          have hlk8 : (l.take k).length + 1 ≤ 1000000 := by omega
          have hlk6 : (l.take k ++ [s]).length = k + 1 := by rw [List.length_append, hlk]; rfl
          obtain ⟨dN, hdN⟩ : ∃ d, n - k = d := ⟨_, rfl⟩
          obtain ⟨dC, hdC⟩ : ∃ d, c - k = d := ⟨_, rfl⟩
          have HD := Lib.hid (HS.out.dropAt k dN q2 hdN.symm)
          rw [Nat.zero_add] at HD
          have HTK := Lib.hid (HS.out.take k q2)
          have hA1 : Hid ((some ⟨bA, 0, none⟩ : Option Addr) = none → c = 0) := fun e => by cases e
          have hA2 : Hid ((some ⟨bA, k, none⟩ : Option Addr) = none → dC = 0) := fun e => by cases e
          rw [hdN, hdC]
          have hdn : dN ≤ 1000000 := by omega
          clear hwd hdN hdC
          refine wpAnyH_ready (rs := [0, 6]) (by kernel_rfl) (by simp) ?_
          refine (AllReadyH.cons (o := oTrPut9) rfl (fun K hK => ?_) (AllReadyH.cons (o := oTrPut8) rfl (fun K hK => ?_) AllReadyH.nil))
          · skip
            unfold oTrPut9
            go_simp
            refine hK.out _ _ ?_ (fun hHeld => ?_)
            · (exact below_alloc hHeld _)
            clear hK K
            try simp only [oTrPut9, Act.put, sA, sB, sC]
            have hO := OwnS.lit0 (E := 9) hHd hHd.size
            refine wpAnyH_ready (rs := [4, 6]) (by kernel_rfl) (by simp) ?_
            refine (AllReadyH.cons (o := oTrPut10) rfl (fun K hK => ?_) (AllReadyH.cons (o := oTrPut8) rfl (fun K hK => ?_) AllReadyH.nil))
            · skip
              (refine step_sapp rfl _ _ 36 rfl Tryz.underlying36 infoS rfl hO _ k c (l.take k) rfl (HTK.out.below hO.below) hA1.out (by simp; omega) ?_; intro v9 w9 hO9 hgr9; rw [List.nil_append] at hO9)
              refine hK.out _ _ ?_ (fun hHeld => ?_)
              · (exact hO9.below)
              clear hK K
              try simp only [oTrPut10, Act.put, sA, sB, sC]
              clear hO hgr9
              refine wpAnyH_ready (rs := [6]) (by kernel_rfl) (by simp) ?_
              refine (AllReadyH.cons (o := oTrPut8) rfl (fun K hK => ?_) AllReadyH.nil)
              unfold oTrPut8
              go_simp
              refine hK.out _ _ ?_ (fun hHeld => ?_)
              · (exact below_alloc hHeld _)
              clear hK K
              try simp only [oTrPut8, Act.put, sA, sB, sC]
              have hN := strs_new1 w9 s 9
              have hO8 := hO9.alloc (.cells #[.string ⟨s.toArray⟩] 9)
              clear hO9
              refine wpAnyH_ready (rs := [7]) (by kernel_rfl) (by simp) ?_
              refine (AllReadyH.cons (o := oTrPut11) rfl (fun K hK => ?_) AllReadyH.nil)
              (refine step_sapp rfl _ _ 36 rfl Tryz.underlying36 infoS rfl hO8 _ 1 1 [s] rfl hN (fun e => by cases e) (by omega) ?_; intro v6 w6 hO6 hgr6)
              refine hK.out _ _ ?_ (fun hHeld => ?_)
              · (exact hO6.below)
              clear hK K
              try simp only [oTrPut11, Act.put, sA, sB, sC]
              clear hN hO8 hgr6
              refine wpAnyH_ready (rs := [11]) (by kernel_rfl) (by simp) ?_
              refine (AllReadyH.cons (o := oTrPut12) rfl (fun K hK => ?_) AllReadyH.nil)
              (refine step_sapp rfl _ _ 36 rfl Tryz.underlying36 infoS rfl hO6 _ dN dC (l.drop k) rfl (HD.out.below hO6.below) hA2.out (by rw [hlk6]; omega) ?_; intro v5 w5 hO5 hgr5)
              refine hK.out _ _ ?_ (fun hHeld => ?_)
              · (exact hO5.below)
              clear hK K
              try simp only [oTrPut12, Act.put, sA, sB, sC]
              refine tkY 12 oTrPut13 ?vv3_5_12 rfl (by kernel_rfl) (by kernel_rfl) (by kernel_rfl) (fun _ _ _ h => h) (by rfl) ?hy3_5_12 (by assumption) ?rest3_5_12
              case hy3_5_12 => (intro w hSw; unfold oTrPut13; (try dsimp only at hSw); (try go_split_ands); go_simp; all_goals with_reducible rfl)
              try simp only [oTrPut13, Act.put, sA, sB, sC]
              refine wpAnyH_done (by kernel_rfl) ?_ _
              go_wp2_with fail
              go_ret
              have hO4 := OwnS.told hO5
              rw [HM.out] at hO4
              exact hO4
            · skip
              unfold oTrPut8
              go_simp
              refine hK.out _ _ ?_ (fun hHeld => ?_)
              · (exact below_alloc hHeld _)
              clear hK K
              try simp only [oTrPut8, Act.put, sA, sB, sC]
              have hN := strs_new1 (wd.alloc (.cells #[] 9)) s 9
              have hO9 := hO.alloc (.cells #[.string ⟨s.toArray⟩] 9)
              rw [World.size_alloc] at hN
              refine wpAnyH_ready (rs := [4]) (by kernel_rfl) (by simp) ?_
              refine (AllReadyH.cons (o := oTrPut10) rfl (fun K hK => ?_) AllReadyH.nil)
              (refine step_sapp rfl _ _ 36 rfl Tryz.underlying36 infoS rfl hO9 _ k c (l.take k) rfl (HTK.out.below hO9.below) hA1.out (by simp; omega) ?_; intro v8 w8 hO8 hgr8; rw [List.nil_append] at hO8)
              refine hK.out _ _ ?_ (fun hHeld => ?_)
              · (exact hO8.below)
              clear hK K
              try simp only [oTrPut10, Act.put, sA, sB, sC]
              replace hN := hN.grown hgr8 (fun b o e => by cases e; exact fun e2 => by have e3 : wd.heap.size + 1 = wd.heap.size := Option.some.inj e2; omega)
              clear hO hO9 hgr8
              refine wpAnyH_ready (rs := [7]) (by kernel_rfl) (by simp) ?_
              refine (AllReadyH.cons (o := oTrPut11) rfl (fun K hK => ?_) AllReadyH.nil)
              (refine step_sapp rfl _ _ 36 rfl Tryz.underlying36 infoS rfl hO8 _ 1 1 [s] rfl hN (fun e => by cases e) (by omega) ?_; intro v6 w6 hO6 hgr6)
              refine hK.out _ _ ?_ (fun hHeld => ?_)
              · (exact hO6.below)
              clear hK K
              try simp only [oTrPut11, Act.put, sA, sB, sC]
              clear hN hO8 hgr6
              refine wpAnyH_ready (rs := [11]) (by kernel_rfl) (by simp) ?_
              refine (AllReadyH.cons (o := oTrPut12) rfl (fun K hK => ?_) AllReadyH.nil)
              (refine step_sapp rfl _ _ 36 rfl Tryz.underlying36 infoS rfl hO6 _ dN dC (l.drop k) rfl (HD.out.below hO6.below) hA2.out (by rw [hlk6]; omega) ?_; intro v5 w5 hO5 hgr5)
              refine hK.out _ _ ?_ (fun hHeld => ?_)
              · (exact hO5.below)
              clear hK K
              try simp only [oTrPut12, Act.put, sA, sB, sC]
              refine tkY 12 oTrPut13 ?vv3_6_12 rfl (by kernel_rfl) (by kernel_rfl) (by kernel_rfl) (fun _ _ _ h => h) (by rfl) ?hy3_6_12 (by assumption) ?rest3_6_12
              case hy3_6_12 => (intro w hSw; unfold oTrPut13; (try dsimp only at hSw); (try go_split_ands); go_simp; all_goals with_reducible rfl)
              try simp only [oTrPut13, Act.put, sA, sB, sC]
              refine wpAnyH_done (by kernel_rfl) ?_ _
              go_wp2_with fail
              go_ret
              have hO4 := OwnS.told hO5
              rw [HM.out] at hO4
              exact hO4
          · skip
            unfold oTrPut8
            go_simp
            refine hK.out _ _ ?_ (fun hHeld => ?_)
            · (exact below_alloc hHeld _)
            clear hK K
            try simp only [oTrPut8, Act.put, sA, sB, sC]
            have hN := strs_new1 wd s 9
            refine wpAnyH_ready (rs := [0]) (by kernel_rfl) (by simp) ?_
            refine (AllReadyH.cons (o := oTrPut9) rfl (fun K hK => ?_) AllReadyH.nil)
            unfold oTrPut9
            go_simp
            refine hK.out _ _ ?_ (fun hHeld => ?_)
            · (exact below_alloc hHeld _)
            clear hK K
            try simp only [oTrPut9, Act.put, sA, sB, sC]
            have hO := OwnS.lit0 (E := 9) (below_alloc hHd (.cells #[.string ⟨s.toArray⟩] 9)) (by have := hHd.size; simp; omega)
            rw [World.size_alloc] at hO
            replace hN := hN.below ((Below.refl _ _).alloc (Nat.le_refl _) (.cells #[] 9))
            refine wpAnyH_ready (rs := [4]) (by kernel_rfl) (by simp) ?_
            refine (AllReadyH.cons (o := oTrPut10) rfl (fun K hK => ?_) AllReadyH.nil)
            (refine step_sapp rfl _ _ 36 rfl Tryz.underlying36 infoS rfl hO _ k c (l.take k) rfl (HTK.out.below hO.below) hA1.out (by simp; omega) ?_; intro v8 w8 hO8 hgr8; rw [List.nil_append] at hO8)
            refine hK.out _ _ ?_ (fun hHeld => ?_)
            · (exact hO8.below)
            clear hK K
            try simp only [oTrPut10, Act.put, sA, sB, sC]
            replace hN := hN.grown hgr8 (fun b o e => by cases e; exact fun e2 => by have e3 : wd.heap.size = wd.heap.size + 1 := Option.some.inj e2; omega)
            clear hO hgr8
            refine wpAnyH_ready (rs := [7]) (by kernel_rfl) (by simp) ?_
            refine (AllReadyH.cons (o := oTrPut11) rfl (fun K hK => ?_) AllReadyH.nil)
            (refine step_sapp rfl _ _ 36 rfl Tryz.underlying36 infoS rfl hO8 _ 1 1 [s] rfl hN (fun e => by cases e) (by omega) ?_; intro v6 w6 hO6 hgr6)
            refine hK.out _ _ ?_ (fun hHeld => ?_)
            · (exact hO6.below)
            clear hK K
            try simp only [oTrPut11, Act.put, sA, sB, sC]
            clear hN hO8 hgr6
            refine wpAnyH_ready (rs := [11]) (by kernel_rfl) (by simp) ?_
            refine (AllReadyH.cons (o := oTrPut12) rfl (fun K hK => ?_) AllReadyH.nil)
            (refine step_sapp rfl _ _ 36 rfl Tryz.underlying36 infoS rfl hO6 _ dN dC (l.drop k) rfl (HD.out.below hO6.below) hA2.out (by rw [hlk6]; omega) ?_; intro v5 w5 hO5 hgr5)
            refine hK.out _ _ ?_ (fun hHeld => ?_)
            · (exact hO5.below)
            clear hK K
            try simp only [oTrPut12, Act.put, sA, sB, sC]
            refine tkY 12 oTrPut13 ?vv3_7_12 rfl (by kernel_rfl) (by kernel_rfl) (by kernel_rfl) (fun _ _ _ h => h) (by rfl) ?hy3_7_12 (by assumption) ?rest3_7_12
            case hy3_7_12 => (intro w hSw; unfold oTrPut13; (try dsimp only at hSw); (try go_split_ands); go_simp; all_goals with_reducible rfl)
            try simp only [oTrPut13, Act.put, sA, sB, sC]
            refine wpAnyH_done (by kernel_rfl) ?_ _
            go_wp2_with fail
            go_ret
            have hO4 := OwnS.told hO5
            rw [HM.out] at hO4
            exact hO4
    · obtain rfl : k = n := by omega
      have HM : Hid (l.take k ++ [s] ++ l.drop k = M) := by
        show _ = _
        rw [← H.out, put_new l s k ht.out (fun y hy => by rw [List.getElem?_eq_none (by have := HL.out; omega)] at hy; cases hy)]
        simp
      have hlk : (l.take k).length = k := by rw [List.length_take]; have := HL.out; omega
      have hld : l.drop k = [] := List.drop_eq_nil_of_le (by have := HL.out; omega)
      have hlk8 : (l.take k).length + 1 ≤ 1000001 := by omega
      have hlk6 : (l.take k ++ [s]).length = k + 1 := by rw [List.length_append, hlk]; rfl
      have q1 : k ≤ c := hnc
      have q2 : k ≤ k := Nat.le_refl _
      have HTK := Lib.hid (HS.out.take k q2)
      have hA1 : Hid ((some ⟨bA, 0, none⟩ : Option Addr) = none → c = 0) := fun e => by cases e
      obtain ⟨dN, hdN⟩ : ∃ d, k - k = d := ⟨_, rfl⟩
      obtain ⟨dC, hdC⟩ : ∃ d, c - k = d := ⟨_, rfl⟩
      have hdn : dN = 0 := by omega
      have HD9 : ∀ A2, Hid (Strs w A2 dN (l.drop k)) := fun A2 => by rw [hdn, hld]; exact Strs.nil A2
      clear hlt
      go_wp2_with fail
      refine wp_region_held_drew (S := (fun w' => Below w.heap.size w w')) (by kernel_rfl) ((Below.refl _ _).drew) (fun hHeld => ?_)
      refine tkY 1 oTrPut1 ?vv4_8_1 rfl (by kernel_rfl) (by kernel_rfl) (by kernel_rfl) (fun _ _ _ h => h) (by rfl) ?hy4_8_1 (by assumption) ?rest4_8_1
      case hy4_8_1 => (intro w hSw; unfold oTrPut1; (try dsimp only at hSw); (try go_split_ands); go_simp; all_goals with_reducible rfl)
      try simp only [oTrPut1, Act.put, sA, sB, sC]
      refine tkY 2 oTrPut2 ?vv4_8_2 rfl (by kernel_rfl) (by kernel_rfl) (by kernel_rfl) (fun _ _ _ h => h) (by rfl) ?hy4_8_2 (by assumption) ?rest4_8_2
      case hy4_8_2 => (intro w hSw; unfold oTrPut2; (try dsimp only at hSw); (try go_split_ands); go_simp; all_goals with_reducible rfl)
      try simp only [oTrPut2, Act.put, sA, sB, sC]
      refine tkY 3 oTrPut3 ?vv4_8_3 rfl (by kernel_rfl) (by kernel_rfl) (by kernel_rfl) (fun _ _ _ h => h) (by rfl) ?hy4_8_3 (by assumption) ?rest4_8_3
      case hy4_8_3 => (intro w hSw; unfold oTrPut3; (try dsimp only at hSw); (try go_split_ands); go_simp; all_goals with_reducible rfl)
      try simp only [oTrPut3, Act.put, sA, sB, sC]
      refine tkY 5 oTrPut4 ?vv4_8_5 rfl (by kernel_rfl) (by kernel_rfl) (by kernel_rfl) (fun _ _ _ h => h) (by rfl) ?hy4_8_5 (by assumption) ?rest4_8_5
      case hy4_8_5 => (intro w hSw; unfold oTrPut4; (try dsimp only at hSw); (try go_split_ands); go_simp; all_goals with_reducible rfl)
      try simp only [oTrPut4, Act.put, sA, sB, sC]
      refine tkY 8 oTrPut5 ?vv4_8_8 rfl (by kernel_rfl) (by kernel_rfl) (by kernel_rfl) (fun _ _ _ h => h) (by rfl) ?hy4_8_8 (by assumption) ?rest4_8_8
      case hy4_8_8 => (intro w hSw; unfold oTrPut5; (try dsimp only at hSw); (try go_split_ands); go_simp; all_goals with_reducible rfl)
      try simp only [oTrPut5, Act.put, sA, sB, sC]
      refine tkY 9 oTrPut6 ?vv4_8_9 rfl (by kernel_rfl) (by kernel_rfl) (by kernel_rfl) (fun _ _ _ h => h) (by rfl) ?hy4_8_9 (by assumption) ?rest4_8_9
      case hy4_8_9 => (intro w hSw; unfold oTrPut6; (try dsimp only at hSw); (try go_split_ands); go_simp; all_goals with_reducible rfl)
      try simp only [oTrPut6, Act.put, sA, sB, sC]
      refine tkY 10 oTrPut7 ?vv4_8_10 rfl (by kernel_rfl) (by kernel_rfl) (by kernel_rfl) (fun _ _ _ h => h) (by rfl) ?hy4_8_10 (by assumption) ?rest4_8_10
      case hy4_8_10 => (intro w hSw; unfold oTrPut7; (try dsimp only at hSw); (try go_split_ands); go_simp; all_goals with_reducible rfl)
      try simp only [oTrPut7, Act.put, sA, sB, sC]
      rw [hdn] at HD9
      obtain ⟨A2, hA2'⟩ : ∃ A2, (if c = k then (some ⟨bA, 0, none⟩ : Option Addr) else some ⟨bA, k, none⟩) = A2 := ⟨_, rfl⟩
      have hA2 : Hid (A2 = none → dC = 0) := fun e => by rw [← hA2'] at e; split at e <;> cases e
      have HD := HD9 A2
      rw [hA2']
      obtain ⟨wd, hwd⟩ : ∃ wd, wd = w.drew := ⟨_, rfl⟩
      rw [← hwd] at hHeld ⊢
      have hHd := hHeld
      clear hwd hdN hdC HD9 hA2' hdn
      refine wpAnyH_ready (rs := [0, 6]) (by kernel_rfl) (by simp) ?_
      refine (AllReadyH.cons (o := oTrPut9) rfl (fun K hK => ?_) (AllReadyH.cons (o := oTrPut8) rfl (fun K hK => ?_) AllReadyH.nil))
      · skip
        unfold oTrPut9
        go_simp
        refine hK.out _ _ ?_ (fun hHeld => ?_)
        · (exact below_alloc hHeld _)
        clear hK K
        try simp only [oTrPut9, Act.put, sA, sB, sC]
        have hO := OwnS.lit0 (E := 9) hHd hHd.size
        refine wpAnyH_ready (rs := [4, 6]) (by kernel_rfl) (by simp) ?_
        refine (AllReadyH.cons (o := oTrPut10) rfl (fun K hK => ?_) (AllReadyH.cons (o := oTrPut8) rfl (fun K hK => ?_) AllReadyH.nil))
        · skip
          (refine step_sapp rfl _ _ 36 rfl Tryz.underlying36 infoS rfl hO _ k c (l.take k) rfl (HTK.out.below hO.below) hA1.out (by simp; omega) ?_; intro v9 w9 hO9 hgr9; rw [List.nil_append] at hO9)
          refine hK.out _ _ ?_ (fun hHeld => ?_)
          · (exact hO9.below)
          clear hK K
          try simp only [oTrPut10, Act.put, sA, sB, sC]
          clear hO hgr9
          refine wpAnyH_ready (rs := [6]) (by kernel_rfl) (by simp) ?_
          refine (AllReadyH.cons (o := oTrPut8) rfl (fun K hK => ?_) AllReadyH.nil)
          unfold oTrPut8
          go_simp
          refine hK.out _ _ ?_ (fun hHeld => ?_)
          · (exact below_alloc hHeld _)
          clear hK K
          try simp only [oTrPut8, Act.put, sA, sB, sC]
          have hN := strs_new1 w9 s 9
          have hO8 := hO9.alloc (.cells #[.string ⟨s.toArray⟩] 9)
          clear hO9
          refine wpAnyH_ready (rs := [7]) (by kernel_rfl) (by simp) ?_
          refine (AllReadyH.cons (o := oTrPut11) rfl (fun K hK => ?_) AllReadyH.nil)
          (refine step_sapp rfl _ _ 36 rfl Tryz.underlying36 infoS rfl hO8 _ 1 1 [s] rfl hN (fun e => by cases e) (by omega) ?_; intro v6 w6 hO6 hgr6)
          refine hK.out _ _ ?_ (fun hHeld => ?_)
          · (exact hO6.below)
          clear hK K
          try simp only [oTrPut11, Act.put, sA, sB, sC]
          clear hN hO8 hgr6
          refine wpAnyH_ready (rs := [11]) (by kernel_rfl) (by simp) ?_
          refine (AllReadyH.cons (o := oTrPut12) rfl (fun K hK => ?_) AllReadyH.nil)
          (refine step_sapp rfl _ _ 36 rfl Tryz.underlying36 infoS rfl hO6 _ 0 dC (l.drop k) rfl (HD.out.below hO6.below) hA2.out (by rw [hlk6]; omega) ?_; intro v5 w5 hO5 hgr5)
          refine hK.out _ _ ?_ (fun hHeld => ?_)
          · (exact hO5.below)
          clear hK K
          try simp only [oTrPut12, Act.put, sA, sB, sC]
          refine tkY 12 oTrPut13 ?vv4_9_12 rfl (by kernel_rfl) (by kernel_rfl) (by kernel_rfl) (fun _ _ _ h => h) (by rfl) ?hy4_9_12 (by assumption) ?rest4_9_12
          case hy4_9_12 => (intro w hSw; unfold oTrPut13; (try dsimp only at hSw); (try go_split_ands); go_simp; all_goals with_reducible rfl)
          try simp only [oTrPut13, Act.put, sA, sB, sC]
          refine wpAnyH_done (by kernel_rfl) ?_ _
          go_wp2_with fail
          go_ret
          have hO4 := OwnS.told hO5
          rw [HM.out] at hO4
          exact hO4
        · skip
          unfold oTrPut8
          go_simp
          refine hK.out _ _ ?_ (fun hHeld => ?_)
          · (exact below_alloc hHeld _)
          clear hK K
          try simp only [oTrPut8, Act.put, sA, sB, sC]
          have hN := strs_new1 (wd.alloc (.cells #[] 9)) s 9
          have hO9 := hO.alloc (.cells #[.string ⟨s.toArray⟩] 9)
          rw [World.size_alloc] at hN
          refine wpAnyH_ready (rs := [4]) (by kernel_rfl) (by simp) ?_
          refine (AllReadyH.cons (o := oTrPut10) rfl (fun K hK => ?_) AllReadyH.nil)
          (refine step_sapp rfl _ _ 36 rfl Tryz.underlying36 infoS rfl hO9 _ k c (l.take k) rfl (HTK.out.below hO9.below) hA1.out (by simp; omega) ?_; intro v8 w8 hO8 hgr8; rw [List.nil_append] at hO8)
          refine hK.out _ _ ?_ (fun hHeld => ?_)
          · (exact hO8.below)
          clear hK K
          try simp only [oTrPut10, Act.put, sA, sB, sC]
          replace hN := hN.grown hgr8 (fun b o e => by cases e; exact fun e2 => by have e3 : wd.heap.size + 1 = wd.heap.size := Option.some.inj e2; omega)
          clear hO hO9 hgr8
          refine wpAnyH_ready (rs := [7]) (by kernel_rfl) (by simp) ?_
          refine (AllReadyH.cons (o := oTrPut11) rfl (fun K hK => ?_) AllReadyH.nil)
          (refine step_sapp rfl _ _ 36 rfl Tryz.underlying36 infoS rfl hO8 _ 1 1 [s] rfl hN (fun e => by cases e) (by omega) ?_; intro v6 w6 hO6 hgr6)
          refine hK.out _ _ ?_ (fun hHeld => ?_)
          · (exact hO6.below)
          clear hK K
          try simp only [oTrPut11, Act.put, sA, sB, sC]
          clear hN hO8 hgr6
          refine wpAnyH_ready (rs := [11]) (by kernel_rfl) (by simp) ?_
          refine (AllReadyH.cons (o := oTrPut12) rfl (fun K hK => ?_) AllReadyH.nil)
          (refine step_sapp rfl _ _ 36 rfl Tryz.underlying36 infoS rfl hO6 _ 0 dC (l.drop k) rfl (HD.out.below hO6.below) hA2.out (by rw [hlk6]; omega) ?_; intro v5 w5 hO5 hgr5)
          refine hK.out _ _ ?_ (fun hHeld => ?_)
          · (exact hO5.below)
          clear hK K
          try simp only [oTrPut12, Act.put, sA, sB, sC]
          refine tkY 12 oTrPut13 ?vv4_10_12 rfl (by kernel_rfl) (by kernel_rfl) (by kernel_rfl) (fun _ _ _ h => h) (by rfl) ?hy4_10_12 (by assumption) ?rest4_10_12
          case hy4_10_12 => (intro w hSw; unfold oTrPut13; (try dsimp only at hSw); (try go_split_ands); go_simp; all_goals with_reducible rfl)
          try simp only [oTrPut13, Act.put, sA, sB, sC]
          refine wpAnyH_done (by kernel_rfl) ?_ _
          go_wp2_with fail
          go_ret
          have hO4 := OwnS.told hO5
          rw [HM.out] at hO4
          exact hO4
      · skip
        unfold oTrPut8
        go_simp
        refine hK.out _ _ ?_ (fun hHeld => ?_)
        · (exact below_alloc hHeld _)
        clear hK K
        try simp only [oTrPut8, Act.put, sA, sB, sC]
        have hN := strs_new1 wd s 9
        refine wpAnyH_ready (rs := [0]) (by kernel_rfl) (by simp) ?_
        refine (AllReadyH.cons (o := oTrPut9) rfl (fun K hK => ?_) AllReadyH.nil)
        unfold oTrPut9
        go_simp
        refine hK.out _ _ ?_ (fun hHeld => ?_)
        · (exact below_alloc hHeld _)
        clear hK K
        try simp only [oTrPut9, Act.put, sA, sB, sC]
        have hO := OwnS.lit0 (E := 9) (below_alloc hHd (.cells #[.string ⟨s.toArray⟩] 9)) (by have := hHd.size; simp; omega)
        rw [World.size_alloc] at hO
        replace hN := hN.below ((Below.refl _ _).alloc (Nat.le_refl _) (.cells #[] 9))
        refine wpAnyH_ready (rs := [4]) (by kernel_rfl) (by simp) ?_
        refine (AllReadyH.cons (o := oTrPut10) rfl (fun K hK => ?_) AllReadyH.nil)
        (refine step_sapp rfl _ _ 36 rfl Tryz.underlying36 infoS rfl hO _ k c (l.take k) rfl (HTK.out.below hO.below) hA1.out (by simp; omega) ?_; intro v8 w8 hO8 hgr8; rw [List.nil_append] at hO8)
        refine hK.out _ _ ?_ (fun hHeld => ?_)
        · (exact hO8.below)
        clear hK K
        try simp only [oTrPut10, Act.put, sA, sB, sC]
        replace hN := hN.grown hgr8 (fun b o e => by cases e; exact fun e2 => by have e3 : wd.heap.size = wd.heap.size + 1 := Option.some.inj e2; omega)
        clear hO hgr8
        refine wpAnyH_ready (rs := [7]) (by kernel_rfl) (by simp) ?_
        refine (AllReadyH.cons (o := oTrPut11) rfl (fun K hK => ?_) AllReadyH.nil)
        (refine step_sapp rfl _ _ 36 rfl Tryz.underlying36 infoS rfl hO8 _ 1 1 [s] rfl hN (fun e => by cases e) (by omega) ?_; intro v6 w6 hO6 hgr6)
        refine hK.out _ _ ?_ (fun hHeld => ?_)
        · (exact hO6.below)
        clear hK K
        try simp only [oTrPut11, Act.put, sA, sB, sC]
        clear hN hO8 hgr6
        refine wpAnyH_ready (rs := [11]) (by kernel_rfl) (by simp) ?_
        refine (AllReadyH.cons (o := oTrPut12) rfl (fun K hK => ?_) AllReadyH.nil)
        (refine step_sapp rfl _ _ 36 rfl Tryz.underlying36 infoS rfl hO6 _ 0 dC (l.drop k) rfl (HD.out.below hO6.below) hA2.out (by rw [hlk6]; omega) ?_; intro v5 w5 hO5 hgr5)
        refine hK.out _ _ ?_ (fun hHeld => ?_)
        · (exact hO5.below)
        clear hK K
        try simp only [oTrPut12, Act.put, sA, sB, sC]
        refine tkY 12 oTrPut13 ?vv4_11_12 rfl (by kernel_rfl) (by kernel_rfl) (by kernel_rfl) (fun _ _ _ h => h) (by rfl) ?hy4_11_12 (by assumption) ?rest4_11_12
        case hy4_11_12 => (intro w hSw; unfold oTrPut13; (try dsimp only at hSw); (try go_split_ands); go_simp; all_goals with_reducible rfl)
        try simp only [oTrPut13, Act.put, sA, sB, sC]
        refine wpAnyH_done (by kernel_rfl) ?_ _
        go_wp2_with fail
        go_ret
        have hO4 := OwnS.told hO5
        rw [HM.out] at hO4
        exact hO4
/-- The row is nil. -/
theorem put_none (s : List UInt8) (w : World) :
    Calls Tryz.prog 58 #[.slice none 0 0, .string ⟨s.toArray⟩] w fun e w' => SVP w [s] e w' := by
  have HM : Hid (([] : List (List UInt8)) ++ [s] ++ [] = [s]) := rfl
  go_enter Tryz.func58, Tryz.ntmps58
  go_wp2_with fail
  go_loop [5] (fun i => i = .int .i64 0) (fun i => 0)
  case atStart => rfl
  case round =>
    obtain rfl := hrel
    go_wp2_with fail
    refine wp_region_held_drew (S := (fun w' => Below w.heap.size w w')) (by kernel_rfl) ((Below.refl _ _).drew) (fun hHeld => ?_)
    refine tkY 1 oTrPut1 ?vv5_12_1 rfl (by kernel_rfl) (by kernel_rfl) (by kernel_rfl) (fun _ _ _ h => h) (by rfl) ?hy5_12_1 (by assumption) ?rest5_12_1
    case hy5_12_1 => (intro w hSw; unfold oTrPut1; (try dsimp only at hSw); (try go_split_ands); go_simp; all_goals with_reducible rfl)
    try simp only [oTrPut1, Act.put, sA, sB, sC]
    refine tkY 2 oTrPut2 ?vv5_12_2 rfl (by kernel_rfl) (by kernel_rfl) (by kernel_rfl) (fun _ _ _ h => h) (by rfl) ?hy5_12_2 (by assumption) ?rest5_12_2
    case hy5_12_2 => (intro w hSw; unfold oTrPut2; (try dsimp only at hSw); (try go_split_ands); go_simp; all_goals with_reducible rfl)
    try simp only [oTrPut2, Act.put, sA, sB, sC]
    refine tkY 3 oTrPut3 ?vv5_12_3 rfl (by kernel_rfl) (by kernel_rfl) (by kernel_rfl) (fun _ _ _ h => h) (by rfl) ?hy5_12_3 (by assumption) ?rest5_12_3
    case hy5_12_3 => (intro w hSw; unfold oTrPut3; (try dsimp only at hSw); (try go_split_ands); go_simp; all_goals with_reducible rfl)
    try simp only [oTrPut3, Act.put, sA, sB, sC]
    refine tkY 5 oTrPut4 ?vv5_12_5 rfl (by kernel_rfl) (by kernel_rfl) (by kernel_rfl) (fun _ _ _ h => h) (by rfl) ?hy5_12_5 (by assumption) ?rest5_12_5
    case hy5_12_5 => (intro w hSw; unfold oTrPut4; (try dsimp only at hSw); (try go_split_ands); go_simp; all_goals with_reducible rfl)
    try simp only [oTrPut4, Act.put, sA, sB, sC]
    refine tkY 8 oTrPut5 ?vv5_12_8 rfl (by kernel_rfl) (by kernel_rfl) (by kernel_rfl) (fun _ _ _ h => h) (by rfl) ?hy5_12_8 (by assumption) ?rest5_12_8
    case hy5_12_8 => (intro w hSw; unfold oTrPut5; (try dsimp only at hSw); (try go_split_ands); go_simp; all_goals with_reducible rfl)
    try simp only [oTrPut5, Act.put, sA, sB, sC]
    refine tkY 9 oTrPut6 ?vv5_12_9 rfl (by kernel_rfl) (by kernel_rfl) (by kernel_rfl) (fun _ _ _ h => h) (by rfl) ?hy5_12_9 (by assumption) ?rest5_12_9
    case hy5_12_9 => (intro w hSw; unfold oTrPut6; (try dsimp only at hSw); (try go_split_ands); go_simp; all_goals with_reducible rfl)
    try simp only [oTrPut6, Act.put, sA, sB, sC]
    refine tkY 10 oTrPut7 ?vv5_12_10 rfl (by kernel_rfl) (by kernel_rfl) (by kernel_rfl) (fun _ _ _ h => h) (by rfl) ?hy5_12_10 (by assumption) ?rest5_12_10
    case hy5_12_10 => (intro w hSw; unfold oTrPut7; (try dsimp only at hSw); (try go_split_ands); go_simp; all_goals with_reducible rfl)
    try simp only [oTrPut7, Act.put, sA, sB, sC]
    have HTK : Hid (Strs w none 0 []) := Strs.nil none
    have HD : Hid (Strs w none 0 []) := Strs.nil none
    have hA1 : Hid ((none : Option Addr) = none → 0 = 0) := fun _ => rfl
    have hA2 : Hid ((none : Option Addr) = none → 0 = 0) := fun _ => rfl
    obtain ⟨wd, hwd⟩ : ∃ wd, wd = w.drew := ⟨_, rfl⟩
    rw [← hwd] at hHeld ⊢
    have hHd := hHeld
    clear hwd
    refine wpAnyH_ready (rs := [0, 6]) (by kernel_rfl) (by simp) ?_
    refine (AllReadyH.cons (o := oTrPut9) rfl (fun K hK => ?_) (AllReadyH.cons (o := oTrPut8) rfl (fun K hK => ?_) AllReadyH.nil))
    · skip
      unfold oTrPut9
      go_simp
      refine hK.out _ _ ?_ (fun hHeld => ?_)
      · (exact below_alloc hHeld _)
      clear hK K
      try simp only [oTrPut9, Act.put, sA, sB, sC]
      have hO := OwnS.lit0 (E := 9) hHd hHd.size
      refine wpAnyH_ready (rs := [4, 6]) (by kernel_rfl) (by simp) ?_
      refine (AllReadyH.cons (o := oTrPut10) rfl (fun K hK => ?_) (AllReadyH.cons (o := oTrPut8) rfl (fun K hK => ?_) AllReadyH.nil))
      · skip
        (refine step_sapp rfl _ _ 36 rfl Tryz.underlying36 infoS rfl hO _ 0 0 [] rfl (HTK.out.below hO.below) hA1.out (by simp) ?_; intro v9 w9 hO9 hgr9; rw [List.nil_append] at hO9)
        refine hK.out _ _ ?_ (fun hHeld => ?_)
        · (exact hO9.below)
        clear hK K
        try simp only [oTrPut10, Act.put, sA, sB, sC]
        clear hO hgr9
        refine wpAnyH_ready (rs := [6]) (by kernel_rfl) (by simp) ?_
        refine (AllReadyH.cons (o := oTrPut8) rfl (fun K hK => ?_) AllReadyH.nil)
        unfold oTrPut8
        go_simp
        refine hK.out _ _ ?_ (fun hHeld => ?_)
        · (exact below_alloc hHeld _)
        clear hK K
        try simp only [oTrPut8, Act.put, sA, sB, sC]
        have hN := strs_new1 w9 s 9
        have hO8 := hO9.alloc (.cells #[.string ⟨s.toArray⟩] 9)
        clear hO9
        refine wpAnyH_ready (rs := [7]) (by kernel_rfl) (by simp) ?_
        refine (AllReadyH.cons (o := oTrPut11) rfl (fun K hK => ?_) AllReadyH.nil)
        (refine step_sapp rfl _ _ 36 rfl Tryz.underlying36 infoS rfl hO8 _ 1 1 [s] rfl hN (fun e => by cases e) (by simp) ?_; intro v6 w6 hO6 hgr6)
        refine hK.out _ _ ?_ (fun hHeld => ?_)
        · (exact hO6.below)
        clear hK K
        try simp only [oTrPut11, Act.put, sA, sB, sC]
        clear hN hO8 hgr6
        refine wpAnyH_ready (rs := [11]) (by kernel_rfl) (by simp) ?_
        refine (AllReadyH.cons (o := oTrPut12) rfl (fun K hK => ?_) AllReadyH.nil)
        (refine step_sapp rfl _ _ 36 rfl Tryz.underlying36 infoS rfl hO6 _ 0 0 [] rfl (HD.out.below hO6.below) hA2.out (by simp) ?_; intro v5 w5 hO5 hgr5)
        refine hK.out _ _ ?_ (fun hHeld => ?_)
        · (exact hO5.below)
        clear hK K
        try simp only [oTrPut12, Act.put, sA, sB, sC]
        refine tkY 12 oTrPut13 ?vv5_13_12 rfl (by kernel_rfl) (by kernel_rfl) (by kernel_rfl) (fun _ _ _ h => h) (by rfl) ?hy5_13_12 (by assumption) ?rest5_13_12
        case hy5_13_12 => (intro w hSw; unfold oTrPut13; (try dsimp only at hSw); (try go_split_ands); go_simp; all_goals with_reducible rfl)
        try simp only [oTrPut13, Act.put, sA, sB, sC]
        refine wpAnyH_done (by kernel_rfl) ?_ _
        go_wp2_with fail
        go_ret
        have hO4 := OwnS.told hO5
        rw [HM.out] at hO4
        exact hO4
      · skip
        unfold oTrPut8
        go_simp
        refine hK.out _ _ ?_ (fun hHeld => ?_)
        · (exact below_alloc hHeld _)
        clear hK K
        try simp only [oTrPut8, Act.put, sA, sB, sC]
        have hN := strs_new1 (wd.alloc (.cells #[] 9)) s 9
        have hO9 := hO.alloc (.cells #[.string ⟨s.toArray⟩] 9)
        rw [World.size_alloc] at hN
        refine wpAnyH_ready (rs := [4]) (by kernel_rfl) (by simp) ?_
        refine (AllReadyH.cons (o := oTrPut10) rfl (fun K hK => ?_) AllReadyH.nil)
        (refine step_sapp rfl _ _ 36 rfl Tryz.underlying36 infoS rfl hO9 _ 0 0 [] rfl (HTK.out.below hO9.below) hA1.out (by simp) ?_; intro v8 w8 hO8 hgr8; rw [List.nil_append] at hO8)
        refine hK.out _ _ ?_ (fun hHeld => ?_)
        · (exact hO8.below)
        clear hK K
        try simp only [oTrPut10, Act.put, sA, sB, sC]
        replace hN := hN.grown hgr8 (fun b o e => by cases e; exact fun e2 => by have e3 : wd.heap.size + 1 = wd.heap.size := Option.some.inj e2; omega)
        clear hO hO9 hgr8
        refine wpAnyH_ready (rs := [7]) (by kernel_rfl) (by simp) ?_
        refine (AllReadyH.cons (o := oTrPut11) rfl (fun K hK => ?_) AllReadyH.nil)
        (refine step_sapp rfl _ _ 36 rfl Tryz.underlying36 infoS rfl hO8 _ 1 1 [s] rfl hN (fun e => by cases e) (by simp) ?_; intro v6 w6 hO6 hgr6)
        refine hK.out _ _ ?_ (fun hHeld => ?_)
        · (exact hO6.below)
        clear hK K
        try simp only [oTrPut11, Act.put, sA, sB, sC]
        clear hN hO8 hgr6
        refine wpAnyH_ready (rs := [11]) (by kernel_rfl) (by simp) ?_
        refine (AllReadyH.cons (o := oTrPut12) rfl (fun K hK => ?_) AllReadyH.nil)
        (refine step_sapp rfl _ _ 36 rfl Tryz.underlying36 infoS rfl hO6 _ 0 0 [] rfl (HD.out.below hO6.below) hA2.out (by simp) ?_; intro v5 w5 hO5 hgr5)
        refine hK.out _ _ ?_ (fun hHeld => ?_)
        · (exact hO5.below)
        clear hK K
        try simp only [oTrPut12, Act.put, sA, sB, sC]
        refine tkY 12 oTrPut13 ?vv5_14_12 rfl (by kernel_rfl) (by kernel_rfl) (by kernel_rfl) (fun _ _ _ h => h) (by rfl) ?hy5_14_12 (by assumption) ?rest5_14_12
        case hy5_14_12 => (intro w hSw; unfold oTrPut13; (try dsimp only at hSw); (try go_split_ands); go_simp; all_goals with_reducible rfl)
        try simp only [oTrPut13, Act.put, sA, sB, sC]
        refine wpAnyH_done (by kernel_rfl) ?_ _
        go_wp2_with fail
        go_ret
        have hO4 := OwnS.told hO5
        rw [HM.out] at hO4
        exact hO4
    · skip
      unfold oTrPut8
      go_simp
      refine hK.out _ _ ?_ (fun hHeld => ?_)
      · (exact below_alloc hHeld _)
      clear hK K
      try simp only [oTrPut8, Act.put, sA, sB, sC]
      have hN := strs_new1 wd s 9
      refine wpAnyH_ready (rs := [0]) (by kernel_rfl) (by simp) ?_
      refine (AllReadyH.cons (o := oTrPut9) rfl (fun K hK => ?_) AllReadyH.nil)
      unfold oTrPut9
      go_simp
      refine hK.out _ _ ?_ (fun hHeld => ?_)
      · (exact below_alloc hHeld _)
      clear hK K
      try simp only [oTrPut9, Act.put, sA, sB, sC]
      have hO := OwnS.lit0 (E := 9) (below_alloc hHd (.cells #[.string ⟨s.toArray⟩] 9)) (by have := hHd.size; simp; omega)
      rw [World.size_alloc] at hO
      replace hN := hN.below ((Below.refl _ _).alloc (Nat.le_refl _) (.cells #[] 9))
      refine wpAnyH_ready (rs := [4]) (by kernel_rfl) (by simp) ?_
      refine (AllReadyH.cons (o := oTrPut10) rfl (fun K hK => ?_) AllReadyH.nil)
      (refine step_sapp rfl _ _ 36 rfl Tryz.underlying36 infoS rfl hO _ 0 0 [] rfl (HTK.out.below hO.below) hA1.out (by simp) ?_; intro v8 w8 hO8 hgr8; rw [List.nil_append] at hO8)
      refine hK.out _ _ ?_ (fun hHeld => ?_)
      · (exact hO8.below)
      clear hK K
      try simp only [oTrPut10, Act.put, sA, sB, sC]
      replace hN := hN.grown hgr8 (fun b o e => by cases e; exact fun e2 => by have e3 : wd.heap.size = wd.heap.size + 1 := Option.some.inj e2; omega)
      clear hO hgr8
      refine wpAnyH_ready (rs := [7]) (by kernel_rfl) (by simp) ?_
      refine (AllReadyH.cons (o := oTrPut11) rfl (fun K hK => ?_) AllReadyH.nil)
      (refine step_sapp rfl _ _ 36 rfl Tryz.underlying36 infoS rfl hO8 _ 1 1 [s] rfl hN (fun e => by cases e) (by simp) ?_; intro v6 w6 hO6 hgr6)
      refine hK.out _ _ ?_ (fun hHeld => ?_)
      · (exact hO6.below)
      clear hK K
      try simp only [oTrPut11, Act.put, sA, sB, sC]
      clear hN hO8 hgr6
      refine wpAnyH_ready (rs := [11]) (by kernel_rfl) (by simp) ?_
      refine (AllReadyH.cons (o := oTrPut12) rfl (fun K hK => ?_) AllReadyH.nil)
      (refine step_sapp rfl _ _ 36 rfl Tryz.underlying36 infoS rfl hO6 _ 0 0 [] rfl (HD.out.below hO6.below) hA2.out (by simp) ?_; intro v5 w5 hO5 hgr5)
      refine hK.out _ _ ?_ (fun hHeld => ?_)
      · (exact hO5.below)
      clear hK K
      try simp only [oTrPut12, Act.put, sA, sB, sC]
      refine tkY 12 oTrPut13 ?vv5_15_12 rfl (by kernel_rfl) (by kernel_rfl) (by kernel_rfl) (fun _ _ _ h => h) (by rfl) ?hy5_15_12 (by assumption) ?rest5_15_12
      case hy5_15_12 => (intro w hSw; unfold oTrPut13; (try dsimp only at hSw); (try go_split_ands); go_simp; all_goals with_reducible rfl)
      try simp only [oTrPut13, Act.put, sA, sB, sC]
      refine wpAnyH_done (by kernel_rfl) ?_ _
      go_wp2_with fail
      go_ret
      have hO4 := OwnS.told hO5
      rw [HM.out] at hO4
      exact hO4
theorem put_eq {A : Option Addr} (s : List UInt8) (M : List (List UInt8)) (hs : Strs w A n l) (hA : A = none ∧ c = 0 ∨ ∃ b, A = some ⟨b, 0, none⟩) (hnc : n ≤ c) (hn : n ≤ 1000000) (h : putL l s = M) :
    Calls Tryz.prog 58 #[.slice A n c, .string ⟨s.toArray⟩] w fun e w' => SVP w M e w' := by
  rcases hA with ⟨rfl, rfl⟩ | ⟨b, rfl⟩
  · have h0 : n = 0 := by omega
    subst h0
    have hl : l = [] := List.eq_nil_of_length_eq_zero hs.len
    subst hl
    subst h
    exact put_none s w
  · exact put_some b s M hs hnc hn h
end
end Go.Proofs.YtipdmfnkkkdlbaaGreatDoor
