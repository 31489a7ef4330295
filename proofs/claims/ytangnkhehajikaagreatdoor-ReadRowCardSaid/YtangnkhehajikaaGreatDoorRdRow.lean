/-
  ReadRow.
-/
import Derived.Test.YtangnkhehajikaaGreatDoorRdRowM
set_option linter.unusedSimpArgs false
set_option linter.unusedVariables false
namespace Go.Proofs.YtangnkhehajikaaGreatDoor
open Go.RowKit
set_option maxRecDepth 100000
namespace lawReadRow
theorem nat_b (n : Nat) (h : n ≤ 1000000) : wrap64 (n : Int) = n ∧ IntKind.i64.wrap (n : Int) = n ∧ (0 : Int) ≤ (n : Int) := ⟨IntWalk.wrap64_in _ (by omega), IntWalk.i64_in _ (by omega), by omega⟩
def Good (ps : List PX) : Prop := ∀ x ∈ ps, okB x = true ∧ Fit x.1 x.2 ∧ totB x.1 x.2 ≤ 10000 ∧ x.2.length ≤ 100
theorem good_snoc {ps : List PX} {k : Nat} {x : PX} (h : Good (ps.take k)) (hx : ps[k]? = some x) (h1 : okB x = true) (h2 : Fit x.1 x.2) (h3 : totB x.1 x.2 ≤ 10000) (h4 : x.2.length ≤ 100) : Good (ps.take (k + 1)) := by
  intro y hy
  rw [List.take_add_one, hx] at hy
  simp only [List.mem_append, Option.toList_some, List.mem_singleton] at hy
  rcases hy with hy | rfl
  · exact h y hy
  · exact ⟨h1, h2, h3, h4⟩
set_option maxHeartbeats 8000000 in
theorem walk (w : World) (hG : Glo w) (A : Option Addr) (n c : Nat) (ps : List PX) (hs : Pks w A n ps) (hc : A = none → c = 0) (hn : n ≤ 9223372036854775807) (hp : ∀ x ∈ ps, Came x.1 x.2) (lg : Bool) :
    Calls Tryz.prog 5 #[.slice A n c, .bool lg] w fun e w' => e = .returned (.bool true) ∧ Below w.heap.size w w' := by
  have HG := Lib.hid hG
  have HS := Lib.hid hs
  have HC := Lib.hid hp
  have hlen := Lib.hid hs.len
  have hb : Below w.heap.size w w := Below.refl _ _
  clear hG hs hp hc
  by_cases hbig : 20 < n
  · have hd : decide ((20 : Int) < (n : Int)) = true := by simp; omega
    go_enter Tryz.func5, Tryz.ntmps5
    go_wp2_with fail
    refine (awake5_any _ HG.out).mono ?_
    rintro e w2 ⟨rfl, hb2⟩
    go_wp2_with fail
    go_ret
    exact ⟨rfl, hb2⟩
  · have hd : decide ((20 : Int) < (n : Int)) = false := by simp; omega
    have hn20 : n ≤ 20 := by omega
    clear hbig hn
    go_enter Tryz.func5, Tryz.ntmps5
    go_wp2_with fail
    go_loopw [5, 6] (fun s i wr => ∃ k : Nat, i = .int .i64 k ∧ k ≤ n ∧ s = .string ⟨(lngs lg (ps.take k)).toArray⟩ ∧ Below w.heap.size w wr ∧ Hid (Good (ps.take k))) (fun _ i _ => n - (intOf i).toNat)
    case atStart => exact ⟨0, rfl, by omega, by simp [lngs], hb, by show Good _; intro x hx; simp at hx⟩
    case round =>
      clear hb
      obtain ⟨k, rfl, hk, rfl, hb, HT⟩ := hrel
      have hl1 := lngs_len lg _ HT.out
      rw [List.length_take, hlen.out, Nat.min_eq_left hk] at hl1
      by_cases hlt : k < n
      · have hlt2 : (k : Int) < (n : Int) := by omega
        obtain ⟨bx, off, x, A', n', c', rfl, hxk, hbx, hsz, hex, hsub, hcx⟩ := (HS.out.below hb).at_ hlt
        have HSUB := Lib.hid hsub
        have HCX := Lib.hid (HC.out x (List.mem_of_getElem? hxk))
        have HXK := Lib.hid hxk
        have HCC := Lib.hid hcx
        clear hsub hxk hcx
        go_wp2_with fail
        refine (great_any x.1 A' n' c' x.2 _ HSUB.out HCX.out).mono ?_
        rintro e w1 ⟨g, rfl, hgr, hb1⟩
        have HGR := Lib.hid hgr
        have HSUB1 := Lib.hid (HSUB.out.below hb1)
        rw [← rowAt_below hb1 hbx] at hsz hex
        have hbx1 := Nat.lt_of_lt_of_le hbx hb1.size
        replace hb := below_more hb hb1
        clear hgr hb1 hbx
        cases g with
        | true =>
          go_wp2_with fail
          refine (awake5_any _ (HG.out.below hb)).mono ?_
          rintro e w2 ⟨rfl, hb2⟩
          go_wp2_with fail
          go_ret
          exact ⟨rfl, below_more hb hb2⟩
        | false =>
          have HTT := Lib.hid (HGR.out rfl)
          have HF := Lib.hid (fit_came HCX.out HTT.out.1 HTT.out.2)
          cases hok : okB x with
          | false =>
            have HE : Hid (encR x.1 x.2 = ([], 4)) := by
              show _ = _
              unfold encR
              rw [if_neg]
              intro h
              simp [okB, h] at hok
            clear hok
            go_wp2_with fail
            refine (encode_eq x.1 A' n' c' x.2 [] 4 _ (HG.out.below hb) HSUB1.out HCC.out HF.out HE.out).mono ?_
            rintro e w2 ⟨rfl, hb2⟩
            replace hb := below_more hb hb2
            clear hb2
            go_wp2_with fail
            refine (awake5_any _ (HG.out.below hb)).mono ?_
            rintro e w2 ⟨rfl, hb2⟩
            go_wp2_with fail
            go_ret
            exact ⟨rfl, below_more hb hb2⟩
          | true =>
            have HOK := Lib.hid hok
            have HE : Hid (encR x.1 x.2 = (encP x, 0)) := by show _ = _; unfold encR; rw [if_pos (by simpa [okB] using hok)]; rfl
            have hfl := lng_facts lg x hok HF.out HTT.out.1 HTT.out.2
            have hf0 := lng_facts false x hok HF.out HTT.out.1 HTT.out.2
            have hfe : lngP false x = encP x := rfl
            rw [hfe] at hf0
            obtain ⟨T, hT⟩ : ∃ T, T = encP x := ⟨_, rfl⟩
            obtain ⟨v, hv⟩ : ∃ v, restN x.1 x.2 = v := ⟨_, rfl⟩
            obtain ⟨Y, hY⟩ : ∃ Y, Y = lngs lg (ps.take k) := ⟨_, rfl⟩
            obtain ⟨LX, hLX⟩ : ∃ LX, LX = lngP lg x := ⟨_, rfl⟩
            have HV := Lib.hid hv
            have HSN : Hid (lngs lg (ps.take (k + 1)) = Y ++ LX) := by show _ = _; rw [lngs_snoc lg ps k x HXK.out, hY, hLX]
            have HG1 := Lib.hid (good_snoc HT.out HXK.out hok HF.out HTT.out.1 HTT.out.2)
            rw [← hT] at HE hf0
            rw [← hLX] at hfl
            rw [← hY] at hl1 ⊢
            have t2 : 2 ≤ T.length := hf0.1
            have t3 : T.length ≤ 12000 := hf0.2.1
            have x3 : LX.length ≤ 12000 := hfl.2.1
            have hYl : Y.length ≤ 240000 := by omega
            have hadd := fun W => add_str (P := Tryz.prog) W Y LX (by omega)
            have td : decide (T.length < 2) = false := by simp; omega
            have HTE := Lib.hid hT
            have HLXE := Lib.hid hLX
            clear hf0 hfl hfe hY hok hT hLX hv hl1
            cases hbr : (lg && decide (v < 128)) with
            | false =>
              have hTL : T = LX := by rw [HTE.out, HLXE.out]; unfold lngP; rw [HV.out, if_neg (by rw [hbr]; simp)]
              subst hTL
              cases lg with
              | false =>
                go_wp2_with fail
                refine (encode_eq x.1 A' n' c' x.2 T 0 _ (HG.out.below hb) HSUB1.out HCC.out HF.out HE.out).mono ?_
                rintro e w2 ⟨rfl, hb2⟩
                replace hb := below_more hb hb2
                clear hb2
                go_wp2_with fail
                go_roundw
                case rel => exact ⟨k + 1, by go_num, by omega, by rw [HSN.out], hb, HG1⟩
                case measure => simp [intOf]; omega
              | true =>
                have hvd : decide (v < 128) = false := by simpa using hbr
                go_wp2_with fail
                refine (encode_eq x.1 A' n' c' x.2 T 0 _ (HG.out.below hb) HSUB1.out HCC.out HF.out HE.out).mono ?_
                rintro e w2 ⟨rfl, hb2⟩
                have HSUB2 := Lib.hid (HSUB1.out.below hb2)
                rw [← rowAt_below hb2 hbx1] at hsz hex
                have hbx2 := Nat.lt_of_lt_of_le hbx1 hb2.size
                replace hb := below_more hb hb2
                clear hb2 hbx1
                go_wp2_with fail
                refine (rest_eq x.1 A' n' c' x.2 v _ (HG.out.below hb) HSUB2.out HF.out HV.out).mono ?_
                rintro e w3 ⟨rfl, hb2⟩
                replace hb := below_more hb hb2
                clear hb2
                go_wp2_with fail
                go_roundw
                case rel => exact ⟨k + 1, by go_num, by omega, by rw [HSN.out], hb, HG1⟩
                case measure => simp [intOf]; omega
            | true =>
              simp only [Bool.and_eq_true, decide_eq_true_eq] at hbr
              obtain ⟨rfl, hv1⟩ := hbr
              have hvd : decide (v < 128) = true := by simpa using hv1
              obtain ⟨b1, HA, hb1v, hall⟩ := enc_one HOK.out HF.out (by rw [HV.out]; exact hv1)
              rw [HV.out] at hb1v
              obtain ⟨y, hy⟩ : ∃ y : Int, y = 128 + v := ⟨_, rfl⟩
              have hlv : 0 ≤ v := by have := b1.toNat_lt; omega
              have HLL : Hid (T.take 1 ++ toB y :: toB 0 :: T.drop 2 = LX) := by
                show _ = _
                have := hall (toB y)
                rw [HTE.out, HLXE.out]
                unfold lngP
                rw [HV.out, if_pos (by simp [hv1]), ← hy]
                exact this
              rw [← HTE.out] at HA
              have hy2 : (b1.toNat : Int) + 128 = y := by omega
              have hy3 : IntKind.u8.wrap y = y := IntWalk.u8_in _ (by omega)
              have hcv := Lib.hid (fun W g => conv_cell2 (P := Tryz.prog) (S := 9) Tryz.underlying44 Tryz.underlying5 Tryz.underlying9 W g y 0 (by omega) (by omega) (by omega) (by omega))
              have had1 := fun W => add_str (P := Tryz.prog) W (T.take 1) [toB y, toB 0] (by simp; omega)
              have had2 := fun W => add_str (P := Tryz.prog) W (T.take 1 ++ [toB y, toB 0]) (T.drop 2) (by simp; omega)
              have t1 : 1 < T.length := by omega
              have t0 : (1 : Int) ≤ (T.length : Int) := by omega
              have t4 : (2 : Int) ≤ (T.length : Int) := by omega
              have t5 : (1 : Int) < (T.length : Int) := by omega
              clear hall hy hb1v hv1
              go_wp2_with fail
              refine (encode_eq x.1 A' n' c' x.2 T 0 _ (HG.out.below hb) HSUB1.out HCC.out HF.out HE.out).mono ?_
              rintro e w2 ⟨rfl, hb2⟩
              have HSUB2 := Lib.hid (HSUB1.out.below hb2)
              rw [← rowAt_below hb2 hbx1] at hsz hex
              have hbx2 := Nat.lt_of_lt_of_le hbx1 hb2.size
              replace hb := below_more hb hb2
              clear hb2 hbx1
              go_wp2_with fail
              refine (rest_eq x.1 A' n' c' x.2 v _ (HG.out.below hb) HSUB2.out HF.out HV.out).mono ?_
              rintro e w3 ⟨rfl, hb2⟩
              replace hb := below_more hb hb2
              clear hb2
              go_wp2_with fail
              refine wp_region_held_drew (S := (fun w' => Below w.heap.size w w')) (by kernel_rfl) (hb.drew) (fun hHeld => ?_)
              refine wpAnyH_take (i := 0) (oi := ({ dst := some 52, op := Go.Op.move (Go.Operand.tmp 7), type := 9, pos := "outright.go:69", after := #[], guard := none } : Oper)) (v := ?vv1_0) rfl (by kernel_rfl) (by kernel_rfl) (by kernel_rfl) (fun _ _ _ h => h) (Or.inl ⟨by rfl, ?hy1_0⟩) (by assumption) ?rest1_0
              case hy1_0 => (intro w hSw; (try dsimp only at hSw); (try go_split_ands); go_simp; all_goals with_reducible rfl)
              try simp only [Act.put, List.setIfInBounds_toArray, List.set_cons_zero, List.set_cons_succ]
              refine wpAnyH_take (i := 1) (oi := ({ dst := some 53, op := Go.Op.slice 9 (Go.Operand.tmp 52) none (some (Go.Operand.const (Go.Value.int Go.IntKind.i64 1))) none, type := 9, pos := "outright.go:69", after := #[{ on := 0, ground := Go.Ground.data }], guard := none } : Oper)) (v := ?vv1_1) rfl (by kernel_rfl) (by kernel_rfl) (by kernel_rfl) (fun _ _ _ h => h) (Or.inl ⟨by rfl, ?hy1_1⟩) (by assumption) ?rest1_1
              case hy1_1 => (intro w hSw; (try dsimp only at hSw); (try go_split_ands); go_simp; all_goals with_reducible rfl)
              try simp only [Act.put, List.setIfInBounds_toArray, List.set_cons_zero, List.set_cons_succ]
              refine wpAnyH_take (i := 2) (oi := ({ dst := some 54, op := Go.Op.move (Go.Operand.tmp 7), type := 9, pos := "outright.go:69", after := #[], guard := none } : Oper)) (v := ?vv1_2) rfl (by kernel_rfl) (by kernel_rfl) (by kernel_rfl) (fun _ _ _ h => h) (Or.inl ⟨by rfl, ?hy1_2⟩) (by assumption) ?rest1_2
              case hy1_2 => (intro w hSw; (try dsimp only at hSw); (try go_split_ands); go_simp; all_goals with_reducible rfl)
              try simp only [Act.put, List.setIfInBounds_toArray, List.set_cons_zero, List.set_cons_succ]
              refine wpAnyH_take (i := 3) (oi := ({ dst := some 55, op := Go.Op.index 9 (Go.Operand.tmp 54) (Go.Operand.const (Go.Value.int Go.IntKind.i64 1)), type := 5, pos := "outright.go:69", after := #[{ on := 2, ground := Go.Ground.data }], guard := none } : Oper)) (v := ?vv1_3) rfl (by kernel_rfl) (by kernel_rfl) (by kernel_rfl) (fun _ _ _ h => h) (Or.inl ⟨by rfl, ?hy1_3⟩) (by assumption) ?rest1_3
              case hy1_3 => (intro w hSw; (try dsimp only at hSw); (try go_split_ands); go_simp; all_goals with_reducible rfl)
              try simp only [Act.put, List.setIfInBounds_toArray, List.set_cons_zero, List.set_cons_succ]
              refine wpAnyH_take (i := 4) (oi := ({ dst := some 56, op := Go.Op.binOp Go.BinOp.add 5 (Go.Operand.tmp 55) (Go.Operand.const (Go.Value.int Go.IntKind.u8 128)) 5, type := 5, pos := "outright.go:69", after := #[{ on := 3, ground := Go.Ground.data }], guard := none } : Oper)) (v := ?vv1_4) rfl (by kernel_rfl) (by kernel_rfl) (by kernel_rfl) (fun _ _ _ h => h) (Or.inl ⟨by rfl, ?hy1_4⟩) (by assumption) ?rest1_4
              case hy1_4 => (intro w hSw; (try dsimp only at hSw); (try go_split_ands); go_simp; all_goals with_reducible rfl)
              try simp only [Act.put, List.setIfInBounds_toArray, List.set_cons_zero, List.set_cons_succ]
              refine wpAnyH_take (i := 8) (oi := ({ dst := some 60, op := Go.Op.move (Go.Operand.tmp 7), type := 9, pos := "outright.go:69", after := #[], guard := none } : Oper)) (v := ?vv1_8) rfl (by kernel_rfl) (by kernel_rfl) (by kernel_rfl) (fun _ _ _ h => h) (Or.inl ⟨by rfl, ?hy1_8⟩) (by assumption) ?rest1_8
              case hy1_8 => (intro w hSw; (try dsimp only at hSw); (try go_split_ands); go_simp; all_goals with_reducible rfl)
              try simp only [Act.put, List.setIfInBounds_toArray, List.set_cons_zero, List.set_cons_succ]
              refine wpAnyH_take (i := 9) (oi := ({ dst := some 61, op := Go.Op.slice 9 (Go.Operand.tmp 60) (some (Go.Operand.const (Go.Value.int Go.IntKind.i64 2))) none none, type := 9, pos := "outright.go:69", after := #[{ on := 8, ground := Go.Ground.data }], guard := none } : Oper)) (v := ?vv1_9) rfl (by kernel_rfl) (by kernel_rfl) (by kernel_rfl) (fun _ _ _ h => h) (Or.inl ⟨by rfl, ?hy1_9⟩) (by assumption) ?rest1_9
              case hy1_9 => (intro w hSw; (try dsimp only at hSw); (try go_split_ands); go_simp; all_goals with_reducible rfl)
              try simp only [Act.put, List.setIfInBounds_toArray, List.set_cons_zero, List.set_cons_succ]
              refine wpAnyH_ready (rs := [5]) (by kernel_rfl) (by simp) ?_
              refine AllReadyH.cons (o := ({ dst := some 57, op := Go.Op.buildSlice 44 2 #[(0, Go.Operand.tmp 56), (1, Go.Operand.const (Go.Value.int Go.IntKind.u8 0))], type := 44, pos := "outright.go:69", after := #[{ on := 4, ground := Go.Ground.data }], guard := none } : Oper)) rfl (fun K hK => ?_) AllReadyH.nil
              go_simp
              refine hK.out _ _ ?_ (fun hHeld => ?_)
              · (exact below_alloc hHeld _)
              clear hK K
              try simp only [Act.put, List.setIfInBounds_toArray, List.set_cons_zero, List.set_cons_succ]
              refine wpAnyH_more (S2 := fun w' => Below w.heap.size w w' ∧ w'.cell? ⟨w3.heap.size, 0, none⟩ = some (.int .u8 y) ∧ w'.cell? ⟨w3.heap.size, 1, none⟩ = some (.int .u8 0)) (fun _ h => h.1) ⟨hHeld, World.cell?_alloc_new _ _ _ _, World.cell?_alloc_new _ _ _ _⟩ (fun hHeld2 => ?_)
              clear hHeld
              have hHeld := hHeld2
              clear hHeld2
              refine wpAnyH_take (i := 6) (oi := ({ dst := some 58, op := Go.Op.convert 44 9 (Go.Operand.tmp 57), type := 9, pos := "outright.go:69", after := #[{ on := 5, ground := Go.Ground.data }], guard := none } : Oper)) (v := ?vv1_6) rfl (by kernel_rfl) (by kernel_rfl) (by kernel_rfl) (fun _ _ _ h => h) (Or.inl ⟨by rfl, ?hy1_6⟩) (by assumption) ?rest1_6
              case hy1_6 => (intro w hSw; (try dsimp only at hSw); have hq := hcv.out w _ hSw.2.1 hSw.2.2; clear hSw; go_simp; all_goals with_reducible rfl)
              try simp only [Act.put, List.setIfInBounds_toArray, List.set_cons_zero, List.set_cons_succ]
              refine wpAnyH_take (i := 7) (oi := ({ dst := some 59, op := Go.Op.binOp Go.BinOp.add 9 (Go.Operand.tmp 53) (Go.Operand.tmp 58) 9, type := 9, pos := "outright.go:69", after := #[{ on := 1, ground := Go.Ground.data }, { on := 6, ground := Go.Ground.data }], guard := none } : Oper)) (v := ?vv1_7) rfl (by kernel_rfl) (by kernel_rfl) (by kernel_rfl) (fun _ _ _ h => h) (Or.inl ⟨by rfl, ?hy1_7⟩) (by assumption) ?rest1_7
              case hy1_7 => (intro w hSw; (try dsimp only at hSw); (try go_split_ands); go_simp; all_goals with_reducible rfl)
              try simp only [Act.put, List.setIfInBounds_toArray, List.set_cons_zero, List.set_cons_succ]
              refine wpAnyH_take (i := 10) (oi := ({ dst := some 62, op := Go.Op.binOp Go.BinOp.add 9 (Go.Operand.tmp 59) (Go.Operand.tmp 61) 9, type := 9, pos := "outright.go:69", after := #[{ on := 7, ground := Go.Ground.data }, { on := 9, ground := Go.Ground.data }], guard := none } : Oper)) (v := ?vv1_10) rfl (by kernel_rfl) (by kernel_rfl) (by kernel_rfl) (fun _ _ _ h => h) (Or.inl ⟨by rfl, ?hy1_10⟩) (by assumption) ?rest1_10
              case hy1_10 => (intro w hSw; (try dsimp only at hSw); (try go_split_ands); go_simp; all_goals with_reducible rfl)
              try simp only [Act.put, List.setIfInBounds_toArray, List.set_cons_zero, List.set_cons_succ]
              refine wpAnyH_take (i := 11) (oi := ({ dst := some 7, op := Go.Op.assign (Go.Operand.tmp 62), type := 9, pos := "outright.go:69", after := #[{ on := 10, ground := Go.Ground.data }, { on := 0, ground := Go.Ground.phase }, { on := 1, ground := Go.Ground.phase }, { on := 2, ground := Go.Ground.phase }, { on := 3, ground := Go.Ground.phase }, { on := 4, ground := Go.Ground.phase }, { on := 5, ground := Go.Ground.phase }, { on := 6, ground := Go.Ground.phase }, { on := 7, ground := Go.Ground.phase }, { on := 8, ground := Go.Ground.phase }, { on := 9, ground := Go.Ground.phase }, { on := 10, ground := Go.Ground.phase }], guard := none } : Oper)) (v := ?vv1_11) rfl (by kernel_rfl) (by kernel_rfl) (by kernel_rfl) (fun _ _ _ h => h) (Or.inl ⟨by rfl, ?hy1_11⟩) (by assumption) ?rest1_11
              case hy1_11 => (intro w hSw; (try dsimp only at hSw); (try go_split_ands); go_simp; all_goals with_reducible rfl)
              try simp only [Act.put, List.setIfInBounds_toArray, List.set_cons_zero, List.set_cons_succ]
              refine wpAnyH_done (by kernel_rfl) ?_ _
              rw [HLL.out]
              replace hb := hHeld.1
              clear hHeld
              obtain ⟨w5, hw5⟩ : ∃ w5, w5 = (w3.alloc (.cells #[.int .u8 y, .int .u8 0] 5)).drew := ⟨_, rfl⟩
              rw [← hw5] at hb ⊢
              clear hw5 had1 had2
              go_wp2_with fail
              go_roundw
              case rel => exact ⟨k + 1, by go_num, by omega, by rw [HSN.out], hb, HG1⟩
              case measure => simp [intOf]; omega
      · have hge : ¬ (k : Int) < (n : Int) := by omega
        have hke : ps.take k = ps := List.take_of_length_le (by rw [hlen.out]; omega)
        rw [hke] at HT
        rw [hke]
        have HGOOD := HT
        clear HT hke hl1 hlt hk
        go_wp2_with fail
        go_loopw [5, 9] (fun s i wr => ∃ k : Nat, i = .int .i64 k ∧ k ≤ n ∧ s = .string ⟨(lngs lg (ps.drop k)).toArray⟩ ∧ Below w.heap.size w wr) (fun _ i _ => n - (intOf i).toNat)
        case atStart => exact ⟨0, rfl, by omega, by simp, hb⟩
        case round =>
          clear hb hge
          obtain ⟨k, rfl, hk, rfl, hb⟩ := hrel
          by_cases hlt : k < n
          · have hlt2 : (k : Int) < (n : Int) := by omega
            have hS2 := HS.out.below hb
            obtain ⟨bx, off, x, A', n', c', rfl, hxk, hbx, hsz, hex, hsub, hcx⟩ := hS2.at_ hlt
            have hxm := List.mem_of_getElem? hxk
            obtain ⟨g1, g2, g3, g4⟩ := HGOOD.out x hxm
            have hdl : (lngs lg (ps.drop k)).length ≤ 12000 * (ps.drop k).length := lngs_len lg _ (fun y hy => HGOOD.out y (List.mem_of_mem_drop hy))
            rw [List.length_drop, hlen.out] at hdl
            obtain ⟨f1, f2, f3⟩ := lng_facts lg x g1 g2 g3 g4
            have hdr := lngs_drop lg ps k x hxk
            obtain ⟨Z, hZ⟩ : ∃ Z, Z = lngs lg (ps.drop k) := ⟨_, rfl⟩
            obtain ⟨Z2, hZ2⟩ : ∃ Z2, Z2 = lngs lg (ps.drop (k + 1)) := ⟨_, rfl⟩
            obtain ⟨LX, hLX⟩ : ∃ LX, LX = lngP lg x := ⟨_, rfl⟩
            rw [← hZ] at hdl hdr ⊢
            rw [← hZ2, ← hLX] at hdr
            rw [← hLX] at f1 f2 f3
            obtain ⟨d1, d2⟩ := f3 Z2
            rw [← hdr] at d1 d2
            obtain ⟨q, hq⟩ : ∃ q, q = LX.length := ⟨_, rfl⟩
            rw [← hq] at d1 f1 f2
            have HD := Lib.hid d1
            have HDR : Hid (Z.drop q = Z2) := by show _ = _; rw [hq, hdr, List.drop_left]
            have hqZ : q ≤ Z.length := by rw [hq, hdr, List.length_append]; omega
            have hZl : Z.length ≤ 240000 := by omega
            have hZ9 : Z.length ≤ 1000000000 := by omega
            have hq9 : q ≤ 1000000 := by omega
            have hqI : (q : Int) ≤ (Z.length : Int) := by omega
            have HZ2 := Lib.hid hZ2
            have HSUB := Lib.hid hsub
            have HCX := Lib.hid hcx
            have hnn : n' ≤ 1000000 := by have := hsub.len; omega
            have hn2 : decide (q < 2) = false := by simp; omega
            have hn2i : decide ((q : Int) < 2) = false := by simp; omega
            have hn3 : decide (Z.length < q) = false := by simp; omega
            have hn3i : decide ((Z.length : Int) < (q : Int)) = false := by simp; omega
            have heq : Hid ((eqPk x.1 x.1 && x.2 == x.2) = true) := by show _ = _; rw [(eqPk_iff x.1 x.1).2 rfl]; simp
            clear hS2 hxk hxm hdl hdr d1 f1 f2 f3 hZ hZ2 hLX hq hsub hcx g1 g2 g3 g4
            go_wp2_with fail
            refine (decode_eq Z x.1 x.2 q 0 _ (HG.out.below hb) hZ9 d2 HD.out).mono ?_
            rintro e w2 ⟨B, d, rfl, hb2, hS4, _, _⟩
            have HSUB2 := Lib.hid (HSUB.out.below hb2)
            rw [← rowAt_below hb2 hbx] at hsz hex
            have hbx2 := Nat.lt_of_lt_of_le hbx hb2.size
            replace hb := below_more hb hb2
            have HSB := Lib.hid hS4
            clear hb2 hbx hS4
            have hKq := ((Kp.nil w2).new (PkC x.1 B x.2.length d) 27)
            go_wp2_with fail
            obtain ⟨w3, hw3⟩ : ∃ w3, w3 = w2.alloc (.cells (PkC x.1 B x.2.length d) 27) := ⟨_, rfl⟩
            rw [← hw3] at hKq ⊢
            clear hw3
            have hk0 : (0 : Int) ≤ (k : Int) := by omega
            have hx2 : x.2.length ≤ 1000000 := by have := HSUB2.out.len; omega
            refine wp_region_held_drew (S := (fun w' => Kp w2 [(w2.heap.size, PkC x.1 B x.2.length d, 27)] w')) (by kernel_rfl) (hKq.drew) (fun hHeld => ?_)
            refine wpAnyH_take (i := 0) (oi := ({ dst := some 78, op := Go.Op.move (Go.Operand.tmp 12), type := 31, pos := "outright.go:75", after := #[], guard := none } : Oper)) (v := ?vv2_0) rfl (by kernel_rfl) (by kernel_rfl) (by kernel_rfl) (fun _ _ _ h => h) (Or.inl ⟨by rfl, ?hy2_0⟩) (by assumption) ?rest2_0
            case hy2_0 => (intro w hSw; (try dsimp only at hSw); (try go_split_ands); go_simp; all_goals with_reducible rfl)
            try simp only [Act.put, List.setIfInBounds_toArray, List.set_cons_zero, List.set_cons_succ]
            refine wpAnyH_take (i := 1) (oi := ({ dst := some 79, op := Go.Op.binOp Go.BinOp.neq 31 (Go.Operand.tmp 78) (Go.Operand.const (Go.Value.int Go.IntKind.i64 0)) 31, type := 4, pos := "outright.go:75", after := #[{ on := 0, ground := Go.Ground.data }], guard := none } : Oper)) (v := ?vv2_1) rfl (by kernel_rfl) (by kernel_rfl) (by kernel_rfl) (fun _ _ _ h => h) (Or.inl ⟨by rfl, ?hy2_1⟩) (by assumption) ?rest2_1
            case hy2_1 => (intro w hSw; (try dsimp only at hSw); (try go_split_ands); go_simp; all_goals with_reducible rfl)
            try simp only [Act.put, List.setIfInBounds_toArray, List.set_cons_zero, List.set_cons_succ]
            refine wpAnyH_take (i := 2) (oi := ({ dst := some 80, op := Go.Op.move (Go.Operand.tmp 79), type := 4, pos := "outright.go:75", after := #[{ on := 1, ground := Go.Ground.data }], guard := none } : Oper)) (v := ?vv2_2) rfl (by kernel_rfl) (by kernel_rfl) (by kernel_rfl) (fun _ _ _ h => h) (Or.inl ⟨by rfl, ?hy2_2⟩) (by assumption) ?rest2_2
            case hy2_2 => (intro w hSw; (try dsimp only at hSw); (try go_split_ands); go_simp; all_goals with_reducible rfl)
            try simp only [Act.put, List.setIfInBounds_toArray, List.set_cons_zero, List.set_cons_succ]
            refine wpAnyH_take (i := 3) (oi := ({ dst := some 81, op := Go.Op.load 27 (Go.Operand.tmp 10), type := 27, pos := "outright.go:75", after := #[{ on := 2, ground := Go.Ground.guard }], guard := some (2, false) } : Oper)) (v := ?vv2_3) rfl (by kernel_rfl) (by kernel_rfl) (by kernel_rfl) (fun _ _ _ h => h) (Or.inl ⟨by rfl, ?hy2_3⟩) (by assumption) ?rest2_3
            case hy2_3 => (intro w hSw; (try dsimp only at hSw); have q1 := hSw.row; have q2 := hSw.cell; go_simp; all_goals with_reducible rfl)
            try simp only [Act.put, List.setIfInBounds_toArray, List.set_cons_zero, List.set_cons_succ]
            refine wpAnyH_take (i := 4) (oi := ({ dst := some 82, op := Go.Op.move (Go.Operand.tmp 0), type := 43, pos := "outright.go:75", after := #[{ on := 2, ground := Go.Ground.guard }], guard := some (2, false) } : Oper)) (v := ?vv2_4) rfl (by kernel_rfl) (by kernel_rfl) (by kernel_rfl) (fun _ _ _ h => h) (Or.inl ⟨by rfl, ?hy2_4⟩) (by assumption) ?rest2_4
            case hy2_4 => (intro w hSw; (try dsimp only at hSw); (try go_split_ands); go_simp; all_goals with_reducible rfl)
            try simp only [Act.put, List.setIfInBounds_toArray, List.set_cons_zero, List.set_cons_succ]
            refine wpAnyH_take (i := 5) (oi := ({ dst := some 83, op := Go.Op.move (Go.Operand.tmp 9), type := 3, pos := "outright.go:75", after := #[{ on := 2, ground := Go.Ground.guard }], guard := some (2, false) } : Oper)) (v := ?vv2_5) rfl (by kernel_rfl) (by kernel_rfl) (by kernel_rfl) (fun _ _ _ h => h) (Or.inl ⟨by rfl, ?hy2_5⟩) (by assumption) ?rest2_5
            case hy2_5 => (intro w hSw; (try dsimp only at hSw); (try go_split_ands); go_simp; all_goals with_reducible rfl)
            try simp only [Act.put, List.setIfInBounds_toArray, List.set_cons_zero, List.set_cons_succ]
            refine wpAnyH_take (i := 6) (oi := ({ dst := some 84, op := Go.Op.indexAddr 43 (Go.Operand.tmp 82) (Go.Operand.tmp 83), type := 0, pos := "outright.go:75", after := #[{ on := 4, ground := Go.Ground.data }, { on := 5, ground := Go.Ground.data }, { on := 2, ground := Go.Ground.guard }], guard := some (2, false) } : Oper)) (v := ?vv2_6) rfl (by kernel_rfl) (by kernel_rfl) (by kernel_rfl) (fun _ _ _ h => h) (Or.inl ⟨by rfl, ?hy2_6⟩) (by assumption) ?rest2_6
            case hy2_6 => (intro w hSw; (try dsimp only at hSw); (try go_split_ands); go_simp; all_goals with_reducible rfl)
            try simp only [Act.put, List.setIfInBounds_toArray, List.set_cons_zero, List.set_cons_succ]
            refine wpAnyH_take (i := 7) (oi := ({ dst := some 85, op := Go.Op.load 27 (Go.Operand.tmp 84), type := 27, pos := "outright.go:75", after := #[{ on := 6, ground := Go.Ground.data }, { on := 2, ground := Go.Ground.guard }], guard := some (2, false) } : Oper)) (v := ?vv2_7) rfl (by kernel_rfl) (by kernel_rfl) (by kernel_rfl) (fun _ _ _ h => h) (Or.inl ⟨by rfl, ?hy2_7⟩) (by assumption) ?rest2_7
            case hy2_7 => (intro w hSw; (try dsimp only at hSw); have z1 := rowAt_below hSw.below hbx2; go_simp; all_goals with_reducible rfl)
            try simp only [Act.put, List.setIfInBounds_toArray, List.set_cons_zero, List.set_cons_succ]
            refine wpAnyH_ready (rs := [8]) (by kernel_rfl) (by simp) ?_
            refine AllReadyH.cons (o := ({ dst := some 86, op := Go.Op.call { callee := Go.Callee.value (Go.Operand.func 12), args := #[Go.Operand.tmp 81, Go.Operand.tmp 85], argTypes := #[27, 27] }, type := 4, pos := "outright.go:75", after := #[{ on := 3, ground := Go.Ground.data }, { on := 7, ground := Go.Ground.data }, { on := 2, ground := Go.Ground.chain }, { on := 2, ground := Go.Ground.guard }], guard := some (2, false) } : Oper)) rfl (fun K hK => ?_) AllReadyH.nil
            go_simp
            (go_at_call 12; refine (same_eq x.1 x.1 B A' x.2.length d n' c' x.2 x.2 true _ (HSB.out.below hHeld.below) (HSUB2.out.below hHeld.below) hx2 heq.out).mono ?_; rintro e w6 ⟨rfl, hb6⟩)
            refine hK.out _ _ ?_ (fun hHeld => ?_)
            · (exact hHeld.more hb6)
            clear hK K
            try simp only [Act.put, List.setIfInBounds_toArray, List.set_cons_zero, List.set_cons_succ]
            refine wpAnyH_take (i := 9) (oi := ({ dst := some 87, op := Go.Op.unOp Go.UnOp.not 4 (Go.Operand.tmp 86), type := 4, pos := "outright.go:75", after := #[{ on := 8, ground := Go.Ground.data }, { on := 2, ground := Go.Ground.guard }], guard := some (2, false) } : Oper)) (v := ?vv2_9) rfl (by kernel_rfl) (by kernel_rfl) (by kernel_rfl) (fun _ _ _ h => h) (Or.inl ⟨by rfl, ?hy2_9⟩) (by assumption) ?rest2_9
            case hy2_9 => (intro w hSw; (try dsimp only at hSw); (try go_split_ands); go_simp; all_goals with_reducible rfl)
            try simp only [Act.put, List.setIfInBounds_toArray, List.set_cons_zero, List.set_cons_succ]
            refine wpAnyH_take (i := 10) (oi := ({ dst := some 88, op := Go.Op.pick (Go.Operand.tmp 80) (Go.Operand.const (Go.Value.bool true)) (Go.Operand.tmp 87), type := 4, pos := "outright.go:75", after := #[{ on := 2, ground := Go.Ground.data }, { on := 9, ground := Go.Ground.data }], guard := none } : Oper)) (v := ?vv2_10) rfl (by kernel_rfl) (by kernel_rfl) (by kernel_rfl) (fun _ _ _ h => h) (Or.inl ⟨by rfl, ?hy2_10⟩) (by assumption) ?rest2_10
            case hy2_10 => (intro w hSw; (try dsimp only at hSw); (try go_split_ands); go_simp; all_goals with_reducible rfl)
            try simp only [Act.put, List.setIfInBounds_toArray, List.set_cons_zero, List.set_cons_succ]
            refine wpAnyH_take (i := 11) (oi := ({ dst := some 89, op := Go.Op.move (Go.Operand.tmp 88), type := 4, pos := "outright.go:75", after := #[{ on := 10, ground := Go.Ground.data }, { on := 8, ground := Go.Ground.chain }], guard := none } : Oper)) (v := ?vv2_11) rfl (by kernel_rfl) (by kernel_rfl) (by kernel_rfl) (fun _ _ _ h => h) (Or.inl ⟨by rfl, ?hy2_11⟩) (by assumption) ?rest2_11
            case hy2_11 => (intro w hSw; (try dsimp only at hSw); (try go_split_ands); go_simp; all_goals with_reducible rfl)
            try simp only [Act.put, List.setIfInBounds_toArray, List.set_cons_zero, List.set_cons_succ]
            refine wpAnyH_take (i := 12) (oi := ({ dst := some 90, op := Go.Op.move (Go.Operand.tmp 11), type := 3, pos := "outright.go:75", after := #[{ on := 11, ground := Go.Ground.guard }], guard := some (11, false) } : Oper)) (v := ?vv2_12) rfl (by kernel_rfl) (by kernel_rfl) (by kernel_rfl) (fun _ _ _ h => h) (Or.inl ⟨by rfl, ?hy2_12⟩) (by assumption) ?rest2_12
            case hy2_12 => (intro w hSw; (try dsimp only at hSw); (try go_split_ands); go_simp; all_goals with_reducible rfl)
            try simp only [Act.put, List.setIfInBounds_toArray, List.set_cons_zero, List.set_cons_succ]
            refine wpAnyH_take (i := 13) (oi := ({ dst := some 91, op := Go.Op.binOp Go.BinOp.lss 3 (Go.Operand.tmp 90) (Go.Operand.const (Go.Value.int Go.IntKind.i64 2)) 3, type := 4, pos := "outright.go:75", after := #[{ on := 12, ground := Go.Ground.data }, { on := 11, ground := Go.Ground.guard }], guard := some (11, false) } : Oper)) (v := ?vv2_13) rfl (by kernel_rfl) (by kernel_rfl) (by kernel_rfl) (fun _ _ _ h => h) (Or.inl ⟨by rfl, ?hy2_13⟩) (by assumption) ?rest2_13
            case hy2_13 => (intro w hSw; (try dsimp only at hSw); (try go_split_ands); go_simp; all_goals with_reducible rfl)
            try simp only [Act.put, List.setIfInBounds_toArray, List.set_cons_zero, List.set_cons_succ]
            refine wpAnyH_take (i := 14) (oi := ({ dst := some 92, op := Go.Op.pick (Go.Operand.tmp 89) (Go.Operand.const (Go.Value.bool true)) (Go.Operand.tmp 91), type := 4, pos := "outright.go:75", after := #[{ on := 11, ground := Go.Ground.data }, { on := 13, ground := Go.Ground.data }], guard := none } : Oper)) (v := ?vv2_14) rfl (by kernel_rfl) (by kernel_rfl) (by kernel_rfl) (fun _ _ _ h => h) (Or.inl ⟨by rfl, ?hy2_14⟩) (by assumption) ?rest2_14
            case hy2_14 => (intro w hSw; (try dsimp only at hSw); (try go_split_ands); go_simp; all_goals with_reducible rfl)
            try simp only [Act.put, List.setIfInBounds_toArray, List.set_cons_zero, List.set_cons_succ]
            refine wpAnyH_take (i := 15) (oi := ({ dst := some 93, op := Go.Op.move (Go.Operand.tmp 92), type := 4, pos := "outright.go:75", after := #[{ on := 14, ground := Go.Ground.data }, { on := 11, ground := Go.Ground.chain }], guard := none } : Oper)) (v := ?vv2_15) rfl (by kernel_rfl) (by kernel_rfl) (by kernel_rfl) (fun _ _ _ h => h) (Or.inl ⟨by rfl, ?hy2_15⟩) (by assumption) ?rest2_15
            case hy2_15 => (intro w hSw; (try dsimp only at hSw); (try go_split_ands); go_simp; all_goals with_reducible rfl)
            try simp only [Act.put, List.setIfInBounds_toArray, List.set_cons_zero, List.set_cons_succ]
            refine wpAnyH_take (i := 16) (oi := ({ dst := some 94, op := Go.Op.move (Go.Operand.tmp 11), type := 3, pos := "outright.go:75", after := #[{ on := 15, ground := Go.Ground.guard }], guard := some (15, false) } : Oper)) (v := ?vv2_16) rfl (by kernel_rfl) (by kernel_rfl) (by kernel_rfl) (fun _ _ _ h => h) (Or.inl ⟨by rfl, ?hy2_16⟩) (by assumption) ?rest2_16
            case hy2_16 => (intro w hSw; (try dsimp only at hSw); (try go_split_ands); go_simp; all_goals with_reducible rfl)
            try simp only [Act.put, List.setIfInBounds_toArray, List.set_cons_zero, List.set_cons_succ]
            refine wpAnyH_take (i := 17) (oi := ({ dst := some 95, op := Go.Op.move (Go.Operand.tmp 5), type := 9, pos := "outright.go:75", after := #[{ on := 15, ground := Go.Ground.guard }], guard := some (15, false) } : Oper)) (v := ?vv2_17) rfl (by kernel_rfl) (by kernel_rfl) (by kernel_rfl) (fun _ _ _ h => h) (Or.inl ⟨by rfl, ?hy2_17⟩) (by assumption) ?rest2_17
            case hy2_17 => (intro w hSw; (try dsimp only at hSw); (try go_split_ands); go_simp; all_goals with_reducible rfl)
            try simp only [Act.put, List.setIfInBounds_toArray, List.set_cons_zero, List.set_cons_succ]
            refine wpAnyH_take (i := 18) (oi := ({ dst := some 96, op := Go.Op.call { callee := Go.Callee.builtin Go.Builtin.len, args := #[Go.Operand.tmp 95], argTypes := #[9] }, type := 3, pos := "outright.go:75", after := #[{ on := 17, ground := Go.Ground.data }, { on := 15, ground := Go.Ground.guard }], guard := some (15, false) } : Oper)) (v := ?vv2_18) rfl (by kernel_rfl) (by kernel_rfl) (by kernel_rfl) (fun _ _ _ h => h) (Or.inl ⟨by rfl, ?hy2_18⟩) (by assumption) ?rest2_18
            case hy2_18 => (intro w hSw; (try dsimp only at hSw); (try go_split_ands); go_simp; all_goals with_reducible rfl)
            try simp only [Act.put, List.setIfInBounds_toArray, List.set_cons_zero, List.set_cons_succ]
            refine wpAnyH_take (i := 19) (oi := ({ dst := some 97, op := Go.Op.binOp Go.BinOp.gtr 3 (Go.Operand.tmp 94) (Go.Operand.tmp 96) 3, type := 4, pos := "outright.go:75", after := #[{ on := 16, ground := Go.Ground.data }, { on := 18, ground := Go.Ground.data }, { on := 15, ground := Go.Ground.guard }], guard := some (15, false) } : Oper)) (v := ?vv2_19) rfl (by kernel_rfl) (by kernel_rfl) (by kernel_rfl) (fun _ _ _ h => h) (Or.inl ⟨by rfl, ?hy2_19⟩) (by assumption) ?rest2_19
            case hy2_19 => (intro w hSw; (try dsimp only at hSw); (try go_split_ands); go_simp; all_goals with_reducible rfl)
            try simp only [Act.put, List.setIfInBounds_toArray, List.set_cons_zero, List.set_cons_succ]
            refine wpAnyH_take (i := 20) (oi := ({ dst := some 98, op := Go.Op.pick (Go.Operand.tmp 93) (Go.Operand.const (Go.Value.bool true)) (Go.Operand.tmp 97), type := 4, pos := "outright.go:75", after := #[{ on := 15, ground := Go.Ground.data }, { on := 19, ground := Go.Ground.data }], guard := none } : Oper)) (v := ?vv2_20) rfl (by kernel_rfl) (by kernel_rfl) (by kernel_rfl) (fun _ _ _ h => h) (Or.inl ⟨by rfl, ?hy2_20⟩) (by assumption) ?rest2_20
            case hy2_20 => (intro w hSw; (try dsimp only at hSw); (try go_split_ands); go_simp; all_goals with_reducible rfl)
            try simp only [Act.put, List.setIfInBounds_toArray, List.set_cons_zero, List.set_cons_succ]
            refine wpAnyH_done (by kernel_rfl) ?_ _
            replace hb := below_more hb hHeld.below
            clear hHeld hKq
            go_wp2_with fail
            go_roundw
            case rel => exact ⟨k + 1, by go_num, by omega, by rw [← HZ2.out, ← HDR.out], hb⟩
            case measure => simp [intOf]; omega
          · have hke : ps.drop k = [] := List.drop_eq_nil_of_le (by rw [hlen.out]; omega)
            have hZ0 : lngs lg (ps.drop k) = [] := by rw [hke]; rfl
            rw [hZ0]
            have hge : ¬ (k : Int) < (n : Int) := by omega
            clear hke hZ0 hlt hk
            go_wp2_with fail
            refine (fails_yes [] 2 _ (HG.out.below hb) (by simp) (by simp [cutR]) (dec_cut (show cutR [] = ([], 0, 2) from rfl) (by decide))).mono ?_
            rintro e w2 ⟨rfl, hb2⟩
            replace hb := below_more hb hb2
            clear hb2
            go_wp2_with fail
            refine (awake5_any _ (HG.out.below hb)).mono ?_
            rintro e w2 ⟨rfl, hb2⟩
            go_wp2_with fail
            go_ret
            exact ⟨rfl, below_more hb hb2⟩
end lawReadRow
end Go.Proofs.YtangnkhehajikaaGreatDoor
