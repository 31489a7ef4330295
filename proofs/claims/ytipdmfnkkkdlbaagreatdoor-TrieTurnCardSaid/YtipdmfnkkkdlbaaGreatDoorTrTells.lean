/-
  TrieTells: the hints, all and of a client; what is answered may be written over.
-/
import Derived.Test.YtipdmfnkkkdlbaaGreatDoorTrAwake
set_option linter.unusedSimpArgs false
set_option linter.unusedVariables false
namespace Go.Proofs.YtipdmfnkkkdlbaaGreatDoor
open Go.RowKit
/-- A block of a call's own, of at least m cells. -/
def RowB (B : Nat) (w : World) (A : Option Addr) (m : Nat) : Prop := 0 < m → ∃ b, A = some ⟨b, 0, none⟩ ∧ B ≤ b ∧ ∃ (cur : Array Value) (T : TypeId), w.heap[b]? = some (.cells cur T (0, 0)) ∧ m ≤ cur.size
section
variable {B m : Nat} {w w' : World} {A : Option Addr}
theorem RowB.below (h : RowB B w A m) (hb : Below w.heap.size w w') : RowB B w' A m := fun h0 => by
  obtain ⟨b, e, hB, cur, T, h1, h2⟩ := h h0
  exact ⟨b, e, hB, cur, T, (hb.block b (Array.getElem?_eq_some_iff.1 h1).1).trans h1, h2⟩
theorem RowB.set (h : RowB B w A m) (g i : Nat) (v : Value) : RowB B (w.setCell ⟨g, i, none⟩ v) A m := fun h0 => by
  obtain ⟨b, e, hB, cur, T, h1, h2⟩ := h h0
  by_cases hg : g = b
  · subst hg
    exact ⟨g, e, hB, cur.setIfInBounds i v, T, heap_setCell_same w g i cur T _ h1, by simpa using h2⟩
  · refine ⟨b, e, hB, cur, T, ?_, h2⟩
    rw [← h1]
    simp [World.setCell, Array.getElem?_modify, hg]
theorem RowB.at_ (h : RowB B w A m) {j : Nat} (hj : j < m) : ∃ b v, A = some ⟨b, 0, none⟩ ∧ B ≤ b ∧ w.cell? ⟨b, j, none⟩ = some v ∧ w.frozen? ⟨b, j, none⟩ = false := by
  obtain ⟨b, e, hB, cur, T, h1, h2⟩ := h (by omega)
  refine ⟨b, cur[j]'(by omega), e, hB, ?_, by unfold World.frozen?; rw [h1]; simp⟩
  rw [cell_of_row w b j _ _ _ h1]
  exact Array.getElem?_eq_getElem (by omega)
end
theorem OwnH.row {B B1 : Nat} {w0 wr : World} {v : Value} {L : List Hn} (h : OwnH B w0 wr v L) (hB : B1 ≤ B) : ∃ A c, v = .slice A L.length c ∧ Hnts wr A L.length L ∧ RowB B1 wr A (L.length * 2) := by
  rcases h.1.2 with ⟨rfl, hn⟩ | ⟨g, cap, cur, rfl, hg, hh, hc, _, hsz, _⟩
  · exact ⟨none, 0, by rw [hn], ⟨rfl, fun h => by omega⟩, fun h => by omega⟩
  · refine ⟨_, _, rfl, ⟨rfl, fun _ => ⟨g, 0, rfl, fun j x hx => ?_⟩⟩, fun _ => ⟨g, rfl, by omega, cur, _, hh, by omega⟩⟩
    have := h.1.cells (g := g) rfl j x hx
    have hadd : (⟨g, 0, none⟩ : Addr).add j = ⟨g, 0 + j, none⟩ := by unfold Addr.add; split <;> simp_all
    rw [hadd] at this
    exact this
theorem OwnS.row {E : TypeId} {B B1 : Nat} {w0 wr : World} {v : Value} {L : List (List UInt8)} (h : OwnS E B w0 wr v L) (hB : B1 ≤ B) : ∃ A c, v = .slice A L.length c ∧ Strs wr A L.length L ∧ RowB B1 wr A L.length := by
  rcases h.1.2 with ⟨rfl, hn⟩ | ⟨g, cap, cur, rfl, hg, hh, hc, _, hsz, _⟩
  · exact ⟨none, 0, by rw [hn], ⟨rfl, fun h => by omega⟩, fun h => by omega⟩
  · refine ⟨_, _, rfl, ⟨rfl, fun _ => ⟨g, 0, rfl, fun j x hx => ?_⟩⟩, fun _ => ⟨g, rfl, by omega, cur, _, hh, by omega⟩⟩
    have := h.1.cells (g := g) rfl j (strV x) (by simp [hx])
    have hadd : (⟨g, 0, none⟩ : Addr).add j = ⟨g, 0 + j, none⟩ := by unfold Addr.add; split <;> simp_all
    rw [hadd] at this
    exact this
theorem of_len (L : List Hn) (c : List UInt8) : (ofL L c).length ≤ L.length := by
  unfold ofL
  rw [List.length_map]
  exact List.length_filter_le _ _
namespace lawTrieTells
set_option maxHeartbeats 2000000 in
theorem walk (w : World) (hG : GT w) (A : Option Addr) (n c : Nat) (l : List Ac) (hs : Acts w A n l) (hn : n ≤ 9223372036854775807) (hi : Hid (∀ x ∈ l, AcIn x)) (cl0 : List UInt8) (hcl0 : cl0.length ≤ 9223372036854775807) :
    Calls Tryz.prog 4 #[.slice A n c, .string ⟨cl0.toArray⟩] w fun e w' => e = .returned (.bool true) ∧ Below w.heap.size w w' := by
  have HG := Lib.hid hG
  have HS := Lib.hid hs
  have HL := Lib.hid hs.len
  clear hG hs
  go_enter Tryz.func4, Tryz.ntmps4
  go_wp2_with fail
  refine (great9_any A n c l _ HS.out hn hi).mono ?_
  rintro e w0 ⟨b, rfl, hok, rfl⟩
  cases b with
  | true =>
    go_wp2_with fail
    refine (awake9_any _ HG.out).mono ?_
    rintro e w1 ⟨rfl, hb⟩
    go_wp2_with fail
    go_ret
    exact ⟨rfl, hb⟩
  | false =>
    obtain ⟨hl60, hlx⟩ := hok rfl
    have hn60 : n ≤ 60 := by have := HL.out; omega
    have HX := Lib.hid hlx
    clear hok hlx hl60
    by_cases h3 : 300 < cl0.length
    · have i3 : (300 : Int) < (cl0.length : Int) := by omega
      go_wp2_with fail
      refine (awake9_any _ HG.out).mono ?_
      rintro e w1 ⟨rfl, hb⟩
      go_wp2_with fail
      go_ret
      exact ⟨rfl, hb⟩
    have i3 : ¬ (300 : Int) < (cl0.length : Int) := by omega
    go_wp2_with fail
    refine (tNew _ HG.out).mono ?_
    rintro e w1 ⟨t, F, rfl, hT, hb1, hF⟩
    obtain ⟨W, hW⟩ : ∃ W, W = w1.alloc (.cells #[.slice none 0 0] 30) := ⟨_, rfl⟩
    have hR : RT W w1.heap.size none 0 0 [] := by
      rw [hW]
      exact ⟨⟨_, heap_alloc_new w1 _⟩, Hnts.nil none, .inl ⟨rfl, rfl⟩, Nat.le_refl _⟩
    have hbW1 : Below w1.heap.size w1 W := by rw [hW]; exact (Below.refl _ _).alloc (Nat.le_refl _) _
    have hbW := below_more hb1 hbW1
    have hD : DS w.heap.size W t F w1.heap.size none 0 0 [] 0 := ⟨hT.below hbW1, hR, fun b hb => ⟨hF b hb, fun e => by have := hT.lt b hb; omega, fun h => by omega⟩, hb1.size, HsOk.nil 0⟩
    obtain ⟨g, hg⟩ : ∃ g, g = w1.heap.size := ⟨_, rfl⟩
    rw [← hg] at hD
    go_wp2_with fail
    rw [← hW, ← hg]
    clear hW hg hR hbW1 hT hF hb1
    go_loopw [1, 7] (fun s i wr => ∃ (k : Nat) (cl : List UInt8) (F : Nat → Prop) (A2 : Option Addr) (n2 c2 : Nat) (L : List Hn), i = .int .i64 k ∧ s = .string ⟨cl.toArray⟩ ∧ cl.length ≤ 300 ∧ k ≤ n ∧ Below w.heap.size w wr ∧ DS w.heap.size wr t F g A2 n2 c2 L k) (fun _ i _ => n - (intOf i).toNat)
    case atStart => exact ⟨0, cl0, F, none, 0, 0, [], rfl, rfl, by omega, by omega, hbW, hD⟩
    case round =>
      clear hD hbW
      obtain ⟨k, cl, F, A2, n2, c2, L, rfl, rfl, hcl, hk, hb, hD⟩ := hrel
      have hDn := hD.n_le
      have HD := Lib.hid hD
      clear hD
      by_cases hlt : k < n
      · obtain ⟨b1, o1, x, rfl, hx, c0, c1, c3, c4⟩ := (HS.out.below hb).at_ hlt
        have HXx := Lib.hid (HX.out x (List.mem_of_getElem? hx))
        have hAt : Hid (AcAt w b1 (o1 + k * 4) x) := by
          obtain ⟨b2, o2, x2, e2, hx2, hat⟩ := HS.out.at_ hlt
          cases e2
          rw [hx] at hx2; cases hx2
          exact hat
        obtain ⟨M, hM⟩ : ∃ M, actL L x = M := ⟨_, rfl⟩
        have HM := Lib.hid hM
        clear hx hM
        go_wp2_with fail
        refine (does_any x M (HG.out.below hb) HG.out.gb HD.out (by omega) HXx.out HM.out).mono ?_
        rintro e w5 ⟨F5, A5, n5, c5, rfl, hD5, hb5⟩
        have hb6 := hb.trans hb5
        have hq := (hAt.out.below hb6).2.2.1
        clear hb5 c0 c1 c3 c4
        go_wp2_with fail
        go_roundw
        case rel => exact ⟨k + 1, x.c, F5, A5, n5, c5, M, by go_num, rfl, HXx.out.2.1, by omega, hb6, hD5⟩
        case measure => simp [intOf]; omega
      · have hk100 : Hid (HsOk 100 L) := HD.out.ok.le (by omega)
        have hl2 := Lib.hid HD.out.rt.len
        have hl9 : L.length ≤ 100 := hk100.out.2.1
        obtain ⟨T, hT⟩ : ∃ T, ofL L cl = T := ⟨_, rfl⟩
        have hTl := of_len L cl
        rw [hT] at hTl
        have HT := Lib.hid hT
        obtain ⟨nL, hnL⟩ : ∃ nL, L.length = nL := ⟨_, rfl⟩
        obtain ⟨nT, hnT⟩ : ∃ nT, T.length = nT := ⟨_, rfl⟩
        have HNL := Lib.hid hnL
        have HNT := Lib.hid hnT
        rw [hnL] at hl9
        rw [hnL, hnT] at hTl
        clear hT hnL hnT
        obtain ⟨wa, hwa⟩ : ∃ wa, wa = wr := ⟨_, rfl⟩
        rw [← hwa] at hb HD ⊢
        clear hwa
        go_wp2_with fail
        go_loopw [8, 9, 10, 11, 12] (fun i _ _ _ _ wr => ∃ (q : Nat), i = .int .i64 q ∧ q ≤ 2 ∧ Below w.heap.size w wr ∧ DS w.heap.size wr t F g A2 n2 c2 L k) (fun i _ _ _ _ _ => 2 - (intOf i).toNat)
        case atStart => exact ⟨0, rfl, by omega, hb, HD.out⟩
        case round =>
          clear HD hb
          obtain ⟨q, rfl, hq, hb, hD⟩ := hrel
          have HD := Lib.hid hD
          clear hD
          by_cases hq2 : q < 2
          · obtain ⟨wb, hwb⟩ : ∃ wb, wb = wr := ⟨_, rfl⟩
            rw [← hwb] at hb HD ⊢
            clear hwb
            go_wp2_with fail
            refine (tAll (HG.out.below hb) HD.out.pt hk100.out).mono ?_
            rintro e w6 ⟨v6, rfl, hO6⟩
            have hb6 := hO6.below
            obtain ⟨A6, c6, rfl, hs6, hr6⟩ := hO6.row (Nat.le_refl _)
            rw [HNL.out] at hs6 hr6 ⊢
            clear hO6
            go_wp2_with fail
            refine (tOf cl T (HG.out.below (below_more hb hb6)) (HD.out.pt.below hb6) hk100.out hcl HT.out).mono ?_
            rintro e w7 ⟨v7, rfl, hO7⟩
            have hb7 := hO7.below
            obtain ⟨A7, c7, rfl, hs7, hr7⟩ := hO7.row hb6.size
            rw [HNT.out] at hs7 hr7 ⊢
            replace hs6 := hs6.below hb7
            replace hr6 := hr6.below hb7
            have hbb := below_more hb6 hb7
            have hcl7 := (HD.out.below hbb).rt.cell
            clear hO7 hb6 hb7
            go_wp2_with fail
            refine (sameHints_eq A6 nL c6 L A2 n2 c2 L true _ hs6 (HD.out.below hbb).rt.2.1 (by omega) (by simp)).mono ?_
            rintro e w8 ⟨rfl, hb8⟩
            replace hs7 := hs7.below hb8
            replace hr6 := hr6.below hb8
            replace hr7 := hr7.below hb8
            replace hbb := below_more hbb hb8
            clear hb8 hcl7 hs6
            go_wp2_with fail
            refine (of_any cl T (HD.out.below hbb).rt (by omega) HT.out).mono ?_
            rintro e w9 ⟨A9, c9, rfl, hs9, _, _, hb9⟩
            replace hs7 := hs7.below hb9
            replace hr6 := hr6.below hb9
            replace hr7 := hr7.below hb9
            replace hbb := below_more hbb hb9
            rw [HNT.out] at hs9 ⊢
            clear hb9
            go_wp2_with fail
            refine (sameTexts_eq A7 nT c7 T A9 nT c9 T true _ hs7 hs9 (by omega) (by simp)).mono ?_
            rintro e w10 ⟨rfl, hb10⟩
            replace hr6 := hr6.below hb10
            replace hr7 := hr7.below hb10
            replace hbb := below_more hbb hb10
            have HR6 := Lib.hid hr6
            have HR7 := Lib.hid hr7
            clear hb10 hs7 hs9 hr6 hr7
            go_wp2_with fail
            go_loopw [11] (fun i wr => ∃ (j : Nat), i = .int .i64 j ∧ j ≤ nL ∧ Below wb.heap.size wb wr ∧ Hid (RowB wb.heap.size wr A6 (nL * 2)) ∧ Hid (RowB wb.heap.size wr A7 nT)) (fun i _ => nL - (intOf i).toNat)
            case atStart => exact ⟨0, rfl, by omega, hbb, HR6, HR7⟩
            case round =>
              clear hbb HR6 HR7
              obtain ⟨j, rfl, hj, hbb, HR6, HR7⟩ := hrel
              by_cases hjl : j < nL
              · obtain ⟨bx, vx, rfl, hBx, hcx, hfx⟩ := HR6.out.at_ (j := j * 2 + 1) (by omega)
                have hS1 := Lib.hid (HR6.out.set bx (j * 2 + 1) (.string ⟨#[63]⟩))
                have hS2 := Lib.hid (HR7.out.set bx (j * 2 + 1) (.string ⟨#[63]⟩))
                have hbb2 := hbb.setCell (p := ⟨bx, j * 2 + 1, none⟩) hBx (.string ⟨#[63]⟩)
                clear HR6 HR7
                go_wp2_with fail
                go_roundw
                case rel => exact ⟨j + 1, by go_num, by omega, hbb2, hS1, hS2⟩
                case measure => simp [intOf]; omega
              · obtain ⟨wc, hwc⟩ : ∃ wc, wc = wr := ⟨_, rfl⟩
                rw [← hwc] at hbb HR7 ⊢
                clear HR6 hwc
                go_wp2_with fail
                go_loopw [12] (fun i wr => ∃ (j : Nat), i = .int .i64 j ∧ j ≤ nT ∧ Below wb.heap.size wb wr ∧ Hid (RowB wb.heap.size wr A7 nT)) (fun i _ => nT - (intOf i).toNat)
                case atStart => exact ⟨0, rfl, by omega, hbb, HR7⟩
                case round =>
                  clear hbb HR7
                  obtain ⟨j2, rfl, hj2, hbb, HR7⟩ := hrel
                  by_cases hjl2 : j2 < nT
                  · obtain ⟨bx, vx, rfl, hBx, hcx, hfx⟩ := HR7.out.at_ (j := j2) hjl2
                    have hS2 := Lib.hid (HR7.out.set bx j2 (.string ⟨#[63]⟩))
                    have hbb2 := hbb.setCell (p := ⟨bx, j2, none⟩) hBx (.string ⟨#[63]⟩)
                    clear HR7
                    go_wp2_with fail
                    go_roundw
                    case rel => exact ⟨j2 + 1, by go_num, by omega, hbb2, hS2⟩
                    case measure => simp [intOf]; omega
                  · have hb11 := below_more hb hbb
                    have hD11 := HD.out.below hbb
                    go_wp2_with fail
                    go_roundw
                    case rel => exact ⟨q + 1, by go_num, by omega, hb11, hD11⟩
                    case measure => simp [intOf]; omega
          · go_wp2_with fail
            refine (awake9_any _ (HG.out.below hb)).mono ?_
            rintro e w12 ⟨rfl, hb12⟩
            replace hb := below_more hb hb12
            clear hb12
            go_wp2_with fail
            go_ret
            exact ⟨rfl, hb⟩
end lawTrieTells
end Go.Proofs.YtipdmfnkkkdlbaaGreatDoor
