/-
  FrameKnown.
-/
import Derived.Test.YtncgkkhpcgdcaaaDoorFrLaw
set_option linter.unusedSimpArgs false
set_option linter.unusedVariables false
namespace Go.Proofs.YtncgkkhpcgdcaaaDoor
open Go.RowKit
set_option maxRecDepth 100000
namespace lawFrameKnown
/-- No framer, or one that New did not create. -/
def NoF (w : World) (v : Value) : Prop := v = .pointer none ∨ ∃ g, v = .pointer (some ⟨g, 0, none⟩) ∧ w.heap[g]? = some (.cells (FrC 0 none 0 0 0 0) 43 (0, 0))
theorem NoF.below {w w' : World} {v : Value} (h : NoF w v) (hb : Below w.heap.size w w') : NoF w' v := by
  rcases h with h | ⟨g, h, hh⟩
  · exact Or.inl h
  · exact Or.inr ⟨g, h, (hb.block g (Array.getElem?_eq_some_iff.1 hh).1).trans hh⟩
theorem noMade (w : World) (v : Value) (h : NoF w v) : Calls Tryd.prog 16 #[v] w fun e w' => e = .returned (.bool false) ∧ w' = w := by
  rcases h with rfl | ⟨g, rfl, hh⟩
  · go_enter Tryd.func16, Tryd.ntmps16
    go_wp2_with fail
    go_ret
    exact ⟨rfl, rfl⟩
  · obtain ⟨h1, h2, h3, h4, h5⟩ := blk_row hh
    go_enter Tryd.func16, Tryd.ntmps16
    go_wp2_with fail
    go_ret
    exact ⟨rfl, rfl⟩
theorem noPush (w : World) (v : Value) (h : NoF w v) (s : List UInt8) : Calls Tryd.prog 7 #[v, .string ⟨s.toArray⟩] w fun e w' => e = .returned (.tuple #[]) ∧ w' = w := by
  have H := Lib.hid h
  clear h
  go_enter Tryd.func7, Tryd.ntmps7
  go_wp2_with fail
  refine (noMade _ v H.out).mono ?_
  rintro e w1 ⟨rfl, rfl⟩
  go_wp2_with fail
  go_end0
  exact ⟨rfl, rfl⟩
theorem noLeft (w : World) (v : Value) (h : NoF w v) : Calls Tryd.prog 9 #[v] w fun e w' => e = .returned (.int .i64 0) ∧ w' = w := by
  have H := Lib.hid h
  clear h
  go_enter Tryd.func9, Tryd.ntmps9
  go_wp2_with fail
  refine (noMade _ v H.out).mono ?_
  rintro e w1 ⟨rfl, rfl⟩
  go_wp2_with fail
  go_ret
  exact ⟨rfl, rfl⟩
theorem noNext (w : World) (v : Value) (h : NoF w v) : Calls Tryd.prog 8 #[v] w fun e w' => e = .returned (.tuple #[.agg (PkC zPk none 0 0), .bool false, .int .i64 8]) ∧ Below w.heap.size w w' := by
  have hK0 := (Kp.nil w).new (PkC zPk none 0 0) 30
  have H := Lib.hid (h.below hK0.below)
  clear h
  go_enter Tryd.func8, Tryd.ntmps8
  go_wp2_with fail
  refine (noMade _ v H.out).mono ?_
  rintro e w1 ⟨rfl, rfl⟩
  have a1r := hK0.row; have a1f := hK0.free; have a1c := hK0.cell; have a1l := hK0.lt; have a1z := hK0.froz
  go_wp2_with fail
  refine ret_pk3 2 3 4 w.heap.size zPk none 0 0 (.bool false) (.int .i64 8) rfl rfl (by go_simp <;> rfl) rfl rfl rfl ?_
  exact ⟨rfl, hK0.below⟩
/-- Bytes that are no packet. -/
def bads : List (List UInt8) := [[0], [54, 0], [192, 128, 128, 128, 128], [48, 2, 0, 0], [240], [64, 2, 0, 0]]
def BC : Array Value := (bads.map fun x => Value.string ⟨x.toArray⟩).toArray
theorem BC_fold : (#[.string ⟨#[0]⟩, .string ⟨#[54, 0]⟩, .string ⟨#[192, 128, 128, 128, 128]⟩, .string ⟨#[48, 2, 0, 0]⟩, .string ⟨#[240]⟩, .string ⟨#[64, 2, 0, 0]⟩] : Array Value) = BC := rfl
theorem bad_at (k : Nat) (h : k < 6) : ∃ x, BC[k]? = some (.string ⟨x.toArray⟩) ∧ x.length ≤ 5 ∧ dnR 65536 (192 :: 0 :: (x ++ [192, 0])) 0 = ([((zPk.s_ty 12, []), 0), ((zPk, []), 4)], [], 4) := by
  have h6 : k = 0 ∨ k = 1 ∨ k = 2 ∨ k = 3 ∨ k = 4 ∨ k = 5 := by omega
  rcases h6 with rfl | rfl | rfl | rfl | rfl | rfl
  · exact ⟨[0], rfl, by decide, by kernel_rfl⟩
  · exact ⟨[54, 0], rfl, by decide, by kernel_rfl⟩
  · exact ⟨[192, 128, 128, 128, 128], rfl, by decide, by kernel_rfl⟩
  · exact ⟨[48, 2, 0, 0], rfl, by decide, by kernel_rfl⟩
  · exact ⟨[240], rfl, by decide, by kernel_rfl⟩
  · exact ⟨[64, 2, 0, 0], rfl, by decide, by kernel_rfl⟩
def pA : Pk := ((zPk.s_ty 3).s_topic [97]).s_load [49, 50, 51, 52, 53, 54, 55, 56, 57, 48, 49]
def pB : Pk := ((zPk.s_ty 3).s_topic [97]).s_load [49, 50, 51, 52, 53, 54, 55, 56, 57, 48, 49, 50]
def mM : List UInt8 := [48, 14, 0, 1, 97, 49, 50, 51, 52, 53, 54, 55, 56, 57, 48, 49, 48, 15, 0, 1, 97, 49, 50, 51, 52, 53, 54, 55, 56, 57, 48, 49, 50, 192, 0]
theorem had_1 (W : World) : (Op.stringOp .add ⟨([48, 14, 0, 1, 97, 49, 50, 51, 52, 53, 54, 55, 56, 57, 48, 49] : List UInt8).toArray⟩ ⟨([48, 15, 0, 1, 97, 49, 50, 51, 52, 53, 54, 55, 56, 57, 48, 49, 50] : List UInt8).toArray⟩).run Tryd.prog W = .ok (.string ⟨([48, 14, 0, 1, 97, 49, 50, 51, 52, 53, 54, 55, 56, 57, 48, 49, 48, 15, 0, 1, 97, 49, 50, 51, 52, 53, 54, 55, 56, 57, 48, 49, 50] : List UInt8).toArray⟩) W := add_str W _ _ (by decide)
theorem had_2 (W : World) : (Op.stringOp .add ⟨([48, 14, 0, 1, 97, 49, 50, 51, 52, 53, 54, 55, 56, 57, 48, 49, 48, 15, 0, 1, 97, 49, 50, 51, 52, 53, 54, 55, 56, 57, 48, 49, 50] : List UInt8).toArray⟩ ⟨([192, 0] : List UInt8).toArray⟩).run Tryd.prog W = .ok (.string ⟨([48, 14, 0, 1, 97, 49, 50, 51, 52, 53, 54, 55, 56, 57, 48, 49, 48, 15, 0, 1, 97, 49, 50, 51, 52, 53, 54, 55, 56, 57, 48, 49, 50, 192, 0] : List UInt8).toArray⟩) W := add_str W _ _ (by decide)
theorem dn_16 : dnR 16 mM 0 = ([((pA, []), 0), ((zPk, []), 3)], [], 3) := by kernel_rfl
theorem dn_17 : dnR 17 mM 0 = ([((pA, []), 0), ((pB, []), 0), ((zPk.s_ty 12, []), 0)], [], 0) := by kernel_rfl
theorem dn_18 : dnR 18 mM 0 = ([((pA, []), 0), ((pB, []), 0), ((zPk.s_ty 12, []), 0)], [], 0) := by kernel_rfl
theorem dc_f : dcR 16 [48, 14, 0] = (zPk, [], ((0 : Nat) : Int), 0) := by kernel_rfl
theorem dc_l : dcR 16 [48, 128] = (zPk, [], ((0 : Nat) : Int), 0) := by kernel_rfl
theorem dn_h : dnR 16 [16, 128, 1] 0 = ([((zPk, []), 3)], [], 3) := by kernel_rfl
theorem ownd_one {w : World} {B g : Nat} {p : Pk} {A : Option Addr} {n c : Nat} {xs : List (List UInt8 × Int)} {e : Int} (h : w.heap[g]? = some (.cells (TdC p A n c e) 40 (0, 0))) (hB : B ≤ g) (hS : Subs w A n xs) (hc : A = none → c = 0) (ht : SubT w A n) : OwnD B w (.slice (some ⟨g, 0, none⟩) 1 1) [((p, xs), e)] := by
  have hlt := (Array.getElem?_eq_some_iff.1 h).1
  refine ⟨(TdC p A n c e).toList, ⟨by simp, Or.inr ⟨g, 1, TdC p A n c e, rfl, hB, h, Nat.le_refl _, by unfold maxLen; omega, by simp, ?_⟩⟩, ⟨by simp, fun j x hx => ?_⟩, by omega⟩
  · rw [List.take_of_length_le (by simp)]
  · match j, hx with
    | 0, hx =>
      cases hx
      exact ⟨A, n, c, by rw [Nat.zero_mul, List.drop_zero, List.take_of_length_le (by simp)], hS, hc, ht⟩
    | j + 1, hx => simp at hx
theorem fr_base {B B' : Nat} {w : World} {g : Nat} {o : Option Nat} {m : Int} {b : List UInt8} {f : Int} (h : Fr B w g o m b f) (hB : B' ≤ B) : Fr B' w g o m b f := by
  obtain ⟨A, n, c, k, L, hS, hr⟩ := h
  exact ⟨A, n, c, k, L, ⟨hS.heap, Nat.le_trans hB hS.base, own_base hS.own hB, hS.le, hS.lo, hS.hi⟩, hr⟩
theorem newo_ne {B : Nat} {w : World} {g : Nat} {oh ol ol' : Option Nat} {m : Int} {b : List UInt8} {f : Int} (h : Fr B w g oh m b f) (hn : NewO w ol ol') (D : ∀ d, oh = some d → ol ≠ some d) : ∀ d, oh = some d → ol' ≠ some d := by
  intro d e1 e2
  rcases hn d e2 with h3 | h3
  · exact D d e1 h3
  · obtain ⟨_, cs, h4⟩ := h.oT d e1
    have := (Array.getElem?_eq_some_iff.1 h4).1
    omega
set_option maxHeartbeats 16000000 in
theorem walk (w : World) (hG : Glo w) :
    Calls Tryd.prog 3 #[] w fun e w' => e = .returned (.bool true) ∧ Below w.heap.size w w' := by
  have HG : Hid (∀ w', Below w.heap.size w w' → Glo w') := fun w' h => hG.below h
  clear hG
  have hbc := BC_fold
  go_enter Tryd.func3, Tryd.ntmps3
  clear hbc
  go_wp2_with fail
  refine (frNew _ 16 (by omega) (by omega)).mono ?_
  rintro e w1 ⟨g, rfl, hb, _, hF⟩
  have HF := Lib.hid hF
  clear hF
  go_wp2_with fail
  refine (frPush HF.out [48, 14, 0] (by decide)).mono ?_
  rintro e w2 ⟨rfl, o2, hF2, hd2, _⟩
  have hb2 := HF.out.step hd2 hb
  have HF2 := Lib.hid (show Fr w.heap.size w2 g o2 16 [48, 14, 0] 0 from hF2)
  clear hF2 hd2 hb HF
  go_wp2_with fail
  refine (frNextO HF2.out (glo_c HG.out hb2) (by decide) zPk [] 0 dc_f (by decide) false rfl).mono ?_
  rintro e w3 ⟨⟨A3, c3, rfl, _, _, _⟩, o3, hF3, hd3, _⟩
  have hba := (Below.refl w3.heap.size w3).alloc (Nat.le_refl _) (.cells (PkC zPk A3 0 c3) 30)
  have hb3 := below_more (HF2.out.step hd3 hb2) hba
  have HF3 := Lib.hid (show Fr w.heap.size _ g o3 16 [48, 14, 0] 0 from hF3.below hba)
  clear hF3 hd3 hb2 HF2 hba
  go_wp2_with fail
  refine (frPush HF3.out [255] (by decide)).mono ?_
  rintro e w4 ⟨rfl, o4, hF4, hd4, _⟩
  have hb4 := HF3.out.step hd4 hb3
  have HF4 := Lib.hid (show Fr w.heap.size w4 g o4 16 [48, 14, 0, 255] 0 from hF4)
  clear hF4 hd4 hb3 HF3
  go_wp2_with fail
  refine (frLeft' HF4.out (by decide)).mono ?_
  rintro e w5 ⟨rfl, hb5⟩
  have hb6 := below_more hb4 hb5
  clear hb5 hb4 HF4
  have hbc := BC_fold
  go_wp2_with fail
  clear hbc
  obtain ⟨w6, hw6⟩ : ∃ w6, w6 = w5.alloc (.cells BC 9) := ⟨_, rfl⟩
  have hgb0 : w6.heap[w5.heap.size]? = some (.cells BC 9 (0, 0)) := by rw [hw6]; exact heap_alloc_new w5 _
  have hb7 : Below w.heap.size w w6 := by rw [hw6]; exact below_alloc hb6 _
  rw [← hw6]
  obtain ⟨gb, hgb⟩ : ∃ gb, gb = w5.heap.size := ⟨_, rfl⟩
  rw [← hgb] at hgb0 ⊢
  have HGB0 := Lib.hid hgb0
  have HB7 := Lib.hid hb7
  clear hw6 hgb hgb0 hb7 hb6
  go_loopw [6] (fun i wr => ∃ k : Nat, i = .int .i64 k ∧ k ≤ 6 ∧ Hid (Below w.heap.size w wr) ∧ Hid (wr.heap[gb]? = some (.cells BC 9 (0, 0)))) (fun i _ => 6 - (intOf i).toNat)
  case atStart => exact ⟨0, rfl, by omega, HB7, HGB0⟩
  case round =>
    clear HGB0 HB7
    obtain ⟨k, rfl, hk, HB, HGB⟩ := hrel
    by_cases hlt : k < 6
    · have hlt2 : (k : Int) < 6 := by omega
      have k0 : (0 : Int) ≤ (k : Int) := by omega
      obtain ⟨x, hBC, hxl, hdn⟩ := bad_at k hlt
      have HDN := Lib.hid hdn
      clear hdn
      go_wp2_with fail
      refine (frNew _ 65536 (by omega) (by omega)).mono ?_
      rintro e w8 ⟨g8, rfl, hb8, _, hF8⟩
      have HF8 := Lib.hid (fr_base hF8 HB.out.size)
      have HB8 := Lib.hid (below_more HB.out hb8)
      have HGB8 := Lib.hid ((hb8.block _ (Array.getElem?_eq_some_iff.1 HGB.out).1).trans HGB.out)
      have hcell : w8.cell? ⟨gb, k, none⟩ = some (.string ⟨x.toArray⟩) := by rw [(blk_row HGB8.out).2.2.1 k]; exact hBC
      have had1 : ∀ W, (Op.stringOp .add ⟨([192, 0] : List UInt8).toArray⟩ ⟨x.toArray⟩).run Tryd.prog W = .ok (.string ⟨(192 :: 0 :: x).toArray⟩) W := fun W => add_str W [192, 0] x (by simp; omega)
      obtain ⟨X, hX⟩ : ∃ X, X = 192 :: 0 :: (x ++ [192, 0]) := ⟨_, rfl⟩
      have had2 : ∀ W, (Op.stringOp .add ⟨(192 :: 0 :: x).toArray⟩ ⟨([192, 0] : List UInt8).toArray⟩).run Tryd.prog W = .ok (.string ⟨X.toArray⟩) W := fun W => by rw [hX]; exact add_str W (192 :: 0 :: x) [192, 0] (by simp; omega)
      have hXl : X.length ≤ 9 := by rw [hX]; simp; omega
      rw [← hX] at HDN
      clear hb8 hF8 HB HGB hBC hX hxl
      go_wp2_with fail
      clear hcell had1 had2
      refine (frPush HF8.out X (by simp; omega)).mono ?_
      rintro e w9 ⟨rfl, o9, hF9, hd9, _⟩
      rw [List.nil_append] at hF9
      have HB9 := Lib.hid (HF8.out.step hd9 HB8.out)
      have HGB9 := Lib.hid (HF8.out.other hd9 HGB8.out (by decide) (by decide))
      have HF9 := Lib.hid hF9
      clear hF9 hd9 HF8 HB8 HGB8
      go_wp2_with fail
      refine (drain_any HF9.out HB9.out.size (glo_b HG.out HB9.out) (by omega) _ _ _ HDN.out (by simp)).mono ?_
      rintro e w10 ⟨A10, c10, o10, rfl, hO10, hF10, hd10, _⟩
      have HB10 := Lib.hid (HF9.out.step hd10 HB9.out)
      have HGB10 := Lib.hid (HF9.out.other hd10 HGB9.out (by decide) (by decide))
      have HF10 := Lib.hid hF10
      have HO10 := Lib.hid hO10
      clear hF10 hd10 hO10 HF9 HB9 HGB9
      go_wp2_with fail
      have hbu := ((Below.refl w10.heap.size w10).alloc (Nat.le_refl _) (.cells (Td2 (zPk.s_ty 12) none 0 0 0 zPk none 0 0 4) 40))
      have ht1 := (HO10.out.tds' rfl).1.below hbu
      have ht2 := tds_two (g := w10.heap.size) (w := w10.alloc (.cells (Td2 (zPk.s_ty 12) none 0 0 0 zPk none 0 0 4) 40)) (xs := []) (ys := []) (rowAt_alloc_at _ _ _ rfl) (by simp) (Subs.nil _) (fun _ => rfl) (subT_nil _ _) (Subs.nil _) (fun _ => rfl) (subT_nil _ _)
      refine (tsame _ A10 _ 2 c10 2 _ ht1 ht2 (by omega) (by simp)).mono ?_
      rintro e w11 ⟨rfl, hb11⟩
      have hbv := below_more hbu hb11
      have HF11 := Lib.hid (HF10.out.below hbv)
      have HB11 := Lib.hid (below_more HB10.out hbv)
      have HGB11 := Lib.hid ((hbv.block _ (Array.getElem?_eq_some_iff.1 HGB10.out).1).trans HGB10.out)
      clear ht1 ht2 hbu hbv hb11 HO10 HF10 HB10 HGB10
      go_wp2_with fail
      refine (frLeft' HF11.out (by decide)).mono ?_
      rintro e w12 ⟨rfl, hb12⟩
      have HF12 := Lib.hid (HF11.out.below hb12)
      have HB12 := Lib.hid (below_more HB11.out hb12)
      have HGB12 := Lib.hid ((hb12.block _ (Array.getElem?_eq_some_iff.1 HGB11.out).1).trans HGB11.out)
      clear hb12 HF11 HB11 HGB11
      go_wp2_with fail
      refine (drain_any HF12.out HB12.out.size (glo_b HG.out HB12.out) (by decide) [((zPk, []), 4)] [] 4 (by rw [dn_err _ _ _ (by decide)]) (by decide)).mono ?_
      rintro e w13 ⟨A13, c13, o13, rfl, hO13, hF13, hd13, _⟩
      have HB13 := Lib.hid (HF12.out.step hd13 HB12.out)
      have HGB13 := Lib.hid (HF12.out.other hd13 HGB12.out (by decide) (by decide))
      have HO13 := Lib.hid hO13
      clear hF13 hd13 hO13 HF12 HB12 HGB12
      go_wp2_with fail
      have hbu := ((Below.refl w13.heap.size w13).alloc (Nat.le_refl _) (.cells (TdC zPk none 0 0 4) 40))
      have ht1 := (HO13.out.tds' rfl).1.below hbu
      have ht2 := tds_one (g := w13.heap.size) (w := w13.alloc (.cells (TdC zPk none 0 0 4) 40)) (xs := []) (rowAt_alloc_at _ _ _ rfl) (by simp) (Subs.nil _) (fun _ => rfl) (subT_nil _ _)
      refine (tsame _ A13 _ 1 c13 1 _ ht1 ht2 (by omega) (by simp)).mono ?_
      rintro e w14 ⟨rfl, hb14⟩
      have hbv := below_more hbu hb14
      have HB14 := Lib.hid (below_more HB13.out hbv)
      have HGB14 := Lib.hid ((hbv.block _ (Array.getElem?_eq_some_iff.1 HGB13.out).1).trans HGB13.out)
      clear ht1 ht2 hbu hbv hb14 HO13 HB13 HGB13
      go_wp2_with fail
      go_roundw
      case rel => exact ⟨k + 1, by go_num, by omega, HB14, HGB14⟩
      case measure => simp [intOf]; omega
    · have hge : ¬ (k : Int) < 6 := by omega
      clear HGB hlt hk
      go_wp2_with fail
      clear hge
      go_loopw [9] (fun i wr => ∃ k : Nat, i = .int .i64 k ∧ 16 ≤ k ∧ k ≤ 19 ∧ Hid (Below w.heap.size w wr)) (fun i _ => 19 - (intOf i).toNat)
      case atStart => exact ⟨16, rfl, by omega, by omega, HB⟩
      case round =>
        clear HB
        obtain ⟨k, rfl, hk0, hk1, HB⟩ := hrel
        by_cases hk9 : k = 19
        · have hge : ¬ (k : Int) < 19 := by omega
          clear hk0 hk1 hk9
          go_wp2_with fail
          clear hge
          refine (frNew _ 16 (by omega) (by omega)).mono ?_
          rintro e wa ⟨gh, rfl, hba, _, hFa⟩
          have HHa := Lib.hid (fr_base hFa HB.out.size)
          have HBa := Lib.hid (below_more HB.out hba)
          clear hba hFa HB
          go_wp2_with fail
          refine (frPush HHa.out [16, 128, 1] (by decide)).mono ?_
          rintro e wb ⟨rfl, oh, hFb, hdb, _⟩
          have HBb := Lib.hid (HHa.out.step hdb HBa.out)
          have HHb := Lib.hid (show Fr w.heap.size wb gh oh 16 [16, 128, 1] 0 from hFb)
          clear hFb hdb HHa HBa
          go_wp2_with fail
          refine (frNew _ 16 (by omega) (by omega)).mono ?_
          rintro e wc ⟨gl, rfl, hbc, hgl, hFc⟩
          have hne : gh ≠ gl := by have := HHb.out.lt; omega
          have HHc := Lib.hid (HHb.out.below hbc)
          have HLc := Lib.hid (fr_base hFc HBb.out.size)
          have HBc := Lib.hid (below_more HBb.out hbc)
          clear hbc hgl hFc HHb HBb
          go_wp2_with fail
          refine (frPush HLc.out [48, 128] (by decide)).mono ?_
          rintro e wd ⟨rfl, ol, hFd, hdd, hnd⟩
          have HD1 := Lib.hid (newo_ne HHc.out hnd (fun d _ => by simp))
          have HHd := Lib.hid (HLc.out.second hdd HHc.out hne (fun d _ => by simp))
          have HBd := Lib.hid (HLc.out.step hdd HBc.out)
          have HLd := Lib.hid (show Fr w.heap.size wd gl ol 16 [48, 128] 0 from hFd)
          clear hFd hdd hnd HHc HLc HBc
          go_wp2_with fail
          refine (frNextO HLd.out (glo_c HG.out HBd.out) (by decide) zPk [] 0 dc_l (by decide) false rfl).mono ?_
          rintro e we ⟨⟨Ae, ce, rfl, _, _, _⟩, oe, hFe, hde, hnd⟩
          have HD2 := Lib.hid (newo_ne HHd.out hnd HD1.out)
          have hHe := HLd.out.second hde HHd.out hne HD1.out
          have hBe := HLd.out.step hde HBd.out
          have hb1 := (Below.refl we.heap.size we).alloc (Nat.le_refl _) (.cells (PkC zPk Ae 0 ce) 30)
          have hb2 := (Below.refl (we.alloc (.cells (PkC zPk Ae 0 ce) 30)).heap.size (we.alloc (.cells (PkC zPk Ae 0 ce) 30))).alloc (Nat.le_refl _) (.cells (FrC 0 none 0 0 0 0) 43)
          obtain ⟨wf, hwf⟩ : ∃ wf, wf = (we.alloc (.cells (PkC zPk Ae 0 ce) 30)).alloc (.cells (FrC 0 none 0 0 0 0) 43) := ⟨_, rfl⟩
          have hz0 : wf.heap[we.heap.size + 1]? = some (.cells (FrC 0 none 0 0 0 0) 43 (0, 0)) := by
            rw [hwf]
            have := heap_alloc_new (we.alloc (.cells (PkC zPk Ae 0 ce) 30)) (.cells (FrC 0 none 0 0 0 0) 43)
            simpa using this
          have hbf := below_more hb1 hb2
          rw [← hwf] at hbf
          have hb3 := (Below.refl wf.heap.size wf).alloc (Nat.le_refl _) (.cells #[.pointer none, .pointer (some ⟨we.heap.size + 1, 0, none⟩)] 22)
          have hsf : wf.heap.size = we.heap.size + 1 + 1 := by rw [hwf]; simp
          have HHg := Lib.hid ((hHe.below hbf).below hb3)
          have HLg := Lib.hid (show Fr w.heap.size _ gl oe 16 [48, 128] 0 from (hFe.below hbf).below hb3)
          have HBg := Lib.hid (below_more (below_more hBe hbf) hb3)
          have HZg := Lib.hid ((hb3.block _ (Array.getElem?_eq_some_iff.1 hz0).1).trans hz0)
          have hs0 := heap_alloc_new wf (.cells #[.pointer none, .pointer (some ⟨we.heap.size + 1, 0, none⟩)] 22)
          rw [hsf] at hs0
          have HSg := Lib.hid hs0
          clear hFe hde hnd hHe hBe hb1 hb2 hb3 hbf hz0 hs0 HD1 HHd HLd HBd
          go_wp2_with fail
          rw [← hwf]
          obtain ⟨gz, hgz⟩ : ∃ gz, gz = we.heap.size + 1 := ⟨_, rfl⟩
          rw [← hgz] at HSg HZg HHg HLg HBg ⊢
          obtain ⟨gs, hgs⟩ : ∃ gs, gs = gz + 1 := ⟨_, rfl⟩
          rw [← hgs] at HSg ⊢
          obtain ⟨wg, hwg⟩ : ∃ wg, wg = wf.alloc (.cells #[.pointer none, .pointer (some ⟨gz, 0, none⟩)] 22) := ⟨_, rfl⟩
          rw [← hwg] at HSg HZg HHg HLg HBg ⊢
          clear hwf hwg hgz hgs hsf
          go_loopw [18] (fun i wr => ∃ k : Nat, i = .int .i64 k ∧ k ≤ 2 ∧ Hid (Below w.heap.size w wr) ∧ Hid (Fr w.heap.size wr gh oh 16 [16, 128, 1] 0) ∧ Hid (Fr w.heap.size wr gl oe 16 [48, 128] 0) ∧ Hid (wr.heap[gz]? = some (.cells (FrC 0 none 0 0 0 0) 43 (0, 0))) ∧ Hid (wr.heap[gs]? = some (.cells #[.pointer none, .pointer (some ⟨gz, 0, none⟩)] 22 (0, 0)))) (fun i _ => 2 - (intOf i).toNat)
          case atStart => exact ⟨0, rfl, by omega, HBg, HHg, HLg, HZg, HSg⟩
          case round =>
            clear HBg HHg HLg HZg HSg
            obtain ⟨k, rfl, hk, HB, HH, HL, HZ, HS⟩ := hrel
            by_cases hlt : k < 2
            · have hlt2 : (k : Int) < 2 := by omega
              have k0 : (0 : Int) ≤ (k : Int) := by omega
              obtain ⟨v, hv, hno⟩ : ∃ v, wr.cell? ⟨gs, k, none⟩ = some v ∧ NoF wr v := by
                rw [(blk_row HS.out).2.2.1 k]
                have h2 : k = 0 ∨ k = 1 := by omega
                rcases h2 with rfl | rfl
                · exact ⟨_, rfl, Or.inl rfl⟩
                · exact ⟨_, rfl, Or.inr ⟨gz, rfl, HZ.out⟩⟩
              have HNO := Lib.hid hno
              clear hno
              go_wp2_with fail
              refine (noPush _ v HNO.out [192, 0]).mono ?_
              rintro e wh ⟨rfl, rfl⟩
              go_wp2_with fail
              refine (noNext _ v HNO.out).mono ?_
              rintro e wi ⟨rfl, hbi⟩
              have hbj := below_more hbi ((Below.refl wi.heap.size wi).alloc (Nat.le_refl _) (.cells (PkC zPk none 0 0) 30))
              have hp0 := heap_alloc_new wi (.cells (PkC zPk none 0 0) 30)
              have HB2 := Lib.hid (below_more HB.out hbj)
              have HH2 := Lib.hid (HH.out.below hbj)
              have HL2 := Lib.hid (HL.out.below hbj)
              have HZ2 := Lib.hid ((hbj.block _ (Array.getElem?_eq_some_iff.1 HZ.out).1).trans HZ.out)
              have HS2 := Lib.hid ((hbj.block _ (Array.getElem?_eq_some_iff.1 HS.out).1).trans HS.out)
              have HN2 := Lib.hid (HNO.out.below hbj)
              have hv2 := hbj.cell (World.block_lt_of_cell? _ _ hv)
              rw [hv] at hv2
              have HP := Lib.hid hp0
              obtain ⟨d1, d2, d3, d4, d5⟩ := blk_row hp0
              clear hbi hbj hp0 HB HH HL HZ HS HNO hv
              go_wp2_with fail
              refine (noLeft _ v HN2.out).mono ?_
              rintro e wj ⟨rfl, rfl⟩
              go_wp2_with fail
              refine (refSame_one zPk none none 0 0 0 0 [] _ (Subs.nil _) (Subs.nil _) (by omega)).mono ?_
              rintro e wk ⟨rfl, hbk⟩
              have HB3 := Lib.hid (below_more HB2.out hbk)
              have HH3 := Lib.hid (HH2.out.below hbk)
              have HL3 := Lib.hid (HL2.out.below hbk)
              have HZ3 := Lib.hid ((hbk.block _ (Array.getElem?_eq_some_iff.1 HZ2.out).1).trans HZ2.out)
              have HS3 := Lib.hid ((hbk.block _ (Array.getElem?_eq_some_iff.1 HS2.out).1).trans HS2.out)
              clear hbk d1 d2 d3 d4 d5 hv2 HP HB2 HH2 HL2 HZ2 HS2 HN2
              go_wp2_with fail
              go_roundw
              case rel => exact ⟨k + 1, by go_num, by omega, HB3, HH3, HL3, HZ3, HS3⟩
              case measure => simp [intOf]; omega
            · have hge : ¬ (k : Int) < 2 := by omega
              clear hlt hk HZ HS
              go_wp2_with fail
              clear hge
              refine (drain_any HH.out HB.out.size (glo_b HG.out HB.out) (by decide) _ _ _ dn_h (by simp)).mono ?_
              rintro e wm ⟨Am, cm, om, rfl, hOm, hFm, hdm, _⟩
              have HBm := Lib.hid (HH.out.step hdm HB.out)
              have HLm := Lib.hid (HH.out.second hdm HL.out (fun e => hne e.symm) (fun d e1 e2 => HD2.out d e2 e1))
              have HOm := Lib.hid hOm
              clear hOm hFm hdm HH HL HB
              go_wp2_with fail
              have hbu := ((Below.refl wm.heap.size wm).alloc (Nat.le_refl _) (.cells (TdC zPk none 0 0 3) 40))
              have ht1 := (HOm.out.tds' rfl).1.below hbu
              have ht2 := tds_one (g := wm.heap.size) (w := wm.alloc (.cells (TdC zPk none 0 0 3) 40)) (xs := []) (rowAt_alloc_at _ _ _ rfl) (by simp) (Subs.nil _) (fun _ => rfl) (subT_nil _ _)
              refine (tsame _ Am _ 1 cm 1 _ ht1 ht2 (by omega) (by simp)).mono ?_
              rintro e wn ⟨rfl, hbn⟩
              have hbv := below_more hbu hbn
              have HLn := Lib.hid (HLm.out.below hbv)
              have HBn := Lib.hid (below_more HBm.out hbv)
              clear ht1 ht2 hbu hbv hbn HOm HLm HBm
              go_wp2_with fail
              refine (frLeft' HLn.out (by decide)).mono ?_
              rintro e wo ⟨rfl, hbo⟩
              have HBo := Lib.hid (below_more HBn.out hbo)
              clear hbo HLn HBn
              go_wp2_with fail
              refine (awake6_any _ (HG.out _ HBo.out)).mono ?_
              rintro e wp ⟨rfl, hbp⟩
              go_wp2_with fail
              go_ret
              exact ⟨rfl, below_more HBo.out hbp⟩
        have hk4 : k = 16 ∨ k = 17 ∨ k = 18 := by omega
        clear hk0 hk1 hk9
        rcases hk4 with rfl | rfl | rfl
        · skip
          go_wp2_with fail
          refine (frNew _ 16 (by omega) (by omega)).mono ?_
          rintro e w8 ⟨g8, rfl, hb8, _, hF8⟩
          have HF8 := Lib.hid (fr_base hF8 HB.out.size)
          have HB8 := Lib.hid (below_more HB.out hb8)
          have h1 := had_1
          have h2 := had_2
          clear hb8 hF8 HB
          go_wp2_with fail
          clear h1 h2
          refine (frPush HF8.out mM (by decide)).mono ?_
          rintro e w9 ⟨rfl, o9, hF9, hd9, _⟩
          rw [List.nil_append] at hF9
          have HB9 := Lib.hid (HF8.out.step hd9 HB8.out)
          have HF9 := Lib.hid hF9
          clear hF9 hd9 HF8 HB8
          have hbu := (Below.refl w9.heap.size w9).alloc (Nat.le_refl _) (.cells (TdC pA none 0 0 0) 40)
          have hbv := (Below.refl (w9.alloc (.cells (TdC pA none 0 0 0) 40)).heap.size (w9.alloc (.cells (TdC pA none 0 0 0) 40))).alloc (Nat.le_refl _) (.cells (TdC zPk none 0 0 3) 40)
          have HOW := Lib.hid ((ownd_one (g := w9.heap.size) (B := w.heap.size) (xs := []) (heap_alloc_new w9 (.cells (TdC pA none 0 0 0) 40)) HB9.out.size (Subs.nil _) (fun _ => rfl) (subT_nil _ _)).more hbv)
          have HTN := Lib.hid (tds_one (g := w9.heap.size + 1) (w := (w9.alloc (.cells (TdC pA none 0 0 0) 40)).alloc (.cells (TdC zPk none 0 0 3) 40)) (xs := []) (rowAt_alloc_at _ _ _ (by simp)) (by simp) (Subs.nil _) (fun _ => rfl) (subT_nil _ _))
          have HFW := Lib.hid ((HF9.out.below hbu).below hbv)
          have HBW := Lib.hid (below_more (below_more HB9.out hbu) hbv)
          clear hbu hbv HF9 HB9
          go_wp2_with (at_builtin; refine wpList_dapp rfl _ _ rfl rfl HOW.out (some ⟨w9.heap.size + 1, 0, none⟩) 1 1 [((zPk, []), 3)] rfl HTN.out (fun e => by cases e) (by simp) (Or.inr ⟨_, _, rfl⟩) ?_)
          intro v10 w10 hO10 hgr L10 hL10
          have HF10 := Lib.hid (HFW.out.grownT hgr hL10)
          have HB10 := Lib.hid (HBW.out.grown hgr HBW.out.size (fun d hd => (hL10.lt d hd).1))
          have HO10 := Lib.hid hO10
          obtain ⟨A10, c10, rfl, _⟩ := hO10.tds
          clear hO10 hgr hL10 HOW HTN HFW HBW
          go_wp2_with fail
          refine (drain_any HF10.out HB10.out.size (glo_b HG.out HB10.out) (by decide) _ _ _ dn_16 (by simp)).mono ?_
          rintro e w11 ⟨A11, c11, o11, rfl, hO11, hF11, hd11, _⟩
          have HB11 := Lib.hid (HF10.out.step hd11 HB10.out)
          have HF11 := Lib.hid hF11
          have ht1 := (hO11.tds' rfl).1
          have ht2 := ((HO10.out.keep (HF10.out.keepD hd11)).tds' rfl).1
          have HT1 := Lib.hid ht1
          have HT2 := Lib.hid ht2
          clear hO11 hF11 hd11 ht1 ht2 HF10 HO10 HB10
          go_wp2_with fail
          refine (tsame _ A11 A10 _ c11 c10 _ HT1.out HT2.out (by simp) (by simp)).mono ?_
          rintro e w12 ⟨rfl, hb12⟩
          have HF12 := Lib.hid (HF11.out.below hb12)
          have HB12 := Lib.hid (below_more HB11.out hb12)
          clear hb12 HF11 HB11 HT1 HT2
          go_wp2_with fail
          refine (frLeft' HF12.out (by decide)).mono ?_
          rintro e w13 ⟨rfl, hb13⟩
          have HB13 := Lib.hid (below_more HB12.out hb13)
          clear hb13 HF12 HB12
          go_wp2_with fail
          go_roundw
          case rel => exact ⟨16 + 1, by go_num, by omega, by omega, HB13⟩
          case measure => simp [intOf]
        · skip
          go_wp2_with fail
          refine (frNew _ 17 (by omega) (by omega)).mono ?_
          rintro e w8 ⟨g8, rfl, hb8, _, hF8⟩
          have HF8 := Lib.hid (fr_base hF8 HB.out.size)
          have HB8 := Lib.hid (below_more HB.out hb8)
          have h1 := had_1
          have h2 := had_2
          clear hb8 hF8 HB
          go_wp2_with fail
          clear h1 h2
          refine (frPush HF8.out mM (by decide)).mono ?_
          rintro e w9 ⟨rfl, o9, hF9, hd9, _⟩
          rw [List.nil_append] at hF9
          have HB9 := Lib.hid (HF8.out.step hd9 HB8.out)
          have HF9 := Lib.hid hF9
          clear hF9 hd9 HF8 HB8
          have hbu := (Below.refl w9.heap.size w9).alloc (Nat.le_refl _) (.cells (TdC pA none 0 0 0) 40)
          have hbv := (Below.refl (w9.alloc (.cells (TdC pA none 0 0 0) 40)).heap.size (w9.alloc (.cells (TdC pA none 0 0 0) 40))).alloc (Nat.le_refl _) (.cells (Td2 pB none 0 0 0 (zPk.s_ty 12) none 0 0 0) 40)
          have HOW := Lib.hid ((ownd_one (g := w9.heap.size) (B := w.heap.size) (xs := []) (heap_alloc_new w9 (.cells (TdC pA none 0 0 0) 40)) HB9.out.size (Subs.nil _) (fun _ => rfl) (subT_nil _ _)).more hbv)
          have HTN := Lib.hid (tds_two (g := w9.heap.size + 1) (w := (w9.alloc (.cells (TdC pA none 0 0 0) 40)).alloc (.cells (Td2 pB none 0 0 0 (zPk.s_ty 12) none 0 0 0) 40)) (xs := []) (ys := []) (rowAt_alloc_at _ _ _ (by simp)) (by simp) (Subs.nil _) (fun _ => rfl) (subT_nil _ _) (Subs.nil _) (fun _ => rfl) (subT_nil _ _))
          have HFW := Lib.hid ((HF9.out.below hbu).below hbv)
          have HBW := Lib.hid (below_more (below_more HB9.out hbu) hbv)
          clear hbu hbv HF9 HB9
          go_wp2_with (at_builtin; refine wpList_dapp rfl _ _ rfl rfl HOW.out (some ⟨w9.heap.size + 1, 0, none⟩) 2 2 [((pB, []), 0), ((zPk.s_ty 12, []), 0)] rfl HTN.out (fun e => by cases e) (by simp) (Or.inr ⟨_, _, rfl⟩) ?_)
          intro v10 w10 hO10 hgr L10 hL10
          have HF10 := Lib.hid (HFW.out.grownT hgr hL10)
          have HB10 := Lib.hid (HBW.out.grown hgr HBW.out.size (fun d hd => (hL10.lt d hd).1))
          have HO10 := Lib.hid hO10
          obtain ⟨A10, c10, rfl, _⟩ := hO10.tds
          clear hO10 hgr hL10 HOW HTN HFW HBW
          go_wp2_with fail
          refine (drain_any HF10.out HB10.out.size (glo_b HG.out HB10.out) (by decide) _ _ _ dn_17 (by simp)).mono ?_
          rintro e w11 ⟨A11, c11, o11, rfl, hO11, hF11, hd11, _⟩
          have HB11 := Lib.hid (HF10.out.step hd11 HB10.out)
          have HF11 := Lib.hid hF11
          have ht1 := (hO11.tds' rfl).1
          have ht2 := ((HO10.out.keep (HF10.out.keepD hd11)).tds' rfl).1
          have HT1 := Lib.hid ht1
          have HT2 := Lib.hid ht2
          clear hO11 hF11 hd11 ht1 ht2 HF10 HO10 HB10
          go_wp2_with fail
          refine (tsame _ A11 A10 _ c11 c10 _ HT1.out HT2.out (by simp) (by simp)).mono ?_
          rintro e w12 ⟨rfl, hb12⟩
          have HF12 := Lib.hid (HF11.out.below hb12)
          have HB12 := Lib.hid (below_more HB11.out hb12)
          clear hb12 HF11 HB11 HT1 HT2
          go_wp2_with fail
          refine (frLeft' HF12.out (by decide)).mono ?_
          rintro e w13 ⟨rfl, hb13⟩
          have HB13 := Lib.hid (below_more HB12.out hb13)
          clear hb13 HF12 HB12
          go_wp2_with fail
          go_roundw
          case rel => exact ⟨17 + 1, by go_num, by omega, by omega, HB13⟩
          case measure => simp [intOf]
        · skip
          go_wp2_with fail
          refine (frNew _ 18 (by omega) (by omega)).mono ?_
          rintro e w8 ⟨g8, rfl, hb8, _, hF8⟩
          have HF8 := Lib.hid (fr_base hF8 HB.out.size)
          have HB8 := Lib.hid (below_more HB.out hb8)
          have h1 := had_1
          have h2 := had_2
          clear hb8 hF8 HB
          go_wp2_with fail
          clear h1 h2
          refine (frPush HF8.out mM (by decide)).mono ?_
          rintro e w9 ⟨rfl, o9, hF9, hd9, _⟩
          rw [List.nil_append] at hF9
          have HB9 := Lib.hid (HF8.out.step hd9 HB8.out)
          have HF9 := Lib.hid hF9
          clear hF9 hd9 HF8 HB8
          have hbu := (Below.refl w9.heap.size w9).alloc (Nat.le_refl _) (.cells (TdC pA none 0 0 0) 40)
          have hbv := (Below.refl (w9.alloc (.cells (TdC pA none 0 0 0) 40)).heap.size (w9.alloc (.cells (TdC pA none 0 0 0) 40))).alloc (Nat.le_refl _) (.cells (Td2 pB none 0 0 0 (zPk.s_ty 12) none 0 0 0) 40)
          have HOW := Lib.hid ((ownd_one (g := w9.heap.size) (B := w.heap.size) (xs := []) (heap_alloc_new w9 (.cells (TdC pA none 0 0 0) 40)) HB9.out.size (Subs.nil _) (fun _ => rfl) (subT_nil _ _)).more hbv)
          have HTN := Lib.hid (tds_two (g := w9.heap.size + 1) (w := (w9.alloc (.cells (TdC pA none 0 0 0) 40)).alloc (.cells (Td2 pB none 0 0 0 (zPk.s_ty 12) none 0 0 0) 40)) (xs := []) (ys := []) (rowAt_alloc_at _ _ _ (by simp)) (by simp) (Subs.nil _) (fun _ => rfl) (subT_nil _ _) (Subs.nil _) (fun _ => rfl) (subT_nil _ _))
          have HFW := Lib.hid ((HF9.out.below hbu).below hbv)
          have HBW := Lib.hid (below_more (below_more HB9.out hbu) hbv)
          clear hbu hbv HF9 HB9
          go_wp2_with (at_builtin; refine wpList_dapp rfl _ _ rfl rfl HOW.out (some ⟨w9.heap.size + 1, 0, none⟩) 2 2 [((pB, []), 0), ((zPk.s_ty 12, []), 0)] rfl HTN.out (fun e => by cases e) (by simp) (Or.inr ⟨_, _, rfl⟩) ?_)
          intro v10 w10 hO10 hgr L10 hL10
          have HF10 := Lib.hid (HFW.out.grownT hgr hL10)
          have HB10 := Lib.hid (HBW.out.grown hgr HBW.out.size (fun d hd => (hL10.lt d hd).1))
          have HO10 := Lib.hid hO10
          obtain ⟨A10, c10, rfl, _⟩ := hO10.tds
          clear hO10 hgr hL10 HOW HTN HFW HBW
          go_wp2_with fail
          refine (drain_any HF10.out HB10.out.size (glo_b HG.out HB10.out) (by decide) _ _ _ dn_18 (by simp)).mono ?_
          rintro e w11 ⟨A11, c11, o11, rfl, hO11, hF11, hd11, _⟩
          have HB11 := Lib.hid (HF10.out.step hd11 HB10.out)
          have HF11 := Lib.hid hF11
          have ht1 := (hO11.tds' rfl).1
          have ht2 := ((HO10.out.keep (HF10.out.keepD hd11)).tds' rfl).1
          have HT1 := Lib.hid ht1
          have HT2 := Lib.hid ht2
          clear hO11 hF11 hd11 ht1 ht2 HF10 HO10 HB10
          go_wp2_with fail
          refine (tsame _ A11 A10 _ c11 c10 _ HT1.out HT2.out (by simp) (by simp)).mono ?_
          rintro e w12 ⟨rfl, hb12⟩
          have HF12 := Lib.hid (HF11.out.below hb12)
          have HB12 := Lib.hid (below_more HB11.out hb12)
          clear hb12 HF11 HB11 HT1 HT2
          go_wp2_with fail
          refine (frLeft' HF12.out (by decide)).mono ?_
          rintro e w13 ⟨rfl, hb13⟩
          have HB13 := Lib.hid (below_more HB12.out hb13)
          clear hb13 HF12 HB12
          go_wp2_with fail
          go_roundw
          case rel => exact ⟨18 + 1, by go_num, by omega, by omega, HB13⟩
          case measure => simp [intOf]
end lawFrameKnown
end Go.Proofs.YtncgkkhpcgdcaaaDoor
