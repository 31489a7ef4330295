/-
  frame's statements: what their helpers answer.
-/
import Derived.Test.YtncgkkhpcgdcaaaDoorFrDrain
import Derived.Test.YtncgkkhpcgdcaaaDoorFrSame
set_option linter.unusedSimpArgs false
set_option linter.unusedVariables false
namespace Go.Proofs.YtncgkkhpcgdcaaaDoor
open Go.RowKit
set_option maxRecDepth 100000
theorem Fr.step {w wr w' : World} {g : Nat} {o : Option Nat} {m : Int} {b : List UInt8} {f : Int} (h : Fr w.heap.size wr g o m b f) (hd : Fd wr w' g o) (hb : Below w.heap.size w wr) : Below w.heap.size w w' := hb.trans (hd.below h.gB h.oB hb.size)
theorem glo_b {w wr : World} (h : ∀ w', Below w.heap.size w w' → Glo w') (hb : Below w.heap.size w wr) : ∀ w', Below w.heap.size wr w' → Glo w' := fun w' k => h w' (hb.trans k)
theorem glo_c {w wr : World} (h : ∀ w', Below w.heap.size w w' → Glo w') (hb : Below w.heap.size w wr) : ∀ w', Below wr.heap.size wr w' → Glo w' := fun w' k => h w' (hb.trans (k.mono hb.size))
theorem aw_1 : dcR 16 [192] = (zPk, [], ((0 : Nat) : Int), 0) := by kernel_rfl
theorem aw_2 : dcR 16 [192, 0, 224] = (zPk.s_ty 12, [], ((2 : Nat) : Int), 0) := by kernel_rfl
theorem aw_3 : dnR 16 [224, 0, 48, 15] 0 = ([((zPk.s_ty 14, []), 0), ((zPk, []), 3)], [], 3) := by kernel_rfl
set_option maxHeartbeats 4000000 in
theorem awake6_any (w : World) (hG : Glo w) :
    Calls Tryd.prog 13 #[] w fun e w' => e = .returned (.bool true) ∧ Below w.heap.size w w' := by
  have HG : Hid (∀ w', Below w.heap.size w w' → Glo w') := fun w' h => hG.below h
  clear hG
  go_enter Tryd.func13, Tryd.ntmps13
  go_wp2_with fail
  refine (frNew _ 16 (by omega) (by omega)).mono ?_
  rintro e w1 ⟨g, rfl, hb, _, hF⟩
  have HF := Lib.hid hF
  clear hF
  go_wp2_with fail
  refine (frNone _ 15 (by omega)).mono ?_
  rintro e w2 ⟨rfl, rfl⟩
  go_wp2_with fail
  refine (frNone _ 65537 (by omega)).mono ?_
  rintro e w3 ⟨rfl, rfl⟩
  go_wp2_with fail
  refine (frPush HF.out [192] (by decide)).mono ?_
  rintro e w4 ⟨rfl, o4, hF4, hd4, _⟩
  have hb4 := HF.out.step hd4 hb
  clear hb HF hd4
  have HF := Lib.hid (show Fr w.heap.size w4 g o4 16 [192] 0 from hF4)
  clear hF4
  go_wp2_with fail
  refine (frNextO HF.out (glo_c HG.out hb4) (by decide) zPk [] 0 aw_1 (by decide) false rfl).mono ?_
  rintro e w5 ⟨⟨A5, c5, rfl, _, _, _⟩, o5, hF5, hd5, _⟩
  have hb5 := HF.out.step hd5 hb4
  have hba := (Below.refl w5.heap.size w5).alloc (Nat.le_refl _) (.cells (PkC zPk A5 0 c5) 30)
  have HF5 := Lib.hid (show Fr w.heap.size _ g o5 16 [192] 0 from hF5.below hba)
  replace hb5 := below_more hb5 hba
  clear hF5 hd5 hb4 HF hba
  go_wp2_with fail
  refine (frPush HF5.out [0, 224] (by decide)).mono ?_
  rintro e w6 ⟨rfl, o6, hF6, hd6, _⟩
  have hb6 := HF5.out.step hd6 hb5
  have HF6 := Lib.hid (show Fr w.heap.size _ g o6 16 [192, 0, 224] 0 from hF6)
  clear hF6 hd6 hb5 HF5
  go_wp2_with fail
  refine (frNextO HF6.out (glo_c HG.out hb6) (by decide) (zPk.s_ty 12) [] 2 aw_2 (by decide) true rfl).mono ?_
  rintro e w7 ⟨⟨A7, c7, rfl, _, _, _⟩, o7, hF7, hd7, _⟩
  have hb7 := HF6.out.step hd7 hb6
  have hba := (Below.refl w7.heap.size w7).alloc (Nat.le_refl _) (.cells (PkC (zPk.s_ty 12) A7 0 c7) 30)
  have HF7 := Lib.hid (show Fr w.heap.size _ g o7 16 [224] 0 from hF7.below hba)
  have HP7 := Lib.hid (heap_alloc_new w7 (.cells (PkC (zPk.s_ty 12) A7 0 c7) 30))
  replace hb7 := below_more hb7 hba
  clear hF7 hd7 hb6 HF6 hba
  go_wp2_with fail
  refine (frLeft' HF7.out (by decide)).mono ?_
  rintro e w8 ⟨rfl, hb8⟩
  have HF8 := Lib.hid (HF7.out.below hb8)
  have HP8 := Lib.hid ((hb8.block _ (Array.getElem?_eq_some_iff.1 HP7.out).1).trans HP7.out)
  have hb9 := below_more hb7 hb8
  clear HF7 HP7 hb7 hb8
  go_wp2_with fail
  refine (frPush HF8.out [0, 48, 15] (by decide)).mono ?_
  rintro e w9 ⟨rfl, o9, hF9, hd9, _⟩
  have hb10 := HF8.out.step hd9 hb9
  have HF9 := Lib.hid (show Fr w.heap.size _ g o9 16 [224, 0, 48, 15] 0 from hF9)
  have HP9 := Lib.hid (HF8.out.other hd9 HP8.out (by decide) (by decide))
  clear hF9 hd9 hb9 HF8 HP8
  go_wp2_with fail
  refine (drain_any HF9.out hb10.size (glo_b HG.out hb10) (by decide) [((zPk.s_ty 14, []), 0), ((zPk, []), 3)] [] 3 aw_3 (by decide)).mono ?_
  rintro e w10 ⟨A10, c10, o10, rfl, hO10, hF10, hd10, _⟩
  have hb11 := HF9.out.step hd10 hb10
  have HP10 := Lib.hid (HF9.out.other hd10 HP9.out (by decide) (by decide))
  have HF10 := Lib.hid hF10
  have HO10 := Lib.hid hO10
  clear hF10 hd10 hb10 HF9 HP9 hO10
  go_wp2_with fail
  refine (frPushE HF10.out (by decide) [192, 0]).mono ?_
  rintro e w11 ⟨rfl, rfl⟩
  go_wp2_with fail
  refine (frNextE HF10.out (by decide)).mono ?_
  rintro e w12 ⟨⟨A12, c12, rfl, _, _, _⟩, hb12⟩
  have hba := below_more hb12 ((Below.refl w12.heap.size w12).alloc (Nat.le_refl _) (.cells (PkC zPk A12 0 c12) 30))
  have HF12 := Lib.hid (HF10.out.below hba)
  have HO12 := Lib.hid (HO10.out.more hba)
  have hp12 := (hba.block _ (Array.getElem?_eq_some_iff.1 HP10.out).1).trans HP10.out
  have hb13 := below_more hb11 hba
  clear hb11 hba hb12 HF10 HO10 HP10
  obtain ⟨d1, d2, d3, d4, d5⟩ := blk_row hp12
  go_wp2_with fail
  have hbt := (Below.refl w12.heap.size w12).alloc (Nat.le_refl _) (.cells (PkC zPk A12 0 c12) 30)
  have hbu := ((Below.refl (w12.alloc (.cells (PkC zPk A12 0 c12) 30)).heap.size (w12.alloc (.cells (PkC zPk A12 0 c12) 30))).alloc (Nat.le_refl _) (.cells (Td2 (zPk.s_ty 14) none 0 0 0 zPk none 0 0 3) 40))
  have ht1 := (HO12.out.tds' rfl).1.below hbu
  have ht2 := tds_two (g := w12.heap.size + 1) (w := (w12.alloc (.cells (PkC zPk A12 0 c12) 30)).alloc (.cells (Td2 (zPk.s_ty 14) none 0 0 0 zPk none 0 0 3) 40)) (xs := []) (ys := []) (rowAt_alloc_at _ _ _ (by simp)) (by simp) (Subs.nil _) (fun _ => rfl) (subT_nil _ _) (Subs.nil _) (fun _ => rfl) (subT_nil _ _)
  refine (tsame _ A10 _ 2 c10 2 _ ht1 ht2 (by omega) (by simp)).mono ?_
  rintro e w13 ⟨rfl, hb14⟩
  have HF13 := Lib.hid ((HF12.out.below hbu).below hb14)
  have hb15 := below_more (below_more hb13 hbu) hb14
  clear ht1 ht2 hbt hbu hb14 hb13 HF12 HO12 d1 d2 d3 d4 d5 hp12
  go_wp2_with fail
  refine (frLeft' HF13.out (by decide)).mono ?_
  rintro e w14 ⟨rfl, hb16⟩
  go_wp2_with fail
  go_ret
  exact ⟨rfl, below_more hb15 hb16⟩
end Go.Proofs.YtncgkkhpcgdcaaaDoor
