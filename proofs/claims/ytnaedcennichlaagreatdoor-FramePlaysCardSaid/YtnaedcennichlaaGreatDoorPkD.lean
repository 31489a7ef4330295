/-
  packet: takeSubs.
-/
import Derived.Test.YtnaedcennichlaaGreatDoorPkA
import Derived.StillTailTactics
import Derived.Deep.Cut
set_option linter.unusedSimpArgs false
set_option linter.unusedVariables false
namespace Go.Proofs.YtnaedcennichlaaGreatDoor
open Go.RowKit
set_option maxRecDepth 100000
@[go_sem] theorem spl_SbC (f g : List UInt8) (q r : Int) : spl (SbC f q) 0 (SbC g r).toList = SbC g r := by simp [SbC, spl]
theorem fieldLen_still (l : List UInt8) (w : World) (hl : l.length ≤ 1000000000) :
    Calls Tryz.prog 97 #[.string ⟨l.toArray⟩] w fun e w' => e = .returned (.int .i64 (fldB l)) ∧ w' = w := (fieldLen_any l w hl).mono fun _ _ ⟨h1, h2⟩ => ⟨h1, h2.symm⟩
theorem Kp.ge {w w' : World} {L : List (Nat × Array Value × TypeId)} {g : Nat} {cs : Array Value} {t : TypeId} (h : Kp w ((g, cs, t) :: L) w') : w.heap.size ≤ g := (h.rows (g, cs, t) (by simp)).1
/-- A slice of subs reads as xs. -/
def Subs (w : World) (A : Option Addr) (n : Nat) (xs : List (List UInt8 × Int)) : Prop :=
  xs.length = n ∧ (0 < n → ∃ b off, A = some ⟨b, off, none⟩ ∧ b < w.heap.size ∧ ∀ j x, xs[j]? = some x → off + j * 2 + 2 ≤ (rowAt w b).size ∧ (rowAt w b).extract (off + j * 2) (off + j * 2 + 2) = SbC x.1 x.2)
section
variable {w w' : World} {A : Option Addr} {n : Nat} {xs : List (List UInt8 × Int)}
theorem Subs.len (h : Subs w A n xs) : xs.length = n := h.1
theorem rowAt_below {B g : Nat} (hb : Below B w w') (hg : g < B) : rowAt w' g = rowAt w g := by
  unfold rowAt; rw [hb.block g hg]
theorem Subs.below (h : Subs w A n xs) (hb : Below w.heap.size w w') : Subs w' A n xs :=
  ⟨h.1, fun hn => by
    obtain ⟨b, off, e, hlt, hc⟩ := h.2 hn
    exact ⟨b, off, e, Nat.lt_of_lt_of_le hlt hb.size, fun j x hx => by rw [rowAt_below hb hlt]; exact hc j x hx⟩⟩
theorem Subs.at_ (h : Subs w A n xs) {k : Nat} (hk : k < n) : ∃ b off x, A = some ⟨b, off, none⟩ ∧ xs[k]? = some x ∧ b < w.heap.size ∧ off + k * 2 + 2 ≤ (rowAt w b).size ∧ (rowAt w b).extract (off + k * 2) (off + k * 2 + 2) = SbC x.1 x.2 := by
  obtain ⟨b, off, e, hlt, hc⟩ := h.2 (by omega)
  have hl : k < xs.length := by rw [h.1]; exact hk
  obtain ⟨h1, h2⟩ := hc k xs[k] (List.getElem?_eq_getElem hl)
  exact ⟨b, off, xs[k], e, List.getElem?_eq_getElem hl, hlt, h1, h2⟩
theorem Subs.nil (A : Option Addr) : Subs w A 0 [] := ⟨rfl, fun h => by omega⟩
end
theorem sb_step (add : Int) (xs : List (List UInt8 × Int)) (k : Nat) (x : List UInt8 × Int) (hx : xs[k]? = some x) : sbB add (xs.drop k) = (fldB x.1 + add) + sbB add (xs.drop (k + 1)) := by
  obtain ⟨h1, h2⟩ := List.getElem?_eq_some_iff.1 hx
  rw [List.drop_eq_getElem_cons h1, h2, sbB]
theorem sb_all (f : List UInt8 × Int → Bool) (xs : List (List UInt8 × Int)) (k : Nat) (x : List UInt8 × Int) (hx : xs[k]? = some x) : (xs.drop k).all f = (f x && (xs.drop (k + 1)).all f) := by
  obtain ⟨h1, h2⟩ := List.getElem?_eq_some_iff.1 hx
  rw [List.drop_eq_getElem_cons h1, h2, List.all_cons]
set_option maxHeartbeats 2000000 in
theorem takeSubs_any (p : Pk) (A : Option Addr) (n c : Nat) (xs : List (List UInt8 × Int)) (top qb : Int) (w : World) (hG : Glo w) (hs : Subs w A n xs) (hq : 0 ≤ qb ∧ qb ≤ 1) (hsum : sumB xs ≤ 100000) (hnum : n ≤ 1000000) :
    Calls Tryz.prog 89 #[.agg (PkC p A n c), .int .u8 top, .int .i64 qb] w fun e w' => e = .returned (.agg (TkC (decide (0 < p.id) && sbR top xs) (2 + sbB qb xs) (p.s_id 0) none 0 0)) ∧ Below w.heap.size w w' := by
  have hK0 := (((Kp.nil w).new (PkC p A n c) 36).new (TkC false 0 zPk none 0 0) 109).swap
  simp only [World.size_alloc] at hK0
  have HG := Lib.hid hG
  have hsH := Lib.hid hs
  have hlen := hs.len
  have hsb := sbB_bd qb hq.1 xs
  have hsm := Lib.hid (sumB_mem xs)
  have hbig : 2 + sbB qb xs ≤ 10000000 := by
    have h1 : (2 + qb) * (xs.length : Int) ≤ 3 * (xs.length : Int) := Int.mul_le_mul_of_nonneg_right (by omega) (by omega)
    omega
  clear hs hG hsb
  cases hid : decide (0 < p.id)
  all_goals
    go_enter Tryz.func89, Tryz.ntmps89
    go_wp2_with fail
    refine (takeId_any p A n c _).mono ?_
    rintro e w6 ⟨rfl, hb6⟩
    have hP := hK0.more hb6
    clear hb6 hK0
    have p1r := hP.row; have p1f := hP.free; have p1c := hP.cell; have p1l := hP.lt; have p1z := hP.froz
    have p2r := hP.tail.row; have p2f := hP.tail.free; have p2c := hP.tail.cell; have p2l := hP.tail.lt; have p2z := hP.tail.froz
    have n1 := Nat.ne_of_lt p1l; have n2 := Nat.ne_of_gt p1l; have n3 := Nat.ne_of_lt p2l; have n4 := Nat.ne_of_gt p2l
    go_wp2_with fail
    obtain ⟨r0, hr0⟩ : ∃ r0 : Bool, r0 = (decide (0 < p.id) && decide (0 < n)) := ⟨_, rfl⟩
    obtain ⟨wl, hwl⟩ : ∃ wl : World, wl = w6.alloc (.cells (TkC r0 2 (p.s_id 0) A n c) 109) := ⟨_, rfl⟩
    have hKl := hP.new (TkC r0 2 (p.s_id 0) A n c) 109
    rw [← hwl] at hKl
    have hW : w6.alloc (.cells (TkC (decide (0 < p.id) && decide (0 < n)) 2 (p.s_id 0) A n c) 109) = wl := by rw [hwl, hr0]
    rw [hid] at hW
    simp only [Bool.true_and, Bool.false_and] at hW
    rw [hW]
    have HR : Hid ((r0 && xs.all fun x => flB x.1 && decide (x.2 ≤ top)) = (decide (0 < p.id) && sbR top xs)) := by
      show _ = _
      have : decide (0 < n) = !xs.isEmpty := by rw [← hlen]; cases xs <;> simp
      rw [hr0, this, sbR, Bool.and_assoc]
    generalize hh : w6.heap.size = h at *
    clear p1r p1f p1c p1l p1z p2r p2f p2c p2l p2z hP hW hwl hr0 hh
    go_loopw [9, 24] (fun _ i wr => ∃ (k : Nat) (r : Bool) (b : Int), i = .int .i64 k ∧ k ≤ n ∧ Kp w [(h, TkC r b (p.s_id 0) A n c, 109), (w.heap.size, PkC p A n c, 36), (w.heap.size + 1, TkC false 0 zPk none 0 0, 109)] wr ∧ Hid ((r && (xs.drop k).all fun x => flB x.1 && decide (x.2 ≤ top)) = (decide (0 < p.id) && sbR top xs)) ∧ Hid (b + sbB qb (xs.drop k) = 2 + sbB qb xs) ∧ 0 ≤ b) (fun _ i _ => n - (intOf i).toNat)
    case atStart => exact ⟨0, r0, 2, rfl, by omega, hKl, HR, rfl, by omega⟩
    case round =>
      clear hKl HR
      obtain ⟨k, r, b, rfl, hk, hKr, hc1, hc2, hb0⟩ := hrel
      have e1r := hKr.row; have e1f := hKr.free; have e1c := hKr.cell; have e1l := hKr.lt; have e1z := hKr.froz
      have e2r := hKr.tail.row; have e2f := hKr.tail.free; have e2c := hKr.tail.cell; have e2l := hKr.tail.lt; have e2z := hKr.tail.froz
      have e3r := hKr.tail.tail.row; have e3f := hKr.tail.tail.free; have e3c := hKr.tail.tail.cell; have e3l := hKr.tail.tail.lt; have e3z := hKr.tail.tail.froz
      have hbr := hKr.below
      by_cases hlt : k < n
      · have hlt2 : (k : Int) < (n : Int) := by omega
        obtain ⟨bx, off, x, rfl, hx, hbx, hsz, hex⟩ := (hsH.out.below hbr).at_ hlt
        have hs1 := Lib.hid (sb_step qb xs k x hx)
        have hs2 := Lib.hid (sb_all (fun x => flB x.1 && decide (x.2 ≤ top)) xs k x hx)
        have hxl := hsm.out x (List.mem_of_getElem? hx)
        have n5 : ¬ w.heap.size = wr.heap.size := by omega
        have n6 : ¬ w.heap.size + 1 = wr.heap.size := by omega
        have n7 : ¬ h = wr.heap.size := by omega
        have n8 : ¬ wr.heap.size = h := by omega
        have n9 : ¬ wr.heap.size = w.heap.size := by omega
        have n10 : ¬ wr.heap.size = w.heap.size + 1 := by omega
        have hdist : ∀ y ∈ [(w.heap.size, PkC p (some ⟨bx, off, none⟩) n c, 36), (w.heap.size + 1, TkC false 0 zPk none 0 0, 109)], y.1 ≠ h := by
          intro y hy; simp at hy; rcases hy with rfl | rfl <;> (simp; omega)
        have hsb2 := (sbB_bd qb hq.1 (xs.drop (k + 1))).1
        have hx0 : 0 ≤ fldB x.1 := by unfold fldB; omega
        have hbnd : b + (fldB x.1 + qb) ≤ 10000000 := by have := hc2.out; have := hs1.out; omega
        have HB : Hid (b + (fldB x.1 + qb) + sbB qb (xs.drop (k + 1)) = 2 + sbB qb xs) := by
          show _ = _
          have := hc2.out; have := hs1.out; omega
        have hw1 : IntKind.i64.wrap (fldB x.1 + qb) = fldB x.1 + qb := IntWalk.i64_in _ (by omega)
        have hw2 : IntKind.i64.wrap (b + (fldB x.1 + qb)) = b + (fldB x.1 + qb) := IntWalk.i64_in _ (by omega)
        have hw3 : wrap64 (fldB x.1 + qb) = fldB x.1 + qb := IntWalk.wrap64_in _ (by omega)
        have hw4 : wrap64 (b + (fldB x.1 + qb)) = b + (fldB x.1 + qb) := IntWalk.wrap64_in _ (by omega)
        have hK8 := hKr.new (SbC x.1 x.2) 42
        go_upto_region 6 with fail
        obtain ⟨w8, hw8⟩ : ∃ w8 : World, w8 = wr.alloc (.cells (SbC x.1 x.2) 42) := ⟨_, rfl⟩
        rw [← hw8] at hK8 ⊢
        clear hw8 e1r e1f e1c e1z e2r e2f e2c e2z e3r e3f e3c e3z
        have f1r := hK8.row; have f1f := hK8.free; have f1c := hK8.cell; have f1l := hK8.lt; have f1z := hK8.froz
        have f2r := hK8.tail.row; have f2f := hK8.tail.free; have f2c := hK8.tail.cell; have f2l := hK8.tail.lt; have f2z := hK8.tail.froz
        have f3r := hK8.tail.tail.row; have f3f := hK8.tail.tail.free; have f3c := hK8.tail.tail.cell; have f3l := hK8.tail.tail.lt; have f3z := hK8.tail.tail.froz
        have f4r := hK8.tail.tail.tail.row; have f4f := hK8.tail.tail.tail.free; have f4c := hK8.tail.tail.tail.cell; have f4l := hK8.tail.tail.tail.lt; have f4z := hK8.tail.tail.tail.froz
        have hb8 := hK8.below
        cases r with
        | true =>
          cases hf : flB x.1 with
          | true =>
            have HF := Lib.hid hf
            have HQ : Hid ((decide (x.2 ≤ top) && (xs.drop (k + 1)).all fun x => flB x.1 && decide (x.2 ≤ top)) = (decide (0 < p.id) && sbR top xs)) := by
              show _ = _
              rw [← hc1.out, hs2.out, hf]; simp
            clear hf hc1
            go_wp2_with fail
            refine (isFilter_eq x.1 true _ (HG.out.below hb8) (by omega) HF.out).mono ?_
            rintro e w7 ⟨rfl, hb7⟩
            have hK7 := hK8.more hb7
            clear hb7 f1r f1f f1c f1z f2r f2f f2c f2z f3r f3f f3c f3z f4r f4f f4c f4z
            have s1r := hK7.row; have s1f := hK7.free; have s1c := hK7.cell; have s1l := hK7.lt; have s1z := hK7.froz
            have s2r := hK7.tail.row; have s2f := hK7.tail.free; have s2c := hK7.tail.cell; have s2l := hK7.tail.lt; have s2z := hK7.tail.froz
            have s3r := hK7.tail.tail.row; have s3f := hK7.tail.tail.free; have s3c := hK7.tail.tail.cell; have s3l := hK7.tail.tail.lt; have s3z := hK7.tail.tail.froz
            have s4r := hK7.tail.tail.tail.row; have s4f := hK7.tail.tail.tail.free; have s4c := hK7.tail.tail.tail.cell; have s4l := hK7.tail.tail.tail.lt; have s4z := hK7.tail.tail.tail.froz
            have hb7 := hK7.below
            go_wp2_with fail
            refine wp_region_still_tail 9 (by kernel_rfl) (by kernel_rfl) ?_
            change wpStill _ _ (World.drew _) _ _ _
            simp only [List.take_succ_cons, List.take_zero, List.drop_succ_cons, List.drop_zero]
            repeat still_step
            still_call (fieldLen_still _ _ (by omega))
            repeat still_step
            refine wpStill_nil ?_
            change wpList _ _ _ _ _ (World.drew _)
            go_wp2_with fail
            go_roundw
            case rel => exact ⟨k + 1, decide (x.2 ≤ top), b + (fldB x.1 + qb), by go_num, by omega, ((hK7.tail).set hdist _).drew, HQ, HB, by omega⟩
            case measure => simp [intOf]; omega
          | false =>
            have HF := Lib.hid hf
            have HQ : Hid ((false && (xs.drop (k + 1)).all fun x => flB x.1 && decide (x.2 ≤ top)) = (decide (0 < p.id) && sbR top xs)) := by
              show _ = _
              rw [← hc1.out, hs2.out, hf]; simp
            clear hf hc1
            go_wp2_with fail
            refine (isFilter_eq x.1 false _ (HG.out.below hb8) (by omega) HF.out).mono ?_
            rintro e w7 ⟨rfl, hb7⟩
            have hK7 := hK8.more hb7
            clear hb7 f1r f1f f1c f1z f2r f2f f2c f2z f3r f3f f3c f3z f4r f4f f4c f4z
            have s1r := hK7.row; have s1f := hK7.free; have s1c := hK7.cell; have s1l := hK7.lt; have s1z := hK7.froz
            have s2r := hK7.tail.row; have s2f := hK7.tail.free; have s2c := hK7.tail.cell; have s2l := hK7.tail.lt; have s2z := hK7.tail.froz
            have s3r := hK7.tail.tail.row; have s3f := hK7.tail.tail.free; have s3c := hK7.tail.tail.cell; have s3l := hK7.tail.tail.lt; have s3z := hK7.tail.tail.froz
            have s4r := hK7.tail.tail.tail.row; have s4f := hK7.tail.tail.tail.free; have s4c := hK7.tail.tail.tail.cell; have s4l := hK7.tail.tail.tail.lt; have s4z := hK7.tail.tail.tail.froz
            have hb7 := hK7.below
            go_wp2_with fail
            refine wp_region_still_tail 9 (by kernel_rfl) (by kernel_rfl) ?_
            change wpStill _ _ (World.drew _) _ _ _
            simp only [List.take_succ_cons, List.take_zero, List.drop_succ_cons, List.drop_zero]
            repeat still_step
            still_call (fieldLen_still _ _ (by omega))
            repeat still_step
            refine wpStill_nil ?_
            change wpList _ _ _ _ _ (World.drew _)
            go_wp2_with fail
            go_roundw
            case rel => exact ⟨k + 1, false, b + (fldB x.1 + qb), by go_num, by omega, ((hK7.tail).set hdist _).drew, HQ, HB, by omega⟩
            case measure => simp [intOf]; omega
        | false =>
          have HQ : Hid ((false && (xs.drop (k + 1)).all fun x => flB x.1 && decide (x.2 ≤ top)) = (decide (0 < p.id) && sbR top xs)) := hc1
          have hK7 := hK8
          clear f1r f1f f1c f1z f2r f2f f2c f2z f3r f3f f3c f3z f4r f4f f4c f4z
          have s1r := hK7.row; have s1f := hK7.free; have s1c := hK7.cell; have s1l := hK7.lt; have s1z := hK7.froz
          have s2r := hK7.tail.row; have s2f := hK7.tail.free; have s2c := hK7.tail.cell; have s2l := hK7.tail.lt; have s2z := hK7.tail.froz
          have s3r := hK7.tail.tail.row; have s3f := hK7.tail.tail.free; have s3c := hK7.tail.tail.cell; have s3l := hK7.tail.tail.lt; have s3z := hK7.tail.tail.froz
          have s4r := hK7.tail.tail.tail.row; have s4f := hK7.tail.tail.tail.free; have s4c := hK7.tail.tail.tail.cell; have s4l := hK7.tail.tail.tail.lt; have s4z := hK7.tail.tail.tail.froz
          have hb7 := hK7.below
          go_wp2_with fail
          refine wp_region_still_tail 9 (by kernel_rfl) (by kernel_rfl) ?_
          change wpStill _ _ (World.drew _) _ _ _
          simp only [List.take_succ_cons, List.take_zero, List.drop_succ_cons, List.drop_zero]
          repeat still_step
          still_call (fieldLen_still _ _ (by omega))
          repeat still_step
          refine wpStill_nil ?_
          change wpList _ _ _ _ _ (World.drew _)
          go_wp2_with fail
          go_roundw
          case rel => exact ⟨k + 1, false, b + (fldB x.1 + qb), by go_num, by omega, ((hK7.tail).set hdist _).drew, HQ, HB, by omega⟩
          case measure => simp [intOf]; omega
      · have hge : ¬ (k : Int) < (n : Int) := by omega
        have hke : k = n := by omega
        have hge2 := hKr.ge
        subst hke
        have hd : Hid (xs.drop k = []) := List.drop_eq_nil_of_le (by omega)
        have hr1 : r = (decide (0 < p.id) && sbR top xs) := by have := hc1.out; rw [hd.out] at this; simpa using this
        have hb1 : b = 2 + sbB qb xs := by have := hc2.out; rw [hd.out] at this; simpa [sbB] using this
        have HR1 := Lib.hid hr1
        have HB1 := Lib.hid hb1
        clear hr1 hb1
        go_wp2_with fail
        refine ret_tk 6 _ _ _ _ (2 + sbB qb xs) _ (p.s_id 0) none 0 0 rfl rfl (by go_simp; rfl) rfl (by rw [HR1.out, hid]; simp) HB1.out rfl ⟨rfl, ?_⟩
        repeat (first | exact hbr | refine below_setRow ?_ (by omega) _ | refine Below.alloc ?_ (by simp; omega) _)
end Go.Proofs.YtnaedcennichlaaGreatDoor
