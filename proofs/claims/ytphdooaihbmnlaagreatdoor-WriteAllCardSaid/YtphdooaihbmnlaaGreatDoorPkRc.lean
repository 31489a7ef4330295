/-
  The document's own rest: how many bytes a packet's rest is.
-/
import Derived.Test.YtphdooaihbmnlaaGreatDoorPkI
import Derived.Test.YtphdooaihbmnlaaGreatDoorPkRb
import Derived.Deep.Cut
import Derived.Deep.DeepCutAuto
set_option linter.unusedSimpArgs false
set_option linter.unusedVariables false
namespace Go.Proofs.YtphdooaihbmnlaaGreatDoor
open Go.RowKit
def rrA (p : Pk) : Int := (p.load.length : Int) + p.codes.length + (if 0 < p.id then 2 else 0)
def rrS (p : Pk) : Int := if p.ty = 8 then 1 else 0
def rrC (p : Pk) : Int := if p.ty = 1 then 12 + (p.client.length : Int) + (if p.hasWill then 4 + (p.wt.length : Int) + p.wl.length else 0) + (if p.hasUser then 2 + (p.user.length : Int) else 0) + (if p.hasPass then 2 + (p.pass.length : Int) else 0) else if p.ty = 2 then 2 else if p.ty = 3 then 2 + (p.topic.length : Int) else 0
def rrN (p : Pk) (xs : List (List UInt8 × Int)) : Int := rrA p + sbB (rrS p) xs + rrC p
theorem Fit.lens2 {p : Pk} {xs : List (List UInt8 × Int)} (h : Fit p xs) : p.topic.length ≤ 100000 ∧ p.load.length ≤ 100000 ∧ p.client.length ≤ 100000 ∧ p.wt.length ≤ 100000 ∧ p.wl.length ≤ 100000 ∧ p.user.length ≤ 100000 ∧ p.pass.length ≤ 100000 ∧ p.codes.length ≤ 100000 ∧ sumB xs ≤ 100000 := by
  have := h.tot
  unfold totB at this
  omega
theorem Subs.two {w : World} {A : Option Addr} {n k : Nat} {xs : List (List UInt8 × Int)} (h : Subs w A n xs) (hk : k < n) :
    ∃ b off x, A = some ⟨b, off, none⟩ ∧ xs[k]? = some x ∧ w.cell? ⟨b, off + k * 2, none⟩ = some (.string ⟨x.1.toArray⟩) ∧ w.cell? ⟨b, off + k * 2 + 1, none⟩ = some (.int .u8 x.2) := by
  obtain ⟨b, off, x, e, hx, _, hs, he⟩ := h.at_ hk
  refine ⟨b, off, x, e, hx, ?_, ?_⟩
  · rw [rowAt_cell (by omega)]
    have h1 : ((rowAt w b).extract (off + k * 2) (off + k * 2 + 2))[0]? = (SbC x.1 x.2)[0]? := by rw [he]
    rw [Array.getElem?_extract, if_pos (by omega)] at h1
    exact h1
  · rw [rowAt_cell (by omega)]
    have h1 : ((rowAt w b).extract (off + k * 2) (off + k * 2 + 2))[1]? = (SbC x.1 x.2)[1]? := by rw [he]
    rw [Array.getElem?_extract, if_pos (by omega)] at h1
    exact h1
set_option maxRecDepth 100000 in
set_option maxHeartbeats 2000000 in
theorem refRest_any (p : Pk) (A : Option Addr) (n c : Nat) (xs : List (List UInt8 × Int)) (w : World) (hs : Subs w A n xs) (hf : Fit p xs) :
    Calls Tryz.prog 34 #[.agg (PkC p A n c)] w fun e w' => e = .returned (.int .i64 (rrN p xs)) ∧ Below w.heap.size w w' := by
  have hK0 := (Kp.nil w).new (PkC p A n c) 27
  obtain ⟨l1, l2, l3, l4, l5, l6, l7, l8, l9⟩ := hf.lens2
  have hn : n ≤ 200 := by have := hf.num; have := hs.len; omega
  have hS0 : 0 ≤ rrS p ∧ rrS p ≤ 1 := by unfold rrS; split <;> omega
  have hsb := sbB_bd (rrS p) hS0.1 xs
  have hbig : sbB (rrS p) xs ≤ 200000 := by
    have h1 : (2 + rrS p) * (xs.length : Int) ≤ 3 * (xs.length : Int) := Int.mul_le_mul_of_nonneg_right (by omega) (by omega)
    have := hf.num
    omega
  have hsm := Lib.hid (sumB_mem xs)
  have HS := Lib.hid hs
  have hA0 : 0 ≤ rrA p ∧ rrA p ≤ 300000 := by unfold rrA; split <;> omega
  clear hs hf hsb
  go_enter Tryz.func34, Tryz.ntmps34
  go_upto_if 14 with fail
  obtain ⟨wv, hwv⟩ : ∃ wv : World, wv = w.alloc (.cells (PkC p A n c) 27) := ⟨_, rfl⟩
  rw [← hwv] at hK0 ⊢
  clear hwv
  have p1r := hK0.row; have p1f := hK0.free; have p1c := hK0.cell; have p1l := hK0.lt; have p1z := hK0.froz
  go_cut [3] (fun s3 wx => s3 = .int .i64 (rrA p) ∧ wx = wv)
  case first =>
    by_cases hid : 0 < p.id
    · have hr : rrA p = (p.load.length : Int) + p.codes.length + 2 := by unfold rrA; rw [if_pos hid]
      have hd : decide (0 < p.id) = true := by simpa using hid
      have HR := Lib.hid hr
      clear hr
      go_wp2_with fail
      go_meet
      case rel => exact ⟨by rw [HR.out], rfl⟩
    · have hr : rrA p = (p.load.length : Int) + p.codes.length := by unfold rrA; rw [if_neg hid]; omega
      have hd : decide (0 < p.id) = false := by simpa using hid
      have HR := Lib.hid hr
      clear hr
      go_wp2_with fail
      go_meet
      case rel => exact ⟨by rw [HR.out], rfl⟩
  obtain ⟨rfl, rfl⟩ := hcut
  obtain ⟨t8, h8⟩ : ∃ r, (p.ty == 8) = r := ⟨_, rfl⟩
  have h8S : Hid (rrS p = if t8 = true then 1 else 0) := by
    show _ = _
    unfold rrS
    rw [← h8]
    by_cases h : p.ty = 8 <;> simp [h]
  go_wp2_with fail
  go_loopw [3, 4] (fun s i wr => ∃ (k : Nat) (b : Int), i = .int .i64 k ∧ s = .int .i64 b ∧ k ≤ n ∧ Kp w [(w.heap.size, PkC p A n c, 27)] wr ∧ Hid (b + sbB (rrS p) (xs.drop k) = rrA p + sbB (rrS p) xs) ∧ 0 ≤ b) (fun _ i _ => n - (intOf i).toNat)
  case atStart => exact ⟨0, rrA p, rfl, rfl, by omega, hK0, rfl, by omega⟩
  case round =>
    clear p1r p1f p1c p1l p1z hK0
    obtain ⟨k, b, rfl, rfl, hk, hKr, hc, hb0⟩ := hrel
    have e1r := hKr.row; have e1f := hKr.free; have e1c := hKr.cell; have e1l := hKr.lt; have e1z := hKr.froz
    by_cases hlt : k < n
    · have hlt2 : (k : Int) < (n : Int) := by omega
      obtain ⟨bx, off, x, rfl, hx, hx1, hx2⟩ := (HS.out.below hKr.below).two hlt
      have hs1 := sb_step (rrS p) xs k x hx
      have hxl := hsm.out x (List.mem_of_getElem? hx)
      have hsb2 := (sbB_bd (rrS p) hS0.1 (xs.drop (k + 1))).1
      have hcc := hc.out
      unfold fldB at hs1
      have hbb : b + ((x.1.length : Int) + 2) + 1 ≤ 10000000 := by omega
      have HB : Hid (b + 2 + (x.1.length : Int) + rrS p + sbB (rrS p) (xs.drop (k + 1)) = rrA p + sbB (rrS p) xs) := by show _ = _; omega
      clear hs1 hsb2 hcc hc
      cases t8 with
      | true =>
        have HS1 : Hid (rrS p = 1) := by show _ = _; rw [h8S.out]; rfl
        go_wp2_with fail
        go_roundw
        case rel => exact ⟨k + 1, _, by go_num, rfl, by omega, hKr, by show _ = _; rw [← HB.out, HS1.out], by omega⟩
        case measure => simp [intOf]; omega
      | false =>
        have HS1 : Hid (rrS p = 0) := by show _ = _; rw [h8S.out]; rfl
        go_wp2_with fail
        go_roundw
        case rel => exact ⟨k + 1, _, by go_num, rfl, by omega, hKr, by show _ = _; rw [← HB.out, HS1.out]; omega, by omega⟩
        case measure => simp [intOf]; omega
    · obtain rfl : k = n := by omega
      have hbb : b = rrA p + sbB (rrS p) xs := by
        have h1 := hc.out
        rw [List.drop_eq_nil_of_le (by have := HS.out.len; omega)] at h1
        simp only [sbB] at h1
        omega
      have hlt2 : ¬ (k : Int) < (k : Int) := by omega
      have hb1 : 0 ≤ b ∧ b ≤ 600000 := by omega
      have HN : Hid (rrN p xs = b + rrC p) := by show _ = _; rw [rrN, hbb]
      have hfin := hKr.below
      clear hc hlt hbb h8S t8 h8
      by_cases t1 : p.ty = 1
      · have ht1 : (p.ty == 1) = true := by simpa using t1
        have HC : Hid (rrC p = 12 + (p.client.length : Int) + (if p.hasWill then 4 + (p.wt.length : Int) + p.wl.length else 0) + (if p.hasUser then 2 + (p.user.length : Int) else 0) + (if p.hasPass then 2 + (p.pass.length : Int) else 0)) := by show rrC p = _; unfold rrC; rw [if_pos t1]
        cases hW : p.hasWill <;> cases hU : p.hasUser <;> cases hP : p.hasPass
        all_goals
          have HE : Hid (rrN p xs = b + rrC p ∧ rrC p = _) := ⟨HN.out, HC.out⟩
          rw [hW, hU, hP] at HE
          simp only [Bool.false_eq_true, if_false, if_true] at HE
          go_wp2_with fail
          go_ret
          refine ⟨ret_int ?_, hfin⟩
          rw [HE.out.1, HE.out.2]
          omega
      · have ht1 : (p.ty == 1) = false := by simpa using t1
        by_cases t2 : p.ty = 2
        · have ht2 : (p.ty == 2) = true := by simpa using t2
          have HC : Hid (rrC p = 2) := by show rrC p = _; unfold rrC; rw [if_neg t1, if_pos t2]
          go_wp2_with fail
          go_ret
          refine ⟨ret_int ?_, hfin⟩
          rw [HN.out, HC.out]
        · have ht2 : (p.ty == 2) = false := by simpa using t2
          by_cases t3 : p.ty = 3
          · have ht3 : (p.ty == 3) = true := by simpa using t3
            have HC : Hid (rrC p = 2 + (p.topic.length : Int)) := by show rrC p = _; unfold rrC; rw [if_neg t1, if_neg t2, if_pos t3]
            go_wp2_with fail
            go_ret
            refine ⟨ret_int ?_, hfin⟩
            rw [HN.out, HC.out]
            omega
          · have ht3 : (p.ty == 3) = false := by simpa using t3
            have HC : Hid (rrC p = 0) := by show rrC p = _; unfold rrC; rw [if_neg t1, if_neg t2, if_neg t3]
            go_wp2_with fail
            go_ret
            refine ⟨ret_int ?_, hfin⟩
            rw [HN.out, HC.out]
            omega
end Go.Proofs.YtphdooaihbmnlaaGreatDoor
