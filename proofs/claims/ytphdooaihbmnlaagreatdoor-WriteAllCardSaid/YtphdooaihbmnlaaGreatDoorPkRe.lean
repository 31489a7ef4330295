/-
  The document's own connect: whether a Connect's fields may be.
-/
import Derived.Test.YtphdooaihbmnlaaGreatDoorPkRd
set_option linter.unusedSimpArgs false
set_option linter.unusedVariables false
namespace Go.Proofs.YtphdooaihbmnlaaGreatDoor
open Go.RowKit
def cA (p : Pk) : Bool := (p.level == 4) && valB p.client
def cW (p : Pk) : Bool := if p.hasWill then nmB p.wt && (!decide (65535 < p.wl.length) && !decide (2 < p.wq)) else (p.wt == []) && ((p.wl == []) && ((p.wq == 0) && !p.wr))
def cU (p : Pk) : Bool := if p.hasUser then valB p.user else (p.user == []) && !p.hasPass
def cP (p : Pk) : Bool := if p.hasPass then decide (p.pass.length ≤ 65535) else p.pass == []
def cnB (p : Pk) : Bool := cA p && (cW p && (cU p && cP p))
theorem if_t {α : Type} {b : Bool} {x y : α} (h : b = true) : (if b = true then x else y) = x := if_pos h
theorem if_f {α : Type} {b : Bool} {x y : α} (h : b = false) : (if b = true then x else y) = y := if_neg (by rw [h]; decide)
set_option maxRecDepth 100000 in
set_option maxHeartbeats 4000000 in
theorem refConnect_eq (p : Pk) (A : Option Addr) (n c : Nat) (r : Bool) (w : World) (l3 : p.client.length ≤ 100000) (l4 : p.wt.length ≤ 100000) (l5 : p.wl.length ≤ 100000) (l6 : p.user.length ≤ 100000) (l7 : p.pass.length ≤ 100000) (h : cnB p = r) :
    Calls Tryz.prog 31 #[.agg (PkC p A n c)] w fun e w' => e = .returned (.bool r) ∧ Below w.heap.size w w' := by
  have hK0 := (Kp.nil w).new (PkC p A n c) 27
  have H := Lib.hid h
  clear h
  go_enter Tryz.func31, Tryz.ntmps31
  go_upto_region 1 with fail
  obtain ⟨wv, hwv⟩ : ∃ wv : World, wv = w.alloc (.cells (PkC p A n c) 27) := ⟨_, rfl⟩
  rw [← hwv] at hK0 ⊢
  clear hwv
  have p1r := hK0.row; have p1f := hK0.free; have p1c := hK0.cell; have p1l := hK0.lt; have p1z := hK0.froz
  go_cut [11] (fun s11 wx => s11 = .bool (!cA p) ∧ Kp w [(w.heap.size, PkC p A n c, 27)] wx)
  case first =>
    obtain ⟨e4, h4⟩ : ∃ r, (p.level == 4) = r := ⟨_, rfl⟩
    have g4 := b_any h4
    cases e4
    · have HC : Hid (cA p = false) := by show _ = _; rw [cA, h4]; rfl
      simp only [Bool.not_false] at g4
      go_wp2_with fail
      go_meet
      case rel => exact ⟨by rw [HC.out]; rfl, hK0⟩
    · simp only [Bool.not_true] at g4
      obtain ⟨v, hv⟩ : ∃ r, valB p.client = r := ⟨_, rfl⟩
      have HC : Hid (cA p = v) := by show _ = _; rw [cA, h4, hv]; rfl
      have HV := Lib.hid hv
      clear hv
      go_wp2_with fail
      refine (refValid_eq p.client v _ (by omega) HV.out).mono ?_
      rintro e w1 ⟨rfl, hb1⟩
      have hK1 := hK0.more hb1
      clear hb1 p1r p1f p1c p1l p1z
      go_wp2_with fail
      go_meet
      case rel => exact ⟨by rw [HC.out], hK1⟩
  obtain ⟨rfl, hK1⟩ := hcut
  clear p1r p1f p1c p1l p1z hK0
  cases hA : cA p with
  | false =>
    have HB : Hid (false = r) := by show _ = _; rw [← H.out, cnB, hA]; rfl
    clear hA
    go_wp2_with fail
    go_ret
    exact ⟨by rw [← HB.out]; rfl, hK1.below⟩
  | true =>
  have HA := Lib.hid hA
  clear hA
  go_upto_region 3 with fail
  have p1r := hK1.row; have p1f := hK1.free; have p1c := hK1.cell; have p1l := hK1.lt; have p1z := hK1.froz
  go_cut [33] (fun s33 wx => s33 = .bool (p.hasWill && !cW p) ∧ Kp w [(w.heap.size, PkC p A n c, 27)] wx)
  case first =>
    cases hW : p.hasWill
    · go_wp2_with fail
      go_meet
      case rel => exact ⟨by rw [hW]; rfl, hK1⟩
    · obtain ⟨v, hv⟩ : ∃ r, nmB p.wt = r := ⟨_, rfl⟩
      obtain ⟨b1, h1⟩ : ∃ r, decide (65535 < p.wl.length) = r := ⟨_, rfl⟩
      obtain ⟨b2, h2⟩ : ∃ r, decide (2 < p.wq) = r := ⟨_, rfl⟩
      have HC : Hid (cW p = (v && (!b1 && !b2))) := by show _ = _; rw [cW, if_t hW, hv, h1, h2]
      have h1i : decide (65535 < (p.wl.length : Int)) = b1 := by rw [← h1, decide_eq_decide]; omega
      have HV := Lib.hid hv
      clear hv
      go_wp2_with fail
      refine (refName_eq p.wt v _ (by omega) HV.out).mono ?_
      rintro e w2 ⟨rfl, hb1⟩
      have hK2 := hK1.more hb1
      clear hb1 p1r p1f p1c p1l p1z
      have p1r := hK2.row; have p1f := hK2.free; have p1c := hK2.cell; have p1l := hK2.lt; have p1z := hK2.froz
      cases v
      · go_wp2_with fail
        go_meet
        case rel => exact ⟨by rw [hW, HC.out]; rfl, hK2⟩
      · cases b1
        · go_wp2_with fail
          go_meet
          case rel => exact ⟨by rw [hW, HC.out]; cases b2 <;> rfl, hK2⟩
        · go_wp2_with fail
          go_meet
          case rel => exact ⟨by rw [hW, HC.out]; rfl, hK2⟩
  obtain ⟨rfl, hK2⟩ := hcut
  clear p1r p1f p1c p1l p1z hK1
  cases hA : (p.hasWill && !cW p) with
  | true =>
    have HB : Hid (false = r) := by
      show _ = _
      have : cW p = false := by cases hq : cW p with | false => rfl | true => (rw [hq, Bool.not_true, Bool.and_false] at hA; cases hA)
      rw [← H.out, cnB, this, Bool.false_and, Bool.and_false]
    clear hA
    go_wp2_with fail
    go_ret
    exact ⟨by rw [← HB.out]; rfl, hK2.below⟩
  | false =>
  have HW1 := Lib.hid hA
  clear hA
  go_upto_region 5 with fail
  have p1r := hK2.row; have p1f := hK2.free; have p1c := hK2.cell; have p1l := hK2.lt; have p1z := hK2.froz
  go_cut [59] (fun s59 wx => s59 = .bool (!p.hasWill && !cW p) ∧ Kp w [(w.heap.size, PkC p A n c, 27)] wx)
  case first =>
    cases hW : p.hasWill
    rotate_left
    · go_wp2_with fail
      go_meet
      case rel => exact ⟨by rw [hW]; rfl, hK2⟩
    · obtain ⟨b1, h1⟩ : ∃ r, (p.wt == []) = r := ⟨_, rfl⟩
      obtain ⟨b2, h2⟩ : ∃ r, (p.wl == []) = r := ⟨_, rfl⟩
      obtain ⟨b3, h3⟩ : ∃ r, (p.wq == 0) = r := ⟨_, rfl⟩
      obtain ⟨b4, h4⟩ : ∃ r, p.wr = r := ⟨_, rfl⟩
      have HC : Hid (cW p = (b1 && (b2 && (b3 && !b4)))) := by show _ = _; rw [cW, if_f hW, h1, h2, h3, h4]
      have g1 : (p.wt != []) = !b1 := by rw [← h1]; rfl
      have g2 : (p.wl != []) = !b2 := by rw [← h2]; rfl
      have g3 := b_any h3
      cases b1
      · simp only [Bool.not_false, Bool.not_true] at g1
        go_wp2_with fail
        go_meet
        case rel => exact ⟨by rw [hW, HC.out]; rfl, hK2⟩
      · cases b2
        · simp only [Bool.not_false, Bool.not_true] at g1 g2
          go_wp2_with fail
          go_meet
          case rel => exact ⟨by rw [hW, HC.out]; rfl, hK2⟩
        · cases b3
          · simp only [Bool.not_false, Bool.not_true] at g1 g2 g3
            go_wp2_with fail
            go_meet
            case rel => exact ⟨by rw [hW, HC.out]; rfl, hK2⟩
          · simp only [Bool.not_false, Bool.not_true] at g1 g2 g3
            go_wp2_with fail
            go_meet
            case rel => exact ⟨by rw [hW, HC.out]; cases b4 <;> rfl, hK2⟩
  obtain ⟨rfl, hK3⟩ := hcut
  clear p1r p1f p1c p1l p1z hK2
  cases hA : (!p.hasWill && !cW p) with
  | true =>
    have HB : Hid (false = r) := by
      show _ = _
      have : cW p = false := by cases hq : cW p with | false => rfl | true => (rw [hq, Bool.not_true, Bool.and_false] at hA; cases hA)
      rw [← H.out, cnB, this, Bool.false_and, Bool.and_false]
    clear hA
    go_wp2_with fail
    go_ret
    exact ⟨by rw [← HB.out]; rfl, hK3.below⟩
  | false =>
  have HW : Hid (cW p = true) := by
    show _ = _
    have h1 := HW1.out
    cases hq : cW p with
    | true => rfl
    | false => rw [hq] at h1 hA; cases hw : p.hasWill <;> rw [hw] at h1 hA <;> first | exact absurd h1 (by decide) | exact absurd hA (by decide)
  clear hA HW1
  go_upto_region 7 with fail
  have p1r := hK3.row; have p1f := hK3.free; have p1c := hK3.cell; have p1l := hK3.lt; have p1z := hK3.froz
  go_cut [81] (fun s81 wx => s81 = .bool (!cU p) ∧ Kp w [(w.heap.size, PkC p A n c, 27)] wx)
  case first =>
    cases hU : p.hasUser
    · obtain ⟨b1, h1⟩ : ∃ r, (p.user == []) = r := ⟨_, rfl⟩
      obtain ⟨b2, h2⟩ : ∃ r, p.hasPass = r := ⟨_, rfl⟩
      have HC : Hid (cU p = (b1 && !b2)) := by show _ = _; rw [cU, if_f hU, h1, h2]
      have g1 : (p.user != []) = !b1 := by rw [← h1]; rfl
      cases b1
      · simp only [Bool.not_false, Bool.not_true] at g1
        go_wp2_with fail
        go_meet
        case rel => exact ⟨by rw [HC.out]; rfl, hK3⟩
      · simp only [Bool.not_false, Bool.not_true] at g1
        go_wp2_with fail
        go_meet
        case rel => exact ⟨by rw [HC.out]; cases b2 <;> rfl, hK3⟩
    · obtain ⟨v, hv⟩ : ∃ r, valB p.user = r := ⟨_, rfl⟩
      have HC : Hid (cU p = v) := by show _ = _; rw [cU, if_t hU, hv]
      have HV := Lib.hid hv
      clear hv
      go_wp2_with fail
      refine (refValid_eq p.user v _ (by omega) HV.out).mono ?_
      rintro e w4 ⟨rfl, hb1⟩
      have hK4 := hK3.more hb1
      clear hb1 p1r p1f p1c p1l p1z
      have p1r := hK4.row; have p1f := hK4.free; have p1c := hK4.cell; have p1l := hK4.lt; have p1z := hK4.froz
      cases v
      all_goals
        go_wp2_with fail
        go_meet
        case rel => exact ⟨by rw [HC.out]; rfl, hK4⟩
  obtain ⟨rfl, hK4⟩ := hcut
  clear p1r p1f p1c p1l p1z hK3
  cases hA : cU p with
  | false =>
    have HB : Hid (false = r) := by show _ = _; rw [← H.out, cnB, hA, Bool.false_and, Bool.and_false, Bool.and_false]
    clear hA
    go_wp2_with fail
    go_ret
    exact ⟨by rw [← HB.out]; rfl, hK4.below⟩
  | true =>
  have HB : Hid (cP p = r) := by show _ = _; rw [← H.out, cnB, HA.out, HW.out, hA]; rfl
  clear hA H HA HW
  have hfin := hK4.below
  have p1r := hK4.row; have p1f := hK4.free; have p1c := hK4.cell; have p1l := hK4.lt; have p1z := hK4.froz
  cases hP : p.hasPass
  · obtain ⟨b1, h1⟩ : ∃ r, (p.pass == []) = r := ⟨_, rfl⟩
    have HC : Hid (b1 = r) := by show _ = _; rw [← HB.out, cP, if_f hP, h1]
    go_wp2_with fail
    go_ret
    exact ⟨by rw [← HC.out]; rfl, hfin⟩
  · obtain ⟨b1, h1⟩ : ∃ r, decide (p.pass.length ≤ 65535) = r := ⟨_, rfl⟩
    have h1i : decide ((p.pass.length : Int) ≤ 65535) = b1 := by rw [← h1, decide_eq_decide]; omega
    have HC : Hid (b1 = r) := by show _ = _; rw [← HB.out, cP, if_t hP, h1]
    cases b1
    all_goals
      go_wp2_with fail
      go_ret
      exact ⟨by rw [← HC.out]; rfl, hfin⟩
end Go.Proofs.YtphdooaihbmnlaaGreatDoor
